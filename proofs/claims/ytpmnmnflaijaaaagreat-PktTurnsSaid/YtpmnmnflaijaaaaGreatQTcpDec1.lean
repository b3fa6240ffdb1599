/-
  Laws for a proof of package pkt: 1 texts in one.
-/
import Derived.Test.YtpmnmnflaijaaaaGreatQOptAdd3
import Derived.Test.YtpmnmnflaijaaaaGreatQPkt163
import Derived.RegionTactic
namespace Go.Proofs.YtpmnmnflaijaaaaGreat.TcpDec
open Go.RowKit TupMath SumMath Litb Calm Rel RelT IpMath IpRef TcpMath TcpRef TcpEnc Boxes
set_option linter.unusedVariables false
set_option maxRecDepth 100000
def decV6 (src dst : Nat) (s : ByteArray) : Value := if terr src dst (bz s) = 0 then .tuple #[tv (trd s), .string (s.extract (hl (bz s)) s.size), .int .i64 0] else .tuple #[tv zeroT, .string ⟨#[]⟩, .int .i64 ((terr src dst (bz s) : Nat) : Int)]
def relD6 (s : ByteArray) (src dst seq ack fl B : Nat) : Nat → Value → World → Prop
 | 0 => fun v _ => v = .string s
 | 1 => fun v _ => v = .string (s.extract 0 2)
 | 2 => fun v _ => v = .int .u32 (src : Int)
 | 3 => fun v _ => v = .int .u16 (src : Int)
 | 4 => fun v _ => v = .string s
 | 5 => fun v _ => v = .string (s.extract 2 4)
 | 6 => fun v _ => v = .int .u32 (dst : Int)
 | 7 => fun v _ => v = .int .u16 (dst : Int)
 | 8 => fun v _ => v = .string s
 | 9 => fun v _ => v = .string (s.extract 4 8)
 | 10 => fun v _ => v = .int .u32 (seq : Int)
 | 11 => fun v _ => v = .string s
 | 12 => fun v _ => v = .string (s.extract 8 12)
 | 13 => fun v _ => v = .int .u32 (ack : Int)
 | 14 => fun v _ => v = .string s
 | 15 => fun v _ => v = .int .u8 (fl : Int)
 | 16 => fun v _ => v = .agg #[.int .u16 (src : Int), .int .u16 (dst : Int), .int .u32 (seq : Int), .int .u32 (ack : Int), .int .u8 (fl : Int), .int .u16 0, .int .u16 0, .string ⟨#[]⟩]
 | 17 => fun v W => ∃ b, v = .pointer (some ⟨b, 0, none⟩) ∧ B ≤ b ∧ W.heap[b]? = some (.cells #[.int .u16 0, .int .u16 0, .int .u32 0, .int .u32 0, .int .u8 0, .int .u16 0, .int .u16 0, .string ⟨#[]⟩] 61 (0, 0))
 | _ => fun _ _ => True
theorem relD6_more (s : ByteArray) (src dst seq ack fl B : Nat) (i : Nat) (v : Value) (w w' : World) (hr : relD6 s src dst seq ack fl B i v w) (hb : Below w.heap.size w w') : relD6 s src dst seq ack fl B i v w' := by
 unfold relD6 at hr ⊢
 split at hr <;> first
   | exact hr
   | (obtain ⟨b, e, h1, h2⟩ := hr
      exact ⟨b, e, h1, box_more h2 hb⟩)
theorem num2 (s : ByteArray) (a b : Nat) (W : World) (hab : b = a + 2) (h : b ≤ s.size) : Calls Tryz.prog 29 #[.string (s.extract a b)] W fun e w' => e = .returned (.int .u32 ((at0 (bz s) a * 256 + at0 (bz s) (a + 1) : Nat) : Int)) ∧ Below W.heap.size W w' := by
 subst hab
 have c := numR (s.extract a (a + 2)) W (by rw [ByteArray.size_extract]; omega)
 rw [sub2 s a h] at c
 exact c.mono fun e w' ⟨h1, h2⟩ => ⟨h1, by rw [h2]; exact Below.refl _ _⟩
theorem num4 (s : ByteArray) (a b : Nat) (W : World) (hab : b = a + 4) (h : b ≤ s.size) : Calls Tryz.prog 29 #[.string (s.extract a b)] W fun e w' => e = .returned (.int .u32 ((at0 (bz s) a * 16777216 + at0 (bz s) (a + 1) * 65536 + at0 (bz s) (a + 2) * 256 + at0 (bz s) (a + 3) : Nat) : Int)) ∧ Below W.heap.size W w' := by
 subst hab
 have c := numR (s.extract a (a + 4)) W (by rw [ByteArray.size_extract]; omega)
 rw [sub4 s a h] at c
 exact c.mono fun e w' ⟨h1, h2⟩ => ⟨h1, by rw [h2]; exact Below.refl _ _⟩
theorem num2e (s : ByteArray) (a b : Nat) (W : World) (hab : b = a + 2) (h : b ≤ s.size) : Calls Tryz.prog 29 #[.string (s.extract a b)] W fun e w' => e = .returned (.int .u32 ((at0 (bz s) a * 256 + at0 (bz s) (a + 1) : Nat) : Int)) ∧ w' = W := by
 subst hab
 have c := numR (s.extract a (a + 2)) W (by rw [ByteArray.size_extract]; omega)
 rw [sub2 s a h] at c
 exact c
attribute [local go_sem] relUpon
set_option maxHeartbeats 16000000 in
theorem decR6 (ps_ pd_ : Nat) (s : ByteArray) (w : World) (hps : ps_ ≤ 4294967295) (hpd : pd_ ≤ 4294967295) (hs : s.size ≤ 1000000) : Calls Tryz.prog 56 #[.int .u32 (ps_ : Int), .int .u32 (pd_ : Int), .string s] w fun e w' => e = .returned (decV6 ps_ pd_ s) ∧ Below w.heap.size w w' := by
 by_cases h20 : s.size < 20
 · have HE := Lib.hid (show terr ps_ pd_ (bz s) = 50 by unfold terr; rw [bz_len, if_pos h20])
   go_enter Tryz.func56, Tryz.ntmps56
   go_wp2
   refine bodyPost_ret (v := .tuple #[tv zeroT, .string ⟨#[]⟩, .int .i64 50]) ?_ rfl ?_
   · simp [results, Tryz.f56, go_sem, zeroT]
   · exact ⟨by rw [decV6, HE.out]; rfl, st_alloc (Below.refl _ _) _⟩
 by_cases h65 : 65515 < s.size
 · have HE := Lib.hid (show terr ps_ pd_ (bz s) = 4 by unfold terr; rw [bz_len, if_neg h20, if_pos h65])
   go_enter Tryz.func56, Tryz.ntmps56
   go_wp2
   refine bodyPost_ret (v := .tuple #[tv zeroT, .string ⟨#[]⟩, .int .i64 4]) ?_ rfl ?_
   · simp [results, Tryz.f56, go_sem, zeroT]
   · exact ⟨by rw [decV6, HE.out]; rfl, st_alloc (Below.refl _ _) _⟩
 have hsm := fun W => sum6R ps_ pd_ s W hps hpd (by omega)
 have hE : terr ps_ pd_ (bz s) = if tsum ps_ pd_ (bz s) ≠ 0 then 55 else if hl (bz s) < 20 ∨ s.size < hl (bz s) then 60 else if at0 (bz s) 12 % 16 ≠ 0 ∨ 64 ≤ at0 (bz s) 13 then 61 else 0 := by
   unfold terr; rw [bz_len, if_neg h20, if_neg h65]
 have htl := tsum_le ps_ pd_ (bz s)
 generalize tsum ps_ pd_ (bz s) = c at hsm hE htl
 have HSM := Lib.hid hsm
 have HEE := Lib.hid hE
 clear hsm hE
 have z12 := at_byte s 12 (by omega)
 have z13 := at_byte s 13 (by omega)
 have q12 := at_le s 12
 have q13 := at_le s 13
 have k20 : (20 : Int) ≤ (s.size : Int) := by omega
 have k13 : (13 : Int) < (s.size : Int) := by omega
 have k2 : (2 : Int) ≤ (s.size : Int) := by omega
 have k4 : (4 : Int) ≤ (s.size : Int) := by omega
 have k8 : (8 : Int) ≤ (s.size : Int) := by omega
 have k12 : (12 : Int) ≤ (s.size : Int) := by omega
 have k14 : (14 : Int) ≤ (s.size : Int) := by omega
 have k16 : (16 : Int) ≤ (s.size : Int) := by omega
 have k18 : (18 : Int) ≤ (s.size : Int) := by omega
 by_cases hc : c = 0
 rotate_left
 · have HE := Lib.hid (show terr ps_ pd_ (bz s) = 55 by rw [HEE.out, if_pos hc])
   have hci : ¬ (c : Int) = 0 := by omega
   go_enter Tryz.func56, Tryz.ntmps56
   go_wp2_with fail
   refine (HSM.out _).mono ?_
   rintro e wA ⟨rfl, hb1⟩
   have d0 := box_more (box_new w (.cells #[.int .u16 0, .int .u16 0, .int .u32 0, .int .u32 0, .int .u8 0, .int .u16 0, .int .u16 0, .string ⟨#[]⟩] 61)) hb1
   obtain ⟨fz, cz⟩ := box_is wA w.heap.size _ _ d0
   have HB := Lib.hid (st_call (st_alloc (Below.refl _ _) _) hb1)
   clear d0 hb1
   have f0 := fz 0
   have c0 := cz 0 _ rfl
   have f1 := fz 1
   have c1 := cz 1 _ rfl
   have f2 := fz 2
   have c2 := cz 2 _ rfl
   have f3 := fz 3
   have c3 := cz 3 _ rfl
   have f4 := fz 4
   have c4 := cz 4 _ rfl
   have f5 := fz 5
   have c5 := cz 5 _ rfl
   have f6 := fz 6
   have c6 := cz 6 _ rfl
   have f7 := fz 7
   have c7 := cz 7 _ rfl
   have CZ := Lib.hid cz
   clear cz fz
   go_wp2_with fail
   obtain ⟨W2, hW2, ez, hb2⟩ := set8 wA w.heap.size (.int .u16 0) (.int .u16 0) (.int .u32 0) (.int .u32 0) (.int .u8 0) (.int .u16 0) (.int .u16 0) (.string ⟨#[]⟩) (fun j hj => ⟨_, CZ.out j _ (Array.getElem?_eq_getElem (by simpa using hj))⟩)
   rw [hW2]
   have e0 := ez 0 _ rfl
   have e1 := ez 1 _ rfl
   have e2 := ez 2 _ rfl
   have e3 := ez 3 _ rfl
   have e4 := ez 4 _ rfl
   have e5 := ez 5 _ rfl
   have e6 := ez 6 _ rfl
   have e7 := ez 7 _ rfl
   refine bodyPost_ret (v := .tuple #[tv zeroT, .string ⟨#[]⟩, .int .i64 55]) ?_ rfl ?_
   · simp [results, Tryz.f56, go_sem, e0, e1, e2, e3, e4, e5, e6, e7, zeroT]
   · exact ⟨by rw [decV6, HE.out]; rfl, HB.out.trans hb2⟩
 subst hc
 have hln : hl (bz s) = at0 (bz s) 12 / 16 * 4 := rfl
 have HTR : Hid (trd s = ⟨at0 (bz s) 0 * 256 + at0 (bz s) 1, at0 (bz s) 2 * 256 + at0 (bz s) 3, at0 (bz s) 4 * 16777216 + at0 (bz s) 5 * 65536 + at0 (bz s) 6 * 256 + at0 (bz s) 7, at0 (bz s) 8 * 16777216 + at0 (bz s) 9 * 65536 + at0 (bz s) 10 * 256 + at0 (bz s) 11, at0 (bz s) 13, at0 (bz s) 14 * 256 + at0 (bz s) 15, at0 (bz s) 18 * 256 + at0 (bz s) 19, s.extract 20 (hl (bz s))⟩) := Lib.hid rfl
 have HDV : Hid (terr ps_ pd_ (bz s) = 0 → decV6 ps_ pd_ s = .tuple #[tv (trd s), .string (s.extract (hl (bz s)) s.size), .int .i64 0]) := Lib.hid fun e => by rw [decV6, if_pos e]
 obtain ⟨n, hn⟩ : ∃ n, hl (bz s) = n := ⟨_, rfl⟩
 rw [hn] at hln HEE HTR HDV
 obtain ⟨y, hy⟩ : ∃ y, at0 (bz s) 12 = y := ⟨_, rfl⟩
 rw [hy] at hln HEE z12 q12
 obtain ⟨fl, hfl⟩ : ∃ y, at0 (bz s) 13 = y := ⟨_, rfl⟩
 rw [hfl] at HEE z13 q13 HTR
 have hni : (y : Int) / 16 * 4 = (n : Int) := by omega
 have hn60 : n ≤ 60 := by omega
 clear hn hy hfl
 by_cases h60 : n < 20 ∨ s.size < n
 · have HE := Lib.hid (show terr ps_ pd_ (bz s) = 60 by rw [HEE.out, if_neg (by omega), if_pos h60])
   clear hln
   by_cases ha : n < 20
   · have hai : (n : Int) < 20 := by omega
     go_enter Tryz.func56, Tryz.ntmps56
     go_wp2_with fail
     refine (HSM.out _).mono ?_
     rintro e wA ⟨rfl, hb1⟩
     have d0 := box_more (box_new w (.cells #[.int .u16 0, .int .u16 0, .int .u32 0, .int .u32 0, .int .u8 0, .int .u16 0, .int .u16 0, .string ⟨#[]⟩] 61)) hb1
     obtain ⟨fz, cz⟩ := box_is wA w.heap.size _ _ d0
     have HB := Lib.hid (st_call (st_alloc (Below.refl _ _) _) hb1)
     clear d0 hb1
     have f0 := fz 0
     have c0 := cz 0 _ rfl
     have f1 := fz 1
     have c1 := cz 1 _ rfl
     have f2 := fz 2
     have c2 := cz 2 _ rfl
     have f3 := fz 3
     have c3 := cz 3 _ rfl
     have f4 := fz 4
     have c4 := cz 4 _ rfl
     have f5 := fz 5
     have c5 := cz 5 _ rfl
     have f6 := fz 6
     have c6 := cz 6 _ rfl
     have f7 := fz 7
     have c7 := cz 7 _ rfl
     have CZ := Lib.hid cz
     clear cz fz
     go_wp2_with fail
     obtain ⟨W2, hW2, ez, hb2⟩ := set8 wA w.heap.size (.int .u16 0) (.int .u16 0) (.int .u32 0) (.int .u32 0) (.int .u8 0) (.int .u16 0) (.int .u16 0) (.string ⟨#[]⟩) (fun j hj => ⟨_, CZ.out j _ (Array.getElem?_eq_getElem (by simpa using hj))⟩)
     rw [hW2]
     have e0 := ez 0 _ rfl
     have e1 := ez 1 _ rfl
     have e2 := ez 2 _ rfl
     have e3 := ez 3 _ rfl
     have e4 := ez 4 _ rfl
     have e5 := ez 5 _ rfl
     have e6 := ez 6 _ rfl
     have e7 := ez 7 _ rfl
     refine bodyPost_ret (v := .tuple #[tv zeroT, .string ⟨#[]⟩, .int .i64 60]) ?_ rfl ?_
     · simp [results, Tryz.f56, go_sem, e0, e1, e2, e3, e4, e5, e6, e7, zeroT]
     · exact ⟨by rw [decV6, HE.out]; rfl, HB.out.trans hb2⟩
   · have hai : ¬ (n : Int) < 20 := by omega
     have hbi : (s.size : Int) < (n : Int) := by omega
     go_enter Tryz.func56, Tryz.ntmps56
     go_wp2_with fail
     refine (HSM.out _).mono ?_
     rintro e wA ⟨rfl, hb1⟩
     have d0 := box_more (box_new w (.cells #[.int .u16 0, .int .u16 0, .int .u32 0, .int .u32 0, .int .u8 0, .int .u16 0, .int .u16 0, .string ⟨#[]⟩] 61)) hb1
     obtain ⟨fz, cz⟩ := box_is wA w.heap.size _ _ d0
     have HB := Lib.hid (st_call (st_alloc (Below.refl _ _) _) hb1)
     clear d0 hb1
     have f0 := fz 0
     have c0 := cz 0 _ rfl
     have f1 := fz 1
     have c1 := cz 1 _ rfl
     have f2 := fz 2
     have c2 := cz 2 _ rfl
     have f3 := fz 3
     have c3 := cz 3 _ rfl
     have f4 := fz 4
     have c4 := cz 4 _ rfl
     have f5 := fz 5
     have c5 := cz 5 _ rfl
     have f6 := fz 6
     have c6 := cz 6 _ rfl
     have f7 := fz 7
     have c7 := cz 7 _ rfl
     have CZ := Lib.hid cz
     clear cz fz
     go_wp2_with fail
     obtain ⟨W2, hW2, ez, hb2⟩ := set8 wA w.heap.size (.int .u16 0) (.int .u16 0) (.int .u32 0) (.int .u32 0) (.int .u8 0) (.int .u16 0) (.int .u16 0) (.string ⟨#[]⟩) (fun j hj => ⟨_, CZ.out j _ (Array.getElem?_eq_getElem (by simpa using hj))⟩)
     rw [hW2]
     have e0 := ez 0 _ rfl
     have e1 := ez 1 _ rfl
     have e2 := ez 2 _ rfl
     have e3 := ez 3 _ rfl
     have e4 := ez 4 _ rfl
     have e5 := ez 5 _ rfl
     have e6 := ez 6 _ rfl
     have e7 := ez 7 _ rfl
     refine bodyPost_ret (v := .tuple #[tv zeroT, .string ⟨#[]⟩, .int .i64 60]) ?_ rfl ?_
     · simp [results, Tryz.f56, go_sem, e0, e1, e2, e3, e4, e5, e6, e7, zeroT]
     · exact ⟨by rw [decV6, HE.out]; rfl, HB.out.trans hb2⟩
 have ha1 : ¬ (n : Int) < 20 := by omega
 have ha2 : ¬ (s.size : Int) < (n : Int) := by omega
 by_cases h61 : y % 16 ≠ 0 ∨ 64 ≤ fl
 · have HE := Lib.hid (show terr ps_ pd_ (bz s) = 61 by rw [HEE.out, if_neg (by omega), if_neg h60, if_pos h61])
   by_cases ha : y % 16 = 0
   · have hai : (y : Int) % 16 = 0 := by omega
     have hbi : (64 : Int) ≤ (fl : Int) := by omega
     clear hln
     go_enter Tryz.func56, Tryz.ntmps56
     go_wp2_with fail
     refine (HSM.out _).mono ?_
     rintro e wA ⟨rfl, hb1⟩
     have d0 := box_more (box_new w (.cells #[.int .u16 0, .int .u16 0, .int .u32 0, .int .u32 0, .int .u8 0, .int .u16 0, .int .u16 0, .string ⟨#[]⟩] 61)) hb1
     obtain ⟨fz, cz⟩ := box_is wA w.heap.size _ _ d0
     have HB := Lib.hid (st_call (st_alloc (Below.refl _ _) _) hb1)
     clear d0 hb1
     have f0 := fz 0
     have c0 := cz 0 _ rfl
     have f1 := fz 1
     have c1 := cz 1 _ rfl
     have f2 := fz 2
     have c2 := cz 2 _ rfl
     have f3 := fz 3
     have c3 := cz 3 _ rfl
     have f4 := fz 4
     have c4 := cz 4 _ rfl
     have f5 := fz 5
     have c5 := cz 5 _ rfl
     have f6 := fz 6
     have c6 := cz 6 _ rfl
     have f7 := fz 7
     have c7 := cz 7 _ rfl
     have CZ := Lib.hid cz
     clear cz fz
     go_wp2_with fail
     obtain ⟨W2, hW2, ez, hb2⟩ := set8 wA w.heap.size (.int .u16 0) (.int .u16 0) (.int .u32 0) (.int .u32 0) (.int .u8 0) (.int .u16 0) (.int .u16 0) (.string ⟨#[]⟩) (fun j hj => ⟨_, CZ.out j _ (Array.getElem?_eq_getElem (by simpa using hj))⟩)
     rw [hW2]
     have e0 := ez 0 _ rfl
     have e1 := ez 1 _ rfl
     have e2 := ez 2 _ rfl
     have e3 := ez 3 _ rfl
     have e4 := ez 4 _ rfl
     have e5 := ez 5 _ rfl
     have e6 := ez 6 _ rfl
     have e7 := ez 7 _ rfl
     refine bodyPost_ret (v := .tuple #[tv zeroT, .string ⟨#[]⟩, .int .i64 61]) ?_ rfl ?_
     · simp [results, Tryz.f56, go_sem, e0, e1, e2, e3, e4, e5, e6, e7, zeroT]
     · exact ⟨by rw [decV6, HE.out]; rfl, HB.out.trans hb2⟩
   · have hai : ¬ (y : Int) % 16 = 0 := by omega
     clear hln
     go_enter Tryz.func56, Tryz.ntmps56
     go_wp2_with fail
     refine (HSM.out _).mono ?_
     rintro e wA ⟨rfl, hb1⟩
     have d0 := box_more (box_new w (.cells #[.int .u16 0, .int .u16 0, .int .u32 0, .int .u32 0, .int .u8 0, .int .u16 0, .int .u16 0, .string ⟨#[]⟩] 61)) hb1
     obtain ⟨fz, cz⟩ := box_is wA w.heap.size _ _ d0
     have HB := Lib.hid (st_call (st_alloc (Below.refl _ _) _) hb1)
     clear d0 hb1
     have f0 := fz 0
     have c0 := cz 0 _ rfl
     have f1 := fz 1
     have c1 := cz 1 _ rfl
     have f2 := fz 2
     have c2 := cz 2 _ rfl
     have f3 := fz 3
     have c3 := cz 3 _ rfl
     have f4 := fz 4
     have c4 := cz 4 _ rfl
     have f5 := fz 5
     have c5 := cz 5 _ rfl
     have f6 := fz 6
     have c6 := cz 6 _ rfl
     have f7 := fz 7
     have c7 := cz 7 _ rfl
     have CZ := Lib.hid cz
     clear cz fz
     go_wp2_with fail
     obtain ⟨W2, hW2, ez, hb2⟩ := set8 wA w.heap.size (.int .u16 0) (.int .u16 0) (.int .u32 0) (.int .u32 0) (.int .u8 0) (.int .u16 0) (.int .u16 0) (.string ⟨#[]⟩) (fun j hj => ⟨_, CZ.out j _ (Array.getElem?_eq_getElem (by simpa using hj))⟩)
     rw [hW2]
     have e0 := ez 0 _ rfl
     have e1 := ez 1 _ rfl
     have e2 := ez 2 _ rfl
     have e3 := ez 3 _ rfl
     have e4 := ez 4 _ rfl
     have e5 := ez 5 _ rfl
     have e6 := ez 6 _ rfl
     have e7 := ez 7 _ rfl
     refine bodyPost_ret (v := .tuple #[tv zeroT, .string ⟨#[]⟩, .int .i64 61]) ?_ rfl ?_
     · simp [results, Tryz.f56, go_sem, e0, e1, e2, e3, e4, e5, e6, e7, zeroT]
     · exact ⟨by rw [decV6, HE.out]; rfl, HB.out.trans hb2⟩
 have HE := Lib.hid (show terr ps_ pd_ (bz s) = 0 by rw [HEE.out, if_neg (by omega), if_neg h60, if_neg h61])
 have hai : (y : Int) % 16 = 0 := by omega
 have hbi : ¬ (64 : Int) ≤ (fl : Int) := by omega
 have N02 := Lib.hid fun W => num2 s 0 2 W rfl (by omega)
 have N24 := Lib.hid fun W => num2 s 2 4 W rfl (by omega)
 have N48 := Lib.hid fun W => num4 s 4 8 W rfl (by omega)
 have N8C := Lib.hid fun W => num4 s 8 12 W rfl (by omega)
 have NEG := Lib.hid fun W => num2e s 14 16 W rfl (by omega)
 have NIK := Lib.hid fun W => num2e s 18 20 W rfl (by omega)
 simp only [Nat.reduceAdd] at N02 N24 N48 N8C NEG NIK
 have b0 := at_le s 0; have b1 := at_le s 1; have b2 := at_le s 2; have b3 := at_le s 3; have b14 := at_le s 14; have b15 := at_le s 15; have b18 := at_le s 18; have b19 := at_le s 19
 obtain ⟨src, hsrc⟩ : ∃ x, x = at0 (bz s) 0 * 256 + at0 (bz s) 1 := ⟨_, rfl⟩
 obtain ⟨dst, hdst⟩ : ∃ x, x = at0 (bz s) 2 * 256 + at0 (bz s) 3 := ⟨_, rfl⟩
 obtain ⟨seq, hseq⟩ : ∃ x, x = at0 (bz s) 4 * 16777216 + at0 (bz s) 5 * 65536 + at0 (bz s) 6 * 256 + at0 (bz s) 7 := ⟨_, rfl⟩
 obtain ⟨ack, hack⟩ : ∃ x, x = at0 (bz s) 8 * 16777216 + at0 (bz s) 9 * 65536 + at0 (bz s) 10 * 256 + at0 (bz s) 11 := ⟨_, rfl⟩
 obtain ⟨win, hwin⟩ : ∃ x, x = at0 (bz s) 14 * 256 + at0 (bz s) 15 := ⟨_, rfl⟩
 obtain ⟨urg, hurg⟩ : ∃ x, x = at0 (bz s) 18 * 256 + at0 (bz s) 19 := ⟨_, rfl⟩
 have src16 : src ≤ 65535 := by omega
 have dst16 : dst ≤ 65535 := by omega
 have win16 : win ≤ 65535 := by omega
 have urg16 : urg ≤ 65535 := by omega
 rw [← hsrc] at N02 HTR
 rw [← hdst] at N24 HTR
 rw [← hseq] at N48 HTR
 rw [← hack] at N8C HTR
 rw [← hwin] at NEG HTR
 rw [← hurg] at NIK HTR
 clear hsrc hdst hseq hack hwin hurg b0 b1 b2 b3 b14 b15 b18 b19 hln h60 h61
 go_enter Tryz.func56, Tryz.ntmps56
 go_wp2_with fail
 refine (HSM.out _).mono ?_
 rintro e wA ⟨rfl, hb1⟩
 have BX1 := Lib.hid (box_more (box_new w (.cells #[.int .u16 0, .int .u16 0, .int .u32 0, .int .u32 0, .int .u8 0, .int .u16 0, .int .u16 0, .string ⟨#[]⟩] 61)) hb1)
 have B1 := Lib.hid (st_call (st_alloc (Below.refl _ _) (.cells #[.int .u16 0, .int .u16 0, .int .u32 0, .int .u32 0, .int .u8 0, .int .u16 0, .int .u16 0, .string ⟨#[]⟩] 61)) hb1)
 clear hb1
 have hwlt := box_lt BX1.out
 go_wp2_with fail
 refine wp_region_see_tail 18 84 (relD6 s src dst seq ack fl wA.heap.size) rfl (by kernel_rfl) (by kernel_rfl) (by kernel_rfl) (by kernel_rfl) (relD6_more s src dst seq ack fl wA.heap.size) ?_ ?_
 · intro i hi
   have hi2 : i < 18 := by simpa using hi
   clear hi
   match i, hi2 with
   | 0, _ =>
     intro ρ W hb hc hg hf h0 hd
     have t2 := h0 2 (by kernel_rfl)
     clear hd h0
     go_simp
     exact ⟨rfl, Below.refl _ _⟩
   | 1, _ =>
     intro ρ W hb hc hg hf h0 hd
     have d0 : ρ (.tmp 49) = .string s := hd 0 49 (by kernel_rfl) (by kernel_rfl)
     clear hd h0
     go_simp
     exact ⟨rfl, Below.refl _ _⟩
   | 2, _ =>
     intro ρ W hb hc hg hf h0 hd
     have d1 : ρ (.tmp 50) = .string (s.extract 0 2) := hd 1 50 (by kernel_rfl) (by kernel_rfl)
     clear hd h0
     go_simp
     exact (N02.out W).mono fun e w' ⟨he, hb⟩ => ⟨_, he, rfl, hb⟩
   | 3, _ =>
     intro ρ W hb hc hg hf h0 hd
     have d2 : ρ (.tmp 51) = .int .u32 (src : Int) := hd 2 51 (by kernel_rfl) (by kernel_rfl)
     clear hd h0
     have e16 : IntKind.u16.wrap (src : Int) = (src : Int) := by rw [IntKind.wrap_u16]; omega
     go_simp
     exact ⟨rfl, Below.refl _ _⟩
   | 4, _ =>
     intro ρ W hb hc hg hf h0 hd
     have t2 := h0 2 (by kernel_rfl)
     clear hd h0
     go_simp
     exact ⟨rfl, Below.refl _ _⟩
   | 5, _ =>
     intro ρ W hb hc hg hf h0 hd
     have d4 : ρ (.tmp 53) = .string s := hd 4 53 (by kernel_rfl) (by kernel_rfl)
     clear hd h0
     go_simp
     exact ⟨rfl, Below.refl _ _⟩
   | 6, _ =>
     intro ρ W hb hc hg hf h0 hd
     have d5 : ρ (.tmp 54) = .string (s.extract 2 4) := hd 5 54 (by kernel_rfl) (by kernel_rfl)
     clear hd h0
     go_simp
     exact (N24.out W).mono fun e w' ⟨he, hb⟩ => ⟨_, he, rfl, hb⟩
   | 7, _ =>
     intro ρ W hb hc hg hf h0 hd
     have d6 : ρ (.tmp 55) = .int .u32 (dst : Int) := hd 6 55 (by kernel_rfl) (by kernel_rfl)
     clear hd h0
     have e16 : IntKind.u16.wrap (dst : Int) = (dst : Int) := by rw [IntKind.wrap_u16]; omega
     go_simp
     exact ⟨rfl, Below.refl _ _⟩
   | 8, _ =>
     intro ρ W hb hc hg hf h0 hd
     have t2 := h0 2 (by kernel_rfl)
     clear hd h0
     go_simp
     exact ⟨rfl, Below.refl _ _⟩
   | 9, _ =>
     intro ρ W hb hc hg hf h0 hd
     have d8 : ρ (.tmp 57) = .string s := hd 8 57 (by kernel_rfl) (by kernel_rfl)
     clear hd h0
     go_simp
     exact ⟨rfl, Below.refl _ _⟩
   | 10, _ =>
     intro ρ W hb hc hg hf h0 hd
     have d9 : ρ (.tmp 58) = .string (s.extract 4 8) := hd 9 58 (by kernel_rfl) (by kernel_rfl)
     clear hd h0
     go_simp
     exact (N48.out W).mono fun e w' ⟨he, hb⟩ => ⟨_, he, rfl, hb⟩
   | 11, _ =>
     intro ρ W hb hc hg hf h0 hd
     have t2 := h0 2 (by kernel_rfl)
     clear hd h0
     go_simp
     exact ⟨rfl, Below.refl _ _⟩
   | 12, _ =>
     intro ρ W hb hc hg hf h0 hd
     have d11 : ρ (.tmp 60) = .string s := hd 11 60 (by kernel_rfl) (by kernel_rfl)
     clear hd h0
     go_simp
     exact ⟨rfl, Below.refl _ _⟩
   | 13, _ =>
     intro ρ W hb hc hg hf h0 hd
     have d12 : ρ (.tmp 61) = .string (s.extract 8 12) := hd 12 61 (by kernel_rfl) (by kernel_rfl)
     clear hd h0
     go_simp
     exact (N8C.out W).mono fun e w' ⟨he, hb⟩ => ⟨_, he, rfl, hb⟩
   | 14, _ =>
     intro ρ W hb hc hg hf h0 hd
     have t2 := h0 2 (by kernel_rfl)
     clear hd h0
     go_simp
     exact ⟨rfl, Below.refl _ _⟩
   | 15, _ =>
     intro ρ W hb hc hg hf h0 hd
     have d14 : ρ (.tmp 63) = .string s := hd 14 63 (by kernel_rfl) (by kernel_rfl)
     clear hd h0
     go_simp
     exact ⟨rfl, Below.refl _ _⟩
   | 16, _ =>
     intro ρ W hb hc hg hf h0 hd
     have d3 : ρ (.tmp 52) = .int .u16 (src : Int) := hd 3 52 (by kernel_rfl) (by kernel_rfl)
     have d7 : ρ (.tmp 56) = .int .u16 (dst : Int) := hd 7 56 (by kernel_rfl) (by kernel_rfl)
     have d10 : ρ (.tmp 59) = .int .u32 (seq : Int) := hd 10 59 (by kernel_rfl) (by kernel_rfl)
     have d13 : ρ (.tmp 62) = .int .u32 (ack : Int) := hd 13 62 (by kernel_rfl) (by kernel_rfl)
     have d15 : ρ (.tmp 64) = .int .u8 (fl : Int) := hd 15 64 (by kernel_rfl) (by kernel_rfl)
     clear hd h0
     go_simp
     exact ⟨rfl, Below.refl _ _⟩
   | 17, _ =>
     intro ρ W hb hc hg hf h0 hd
     clear hd h0
     go_simp
     exact ⟨⟨W.heap.size, rfl, by simpa using hb.size, box_new W _⟩, st_alloc (Below.refl _ _) _⟩
   | i + 18, hlt => exact absurd hlt (by omega)
 · intro vs W hb hall
   have v16 := hall 16 (by omega)
   obtain ⟨b, v17, hB, hbox⟩ := hall 17 (by omega)
   clear hall
   rw [lexA_slots vs 18 [(some 49, 0), (some 50, 1), (some 51, 2), (some 52, 3), (some 53, 4), (some 54, 5), (some 55, 6), (some 56, 7), (some 57, 8), (some 58, 9), (some 59, 10), (some 60, 11), (some 61, 12), (some 62, 13), (some 63, 14), (some 64, 15), (some 65, 16), (some 10, 17)] (by kernel_rfl)]
   simp only [List.foldl_cons, List.foldl_nil, v17, show vs 16 = _ from v16]
   show wpList _ _ _ [_] _ _
   have BX2 := Lib.hid (box_more BX1.out hb)
   have B2 := Lib.hid (st_call B1.out hb)
   clear hb v16 v17
   obtain ⟨fz, cz⟩ := box_is W b _ _ hbox
   clear hbox
   have f0 := fz 0
   have c0 := cz 0 _ rfl
   have f1 := fz 1
   have c1 := cz 1 _ rfl
   have f2 := fz 2
   have c2 := cz 2 _ rfl
   have f3 := fz 3
   have c3 := cz 3 _ rfl
   have f4 := fz 4
   have c4 := cz 4 _ rfl
   have f5 := fz 5
   have c5 := cz 5 _ rfl
   have f6 := fz 6
   have c6 := cz 6 _ rfl
   have f7 := fz 7
   have c7 := cz 7 _ rfl
   have CZ := Lib.hid cz
   have FZ := Lib.hid fz
   clear cz fz
   go_wp2_with fail
   obtain ⟨W1, hW1, dz, hb1⟩ := set8 W b (.int .u16 (src : Int)) (.int .u16 (dst : Int)) (.int .u32 (seq : Int)) (.int .u32 (ack : Int)) (.int .u8 (fl : Int)) (.int .u16 0) (.int .u16 0) (.string ⟨#[]⟩) (fun j hj => ⟨_, CZ.out j _ (Array.getElem?_eq_getElem (by simpa using hj))⟩)
   have ff : ∀ j, W1.frozen? ⟨b, j, none⟩ = false := fun j => by rw [← hW1]; simp only [World.frozen?_setCell]; exact FZ.out j
   rw [hW1]
   clear hW1 c0 c1 c2 c3 c4 c5 c6 c7
   have HB1 := Lib.hid hb1
   have DZ := Lib.hid dz
   have FF := Lib.hid ff
   have a5 := DZ.out 5 _ rfl
   have h5 := FF.out 5
   have a6 := DZ.out 6 _ rfl
   have h6 := FF.out 6
   have a7 := DZ.out 7 _ rfl
   have h7 := FF.out 7
   clear dz ff hb1
   refine (NEG.out _).mono ?_
   rintro e w' ⟨rfl, hw⟩
   rw [hw]
   clear hw
   have e16 : IntKind.u16.wrap (win : Int) = (win : Int) := by rw [IntKind.wrap_u16]; omega
   go_wp2_with fail
   refine (NIK.out _).mono ?_
   rintro e w' ⟨rfl, hw⟩
   rw [hw]
   clear hw
   have e17 : IntKind.u16.wrap (urg : Int) = (urg : Int) := by rw [IntKind.wrap_u16]; omega
   have hn20 : (20 : Int) ≤ (n : Int) := by omega
   have hns : (n : Int) ≤ (s.size : Int) := by omega
   go_wp2_with fail
   clear a5 a6 a7 h5 h6 h7
   obtain ⟨W4, hW4⟩ : ∃ W4, ((W1.setCell ⟨b, 5, none⟩ (.int .u16 (win : Int))).setCell ⟨b, 6, none⟩ (.int .u16 (urg : Int))).setCell ⟨b, 7, none⟩ (.string (s.extract 20 n)) = W4 := ⟨_, rfl⟩
   rw [hW4]
   have hW4b : Below b W W4 := by
     rw [← hW4]
     exact HB1.out.trans ((((Below.refl b W1).setCell (Nat.le_refl _) _).setCell (Nat.le_refl _) _).setCell (Nat.le_refl _) _)
   have g5 : W4.cell? ⟨b, 5, none⟩ = some (.int .u16 (win : Int)) := by
     rw [← hW4, set_ne _ b 7 5 _ (by decide), set_ne _ b 6 5 _ (by decide)]
     exact set_at _ _ _ _ ⟨_, DZ.out 5 _ rfl⟩
   have g6 : W4.cell? ⟨b, 6, none⟩ = some (.int .u16 (urg : Int)) := by
     rw [← hW4, set_ne _ b 7 6 _ (by decide)]
     exact set_at _ _ _ _ ⟨_, by rw [set_ne _ b 5 6 _ (by decide)]; exact DZ.out 6 _ rfl⟩
   have g7 : W4.cell? ⟨b, 7, none⟩ = some (.string (s.extract 20 n)) := by
     rw [← hW4]
     exact set_at _ _ _ _ ⟨_, by rw [set_ne _ b 6 7 _ (by decide), set_ne _ b 5 7 _ (by decide)]; exact DZ.out 7 _ rfl⟩
   have g0 : W4.cell? ⟨b, 0, none⟩ = some (.int .u16 (src : Int)) := by rw [← hW4, set_ne _ b 7 0 _ (by decide), set_ne _ b 6 0 _ (by decide), set_ne _ b 5 0 _ (by decide)]; exact DZ.out 0 _ rfl
   have g1 : W4.cell? ⟨b, 1, none⟩ = some (.int .u16 (dst : Int)) := by rw [← hW4, set_ne _ b 7 1 _ (by decide), set_ne _ b 6 1 _ (by decide), set_ne _ b 5 1 _ (by decide)]; exact DZ.out 1 _ rfl
   have g2 : W4.cell? ⟨b, 2, none⟩ = some (.int .u32 (seq : Int)) := by rw [← hW4, set_ne _ b 7 2 _ (by decide), set_ne _ b 6 2 _ (by decide), set_ne _ b 5 2 _ (by decide)]; exact DZ.out 2 _ rfl
   have g3 : W4.cell? ⟨b, 3, none⟩ = some (.int .u32 (ack : Int)) := by rw [← hW4, set_ne _ b 7 3 _ (by decide), set_ne _ b 6 3 _ (by decide), set_ne _ b 5 3 _ (by decide)]; exact DZ.out 3 _ rfl
   have g4 : W4.cell? ⟨b, 4, none⟩ = some (.int .u8 (fl : Int)) := by rw [← hW4, set_ne _ b 7 4 _ (by decide), set_ne _ b 6 4 _ (by decide), set_ne _ b 5 4 _ (by decide)]; exact DZ.out 4 _ rfl
   have hbw : w.heap.size < b := by omega
   have BX4 : W4.heap[w.heap.size]? = some (.cells #[.int .u16 0, .int .u16 0, .int .u32 0, .int .u32 0, .int .u8 0, .int .u16 0, .int .u16 0, .string ⟨#[]⟩] 61 (0, 0)) := (hW4b.block w.heap.size hbw).trans BX2.out
   obtain ⟨fy, cy⟩ := box_is W4 w.heap.size _ _ BX4
   have B4 := Lib.hid (B2.out.trans (hW4b.mono (Nat.le_of_lt hbw)))
   clear hW4 BX4 hW4b
   have f0 := fy 0
   have c0 := cy 0 _ rfl
   have f1 := fy 1
   have c1 := cy 1 _ rfl
   have f2 := fy 2
   have c2 := cy 2 _ rfl
   have f3 := fy 3
   have c3 := cy 3 _ rfl
   have f4 := fy 4
   have c4 := cy 4 _ rfl
   have f5 := fy 5
   have c5 := cy 5 _ rfl
   have f6 := fy 6
   have c6 := cy 6 _ rfl
   have f7 := fy 7
   have c7 := cy 7 _ rfl
   have CY := Lib.hid cy
   clear cy fy
   have hne : ¬ w.heap.size = b := by omega
   have hne2 : ¬ b = w.heap.size := by omega
   go_region
   all_goals go_wp2
   all_goals
     obtain ⟨W5, hW5, ez, hb5⟩ := set8 W4 w.heap.size (.int .u16 (src : Int)) (.int .u16 (dst : Int)) (.int .u32 (seq : Int)) (.int .u32 (ack : Int)) (.int .u8 (fl : Int)) (.int .u16 (win : Int)) (.int .u16 (urg : Int)) (.string (s.extract 20 n)) (fun j hj => ⟨_, CY.out j _ (Array.getElem?_eq_getElem (by simpa using hj))⟩)
     rw [hW5]
     have e0 := ez 0 _ rfl
     have e1 := ez 1 _ rfl
     have e2 := ez 2 _ rfl
     have e3 := ez 3 _ rfl
     have e4 := ez 4 _ rfl
     have e5 := ez 5 _ rfl
     have e6 := ez 6 _ rfl
     have e7 := ez 7 _ rfl
     refine bodyPost_ret (v := .tuple #[tv ⟨src, dst, seq, ack, fl, win, urg, s.extract 20 n⟩, .string (s.extract n s.size), .int .i64 0]) ?_ rfl ?_
     · simp [results, Tryz.f56, go_sem, e0, e1, e2, e3, e4, e5, e6, e7]
     · exact ⟨by rw [HDV.out HE.out, HTR.out], st_drew (B4.out.trans hb5)⟩
end Go.Proofs.YtpmnmnflaijaaaaGreat.TcpDec
