/-
  Laws for a proof of package pkt: 1 texts in one.
-/
import Derived.Test.YtpmnmnflaijaaaaGreatQTcpRef4
import Derived.Test.YtpmnmnflaijaaaaGreatQRelL3
namespace Go.Proofs.YtpmnmnflaijaaaaGreat.IpDec
open Go.RowKit TupMath SumMath IpMath Litb Calm Rel RelT IpRef IpHead IpEnc
set_option linter.unusedVariables false
set_option maxRecDepth 100000
theorem set7 (W : World) (b : Nat) (x0 x1 x2 x3 x4 x5 x6 : Value) (h : ∀ j, j < 7 → ∃ u, W.cell? ⟨b, j, none⟩ = some u) :
   ∃ W', ((((((W.setCell ⟨b, 0, none⟩ x0).setCell ⟨b, 1, none⟩ x1).setCell ⟨b, 2, none⟩ x2).setCell ⟨b, 3, none⟩ x3).setCell ⟨b, 4, none⟩ x4).setCell ⟨b, 5, none⟩ x5).setCell ⟨b, 6, none⟩ x6 = W' ∧
     (∀ j v, ([x0, x1, x2, x3, x4, x5, x6] : List Value)[j]? = some v → W'.cell? ⟨b, j, none⟩ = some v) ∧ Below b W W' := by
 refine ⟨_, rfl, ?_, ?_⟩
 · have key : ∀ (n : Nat) (V : World) (vs : List Value) (k : Nat), k + vs.length ≤ 7 → (∀ j, j < 7 → ∃ u, V.cell? ⟨b, j, none⟩ = some u) →
       (∀ j, j < k → (vs.foldl (fun (p : World × Nat) v => (p.1.setCell ⟨b, p.2, none⟩ v, p.2 + 1)) (V, k)).1.cell? ⟨b, j, none⟩ = V.cell? ⟨b, j, none⟩) ∧
       (∀ j v, vs[j]? = some v → (vs.foldl (fun (p : World × Nat) v => (p.1.setCell ⟨b, p.2, none⟩ v, p.2 + 1)) (V, k)).1.cell? ⟨b, k + j, none⟩ = some v) := by
     intro n V vs
     induction vs generalizing V with
     | nil => intro k _ _; exact ⟨fun _ _ => rfl, fun j v h => by simp at h⟩
     | cons x r ih =>
       intro k hk hV
       have hne : ∀ j, j ≠ k → (V.setCell ⟨b, k, none⟩ x).cell? ⟨b, j, none⟩ = V.cell? ⟨b, j, none⟩ := fun j hj => World.cell?_setCell_other _ _ _ _ (fun e => by injection e with _ e; exact hj e.symm)
       have hk2 : (V.setCell ⟨b, k, none⟩ x).cell? ⟨b, k, none⟩ = some x := by
         obtain ⟨u, hu⟩ := hV k (by simp at hk; omega)
         exact World.cell?_setCell_same' _ _ _ (by rw [hu]; rfl)
       obtain ⟨i1, i2⟩ := ih (V.setCell ⟨b, k, none⟩ x) (k + 1) (by simp at hk; omega) (fun j hj => by
         by_cases hjk : j = k
         · subst hjk; exact ⟨x, hk2⟩
         · rw [hne j hjk]; exact hV j hj)
       refine ⟨fun j hj => (i1 j (by omega)).trans (hne j (by omega)), fun j v hv => ?_⟩
       cases j with
       | zero =>
         simp at hv
         subst hv
         exact (i1 k (by omega)).trans hk2
       | succ j =>
         have := i2 j v (by simpa using hv)
         rw [show k + (j + 1) = k + 1 + j by omega]
         exact this
   intro j v hv
   have := (key 0 W [x0, x1, x2, x3, x4, x5, x6] 0 (by simp) h).2 j v hv
   rw [Nat.zero_add] at this
   exact this
 · exact ((((((((Below.refl b W).setCell (Nat.le_refl _) _).setCell (Nat.le_refl _) _).setCell (Nat.le_refl _) _).setCell (Nat.le_refl _) _).setCell (Nat.le_refl _) _).setCell (Nat.le_refl _) _).setCell (Nat.le_refl _) _)
def decV (s : ByteArray) : Value := if err (bz s) = 0 then .tuple #[hv (rd (bz s)), .string (s.extract 20 s.size), .int .i64 0] else .tuple #[hv zero, .string ⟨#[]⟩, .int .i64 ((err (bz s) : Nat) : Int)]
def relD (s : ByteArray) (h : Hd) (y B : Nat) : Nat → Value → World → Prop
 | 0 => fun v _ => v = .string s
 | 1 => fun v _ => v = .int .u8 (h.tos : Int)
 | 2 => fun v _ => v = .string s
 | 3 => fun v _ => v = .string (s.extract 4 6)
 | 4 => fun v _ => v = .int .u32 (h.id : Int)
 | 5 => fun v _ => v = .int .u16 (h.id : Int)
 | 6 => fun v _ => v = .string s
 | 7 => fun v _ => v = .int .u8 (y : Int)
 | 8 => fun v _ => v = .bool h.df
 | 9 => fun v _ => v = .string s
 | 10 => fun v _ => v = .int .u8 (h.ttl : Int)
 | 11 => fun v _ => v = .string s
 | 12 => fun v _ => v = .int .u8 (h.proto : Int)
 | 13 => fun v _ => v = .string s
 | 14 => fun v _ => v = .string (s.extract 12 16)
 | 15 => fun v _ => v = .int .u32 (h.src : Int)
 | 16 => fun v _ => v = .string s
 | 17 => fun v _ => v = .string (s.extract 16 20)
 | 18 => fun v _ => v = .int .u32 (h.dst : Int)
 | 19 => fun v _ => v = hv h
 | 20 => fun v W => ∃ b, v = .pointer (some ⟨b, 0, none⟩) ∧ B ≤ b ∧ W.heap[b]? = some (.cells #[.int .u32 0, .int .u32 0, .int .u8 0, .int .u8 0, .int .u8 0, .int .u16 0, .bool false] 59 (0, 0))
 | _ => fun _ _ => True
theorem relD_more (s : ByteArray) (h : Hd) (y B : Nat) (i : Nat) (v : Value) (w w' : World) (hr : relD s h y B i v w) (hb : Below w.heap.size w w') : relD s h y B i v w' := by
 unfold relD at hr ⊢
 split at hr <;> first
   | exact hr
   | (obtain ⟨b, e, h1, h2⟩ := hr
      exact ⟨b, e, h1, (hb.block b (Array.getElem?_eq_some_iff.1 h2).1).trans h2⟩)
theorem alloc_own (W : World) (o : Obj) : (W.alloc o).heap[W.heap.size]? = some o := by
 show (W.heap.push o)[W.heap.size]? = some o
 exact Array.getElem?_push_size
theorem box7 (W : World) (b : Nat) (h : W.heap[b]? = some (.cells #[.int .u32 0, .int .u32 0, .int .u8 0, .int .u8 0, .int .u8 0, .int .u16 0, .bool false] 59 (0, 0))) : (∀ j, W.frozen? ⟨b, j, none⟩ = false) ∧ ∀ (j : Nat) (v : Value), (#[.int .u32 0, .int .u32 0, .int .u8 0, .int .u8 0, .int .u8 0, .int .u16 0, .bool false] : Array Value)[j]? = some v → W.cell? ⟨b, j, none⟩ = some v := by
 refine ⟨fun j => by simp [World.frozen?, h], fun j v hv => ?_⟩
 rw [World.cell?, h]
 simpa using hv
attribute [local go_sem] relUpon
set_option maxHeartbeats 16000000 in
theorem decR (s : ByteArray) (w : World) (hs : s.size ≤ 1000000) : Calls Tryz.prog 55 #[.string s] w fun e w' => e = .returned (decV s) ∧ Below w.heap.size w w' := by
 by_cases h20 : s.size < 20
 · have HE := Lib.hid (show err (bz s) = 50 by unfold err; rw [bz_len, if_pos h20])
   go_enter Tryz.func55, Tryz.ntmps55
   go_wp2
   refine bodyPost_ret (v := .tuple #[hv zero, .string ⟨#[]⟩, .int .i64 50]) ?_ rfl ?_
   · simp [results, Tryz.f55, go_sem, zero]
   · exact ⟨by rw [decV, HE.out]; rfl, st_alloc (Below.refl _ _) _⟩
 have z0 := at_byte s 0 (by omega)
 have z6 := at_byte s 6 (by omega)
 have z7 := at_byte s 7 (by omega)
 have q0 := at_le s 0
 have q6 := at_le s 6
 have q7 := at_le s 7
 have hnum := sub2 s 2 (by omega)
 have hsum := SumPlain.ofR_any (s.extract 0 20)
 have hE : err (bz s) = if at0 (bz s) 0 / 16 ≠ 4 then 51 else if at0 (bz s) 0 % 16 ≠ 5 then 52 else if at0 (bz s) 2 * 256 + at0 (bz s) 3 ≠ s.size then 53 else if cs ((bz s).take 20) ≠ 0 then 55 else if (at0 (bz s) 6 ≠ 0 ∧ at0 (bz s) 6 ≠ 64) ∨ at0 (bz s) 7 ≠ 0 then 54 else 0 := by
   unfold err; rw [bz_len, if_neg h20]
 have es : SumPlain.bz (s.extract 0 20) = (bz s).take 20 := (bz_extract s 0 20 (by omega)).trans (List.drop_zero ..)
 rw [es] at hsum
 have hcl := cs_le ((bz s).take 20)
 generalize cs ((bz s).take 20) = c at hsum hE hcl
 have HR := Lib.hid (show err (bz s) = 0 → rd (bz s) = rd (bz s) from fun _ => rfl)
 generalize hy2 : at0 (bz s) 2 * 256 + at0 (bz s) 3 = len at hnum hE
 have q2 := at_le s 2
 have q3 := at_le s 3
 have hlen : len ≤ 65535 := by omega
 clear hy2 q2 q3
 obtain ⟨y0, hy0⟩ : ∃ y, at0 (bz s) 0 = y := ⟨_, rfl⟩
 rw [hy0] at z0 q0 hE
 obtain ⟨y6, hy6⟩ : ∃ y, at0 (bz s) 6 = y := ⟨_, rfl⟩
 rw [hy6] at z6 q6 hE
 obtain ⟨y7, hy7⟩ : ∃ y, at0 (bz s) 7 = y := ⟨_, rfl⟩
 rw [hy7] at z7 q7 hE
 have HY6 := Lib.hid hy6
 clear hy0 hy6 hy7 es
 have HNUM := Lib.hid hnum
 have HSUM := Lib.hid hsum
 have HEE := Lib.hid hE
 clear hnum hsum hE HR
 have k4 : (4 : Int) ≤ (s.size : Int) := by omega
 have k6 : (6 : Int) ≤ (s.size : Int) := by omega
 have k16 : (16 : Int) ≤ (s.size : Int) := by omega
 have k20 : (20 : Int) ≤ (s.size : Int) := by omega
 by_cases h4 : y0 / 16 = 4
 case neg =>
   have HE := Lib.hid (show err (bz s) = 51 by rw [HEE.out, if_pos h4])
   have h4i : ¬ (y0 : Int) / 16 = 4 := by omega
   go_enter Tryz.func55, Tryz.ntmps55
   go_wp2
   refine bodyPost_ret (v := .tuple #[hv zero, .string ⟨#[]⟩, .int .i64 51]) ?_ rfl ?_
   · simp [results, Tryz.f55, go_sem, zero]
   · exact ⟨by rw [decV, HE.out]; rfl, st_alloc (Below.refl _ _) _⟩
 by_cases h5 : y0 % 16 = 5
 case neg =>
   have HE := Lib.hid (show err (bz s) = 52 by rw [HEE.out, if_neg (by omega), if_pos h5])
   have h4i : (y0 : Int) / 16 = 4 := by omega
   have h5i : ¬ (y0 : Int) % 16 = 5 := by omega
   go_enter Tryz.func55, Tryz.ntmps55
   go_wp2
   refine bodyPost_ret (v := .tuple #[hv zero, .string ⟨#[]⟩, .int .i64 52]) ?_ rfl ?_
   · simp [results, Tryz.f55, go_sem, zero]
   · exact ⟨by rw [decV, HE.out]; rfl, st_alloc (Below.refl _ _) _⟩
 have h4i : (y0 : Int) / 16 = 4 := by omega
 have h5i : (y0 : Int) % 16 = 5 := by omega
 by_cases hl : len = s.size
 case neg =>
   have HE := Lib.hid (show err (bz s) = 53 by rw [HEE.out, if_neg (by omega), if_neg (by omega), if_pos hl])
   have hli : ¬ (len : Int) = (s.size : Int) := by omega
   go_enter Tryz.func55, Tryz.ntmps55
   go_wp2_with fail
   refine (numR (s.extract 2 4) _ (by rw [ByteArray.size_extract]; omega)).mono ?_
   rw [HNUM.out]
   rintro e w' ⟨rfl, rfl⟩
   go_wp2
   refine bodyPost_ret (v := .tuple #[hv zero, .string ⟨#[]⟩, .int .i64 53]) ?_ rfl ?_
   · simp [results, Tryz.f55, go_sem, zero]
   · exact ⟨by rw [decV, HE.out]; rfl, st_alloc (Below.refl _ _) _⟩
 by_cases hc : c = 0
 case neg =>
   have HE := Lib.hid (show err (bz s) = 55 by rw [HEE.out, if_neg (by omega), if_neg (by omega), if_neg (by omega), if_pos hc])
   have hli : (len : Int) = (s.size : Int) := by omega
   have hci : ¬ (c : Int) = 0 := by omega
   go_enter Tryz.func55, Tryz.ntmps55
   go_wp2_with fail
   refine (numR (s.extract 2 4) _ (by rw [ByteArray.size_extract]; omega)).mono ?_
   rw [HNUM.out]
   rintro e w' ⟨rfl, rfl⟩
   go_wp2_with fail
   refine (HSUM.out _ (by rw [ByteArray.size_extract]; omega)).mono ?_
   rintro e w' ⟨rfl, rfl⟩
   go_wp2
   refine bodyPost_ret (v := .tuple #[hv zero, .string ⟨#[]⟩, .int .i64 55]) ?_ rfl ?_
   · simp [results, Tryz.f55, go_sem, zero]
   · exact ⟨by rw [decV, HE.out]; rfl, st_alloc (Below.refl _ _) _⟩
 subst hc
 have hli : (len : Int) = (s.size : Int) := by omega
 by_cases hf : (y6 ≠ 0 ∧ y6 ≠ 64) ∨ y7 ≠ 0
 case pos =>
   have HE := Lib.hid (show err (bz s) = 54 by rw [HEE.out, if_neg (by omega), if_neg (by omega), if_neg (by omega), if_neg (by omega), if_pos hf])
   by_cases h60 : y6 = 0
   · have h7i : ¬ (y7 : Int) = 0 := by omega
     subst h60
     go_enter Tryz.func55, Tryz.ntmps55
     go_wp2_with fail
     refine (numR (s.extract 2 4) _ (by rw [ByteArray.size_extract]; omega)).mono ?_
     rw [HNUM.out]
     rintro e w' ⟨rfl, rfl⟩
     go_wp2_with fail
     refine (HSUM.out _ (by rw [ByteArray.size_extract]; omega)).mono ?_
     rintro e w' ⟨rfl, rfl⟩
     go_wp2
     refine bodyPost_ret (v := .tuple #[hv zero, .string ⟨#[]⟩, .int .i64 54]) ?_ rfl ?_
     · simp [results, Tryz.f55, go_sem, zero]
     · exact ⟨by rw [decV, HE.out]; rfl, st_alloc (Below.refl _ _) _⟩
   · by_cases h64 : y6 = 64
     · have h7i : ¬ (y7 : Int) = 0 := by omega
       subst h64
       go_enter Tryz.func55, Tryz.ntmps55
       go_wp2_with fail
       refine (numR (s.extract 2 4) _ (by rw [ByteArray.size_extract]; omega)).mono ?_
       rw [HNUM.out]
       rintro e w' ⟨rfl, rfl⟩
       go_wp2_with fail
       refine (HSUM.out _ (by rw [ByteArray.size_extract]; omega)).mono ?_
       rintro e w' ⟨rfl, rfl⟩
       go_wp2
       refine bodyPost_ret (v := .tuple #[hv zero, .string ⟨#[]⟩, .int .i64 54]) ?_ rfl ?_
       · simp [results, Tryz.f55, go_sem, zero]
       · exact ⟨by rw [decV, HE.out]; rfl, st_alloc (Below.refl _ _) _⟩
     · have h60i : ¬ (y6 : Int) = 0 := by omega
       have h64i : ¬ (y6 : Int) = 64 := by omega
       go_enter Tryz.func55, Tryz.ntmps55
       go_wp2_with fail
       refine (numR (s.extract 2 4) _ (by rw [ByteArray.size_extract]; omega)).mono ?_
       rw [HNUM.out]
       rintro e w' ⟨rfl, rfl⟩
       go_wp2_with fail
       refine (HSUM.out _ (by rw [ByteArray.size_extract]; omega)).mono ?_
       rintro e w' ⟨rfl, rfl⟩
       go_wp2
       refine bodyPost_ret (v := .tuple #[hv zero, .string ⟨#[]⟩, .int .i64 54]) ?_ rfl ?_
       · simp [results, Tryz.f55, go_sem, zero]
       · exact ⟨by rw [decV, HE.out]; rfl, st_alloc (Below.refl _ _) _⟩
 obtain rfl : y7 = 0 := by omega
 have HE := Lib.hid (show err (bz s) = 0 by rw [HEE.out, if_neg (by omega), if_neg (by omega), if_neg (by omega), if_neg (by omega), if_neg hf])
 have z1 := at_byte s 1 (by omega)
 have z8 := at_byte s 8 (by omega)
 have z9 := at_byte s 9 (by omega)
 have q1 := at_le s 1
 have q8 := at_le s 8
 have q9 := at_le s 9
 have n4 := sub2 s 4 (by omega)
 have n12 := sub4 s 12 (by omega)
 have n16 := sub4 s 16 (by omega)
 have b4 : at0 (bz s) 4 * 256 + at0 (bz s) 5 ≤ 65535 := by have := at_le s 4; have := at_le s 5; omega
 have hrd : rd (bz s) = ⟨at0 (bz s) 12 * 16777216 + at0 (bz s) 13 * 65536 + at0 (bz s) 14 * 256 + at0 (bz s) 15, at0 (bz s) 16 * 16777216 + at0 (bz s) 17 * 65536 + at0 (bz s) 18 * 256 + at0 (bz s) 19, at0 (bz s) 9, at0 (bz s) 8, at0 (bz s) 1, at0 (bz s) 4 * 256 + at0 (bz s) 5, y6 == 64⟩ := by unfold rd; rw [HY6.out]
 generalize at0 (bz s) 4 * 256 + at0 (bz s) 5 = idn at n4 b4 hrd
 obtain ⟨src, hsrc⟩ : ∃ src, at0 (bz s) 12 * 16777216 + at0 (bz s) 13 * 65536 + at0 (bz s) 14 * 256 + at0 (bz s) 15 = src := ⟨_, rfl⟩
 rw [hsrc] at n12 hrd
 clear hsrc
 obtain ⟨dst, hdst⟩ : ∃ dst, at0 (bz s) 16 * 16777216 + at0 (bz s) 17 * 65536 + at0 (bz s) 18 * 256 + at0 (bz s) 19 = dst := ⟨_, rfl⟩
 rw [hdst] at n16 hrd
 clear hdst
 generalize at0 (bz s) 1 = tos at z1 q1 hrd
 generalize at0 (bz s) 8 = ttl at z8 q8 hrd
 generalize at0 (bz s) 9 = proto at z9 q9 hrd
 have HRD := Lib.hid hrd
 have N4 := Lib.hid n4
 have N12 := Lib.hid n12
 have N16 := Lib.hid n16
 clear hrd n4 n12 n16
 have N4S : ∀ W : World, Calls Tryz.prog 29 #[.string (s.extract 4 6)] W fun e w' => e = .returned (.int .u32 (idn : Int)) ∧ w' = W := fun W => by
   have h := numR (s.extract 4 6) W (by rw [ByteArray.size_extract]; omega)
   rw [N4.out] at h
   exact h
 have N12S : ∀ W : World, Calls Tryz.prog 29 #[.string (s.extract 12 16)] W fun e w' => e = .returned (.int .u32 (src : Int)) ∧ w' = W := fun W => by
   have h := numR (s.extract 12 16) W (by rw [ByteArray.size_extract]; omega)
   rw [N12.out] at h
   exact h
 have N16S : ∀ W : World, Calls Tryz.prog 29 #[.string (s.extract 16 20)] W fun e w' => e = .returned (.int .u32 (dst : Int)) ∧ w' = W := fun W => by
   have h := numR (s.extract 16 20) W (by rw [ByteArray.size_extract]; omega)
   rw [N16.out] at h
   exact h
 have j1 : (1 : Int) < (s.size : Int) := by omega
 have j6 : (6 : Int) < (s.size : Int) := by omega
 have j8 : (8 : Int) < (s.size : Int) := by omega
 have j9 : (9 : Int) < (s.size : Int) := by omega
 have h6 : (y6 = 0 ∨ y6 = 64) := by omega
 clear hf
 rcases h6 with rfl | rfl
 · -- the bit is false
   go_enter Tryz.func55, Tryz.ntmps55
   go_wp2_with fail
   refine (numR (s.extract 2 4) _ (by rw [ByteArray.size_extract]; omega)).mono ?_
   rw [HNUM.out]
   rintro e w' ⟨rfl, rfl⟩
   go_wp2_with fail
   refine (HSUM.out _ (by rw [ByteArray.size_extract]; omega)).mono ?_
   rintro e w' ⟨rfl, rfl⟩
   go_wp2_with fail
   refine wp_region_see_tail 21 70 (relD s ⟨src, dst, proto, ttl, tos, idn, false⟩ 0 (w.alloc (.cells #[.int .u32 0, .int .u32 0, .int .u8 0, .int .u8 0, .int .u8 0, .int .u16 0, .bool false] 59)).heap.size) rfl (by kernel_rfl) (by kernel_rfl) (by kernel_rfl) (by kernel_rfl) (relD_more _ _ _ _) ?_ ?_
   · intro i hi
     have hi2 : i < 21 := by simpa using hi
     clear hi
     match i, hi2 with
     | 0, _ =>
       intro ρ W hb hc hg hf h0 hd
       have t0 := h0 0 (by kernel_rfl)
       clear hd h0
       go_simp
       exact ⟨rfl, Below.refl _ _⟩
     | 1, _ =>
       intro ρ W hb hc hg hf h0 hd
       have d0 : ρ (.tmp 47) = .string s := hd 0 47 (by kernel_rfl) (by kernel_rfl)
       clear hd h0
       go_simp
       exact ⟨rfl, Below.refl _ _⟩
     | 2, _ =>
       intro ρ W hb hc hg hf h0 hd
       have t0 := h0 0 (by kernel_rfl)
       clear hd h0
       go_simp
       exact ⟨rfl, Below.refl _ _⟩
     | 3, _ =>
       intro ρ W hb hc hg hf h0 hd
       have d2 : ρ (.tmp 49) = .string s := hd 2 49 (by kernel_rfl) (by kernel_rfl)
       clear hd h0
       go_simp
       exact ⟨rfl, Below.refl _ _⟩
     | 4, _ =>
       intro ρ W hb hc hg hf h0 hd
       have d3 : ρ (.tmp 50) = .string (s.extract 4 6) := hd 3 50 (by kernel_rfl) (by kernel_rfl)
       clear hd h0
       go_simp
       exact (N4S W).mono fun e w' ⟨he, hw⟩ => ⟨_, he, rfl, hw ▸ Below.refl _ _⟩
     | 5, _ =>
       intro ρ W hb hc hg hf h0 hd
       have d4 : ρ (.tmp 51) = .int .u32 (idn : Int) := hd 4 51 (by kernel_rfl) (by kernel_rfl)
       clear hd h0
       have e16 : IntKind.u16.wrap (idn : Int) = (idn : Int) := by rw [IntKind.wrap_u16]; omega
       go_simp
       exact ⟨rfl, Below.refl _ _⟩
     | 6, _ =>
       intro ρ W hb hc hg hf h0 hd
       have t0 := h0 0 (by kernel_rfl)
       clear hd h0
       go_simp
       exact ⟨rfl, Below.refl _ _⟩
     | 7, _ =>
       intro ρ W hb hc hg hf h0 hd
       have d6 : ρ (.tmp 53) = .string s := hd 6 53 (by kernel_rfl) (by kernel_rfl)
       clear hd h0
       go_simp
       exact ⟨rfl, Below.refl _ _⟩
     | 8, _ =>
       intro ρ W hb hc hg hf h0 hd
       have d7 : ρ (.tmp 54) = .int .u8 0 := hd 7 54 (by kernel_rfl) (by kernel_rfl)
       clear hd h0
       go_simp
       exact ⟨rfl, Below.refl _ _⟩
     | 9, _ =>
       intro ρ W hb hc hg hf h0 hd
       have t0 := h0 0 (by kernel_rfl)
       clear hd h0
       go_simp
       exact ⟨rfl, Below.refl _ _⟩
     | 10, _ =>
       intro ρ W hb hc hg hf h0 hd
       have d9 : ρ (.tmp 56) = .string s := hd 9 56 (by kernel_rfl) (by kernel_rfl)
       clear hd h0
       go_simp
       exact ⟨rfl, Below.refl _ _⟩
     | 11, _ =>
       intro ρ W hb hc hg hf h0 hd
       have t0 := h0 0 (by kernel_rfl)
       clear hd h0
       go_simp
       exact ⟨rfl, Below.refl _ _⟩
     | 12, _ =>
       intro ρ W hb hc hg hf h0 hd
       have d11 : ρ (.tmp 58) = .string s := hd 11 58 (by kernel_rfl) (by kernel_rfl)
       clear hd h0
       go_simp
       exact ⟨rfl, Below.refl _ _⟩
     | 13, _ =>
       intro ρ W hb hc hg hf h0 hd
       have t0 := h0 0 (by kernel_rfl)
       clear hd h0
       go_simp
       exact ⟨rfl, Below.refl _ _⟩
     | 14, _ =>
       intro ρ W hb hc hg hf h0 hd
       have d13 : ρ (.tmp 60) = .string s := hd 13 60 (by kernel_rfl) (by kernel_rfl)
       clear hd h0
       go_simp
       exact ⟨rfl, Below.refl _ _⟩
     | 15, _ =>
       intro ρ W hb hc hg hf h0 hd
       have d14 : ρ (.tmp 61) = .string (s.extract 12 16) := hd 14 61 (by kernel_rfl) (by kernel_rfl)
       clear hd h0
       go_simp
       exact (N12S W).mono fun e w' ⟨he, hw⟩ => ⟨_, he, rfl, hw ▸ Below.refl _ _⟩
     | 16, _ =>
       intro ρ W hb hc hg hf h0 hd
       have t0 := h0 0 (by kernel_rfl)
       clear hd h0
       go_simp
       exact ⟨rfl, Below.refl _ _⟩
     | 17, _ =>
       intro ρ W hb hc hg hf h0 hd
       have d16 : ρ (.tmp 63) = .string s := hd 16 63 (by kernel_rfl) (by kernel_rfl)
       clear hd h0
       go_simp
       exact ⟨rfl, Below.refl _ _⟩
     | 18, _ =>
       intro ρ W hb hc hg hf h0 hd
       have d17 : ρ (.tmp 64) = .string (s.extract 16 20) := hd 17 64 (by kernel_rfl) (by kernel_rfl)
       clear hd h0
       go_simp
       exact (N16S W).mono fun e w' ⟨he, hw⟩ => ⟨_, he, rfl, hw ▸ Below.refl _ _⟩
     | 19, _ =>
       intro ρ W hb hc hg hf h0 hd
       have d1 : ρ (.tmp 48) = .int .u8 (tos : Int) := hd 1 48 (by kernel_rfl) (by kernel_rfl)
       have d5 : ρ (.tmp 52) = .int .u16 (idn : Int) := hd 5 52 (by kernel_rfl) (by kernel_rfl)
       have d8 : ρ (.tmp 55) = .bool false := hd 8 55 (by kernel_rfl) (by kernel_rfl)
       have d10 : ρ (.tmp 57) = .int .u8 (ttl : Int) := hd 10 57 (by kernel_rfl) (by kernel_rfl)
       have d12 : ρ (.tmp 59) = .int .u8 (proto : Int) := hd 12 59 (by kernel_rfl) (by kernel_rfl)
       have d15 : ρ (.tmp 62) = .int .u32 (src : Int) := hd 15 62 (by kernel_rfl) (by kernel_rfl)
       have d18 : ρ (.tmp 65) = .int .u32 (dst : Int) := hd 18 65 (by kernel_rfl) (by kernel_rfl)
       clear hd h0
       go_simp
       exact ⟨rfl, Below.refl _ _⟩
     | 20, _ =>
       intro ρ W hb hc hg hf h0 hd
       clear hd h0
       go_simp
       exact ⟨⟨W.heap.size, rfl, by simpa using hb.size, alloc_own W _⟩, st_alloc (Below.refl _ _) _⟩
     | n + 21, hn => exact absurd hn (by omega)
   · intro vs W hb hall
     have h19 : vs 19 = hv ⟨src, dst, proto, ttl, tos, idn, false⟩ := hall 19 (of_decide_eq_true (by kernel_rfl))
     obtain ⟨b, h20, hB, hbox⟩ := hall 20 (of_decide_eq_true (by kernel_rfl))
     have hBn : w.heap.size < b := by simp at hB; omega
     clear hB
     clear hall
     rw [lexA_slots vs 21 [(some 47, 0), (some 48, 1), (some 49, 2), (some 50, 3), (some 51, 4), (some 52, 5), (some 53, 6), (some 54, 7), (some 55, 8), (some 56, 9), (some 57, 10), (some 58, 11), (some 59, 12), (some 60, 13), (some 61, 14), (some 62, 15), (some 63, 16), (some 64, 17), (some 65, 18), (some 66, 19), (some 5, 20)] (by kernel_rfl)]
     simp only [List.foldl_cons, List.foldl_nil, h19, h20]
     show wpList _ _ _ [_] _ _
     obtain ⟨fz, cz⟩ := box7 W b hbox
     have hold : W.heap[w.heap.size]? = some (.cells #[.int .u32 0, .int .u32 0, .int .u8 0, .int .u8 0, .int .u8 0, .int .u16 0, .bool false] 59 (0, 0)) := (hb.block w.heap.size (by simp)).trans (alloc_own w _)
     obtain ⟨fo, co⟩ := box7 W w.heap.size hold
     clear hold hbox
     have f0 := fz 0
     have c0 := cz 0 _ rfl
     have f1 := fz 1
     have c1 := cz 1 _ rfl
     have f2 := fz 2
     have c2 := cz 2 _ rfl
     have f3 := fz 3
     have c3 := cz 3 _ rfl
     have f4 := fz 4
     have c4 := cz 4 _ rfl
     have f5 := fz 5
     have c5 := cz 5 _ rfl
     have f6 := fz 6
     have c6 := cz 6 _ rfl
     go_wp2_with fail
     obtain ⟨W1, hW1, dz, hb1⟩ := set7 W b (.int .u32 (src : Int)) (.int .u32 (dst : Int)) (.int .u8 (proto : Int)) (.int .u8 (ttl : Int)) (.int .u8 (tos : Int)) (.int .u16 (idn : Int)) (.bool false) (fun j hj => ⟨_, cz j _ (Array.getElem?_eq_getElem (by simpa using hj))⟩)
     rw [hW1]
     clear hW1 f0 f1 f2 f3 f4 f5 f6 c0 c1 c2 c3 c4 c5 c6 cz fz
     have col : ∀ (j : Nat) (v : Value), (#[.int .u32 0, .int .u32 0, .int .u8 0, .int .u8 0, .int .u8 0, .int .u16 0, .bool false] : Array Value)[j]? = some v → W1.cell? ⟨w.heap.size, j, none⟩ = some v := fun j v hv => (hb1.cell (p := ⟨w.heap.size, j, none⟩) hBn).trans (co j v hv)
     have fol : ∀ j, W1.frozen? ⟨w.heap.size, j, none⟩ = false := fun j => (hb1.frozen (p := ⟨w.heap.size, j, none⟩) hBn).trans (fo j)
     clear co fo
     have d0 := dz 0 _ rfl
     have f0 := fol 0
     have c0 := col 0 _ rfl
     have d1 := dz 1 _ rfl
     have f1 := fol 1
     have c1 := col 1 _ rfl
     have d2 := dz 2 _ rfl
     have f2 := fol 2
     have c2 := col 2 _ rfl
     have d3 := dz 3 _ rfl
     have f3 := fol 3
     have c3 := col 3 _ rfl
     have d4 := dz 4 _ rfl
     have f4 := fol 4
     have c4 := col 4 _ rfl
     have d5 := dz 5 _ rfl
     have f5 := fol 5
     have c5 := col 5 _ rfl
     have d6 := dz 6 _ rfl
     have f6 := fol 6
     have c6 := col 6 _ rfl
     have hne : ¬ w.heap.size = b := by omega
     have hne2 : ¬ b = w.heap.size := by omega
     clear dz fol
     go_region
     all_goals go_wp2
     all_goals
       obtain ⟨W2, hW2, ez, hb2⟩ := set7 W1 w.heap.size (.int .u32 (src : Int)) (.int .u32 (dst : Int)) (.int .u8 (proto : Int)) (.int .u8 (ttl : Int)) (.int .u8 (tos : Int)) (.int .u16 (idn : Int)) (.bool false) (fun j hj => ⟨_, col j _ (Array.getElem?_eq_getElem (by simpa using hj))⟩)
       rw [hW2]
       have e0 := ez 0 _ rfl
       have e1 := ez 1 _ rfl
       have e2 := ez 2 _ rfl
       have e3 := ez 3 _ rfl
       have e4 := ez 4 _ rfl
       have e5 := ez 5 _ rfl
       have e6 := ez 6 _ rfl
       refine bodyPost_ret (v := .tuple #[hv ⟨src, dst, proto, ttl, tos, idn, false⟩, .string (s.extract 20 s.size), .int .i64 0]) ?_ rfl ?_
       · simp [results, Tryz.f55, go_sem, e0, e1, e2, e3, e4, e5, e6]
       · exact ⟨by rw [decV, HE.out, HRD.out]; rfl, st_drew ((st_call (st_alloc (Below.refl _ _) _) hb).trans ((hb1.mono (Nat.le_of_lt hBn)).trans hb2))⟩
 · -- the bit is true
   go_enter Tryz.func55, Tryz.ntmps55
   go_wp2_with fail
   refine (numR (s.extract 2 4) _ (by rw [ByteArray.size_extract]; omega)).mono ?_
   rw [HNUM.out]
   rintro e w' ⟨rfl, rfl⟩
   go_wp2_with fail
   refine (HSUM.out _ (by rw [ByteArray.size_extract]; omega)).mono ?_
   rintro e w' ⟨rfl, rfl⟩
   go_wp2_with fail
   refine wp_region_see_tail 21 70 (relD s ⟨src, dst, proto, ttl, tos, idn, true⟩ 64 (w.alloc (.cells #[.int .u32 0, .int .u32 0, .int .u8 0, .int .u8 0, .int .u8 0, .int .u16 0, .bool false] 59)).heap.size) rfl (by kernel_rfl) (by kernel_rfl) (by kernel_rfl) (by kernel_rfl) (relD_more _ _ _ _) ?_ ?_
   · intro i hi
     have hi2 : i < 21 := by simpa using hi
     clear hi
     match i, hi2 with
     | 0, _ =>
       intro ρ W hb hc hg hf h0 hd
       have t0 := h0 0 (by kernel_rfl)
       clear hd h0
       go_simp
       exact ⟨rfl, Below.refl _ _⟩
     | 1, _ =>
       intro ρ W hb hc hg hf h0 hd
       have d0 : ρ (.tmp 47) = .string s := hd 0 47 (by kernel_rfl) (by kernel_rfl)
       clear hd h0
       go_simp
       exact ⟨rfl, Below.refl _ _⟩
     | 2, _ =>
       intro ρ W hb hc hg hf h0 hd
       have t0 := h0 0 (by kernel_rfl)
       clear hd h0
       go_simp
       exact ⟨rfl, Below.refl _ _⟩
     | 3, _ =>
       intro ρ W hb hc hg hf h0 hd
       have d2 : ρ (.tmp 49) = .string s := hd 2 49 (by kernel_rfl) (by kernel_rfl)
       clear hd h0
       go_simp
       exact ⟨rfl, Below.refl _ _⟩
     | 4, _ =>
       intro ρ W hb hc hg hf h0 hd
       have d3 : ρ (.tmp 50) = .string (s.extract 4 6) := hd 3 50 (by kernel_rfl) (by kernel_rfl)
       clear hd h0
       go_simp
       exact (N4S W).mono fun e w' ⟨he, hw⟩ => ⟨_, he, rfl, hw ▸ Below.refl _ _⟩
     | 5, _ =>
       intro ρ W hb hc hg hf h0 hd
       have d4 : ρ (.tmp 51) = .int .u32 (idn : Int) := hd 4 51 (by kernel_rfl) (by kernel_rfl)
       clear hd h0
       have e16 : IntKind.u16.wrap (idn : Int) = (idn : Int) := by rw [IntKind.wrap_u16]; omega
       go_simp
       exact ⟨rfl, Below.refl _ _⟩
     | 6, _ =>
       intro ρ W hb hc hg hf h0 hd
       have t0 := h0 0 (by kernel_rfl)
       clear hd h0
       go_simp
       exact ⟨rfl, Below.refl _ _⟩
     | 7, _ =>
       intro ρ W hb hc hg hf h0 hd
       have d6 : ρ (.tmp 53) = .string s := hd 6 53 (by kernel_rfl) (by kernel_rfl)
       clear hd h0
       go_simp
       exact ⟨rfl, Below.refl _ _⟩
     | 8, _ =>
       intro ρ W hb hc hg hf h0 hd
       have d7 : ρ (.tmp 54) = .int .u8 64 := hd 7 54 (by kernel_rfl) (by kernel_rfl)
       clear hd h0
       go_simp
       exact ⟨rfl, Below.refl _ _⟩
     | 9, _ =>
       intro ρ W hb hc hg hf h0 hd
       have t0 := h0 0 (by kernel_rfl)
       clear hd h0
       go_simp
       exact ⟨rfl, Below.refl _ _⟩
     | 10, _ =>
       intro ρ W hb hc hg hf h0 hd
       have d9 : ρ (.tmp 56) = .string s := hd 9 56 (by kernel_rfl) (by kernel_rfl)
       clear hd h0
       go_simp
       exact ⟨rfl, Below.refl _ _⟩
     | 11, _ =>
       intro ρ W hb hc hg hf h0 hd
       have t0 := h0 0 (by kernel_rfl)
       clear hd h0
       go_simp
       exact ⟨rfl, Below.refl _ _⟩
     | 12, _ =>
       intro ρ W hb hc hg hf h0 hd
       have d11 : ρ (.tmp 58) = .string s := hd 11 58 (by kernel_rfl) (by kernel_rfl)
       clear hd h0
       go_simp
       exact ⟨rfl, Below.refl _ _⟩
     | 13, _ =>
       intro ρ W hb hc hg hf h0 hd
       have t0 := h0 0 (by kernel_rfl)
       clear hd h0
       go_simp
       exact ⟨rfl, Below.refl _ _⟩
     | 14, _ =>
       intro ρ W hb hc hg hf h0 hd
       have d13 : ρ (.tmp 60) = .string s := hd 13 60 (by kernel_rfl) (by kernel_rfl)
       clear hd h0
       go_simp
       exact ⟨rfl, Below.refl _ _⟩
     | 15, _ =>
       intro ρ W hb hc hg hf h0 hd
       have d14 : ρ (.tmp 61) = .string (s.extract 12 16) := hd 14 61 (by kernel_rfl) (by kernel_rfl)
       clear hd h0
       go_simp
       exact (N12S W).mono fun e w' ⟨he, hw⟩ => ⟨_, he, rfl, hw ▸ Below.refl _ _⟩
     | 16, _ =>
       intro ρ W hb hc hg hf h0 hd
       have t0 := h0 0 (by kernel_rfl)
       clear hd h0
       go_simp
       exact ⟨rfl, Below.refl _ _⟩
     | 17, _ =>
       intro ρ W hb hc hg hf h0 hd
       have d16 : ρ (.tmp 63) = .string s := hd 16 63 (by kernel_rfl) (by kernel_rfl)
       clear hd h0
       go_simp
       exact ⟨rfl, Below.refl _ _⟩
     | 18, _ =>
       intro ρ W hb hc hg hf h0 hd
       have d17 : ρ (.tmp 64) = .string (s.extract 16 20) := hd 17 64 (by kernel_rfl) (by kernel_rfl)
       clear hd h0
       go_simp
       exact (N16S W).mono fun e w' ⟨he, hw⟩ => ⟨_, he, rfl, hw ▸ Below.refl _ _⟩
     | 19, _ =>
       intro ρ W hb hc hg hf h0 hd
       have d1 : ρ (.tmp 48) = .int .u8 (tos : Int) := hd 1 48 (by kernel_rfl) (by kernel_rfl)
       have d5 : ρ (.tmp 52) = .int .u16 (idn : Int) := hd 5 52 (by kernel_rfl) (by kernel_rfl)
       have d8 : ρ (.tmp 55) = .bool true := hd 8 55 (by kernel_rfl) (by kernel_rfl)
       have d10 : ρ (.tmp 57) = .int .u8 (ttl : Int) := hd 10 57 (by kernel_rfl) (by kernel_rfl)
       have d12 : ρ (.tmp 59) = .int .u8 (proto : Int) := hd 12 59 (by kernel_rfl) (by kernel_rfl)
       have d15 : ρ (.tmp 62) = .int .u32 (src : Int) := hd 15 62 (by kernel_rfl) (by kernel_rfl)
       have d18 : ρ (.tmp 65) = .int .u32 (dst : Int) := hd 18 65 (by kernel_rfl) (by kernel_rfl)
       clear hd h0
       go_simp
       exact ⟨rfl, Below.refl _ _⟩
     | 20, _ =>
       intro ρ W hb hc hg hf h0 hd
       clear hd h0
       go_simp
       exact ⟨⟨W.heap.size, rfl, by simpa using hb.size, alloc_own W _⟩, st_alloc (Below.refl _ _) _⟩
     | n + 21, hn => exact absurd hn (by omega)
   · intro vs W hb hall
     have h19 : vs 19 = hv ⟨src, dst, proto, ttl, tos, idn, true⟩ := hall 19 (of_decide_eq_true (by kernel_rfl))
     obtain ⟨b, h20, hB, hbox⟩ := hall 20 (of_decide_eq_true (by kernel_rfl))
     have hBn : w.heap.size < b := by simp at hB; omega
     clear hB
     clear hall
     rw [lexA_slots vs 21 [(some 47, 0), (some 48, 1), (some 49, 2), (some 50, 3), (some 51, 4), (some 52, 5), (some 53, 6), (some 54, 7), (some 55, 8), (some 56, 9), (some 57, 10), (some 58, 11), (some 59, 12), (some 60, 13), (some 61, 14), (some 62, 15), (some 63, 16), (some 64, 17), (some 65, 18), (some 66, 19), (some 5, 20)] (by kernel_rfl)]
     simp only [List.foldl_cons, List.foldl_nil, h19, h20]
     show wpList _ _ _ [_] _ _
     obtain ⟨fz, cz⟩ := box7 W b hbox
     have hold : W.heap[w.heap.size]? = some (.cells #[.int .u32 0, .int .u32 0, .int .u8 0, .int .u8 0, .int .u8 0, .int .u16 0, .bool false] 59 (0, 0)) := (hb.block w.heap.size (by simp)).trans (alloc_own w _)
     obtain ⟨fo, co⟩ := box7 W w.heap.size hold
     clear hold hbox
     have f0 := fz 0
     have c0 := cz 0 _ rfl
     have f1 := fz 1
     have c1 := cz 1 _ rfl
     have f2 := fz 2
     have c2 := cz 2 _ rfl
     have f3 := fz 3
     have c3 := cz 3 _ rfl
     have f4 := fz 4
     have c4 := cz 4 _ rfl
     have f5 := fz 5
     have c5 := cz 5 _ rfl
     have f6 := fz 6
     have c6 := cz 6 _ rfl
     go_wp2_with fail
     obtain ⟨W1, hW1, dz, hb1⟩ := set7 W b (.int .u32 (src : Int)) (.int .u32 (dst : Int)) (.int .u8 (proto : Int)) (.int .u8 (ttl : Int)) (.int .u8 (tos : Int)) (.int .u16 (idn : Int)) (.bool true) (fun j hj => ⟨_, cz j _ (Array.getElem?_eq_getElem (by simpa using hj))⟩)
     rw [hW1]
     clear hW1 f0 f1 f2 f3 f4 f5 f6 c0 c1 c2 c3 c4 c5 c6 cz fz
     have col : ∀ (j : Nat) (v : Value), (#[.int .u32 0, .int .u32 0, .int .u8 0, .int .u8 0, .int .u8 0, .int .u16 0, .bool false] : Array Value)[j]? = some v → W1.cell? ⟨w.heap.size, j, none⟩ = some v := fun j v hv => (hb1.cell (p := ⟨w.heap.size, j, none⟩) hBn).trans (co j v hv)
     have fol : ∀ j, W1.frozen? ⟨w.heap.size, j, none⟩ = false := fun j => (hb1.frozen (p := ⟨w.heap.size, j, none⟩) hBn).trans (fo j)
     clear co fo
     have d0 := dz 0 _ rfl
     have f0 := fol 0
     have c0 := col 0 _ rfl
     have d1 := dz 1 _ rfl
     have f1 := fol 1
     have c1 := col 1 _ rfl
     have d2 := dz 2 _ rfl
     have f2 := fol 2
     have c2 := col 2 _ rfl
     have d3 := dz 3 _ rfl
     have f3 := fol 3
     have c3 := col 3 _ rfl
     have d4 := dz 4 _ rfl
     have f4 := fol 4
     have c4 := col 4 _ rfl
     have d5 := dz 5 _ rfl
     have f5 := fol 5
     have c5 := col 5 _ rfl
     have d6 := dz 6 _ rfl
     have f6 := fol 6
     have c6 := col 6 _ rfl
     have hne : ¬ w.heap.size = b := by omega
     have hne2 : ¬ b = w.heap.size := by omega
     clear dz fol
     go_region
     all_goals go_wp2
     all_goals
       obtain ⟨W2, hW2, ez, hb2⟩ := set7 W1 w.heap.size (.int .u32 (src : Int)) (.int .u32 (dst : Int)) (.int .u8 (proto : Int)) (.int .u8 (ttl : Int)) (.int .u8 (tos : Int)) (.int .u16 (idn : Int)) (.bool true) (fun j hj => ⟨_, col j _ (Array.getElem?_eq_getElem (by simpa using hj))⟩)
       rw [hW2]
       have e0 := ez 0 _ rfl
       have e1 := ez 1 _ rfl
       have e2 := ez 2 _ rfl
       have e3 := ez 3 _ rfl
       have e4 := ez 4 _ rfl
       have e5 := ez 5 _ rfl
       have e6 := ez 6 _ rfl
       refine bodyPost_ret (v := .tuple #[hv ⟨src, dst, proto, ttl, tos, idn, true⟩, .string (s.extract 20 s.size), .int .i64 0]) ?_ rfl ?_
       · simp [results, Tryz.f55, go_sem, e0, e1, e2, e3, e4, e5, e6]
       · exact ⟨by rw [decV, HE.out, HRD.out]; rfl, st_drew ((st_call (st_alloc (Below.refl _ _) _) hb).trans ((hb1.mono (Nat.le_of_lt hBn)).trans hb2))⟩
end Go.Proofs.YtpmnmnflaijaaaaGreat.IpDec
