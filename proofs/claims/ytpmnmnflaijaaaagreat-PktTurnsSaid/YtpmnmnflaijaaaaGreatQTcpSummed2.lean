/-
  Laws for a proof of package pkt: 2 texts in one.
-/
import Derived.Test.YtpmnmnflaijaaaaGreatQNumA327
import Derived.Test.YtpmnmnflaijaaaaGreatQTcpRef4
import Derived.Test.YtpmnmnflaijaaaaGreatQSumStrs3
namespace Go.Proofs.YtpmnmnflaijaaaaGreat.IpP
open Go.RowKit TupMath SumMath IpMath Litb Calm Rel IpRef IpHead IpEnc Num SumWords SumStrs SumOf
set_option linter.unusedVariables false
set_option maxRecDepth 100000
def dfw (h : Hd) : Nat := if h.df then 16384 else 0
theorem dfw_le (h : Hd) : dfw h ≤ 65535 := by unfold dfw; split <;> omega
def frontB (h : Hd) (n : Nat) : List Nat := [69, h.tos] ++ w2s [n, h.id, dfw h] ++ [h.ttl, h.proto]
def backB (h : Hd) : List Nat := w4s [h.src, h.dst]
theorem hd_parts (h : Hd) (n s : Nat) : frontB h n ++ w2 s ++ backB h = hd h n s := by
 unfold frontB backB hd dfw w2s w4s
 cases h.df <;> rfl
theorem fb_cs (h : Hd) (n : Nat) : cs (frontB h n ++ backB h) = cs (hd h n 0) := by
 have e : wsum (frontB h n ++ backB h) = wsum (hd h n 0) := by
   rw [← hd_parts h n 0]
   unfold frontB backB w2s w4s
   simp only [w2, w4, List.flatMap_cons, List.flatMap_nil, List.cons_append, List.nil_append, List.append_nil, wsum]
   omega
 unfold cs
 rw [e]
theorem front_le (h : Hd) (k : h.ok) (n : Nat) (hn : n ≤ 65535) : ∀ x ∈ frontB h n, x ≤ 255 := by
 intro x hx
 refine hd_le h k n 0 hn (by decide) x ?_
 rw [← hd_parts]
 exact List.mem_append_left _ (List.mem_append_left _ hx)
theorem back_le (h : Hd) (k : h.ok) : ∀ x ∈ backB h, x ≤ 255 := by
 intro x hx
 refine hd_le h k 0 0 (by decide) (by decide) x ?_
 rw [← hd_parts]
 exact List.mem_append_right _ hx
theorem front_len (h : Hd) (n : Nat) : (frontB h n).length = 10 := rfl
theorem back_len (h : Hd) : (backB h).length = 8 := rfl
theorem partsP (h : Hd) (w : World) : Calls Tryz.prog 67 #[hv h] w fun e w' => e = .returned (.int .u16 ((dfw h : Nat) : Int)) ∧ Below w.heap.size w w' := by
 unfold dfw
 cases hdf : h.df
 all_goals
   go_enter Tryz.func67, Tryz.ntmps67
   go_wp2
   go_ret
   exact ⟨rfl, st_alloc (Below.refl _ _) _⟩
theorem layB (h : Hd) (w : World) (k : h.ok) : Calls Tryz.prog 51 #[.slice (some ⟨w.heap.size, 0, none⟩) 2 2] (w.alloc (.cells #[.int .u32 (h.src : Int), .int .u32 (h.dst : Int)] 22)) fun e w' => e = .returned (.string (ofB (backB h))) ∧ Below (w.alloc (.cells #[.int .u32 (h.src : Int), .int .u32 (h.dst : Int)] 22)).heap.size (w.alloc (.cells #[.int .u32 (h.src : Int), .int .u32 (h.dst : Int)] 22)) w' :=
 layH32 (HoldK.new .u32 w [h.src, h.dst] _) (by simp) (by simp) (by intro x hx; simp at hx; have := k.src; have := k.dst; omega)
theorem layC (c : Nat) (w : World) (hc : c ≤ 65535) : Calls Tryz.prog 49 #[.slice (some ⟨w.heap.size, 0, none⟩) 1 1] (w.alloc (.cells #[.int .u16 (c : Int)] 23)) fun e w' => e = .returned (.string (ofB (w2 c))) ∧ Below (w.alloc (.cells #[.int .u16 (c : Int)] 23)).heap.size (w.alloc (.cells #[.int .u16 (c : Int)] 23)) w' :=
 layH16 (HoldK.new .u16 w [c] _) (by simp) (by simp) (by intro x hx; simp at hx; omega)
def relE (h : Hd) (n b : Nat) : Nat → Value → World → Prop
 | 0 => fun v _ => v = .pointer (some ⟨b, 4, none⟩)
 | 1 => fun v _ => v = .int .u8 (h.tos : Int)
 | 2 => HoldK .u8 [69, h.tos]
 | 3 => fun v _ => v = .string (ofB [69, h.tos])
 | 4 => fun v _ => v = .int .i64 (n : Int)
 | 5 => fun v _ => v = .int .u16 (n : Int)
 | 6 => fun v _ => v = .pointer (some ⟨b, 5, none⟩)
 | 7 => fun v _ => v = .int .u16 (h.id : Int)
 | 8 => fun v _ => v = hv h
 | 9 => fun v _ => v = .int .u16 ((dfw h : Nat) : Int)
 | 10 => HoldK .u16 [n, h.id, dfw h]
 | 11 => fun v _ => v = .string (ofB (w2s [n, h.id, dfw h]))
 | 12 => fun v _ => v = .string (ofB ([69, h.tos] ++ w2s [n, h.id, dfw h]))
 | 13 => fun v _ => v = .pointer (some ⟨b, 3, none⟩)
 | 14 => fun v _ => v = .int .u8 (h.ttl : Int)
 | 15 => fun v _ => v = .pointer (some ⟨b, 2, none⟩)
 | 16 => fun v _ => v = .int .u8 (h.proto : Int)
 | 17 => HoldK .u8 [h.ttl, h.proto]
 | 18 => fun v _ => v = .string (ofB [h.ttl, h.proto])
 | 19 => fun v _ => v = .string (ofB (frontB h n))
 | 20 => fun v _ => v = .string (ofB (frontB h n))
 | _ => fun _ _ => True
theorem relE_more (h : Hd) (n b : Nat) (i : Nat) (v : Value) (w w' : World) (hr : relE h n b i v w) (hb : Below w.heap.size w w') : relE h n b i v w' := by
 unfold relE at hr ⊢
 split at hr <;> first | exact hr | exact hr.more hb
attribute [local go_sem] relUpon
set_option maxHeartbeats 16000000 in
theorem encP (h : Hd) (l : ByteArray) (w : World) (k : h.ok) (hl : l.size ≤ 1000000) : Calls Tryz.prog 38 #[hv h, .string l] w fun e w' => e = .returned (encV h l) ∧ Below w.heap.size w w' := by
 unfold encV
 by_cases hn : 20 + l.size ≤ 65535
 · rw [if_pos hn]
   have hls : l.size ≤ 65535 := by omega
   have e20 : (20 : Int) + (l.size : Int) = ((20 + l.size : Nat) : Int) := by omega
   have HP := Lib.hid (show pkt h (bz l) = hd h (20 + l.size) (cs (hd h (20 + l.size) 0)) ++ bz l by unfold pkt; rw [bz_len])
   generalize 20 + l.size = n at hn e20 HP
   have l1 : ∀ x ∈ [69, h.tos], x ≤ 255 := by intro x hx; simp at hx; have := k.tos; omega
   have l2 : ∀ x ∈ [n, h.id, dfw h], x ≤ 65535 := by intro x hx; simp at hx; have := k.id; have := dfw_le h; omega
   have l3 : ∀ x ∈ [h.ttl, h.proto], x ≤ 255 := by intro x hx; simp at hx; have := k.ttl; have := k.proto; omega
   have l4 : ∀ x ∈ [h.src, h.dst], x ≤ 4294967295 := by intro x hx; simp at hx; have := k.src; have := k.dst; omega
   have hni : ¬ (65535 : Int) < (n : Int) := by omega
   have hcs := cs_le (hd h n 0)
   have HCS := Lib.hid (fb_cs h n)
   generalize cs (hd h n 0) = c at hcs HCS HP
   have l5 : ∀ x ∈ [c], x ≤ 65535 := by intro x hx; simp at hx; omega
   have HSUM := Lib.hid (show cs (cat [ofB (frontB h n), ofB (backB h)]) = c by
     show cs (bz (ofB (frontB h n)) ++ (bz (ofB (backB h)) ++ [])) = c
     rw [bz_ofB (front_le h k n hn), bz_ofB (back_le h k), List.append_nil]
     exact HCS.out)
   go_enter Tryz.func38, Tryz.ntmps38
   go_wp2_with fail
   have cells : ∀ W, Below (w.alloc (.cells #[.int .u32 (h.src : Int), .int .u32 (h.dst : Int), .int .u8 (h.proto : Int), .int .u8 (h.ttl : Int), .int .u8 (h.tos : Int), .int .u16 (h.id : Int), .bool h.df] 59)).heap.size (w.alloc (.cells #[.int .u32 (h.src : Int), .int .u32 (h.dst : Int), .int .u8 (h.proto : Int), .int .u8 (h.ttl : Int), .int .u8 (h.tos : Int), .int .u16 (h.id : Int), .bool h.df] 59)) W → ∀ (j : Nat) (v : Value), (#[.int .u32 (h.src : Int), .int .u32 (h.dst : Int), .int .u8 (h.proto : Int), .int .u8 (h.ttl : Int), .int .u8 (h.tos : Int), .int .u16 (h.id : Int), .bool h.df] : Array Value)[j]? = some v → W.cell? ⟨w.heap.size, j, none⟩ = some v := fun W hb j v hv =>
     ((hb.cell (p := ⟨w.heap.size, j, none⟩) (by simp)).trans (World.cell?_alloc_mark w _ _ (0, 0) j)).trans hv
   refine wp_region_see 52 (relE h n w.heap.size) rfl (by kernel_rfl) (by kernel_rfl) (by kernel_rfl) (relE_more h n w.heap.size) ?_ ?_
   · intro i hi
     have hi2 : i < 21 := by simpa using hi
     clear hi
     match i, hi2 with
     | 0, _ =>
       intro ρ W hb hc hg hf h0 hd
       have t2 := h0 2 (by kernel_rfl)
       clear hd h0
       go_simp
       exact ⟨rfl, Below.refl _ _⟩
     | 1, _ =>
       intro ρ W hb hc hg hf h0 hd
       have d0 : ρ (.tmp 14) = .pointer (some ⟨w.heap.size, 4, none⟩) := hd 0 14 (by kernel_rfl) (by kernel_rfl)
       have c4 := cells W hb 4 _ rfl
       clear hd h0
       go_simp
       exact ⟨rfl, Below.refl _ _⟩
     | 2, _ =>
       intro ρ W hb hc hg hf h0 hd
       have d1 : ρ (.tmp 15) = .int .u8 (h.tos : Int) := hd 1 15 (by kernel_rfl) (by kernel_rfl)
       clear hd h0
       go_simp
       exact ⟨HoldK.new .u8 W [69, h.tos] _, st_alloc (Below.refl _ _) _⟩
     | 3, _ =>
       intro ρ W hb hc hg hf h0 hd
       have dh2 : HoldK .u8 [69, h.tos] (ρ (.tmp 16)) W := hd 2 16 (by kernel_rfl) (by kernel_rfl)
       clear hd h0
       go_simp
       exact (layH8 dh2 (by simp) (by simp) l1).mono fun e w' ⟨he, hb⟩ => ⟨_, he, rfl, hb⟩
     | 4, _ =>
       intro ρ W hb hc hg hf h0 hd
       have t6 := h0 6 (by kernel_rfl)
       clear hd h0
       go_simp
       exact ⟨rfl, Below.refl _ _⟩
     | 5, _ =>
       intro ρ W hb hc hg hf h0 hd
       have d4 : ρ (.tmp 18) = .int .i64 (n : Int) := hd 4 18 (by kernel_rfl) (by kernel_rfl)
       clear hd h0
       have e16 : IntKind.u16.wrap (n : Int) = (n : Int) := by rw [IntKind.wrap_u16]; omega
       go_simp
       exact ⟨rfl, Below.refl _ _⟩
     | 6, _ =>
       intro ρ W hb hc hg hf h0 hd
       have t2 := h0 2 (by kernel_rfl)
       clear hd h0
       go_simp
       exact ⟨rfl, Below.refl _ _⟩
     | 7, _ =>
       intro ρ W hb hc hg hf h0 hd
       have d6 : ρ (.tmp 20) = .pointer (some ⟨w.heap.size, 5, none⟩) := hd 6 20 (by kernel_rfl) (by kernel_rfl)
       have c5 := cells W hb 5 _ rfl
       clear hd h0
       go_simp
       exact ⟨rfl, Below.refl _ _⟩
     | 8, _ =>
       intro ρ W hb hc hg hf h0 hd
       have t2 := h0 2 (by kernel_rfl)
       have c0 := cells W hb 0 _ rfl
       have c1 := cells W hb 1 _ rfl
       have c2 := cells W hb 2 _ rfl
       have c3 := cells W hb 3 _ rfl
       have c4 := cells W hb 4 _ rfl
       have c5 := cells W hb 5 _ rfl
       have c6 := cells W hb 6 _ rfl
       clear hd h0
       go_simp
       exact ⟨rfl, Below.refl _ _⟩
     | 9, _ =>
       intro ρ W hb hc hg hf h0 hd
       have d8 : ρ (.tmp 22) = hv h := hd 8 22 (by kernel_rfl) (by kernel_rfl)
       clear hd h0
       go_simp
       exact (partsP h W).mono fun e w' ⟨he, hb⟩ => ⟨_, he, rfl, hb⟩
     | 10, _ =>
       intro ρ W hb hc hg hf h0 hd
       have d5 : ρ (.tmp 19) = .int .u16 (n : Int) := hd 5 19 (by kernel_rfl) (by kernel_rfl)
       have d7 : ρ (.tmp 21) = .int .u16 (h.id : Int) := hd 7 21 (by kernel_rfl) (by kernel_rfl)
       have d9 : ρ (.tmp 23) = .int .u16 ((dfw h : Nat) : Int) := hd 9 23 (by kernel_rfl) (by kernel_rfl)
       clear hd h0
       go_simp
       exact ⟨HoldK.new .u16 W [n, h.id, dfw h] _, st_alloc (Below.refl _ _) _⟩
     | 11, _ =>
       intro ρ W hb hc hg hf h0 hd
       have dh10 : HoldK .u16 [n, h.id, dfw h] (ρ (.tmp 24)) W := hd 10 24 (by kernel_rfl) (by kernel_rfl)
       clear hd h0
       go_simp
       exact (layH16 dh10 (by simp) (by simp) l2).mono fun e w' ⟨he, hb⟩ => ⟨_, he, rfl, hb⟩
     | 12, _ =>
       intro ρ W hb hc hg hf h0 hd
       have d3 : ρ (.tmp 17) = .string (ofB [69, h.tos]) := hd 3 17 (by kernel_rfl) (by kernel_rfl)
       have d11 : ρ (.tmp 25) = .string (ofB (w2s [n, h.id, dfw h])) := hd 11 25 (by kernel_rfl) (by kernel_rfl)
       have hz := app_size (a := [69, h.tos]) (b := w2s [n, h.id, dfw h]) (Nat.le_of_ble_eq_true rfl)
       clear hd h0
       go_simp
       exact ⟨by rw [ofB_app]; rfl, Below.refl _ _⟩
     | 13, _ =>
       intro ρ W hb hc hg hf h0 hd
       have t2 := h0 2 (by kernel_rfl)
       clear hd h0
       go_simp
       exact ⟨rfl, Below.refl _ _⟩
     | 14, _ =>
       intro ρ W hb hc hg hf h0 hd
       have d13 : ρ (.tmp 27) = .pointer (some ⟨w.heap.size, 3, none⟩) := hd 13 27 (by kernel_rfl) (by kernel_rfl)
       have c3 := cells W hb 3 _ rfl
       clear hd h0
       go_simp
       exact ⟨rfl, Below.refl _ _⟩
     | 15, _ =>
       intro ρ W hb hc hg hf h0 hd
       have t2 := h0 2 (by kernel_rfl)
       clear hd h0
       go_simp
       exact ⟨rfl, Below.refl _ _⟩
     | 16, _ =>
       intro ρ W hb hc hg hf h0 hd
       have d15 : ρ (.tmp 29) = .pointer (some ⟨w.heap.size, 2, none⟩) := hd 15 29 (by kernel_rfl) (by kernel_rfl)
       have c2 := cells W hb 2 _ rfl
       clear hd h0
       go_simp
       exact ⟨rfl, Below.refl _ _⟩
     | 17, _ =>
       intro ρ W hb hc hg hf h0 hd
       have d14 : ρ (.tmp 28) = .int .u8 (h.ttl : Int) := hd 14 28 (by kernel_rfl) (by kernel_rfl)
       have d16 : ρ (.tmp 30) = .int .u8 (h.proto : Int) := hd 16 30 (by kernel_rfl) (by kernel_rfl)
       clear hd h0
       go_simp
       exact ⟨HoldK.new .u8 W [h.ttl, h.proto] _, st_alloc (Below.refl _ _) _⟩
     | 18, _ =>
       intro ρ W hb hc hg hf h0 hd
       have dh17 : HoldK .u8 [h.ttl, h.proto] (ρ (.tmp 31)) W := hd 17 31 (by kernel_rfl) (by kernel_rfl)
       clear hd h0
       go_simp
       exact (layH8 dh17 (by simp) (by simp) l3).mono fun e w' ⟨he, hb⟩ => ⟨_, he, rfl, hb⟩
     | 19, _ =>
       intro ρ W hb hc hg hf h0 hd
       have d12 : ρ (.tmp 26) = .string (ofB ([69, h.tos] ++ w2s [n, h.id, dfw h])) := hd 12 26 (by kernel_rfl) (by kernel_rfl)
       have d18 : ρ (.tmp 32) = .string (ofB [h.ttl, h.proto]) := hd 18 32 (by kernel_rfl) (by kernel_rfl)
       have hz := app_size (a := [69, h.tos] ++ w2s [n, h.id, dfw h]) (b := [h.ttl, h.proto]) (Nat.le_of_ble_eq_true rfl)
       clear hd h0
       go_simp
       exact ⟨by rw [ofB_app]; rfl, Below.refl _ _⟩
     | 20, _ =>
       intro ρ W hb hc hg hf h0 hd
       have d19 : ρ (.tmp 33) = .string (ofB (frontB h n)) := hd 19 33 (by kernel_rfl) (by kernel_rfl)
       clear hd h0
       go_simp
       exact ⟨rfl, Below.refl _ _⟩
     | i + 21, hlt => exact absurd hlt (by omega)
   · intro vs W hb hall
     have h19 : vs 20 = .string (ofB (frontB h n)) := hall 20 (of_decide_eq_true (by kernel_rfl))
     have HCELL := Lib.hid (cells W hb)
     have HB := Lib.hid (st_call (st_alloc (Below.refl _ _) _) hb)
     clear hall cells hb
     rw [lexA_slots vs _ [(some 14, 0), (some 15, 1), (some 16, 2), (some 17, 3), (some 18, 4), (some 19, 5), (some 20, 6), (some 21, 7), (some 22, 8), (some 23, 9), (some 24, 10), (some 25, 11), (some 26, 12), (some 27, 13), (some 28, 14), (some 29, 15), (some 30, 16), (some 31, 17), (some 32, 18), (some 33, 19), (some 7, 20)] (by kernel_rfl)]
     simp only [List.foldl_cons, List.foldl_nil, h19]
     have c0 := HCELL.out 0 _ rfl
     have c1 := HCELL.out 1 _ rfl
     go_wp2_with fail
     refine (layB h W k).mono ?_
     rintro e wA ⟨rfl, hb2⟩
     have HB2 := Lib.hid (st_call HB.out (st_call (st_alloc (Below.refl _ W) _) hb2))
     clear hb2
     go_wp2_with fail
     refine (of_any _ _ _ _ _ (strs2 _ _ _ _) (by omega) ?_).mono ?_
     · intro s hs
       simp only [List.mem_cons, List.not_mem_nil, or_false] at hs
       rcases hs with rfl | rfl <;> rw [ofB_size] <;> simp [front_len, back_len]
     rw [show cs (cat [ofB (frontB h n), ofB (backB h)]) = c from HSUM.out]
     rintro e wB ⟨rfl, hb3⟩
     have HB3 := Lib.hid (st_call HB2.out (st_call (st_alloc (Below.refl _ _) _) hb3))
     clear hb3
     go_wp2_with fail
     refine (layC c wB hcs).mono ?_
     rintro e wC ⟨rfl, hb4⟩
     have HB4 := Lib.hid (st_call HB3.out (st_call (st_alloc (Below.refl _ _) _) hb4))
     clear hb4
     have z1 := app_size (a := frontB h n) (b := w2 c) (Nat.le_of_ble_eq_true rfl)
     have y1 : (ofB (frontB h n)).size = 10 := (ofB_size _).trans (front_len h n)
     have y2 : (ofB (w2 c)).size = 2 := ofB_size _
     have y3 : (ofB (backB h)).size = 8 := (ofB_size _).trans (back_len h)
     have z2 : (ofB (frontB h n)).size + (ofB (w2 c)).size + (ofB (backB h)).size ≤ 9223372036854775807 := by omega
     have z3 : (ofB (frontB h n)).size + (ofB (w2 c)).size + (ofB (backB h)).size + l.size ≤ 9223372036854775807 := by omega
     clear y1 y2 y3 c0 c1 h19
     go_wp2_with fail
     go_ret2
     refine ⟨?_, HB4.out⟩
     have hval : ofB (frontB h n) ++ ofB (w2 c) ++ ofB (backB h) ++ l = ofB (pkt h (bz l)) := by
       rw [HP.out, ofB_app (frontB h n), ofB_app (frontB h n ++ w2 c), hd_parts, ← ofB_app (hd h n c), ofB_bz]
     rw [← hval]
     rfl
 · rw [if_neg hn]
   have hni : (65535 : Int) < 20 + (l.size : Int) := by omega
   go_enter Tryz.func38, Tryz.ntmps38
   go_wp2
   go_ret2
   exact ⟨rfl, st_alloc (Below.refl _ _) _⟩
end Go.Proofs.YtpmnmnflaijaaaaGreat.IpP
namespace Go.Proofs.YtpmnmnflaijaaaaGreat.TcpSummed
open Go.RowKit TupMath SumMath IpMath IpRef TcpMath TcpRef Litb Rel Num SumWords SumStrs Go.Proofs.YtpmnmnflaijaaaaGreat.Own
set_option linter.unusedVariables false
set_option maxRecDepth 100000
theorem info_str : (Tryz.prog.info? 9).map (fun i => (i.zero, i.size, i.bytes)) = some (some (.string ⟨#[]⟩), 1, 16) := by kernel_rfl
theorem app_strs {ops : Array Oper} {rest : List Oper} {o : Oper} {a : Act} {Q : Exit → Act → World → Prop} (W : World) (hgd : o.guard = none) (s x : Operand)
   (ho : o.op = .call { callee := .builtin .append, args := #[s, x], argTypes := #[113, 113] })
   (base : Nat) (y : ByteArray) (B : Nat) (hB : W.heap.size = B) (hs : a.eval s = .slice (some ⟨B, 0, none⟩) 1 1) (hbase : base ≤ W.heap.size)
   (A : Option Addr) (n c : Nat) (L : List ByteArray) (hx : a.eval x = .slice A n c) (hr : StrR W W.heap.size A n L) (h0 : 0 < n) (hn : n ≤ 1000)
   (h : ∀ A' c' w', StrR w' w'.heap.size A' (1 + n) (y :: L) → Below base W w' → wpList Tryz.prog ops Q rest (a.put o.dst (.slice A' (1 + n) c')) w') :
   wpList Tryz.prog ops Q (o :: rest) a (W.alloc (.cells #[.string y] 9)) := by
 subst hB
 obtain ⟨i0, hi, hz0, hz1, hz2⟩ := info_parts info_str
 have hown : (W.alloc (.cells #[.string y] 9)).ownsRow base 9 1 (.slice (some ⟨W.heap.size, 0, none⟩) 1 1) 1 [.string y] :=
   ⟨rfl, .inr ⟨W.heap.size, 1, #[.string y], rfl, hbase, heap_alloc_new W _, Nat.le_refl _, by unfold maxLen; omega, rfl, rfl⟩⟩
 have hr2 := strs_alloc hr (.cells #[.string y] 9)
 obtain ⟨b, off, rfl, hb, hc⟩ := hr2.at_ h0
 have hlen := hr.len
 refine wpList_append_own _ hgd s x 113 ho base 9 i0 _ 1 16 Tryz.underlying113 hi hz0 hz1 hz2 rfl (by decide) _ 1 [.string y] hs hown ⟨b, off, none⟩ n c (L.map Value.string) hx (by simp [hlen]) ?_ ?_ (by unfold maxLen; omega) (by omega) (by simp; omega) ?_
 · intro j u hj
   have e : (⟨b, off, none⟩ : Addr).add j = ⟨b, off + j, none⟩ := by
     unfold Addr.add
     split <;> simp_all
   rw [List.getElem?_map] at hj
   by_cases hjl : j < L.length
   · rw [List.getElem?_eq_getElem hjl] at hj
     rw [e, hc j hjl]
     exact hj
   · rw [List.getElem?_eq_none (by omega)] at hj; cases hj
 · intro u hu
   obtain ⟨z, _, rfl⟩ := List.mem_map.1 hu
   rfl
 · intro v' w' h2 h3 _
   obtain ⟨A', c', rfl⟩ := own_form h2
   obtain ⟨g, rfl, hg1, hg2, hcell, _⟩ := own_at h2 (by omega)
   refine h _ c' w' ⟨by rw [List.length_cons]; omega, fun _ => ⟨g, 0, rfl, hg2, fun j hj => ?_⟩⟩ ?_
   · refine hcell j _ ?_
     match j, hj with
     | 0, _ => rfl
     | j + 1, hj =>
       rw [List.cons_append, List.nil_append, List.getElem?_cons_succ, List.getElem?_map, List.getElem?_eq_getElem (by simpa using hj)]
       rfl
   · refine (((Below.refl base W).alloc hbase _).grown h3 (by simp; omega) fun k hk => ?_)
     exact (hown.lt k hk).1
theorem lay32s (x y : Nat) (w : World) (hx : x ≤ 4294967295) (hy : y ≤ 4294967295) : Calls Tryz.prog 51 #[.slice (some ⟨w.heap.size, 0, none⟩) 2 2] (w.alloc (.cells #[.int .u32 (x : Int), .int .u32 (y : Int)] 22)) fun e w' => e = .returned (.string (ofB (w4s [x, y]))) ∧ Below (w.alloc (.cells #[.int .u32 (x : Int), .int .u32 (y : Int)] 22)).heap.size (w.alloc (.cells #[.int .u32 (x : Int), .int .u32 (y : Int)] 22)) w' :=
 layH32 (HoldK.new .u32 w [x, y] _) (by simp) (by simp) (by intro z hz; simp at hz; omega)
theorem lay16s (y : Nat) (w : World) (hy : y ≤ 65535) : Calls Tryz.prog 49 #[.slice (some ⟨w.heap.size, 0, none⟩) 2 2] (w.alloc (.cells #[.int .u16 6, .int .u16 (y : Int)] 23)) fun e w' => e = .returned (.string (ofB (w2s [6, y]))) ∧ Below (w.alloc (.cells #[.int .u16 6, .int .u16 (y : Int)] 23)).heap.size (w.alloc (.cells #[.int .u16 6, .int .u16 (y : Int)] 23)) w' :=
 layH16 (HoldK.new .u16 w [6, y] _) (by simp) (by simp) (by intro z hz; simp at hz; omega)
theorem ps_words (src dst n : Nat) : w4s [src, dst] ++ w2s [6, n] = ps src dst n := rfl
set_option maxHeartbeats 16000000 in
theorem summed_any (src dst : Nat) (A : Option Addr) (n c : Nat) (L : List ByteArray) (w : World) (hs : src ≤ 4294967295) (hd : dst ≤ 4294967295) (hr : StrR w w.heap.size A n L) (h0 : 0 < n) (hn : n ≤ 1000) (hl : (cat L).length ≤ 65535) :
   Calls Tryz.prog 66 #[.int .u32 (src : Int), .int .u32 (dst : Int), .slice A n c] w fun e w' => ∃ A' c', e = .returned (.slice A' (1 + n) c') ∧ StrR w' w'.heap.size A' (1 + n) (ofB (ps src dst (cat L).length) :: L) ∧ Below w.heap.size w w' := by
 have HR := Lib.hid hr
 have hlen := hr.len
 clear hr
 subst hlen
 go_enter Tryz.func66, Tryz.ntmps66
 go_wp2
 go_loopw [7, 13] (fun v i wr => ∃ k : Nat, i = .int .i64 (k : Int) ∧ k ≤ L.length ∧ v = .int .i64 ((cat (L.take k)).length : Int) ∧ Below w.heap.size w wr) (fun _ i _ => L.length - (intOf i).toNat)
 case atStart => exact ⟨0, rfl, by omega, rfl, Below.refl _ _⟩
 case round =>
   obtain ⟨k, rfl, hk, rfl, hB⟩ := hrel
   have HB := Lib.hid hB
   clear hB
   by_cases hlt : k < L.length
   · obtain ⟨b, off, rfl, hb, hc⟩ := HR.out.at_ hlt
     have hkl := hlt
     have hcx : wr.cell? ⟨b, off + k, none⟩ = some (.string L[k]) := (HB.out.cell (p := ⟨b, off + k, none⟩) hb).trans (hc k hkl)
     have e1 := congrArg List.length (cat_take L k hkl)
     have e2 := sub_len L k L[k].size hkl
     rw [List.length_append, List.length_take, SumPlain.bz_len] at e2
     rw [List.length_append, SumPlain.bz_len] at e1
     clear hc
     generalize L[k] = s at hcx e1 e2
     generalize (cat (L.take k)).length = q at e1 e2
     have E1 := Lib.hid e1
     have hq : q + s.size ≤ 65535 := by omega
     clear e1 e2
     go_wp2
     go_roundw
     case rel => exact ⟨k + 1, by go_num, by omega, by rw [E1.out]; rfl, HB.out⟩
     case measure => simp [intOf]; omega
   · obtain rfl : k = L.length := by omega
     have e : (cat (L.take L.length)).length = (cat L).length := by rw [List.take_of_length_le (Nat.le_refl _)]
     rw [e]
     clear e
     generalize hq : (cat L).length = q at hl
     have HQ := Lib.hid hq
     have e16 : IntKind.u16.wrap (q : Int) = (q : Int) := by rw [IntKind.wrap_u16]; omega
     clear hq
     go_wp2_with fail
     refine (lay32s src dst wr hs hd).mono ?_
     rintro e w1 ⟨rfl, hb1⟩
     have B1 := Lib.hid (st_call (st_alloc HB.out _) hb1)
     clear hb1
     go_wp2_with fail
     refine (lay16s q w1 hl).mono ?_
     rintro e w2 ⟨rfl, hb2⟩
     have B2 := Lib.hid (st_call (st_alloc B1.out _) hb2)
     have hsz := B2.out.size
     have hz := app_size (a := w4s [src, dst]) (b := w2s [6, q]) (Nat.le_of_ble_eq_true rfl)
     clear hb2
     go_wp2_with (at_builtin; refine stop_here ?_)
     refine stop_go (app_strs _ rfl _ _ rfl w.heap.size _ _ rfl rfl hsz A L.length c L rfl ?_ h0 hn ?_)
     · exact (HR.out.below B2.out).mono B2.out.size
     · intro A' c' w' hS hB'
       go_wp2
       go_ret
       refine ⟨A', c', rfl, ?_, B2.out.trans hB'⟩
       rw [HQ.out, ← ps_words, ← ofB_app]
       exact hS
end Go.Proofs.YtpmnmnflaijaaaaGreat.TcpSummed
