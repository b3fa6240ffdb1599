/-
  Laws for a proof of package pkt: 4 texts in one.
-/
import Derived.Test.YtpmnmnflaijaaaaGreatQOptFew9
import Derived.Test.YtpmnmnflaijaaaaGreatQNumA327
import Derived.Test.YtpmnmnflaijaaaaGreatQOptTurn10
import Derived.Deep.QuietTactic
namespace Go.Proofs.YtpmnmnflaijaaaaGreat.OptPT
open Cells (CellsAt)
open Go.RowKit TupMath SumMath Litb Calm IpMath IpRef Rel Num OptMath OptRef OptPlc OptSame OptMay OptTk OptQ
set_option linter.unusedVariables false
set_option maxRecDepth 100000
theorem app_size {a b : List Nat} (h : a.length + b.length ≤ 9223372036854775807) : (ofB a).size + (ofB b).size ≤ 9223372036854775807 := by rw [ofB_size, ofB_size]; exact h
theorem seg2 (o : Opn) : w1s [2, 4] ++ w2s [o.mss] = segO o 2 := by show [2, 4] ++ (w2 o.mss ++ []) = _; rw [List.append_nil]; rfl
theorem seg8 (o : Opn) : w1s [1, 1, 8, 10] ++ w4s [o.val, o.echo] = segO o 8 := by show [1, 1, 8, 10] ++ (w4 o.val ++ (w4 o.echo ++ [])) = _; rw [List.append_nil]; rfl
set_option maxHeartbeats 4000000 in
theorem noneP (w : World) : Calls Tryz.prog 14 #[] w fun e w' => e = .returned (ov none0 none 0) ∧ Below w.heap.size w w' := by
 go_enter Tryz.func14, Tryz.ntmps14
 go_wp2_with fail
 refine bodyPost_ret (v := ov none0 none 0) ?_ rfl ⟨rfl, st_alloc (Below.refl _ _) _⟩
 simp [results, Tryz.f14, go_sem, none0]
set_option maxHeartbeats 16000000 in
theorem thereP (o : Opn) (A : Option Addr) (c k : Nat) (w : World) (hk : k ≤ 255) : Calls Tryz.prog 74 #[ov o A c, .int .u8 (k : Int)] w fun e w' => e = .returned (.bool (there o k)) ∧ Below w.heap.size w w' := by
 by_cases c2 : k = 2
 · subst c2
   have e : there o 2 = ((o.mss : Int) != 0) := by
     show decide (o.mss ≠ 0) = _
     by_cases h : o.mss = 0
     · rw [h]; rfl
     · rw [decide_eq_true h]; exact (bne_iff_ne.2 (by omega)).symm
   rw [e]
   clear e
   go_enter Tryz.func74, Tryz.ntmps74
   go_wp2
   go_ret
   exact ⟨rfl, st_alloc (Below.refl _ _) _⟩
 by_cases c3 : k = 3
 · subst c3
   have e : there o 3 = decide ((0 : Int) ≤ o.scale) := rfl
   rw [e]
   clear e
   go_enter Tryz.func74, Tryz.ntmps74
   go_wp2
   go_ret
   exact ⟨rfl, st_alloc (Below.refl _ _) _⟩
 by_cases c4 : k = 4
 · subst c4
   have e : there o 4 = o.sack := rfl
   rw [e]
   clear e
   go_enter Tryz.func74, Tryz.ntmps74
   go_wp2
   go_ret
   exact ⟨rfl, st_alloc (Below.refl _ _) _⟩
 by_cases c8 : k = 8
 · subst c8
   have e : there o 8 = o.time := rfl
   rw [e]
   clear e
   go_enter Tryz.func74, Tryz.ntmps74
   go_wp2
   go_ret
   exact ⟨rfl, st_alloc (Below.refl _ _) _⟩
 by_cases c5 : k = 5
 · subst c5
   have e : there o 5 = decide (0 < o.blocks.length) := rfl
   rw [e]
   clear e
   go_enter Tryz.func74, Tryz.ntmps74
   go_wp2
   go_ret
   exact ⟨rfl, st_alloc (Below.refl _ _) _⟩
 have e : there o k = false := by unfold there; rw [if_neg c2, if_neg c3, if_neg c4, if_neg c8, if_neg c5]
 rw [e]
 have q2 : ((k : Int) == 2) = false := beq_eq_false_iff_ne.2 (by omega)
 have q3 : ((k : Int) == 3) = false := beq_eq_false_iff_ne.2 (by omega)
 have q4 : ((k : Int) == 4) = false := beq_eq_false_iff_ne.2 (by omega)
 have q5 : ((k : Int) == 5) = false := beq_eq_false_iff_ne.2 (by omega)
 have q8 : ((k : Int) == 8) = false := beq_eq_false_iff_ne.2 (by omega)
 clear e
 go_enter Tryz.func74, Tryz.ntmps74
 go_wp2
 go_ret
 exact ⟨rfl, st_alloc (Below.refl _ _) _⟩
def relL3 (o : Opn) (b : Nat) : Nat → Value → World → Prop
 | 0 => fun v _ => v = .int .u8 2
 | 1 => HoldK .u8 [2, 4]
 | 2 => fun v _ => v = .string (ofB (w1s [2, 4]))
 | 3 => fun v _ => v = .pointer (some ⟨b, 0, none⟩)
 | 4 => fun v _ => v = .int .u16 (o.mss : Int)
 | 5 => HoldK .u16 [o.mss]
 | 6 => fun v _ => v = .string (ofB (w2s [o.mss]))
 | 7 => fun v _ => v = .string (ofB (segO o 2))
 | 8 => fun v _ => v = .string (ofB (segO o 2))
 | _ => fun _ _ => True
theorem relL3_more (o : Opn) (b : Nat) (i : Nat) (v : Value) (w w' : World) (hr : relL3 o b i v w) (hb : Below w.heap.size w w') : relL3 o b i v w' := by
 unfold relL3 at hr ⊢
 split at hr <;> first | exact hr | exact hr.more hb
def relL9 (o : Opn) (b : Nat) : Nat → Value → World → Prop
 | 0 => fun v _ => v = .int .u8 8
 | 1 => HoldK .u8 [1, 1, 8, 10]
 | 2 => fun v _ => v = .string (ofB (w1s [1, 1, 8, 10]))
 | 3 => fun v _ => v = .pointer (some ⟨b, 5, none⟩)
 | 4 => fun v _ => v = .int .u32 (o.val : Int)
 | 5 => fun v _ => v = .pointer (some ⟨b, 6, none⟩)
 | 6 => fun v _ => v = .int .u32 (o.echo : Int)
 | 7 => HoldK .u32 [o.val, o.echo]
 | 8 => fun v _ => v = .string (ofB (w4s [o.val, o.echo]))
 | 9 => fun v _ => v = .string (ofB (segO o 8))
 | 10 => fun v _ => v = .string (ofB (segO o 8))
 | _ => fun _ _ => True
theorem relL9_more (o : Opn) (b : Nat) (i : Nat) (v : Value) (w w' : World) (hr : relL9 o b i v w) (hb : Below w.heap.size w w') : relL9 o b i v w' := by
 unfold relL9 at hr ⊢
 split at hr <;> first | exact hr | exact hr.more hb
attribute [local go_sem] relUpon
set_option maxHeartbeats 16000000 in
theorem laid2 (o : Opn) (A : Option Addr) (c : Nat) (w : World) (k : o.ok) : Calls Tryz.prog 96 #[ov o A c, .int .u8 2] w fun e w' => e = .returned (.string (ofB (segO o 2))) ∧ Below w.heap.size w w' := by
 have HX := Lib.hid (fun (W : World) (hW : Below (w.alloc (.cells (oc o A c) 28)).heap.size (w.alloc (.cells (oc o A c) 28)) W) (j : Nat) (v : Value) (hv : (oc o A c)[j]? = some v) => ((hW.cell (p := ⟨w.heap.size, j, none⟩) (by simp)).trans (World.cell?_alloc_mark w _ _ (0, 0) j)).trans hv)
 have HB0 := Lib.hid (st_alloc (Below.refl _ w) (.cells (oc o A c) 28))
 go_enter Tryz.func96, Tryz.ntmps96
 go_wp2_with fail
 refine wp_region_see 70 (relL3 o w.heap.size) rfl (by kernel_rfl) (by kernel_rfl) (by kernel_rfl) (relL3_more o w.heap.size) ?_ ?_
 · intro i hi
   have hi2 : i < 9 := by simpa using hi
   clear hi
   match i, hi2 with
   | 0, _ =>
     intro ρ W hb hc hg hf h0 hd
     have t1 := h0 1 (by kernel_rfl)
     clear hd h0
     go_simp
     exact ⟨rfl, Below.refl _ _⟩
   | 1, _ =>
     intro ρ W hb hc hg hf h0 hd
     have d0 : ρ (.tmp 11) = .int .u8 2 := hd 0 11 (by kernel_rfl) (by kernel_rfl)
     clear hd h0
     go_simp
     exact ⟨HoldK.new .u8 W [2, 4] _, st_alloc (Below.refl _ _) _⟩
   | 2, _ =>
     intro ρ W hb hc hg hf h0 hd
     have dh1 : HoldK .u8 [2, 4] (ρ (.tmp 12)) W := hd 1 12 (by kernel_rfl) (by kernel_rfl)
     clear hd h0
     go_simp
     exact (layH8 dh1 (by simp) (by simp) (by intro x hx; simp at hx; omega)).mono fun e w' ⟨he, hb⟩ => ⟨_, he, rfl, hb⟩
   | 3, _ =>
     intro ρ W hb hc hg hf h0 hd
     have t2 := h0 2 (by kernel_rfl)
     clear hd h0
     go_simp
     exact ⟨rfl, Below.refl _ _⟩
   | 4, _ =>
     intro ρ W hb hc hg hf h0 hd
     have d3 : ρ (.tmp 14) = .pointer (some ⟨w.heap.size, 0, none⟩) := hd 3 14 (by kernel_rfl) (by kernel_rfl)
     have c0 := HX.out W hb 0 _ rfl
     clear hd h0
     go_simp
     exact ⟨rfl, Below.refl _ _⟩
   | 5, _ =>
     intro ρ W hb hc hg hf h0 hd
     have d4 : ρ (.tmp 15) = .int .u16 (o.mss : Int) := hd 4 15 (by kernel_rfl) (by kernel_rfl)
     clear hd h0
     go_simp
     exact ⟨HoldK.new .u16 W [o.mss] _, st_alloc (Below.refl _ _) _⟩
   | 6, _ =>
     intro ρ W hb hc hg hf h0 hd
     have dh5 : HoldK .u16 [o.mss] (ρ (.tmp 16)) W := hd 5 16 (by kernel_rfl) (by kernel_rfl)
     clear hd h0
     go_simp
     exact (layH16 dh5 (by simp) (by simp) (by intro x hx; simp at hx; have := k.mss; omega)).mono fun e w' ⟨he, hb⟩ => ⟨_, he, rfl, hb⟩
   | 7, _ =>
     intro ρ W hb hc hg hf h0 hd
     have d2 : ρ (.tmp 13) = .string (ofB (w1s [2, 4])) := hd 2 13 (by kernel_rfl) (by kernel_rfl)
     have d6 : ρ (.tmp 17) = .string (ofB (w2s [o.mss])) := hd 6 17 (by kernel_rfl) (by kernel_rfl)
     have hz := app_size (a := w1s [2, 4]) (b := w2s [o.mss]) (Nat.le_of_ble_eq_true rfl)
     clear hd h0
     go_simp
     exact ⟨congrArg Value.string (by rw [ofB_app]; exact congrArg ofB (seg2 o)), Below.refl _ _⟩
   | 8, _ =>
     intro ρ W hb hc hg hf h0 hd
     have d7 : ρ (.tmp 18) = .string (ofB (segO o 2)) := hd 7 18 (by kernel_rfl) (by kernel_rfl)
     clear hd h0
     go_simp
     exact ⟨rfl, Below.refl _ _⟩
   | i + 9, hlt => exact absurd hlt (by omega)
 · intro vs W hb hall
   have hl : vs 8 = .string (ofB (segO o 2)) := hall 8 (of_decide_eq_true (by kernel_rfl))
   have HBW := Lib.hid (HB0.out.trans (hb.mono HB0.out.size))
   clear hall hb
   go_wp2
   refine bodyPost_ret (v := .string (ofB (segO o 2))) ?_ rfl ⟨rfl, HBW.out⟩
   rw [← hl]
   exact (results_tmp rfl _ _ _).trans (congrArg (Result.ok · W) (lexA_get (N := 70) (by kernel_rfl) rfl vs 4 8 _ (by kernel_rfl) (of_decide_eq_true (by kernel_rfl))))
set_option maxHeartbeats 16000000 in
theorem laid8 (o : Opn) (A : Option Addr) (c : Nat) (w : World) (k : o.ok) : Calls Tryz.prog 96 #[ov o A c, .int .u8 8] w fun e w' => e = .returned (.string (ofB (segO o 8))) ∧ Below w.heap.size w w' := by
 have HX := Lib.hid (fun (W : World) (hW : Below (w.alloc (.cells (oc o A c) 28)).heap.size (w.alloc (.cells (oc o A c) 28)) W) (j : Nat) (v : Value) (hv : (oc o A c)[j]? = some v) => ((hW.cell (p := ⟨w.heap.size, j, none⟩) (by simp)).trans (World.cell?_alloc_mark w _ _ (0, 0) j)).trans hv)
 have HB0 := Lib.hid (st_alloc (Below.refl _ w) (.cells (oc o A c) 28))
 go_enter Tryz.func96, Tryz.ntmps96
 go_wp2_with fail
 refine wp_region_see 70 (relL9 o w.heap.size) rfl (by kernel_rfl) (by kernel_rfl) (by kernel_rfl) (relL9_more o w.heap.size) ?_ ?_
 · intro i hi
   have hi2 : i < 11 := by simpa using hi
   clear hi
   match i, hi2 with
   | 0, _ =>
     intro ρ W hb hc hg hf h0 hd
     have t1 := h0 1 (by kernel_rfl)
     clear hd h0
     go_simp
     exact ⟨rfl, Below.refl _ _⟩
   | 1, _ =>
     intro ρ W hb hc hg hf h0 hd
     have d0 : ρ (.tmp 34) = .int .u8 8 := hd 0 34 (by kernel_rfl) (by kernel_rfl)
     clear hd h0
     go_simp
     exact ⟨HoldK.new .u8 W [1, 1, 8, 10] _, st_alloc (Below.refl _ _) _⟩
   | 2, _ =>
     intro ρ W hb hc hg hf h0 hd
     have dh1 : HoldK .u8 [1, 1, 8, 10] (ρ (.tmp 35)) W := hd 1 35 (by kernel_rfl) (by kernel_rfl)
     clear hd h0
     go_simp
     exact (layH8 dh1 (by simp) (by simp) (by intro x hx; simp at hx; omega)).mono fun e w' ⟨he, hb⟩ => ⟨_, he, rfl, hb⟩
   | 3, _ =>
     intro ρ W hb hc hg hf h0 hd
     have t2 := h0 2 (by kernel_rfl)
     clear hd h0
     go_simp
     exact ⟨rfl, Below.refl _ _⟩
   | 4, _ =>
     intro ρ W hb hc hg hf h0 hd
     have d3 : ρ (.tmp 37) = .pointer (some ⟨w.heap.size, 5, none⟩) := hd 3 37 (by kernel_rfl) (by kernel_rfl)
     have c5 := HX.out W hb 5 _ rfl
     clear hd h0
     go_simp
     exact ⟨rfl, Below.refl _ _⟩
   | 5, _ =>
     intro ρ W hb hc hg hf h0 hd
     have t2 := h0 2 (by kernel_rfl)
     clear hd h0
     go_simp
     exact ⟨rfl, Below.refl _ _⟩
   | 6, _ =>
     intro ρ W hb hc hg hf h0 hd
     have d5 : ρ (.tmp 39) = .pointer (some ⟨w.heap.size, 6, none⟩) := hd 5 39 (by kernel_rfl) (by kernel_rfl)
     have c6 := HX.out W hb 6 _ rfl
     clear hd h0
     go_simp
     exact ⟨rfl, Below.refl _ _⟩
   | 7, _ =>
     intro ρ W hb hc hg hf h0 hd
     have d4 : ρ (.tmp 38) = .int .u32 (o.val : Int) := hd 4 38 (by kernel_rfl) (by kernel_rfl)
     have d6 : ρ (.tmp 40) = .int .u32 (o.echo : Int) := hd 6 40 (by kernel_rfl) (by kernel_rfl)
     clear hd h0
     go_simp
     exact ⟨HoldK.new .u32 W [o.val, o.echo] _, st_alloc (Below.refl _ _) _⟩
   | 8, _ =>
     intro ρ W hb hc hg hf h0 hd
     have dh7 : HoldK .u32 [o.val, o.echo] (ρ (.tmp 41)) W := hd 7 41 (by kernel_rfl) (by kernel_rfl)
     clear hd h0
     go_simp
     exact (layH32 dh7 (by simp) (by simp) (by intro x hx; simp at hx; have := k.val; have := k.echo; omega)).mono fun e w' ⟨he, hb⟩ => ⟨_, he, rfl, hb⟩
   | 9, _ =>
     intro ρ W hb hc hg hf h0 hd
     have d2 : ρ (.tmp 36) = .string (ofB (w1s [1, 1, 8, 10])) := hd 2 36 (by kernel_rfl) (by kernel_rfl)
     have d8 : ρ (.tmp 42) = .string (ofB (w4s [o.val, o.echo])) := hd 8 42 (by kernel_rfl) (by kernel_rfl)
     have hz := app_size (a := w1s [1, 1, 8, 10]) (b := w4s [o.val, o.echo]) (Nat.le_of_ble_eq_true rfl)
     clear hd h0
     go_simp
     exact ⟨congrArg Value.string (by rw [ofB_app]; exact congrArg ofB (seg8 o)), Below.refl _ _⟩
   | 10, _ =>
     intro ρ W hb hc hg hf h0 hd
     have d9 : ρ (.tmp 43) = .string (ofB (segO o 8)) := hd 9 43 (by kernel_rfl) (by kernel_rfl)
     clear hd h0
     go_simp
     exact ⟨rfl, Below.refl _ _⟩
   | i + 11, hlt => exact absurd hlt (by omega)
 · intro vs W hb hall
   have hl : vs 10 = .string (ofB (segO o 8)) := hall 10 (of_decide_eq_true (by kernel_rfl))
   have HBW := Lib.hid (HB0.out.trans (hb.mono HB0.out.size))
   clear hall hb
   go_wp2
   refine bodyPost_ret (v := .string (ofB (segO o 8))) ?_ rfl ⟨rfl, HBW.out⟩
   rw [← hl]
   exact (results_tmp rfl _ _ _).trans (congrArg (Result.ok · W) (lexA_get (N := 70) (by kernel_rfl) rfl vs 4 10 _ (by kernel_rfl) (of_decide_eq_true (by kernel_rfl))))
theorem lay4 (a b c d : Nat) (w : World) (ha : a ≤ 255) (hb : b ≤ 255) (hc : c ≤ 255) (hd : d ≤ 255) : Calls Tryz.prog 52 #[.slice (some ⟨w.heap.size, 0, none⟩) 4 4] (w.alloc (.cells #[.int .u8 (a : Int), .int .u8 (b : Int), .int .u8 (c : Int), .int .u8 (d : Int)] 5)) fun e w' => e = .returned (.string (ofB [a, b, c, d])) ∧ Below (w.alloc (.cells #[.int .u8 (a : Int), .int .u8 (b : Int), .int .u8 (c : Int), .int .u8 (d : Int)] 5)).heap.size (w.alloc (.cells #[.int .u8 (a : Int), .int .u8 (b : Int), .int .u8 (c : Int), .int .u8 (d : Int)] 5)) w' :=
 layH8 (HoldK.new .u8 w [a, b, c, d] _) (by simp) (by simp) (by intro x hx; simp at hx; omega)
theorem lay4a (n : Nat) (w : World) (B : Nat) (hB : w.heap.size = B) (hn : n ≤ 255) : Calls Tryz.prog 52 #[.slice (some ⟨B, 0, none⟩) 4 4] (w.alloc (.cells #[.int .u8 1, .int .u8 3, .int .u8 3, .int .u8 (n : Int)] 5)) fun e w' => e = .returned (.string (ofB [1, 3, 3, n])) ∧ Below (w.alloc (.cells #[.int .u8 1, .int .u8 3, .int .u8 3, .int .u8 (n : Int)] 5)).heap.size (w.alloc (.cells #[.int .u8 1, .int .u8 3, .int .u8 3, .int .u8 (n : Int)] 5)) w' := by subst hB; exact lay4 (1) (3) (3) (n) w (by omega) (by omega) (by omega) (by omega)
theorem lay4b (w : World) (B : Nat) (hB : w.heap.size = B) : Calls Tryz.prog 52 #[.slice (some ⟨B, 0, none⟩) 4 4] (w.alloc (.cells #[.int .u8 1, .int .u8 1, .int .u8 4, .int .u8 2] 5)) fun e w' => e = .returned (.string (ofB [1, 1, 4, 2])) ∧ Below (w.alloc (.cells #[.int .u8 1, .int .u8 1, .int .u8 4, .int .u8 2] 5)).heap.size (w.alloc (.cells #[.int .u8 1, .int .u8 1, .int .u8 4, .int .u8 2] 5)) w' := by subst hB; exact lay4 (1) (1) (4) (2) w (by omega) (by omega) (by omega) (by omega)
theorem lay4c (n : Nat) (w : World) (B : Nat) (hB : w.heap.size = B) (hn : n ≤ 255) : Calls Tryz.prog 52 #[.slice (some ⟨B, 0, none⟩) 4 4] (w.alloc (.cells #[.int .u8 1, .int .u8 1, .int .u8 5, .int .u8 (n : Int)] 5)) fun e w' => e = .returned (.string (ofB [1, 1, 5, n])) ∧ Below (w.alloc (.cells #[.int .u8 1, .int .u8 1, .int .u8 5, .int .u8 (n : Int)] 5)).heap.size (w.alloc (.cells #[.int .u8 1, .int .u8 1, .int .u8 5, .int .u8 (n : Int)] 5)) w' := by subst hB; exact lay4 (1) (1) (5) (n) w (by omega) (by omega) (by omega) (by omega)
set_option maxHeartbeats 16000000 in
theorem laid3 (o : Opn) (A : Option Addr) (c : Nat) (w : World) (h0 : 0 ≤ o.scale) (h14 : o.scale ≤ 14) : Calls Tryz.prog 96 #[ov o A c, .int .u8 3] w fun e w' => e = .returned (.string (ofB (segO o 3))) ∧ Below w.heap.size w w' := by
 obtain ⟨n, hn⟩ : ∃ n : Nat, n = o.scale.toNat := ⟨_, rfl⟩
 have hw : IntKind.u8.wrap o.scale = (n : Int) := by rw [IntKind.wrap_u8]; omega
 have e : segO o 3 = [1, 3, 3, n] := by rw [hn]; rfl
 rw [e]
 have HL := Lib.hid (fun W B hB => lay4a n W B hB (by omega))
 have B0 := Lib.hid (st_alloc (st_alloc (Below.refl _ w) (.cells (oc o A c) 28)) (.cells #[.int .u8 1, .int .u8 3, .int .u8 3, .int .u8 (n : Int)] 5))
 clear e hn
 go_enter Tryz.func96, Tryz.ntmps96
 go_wp2_with fail
 refine (HL.out _ _ (by simp)).mono ?_
 rintro e w' ⟨rfl, hb⟩
 have HB := Lib.hid (st_call B0.out hb)
 clear hb
 go_wp2_with fail
 go_ret
 exact ⟨rfl, HB.out⟩
set_option maxHeartbeats 16000000 in
theorem laid4 (o : Opn) (A : Option Addr) (c : Nat) (w : World) : Calls Tryz.prog 96 #[ov o A c, .int .u8 4] w fun e w' => e = .returned (.string (ofB (segO o 4))) ∧ Below w.heap.size w w' := by
 have e : segO o 4 = [1, 1, 4, 2] := rfl
 rw [e]
 have HL := Lib.hid (fun W B hB => lay4b W B hB)
 have B0 := Lib.hid (st_alloc (st_alloc (Below.refl _ w) (.cells (oc o A c) 28)) (.cells #[.int .u8 1, .int .u8 1, .int .u8 4, .int .u8 2] 5))
 clear e
 go_enter Tryz.func96, Tryz.ntmps96
 go_wp2_with fail
 refine (HL.out _ _ (by simp)).mono ?_
 rintro e w' ⟨rfl, hb⟩
 have HB := Lib.hid (st_call B0.out hb)
 clear hb
 go_wp2_with fail
 go_ret
 exact ⟨rfl, HB.out⟩
theorem lay32two (a b : Nat) (w : World) (B : Nat) (hB : w.heap.size = B) (ha : a ≤ 4294967295) (hb : b ≤ 4294967295) : Calls Tryz.prog 51 #[.slice (some ⟨B, 0, none⟩) 2 2] (w.alloc (.cells #[.int .u32 (a : Int), .int .u32 (b : Int)] 22)) fun e w' => e = .returned (.string (ofB (w4 a ++ w4 b))) ∧ Below (w.alloc (.cells #[.int .u32 (a : Int), .int .u32 (b : Int)] 22)).heap.size (w.alloc (.cells #[.int .u32 (a : Int), .int .u32 (b : Int)] 22)) w' := by
 subst hB
 have h := layH32 (HoldK.new .u32 w [a, b] 22) (by simp) (by simp) (by intro x hx; simp at hx; omega)
 have e : w4s [a, b] = w4 a ++ w4 b := by show w4 a ++ (w4 b ++ []) = _; rw [List.append_nil]
 rw [e] at h
 exact h
set_option maxHeartbeats 16000000 in
theorem laid5 (o : Opn) (A : Option Addr) (c : Nat) (w : World) (hbk : BlkR w A o.blocks) (k : o.ok) (hf : o.blocks.length ≤ 4) : Calls Tryz.prog 96 #[ov o A c, .int .u8 5] w fun e w' => e = .returned (.string (ofB (segO o 5))) ∧ Below w.heap.size w w' := by
 have HX := Lib.hid (fun (W : World) (hW : Below (w.alloc (.cells (oc o A c) 28)).heap.size (w.alloc (.cells (oc o A c) 28)) W) (j : Nat) (v : Value) (hv : (oc o A c)[j]? = some v) => ((hW.cell (p := ⟨w.heap.size, j, none⟩) (by simp)).trans (World.cell?_alloc_mark w _ _ (0, 0) j)).trans hv)
 have HB0 := Lib.hid (st_alloc (Below.refl _ w) (.cells (oc o A c) 28))
 have HBK := Lib.hid (hbk.more HB0.out)
 have KB := Lib.hid k.blocks
 have HE : Hid (segO o 5 = [1, 1, 5, 2 + 8 * o.blocks.length] ++ blkB o.blocks) := Lib.hid rfl
 have HL := Lib.hid (fun W B hB => lay4c (2 + 8 * o.blocks.length) W B hB (by omega))
 have m8 : IntKind.i64.wrap (8 * (o.blocks.length : Int)) = 8 * (o.blocks.length : Int) := by rw [IntKind.wrap_i64]; omega
 have m2 : IntKind.i64.wrap (2 + 8 * (o.blocks.length : Int)) = 2 + 8 * (o.blocks.length : Int) := by rw [IntKind.wrap_i64]; omega
 have mu : IntKind.u8.wrap (2 + 8 * (o.blocks.length : Int)) = ((2 + 8 * o.blocks.length : Nat) : Int) := by rw [IntKind.wrap_u8]; omega
 clear hbk
 go_enter Tryz.func96, Tryz.ntmps96
 go_wp2_with fail
 refine (HL.out _ _ (by simp)).mono ?_
 rintro e w1 ⟨rfl, hb⟩
 have hb1 := st_call (st_alloc (Below.refl _ (w.alloc (.cells (oc o A c) 28))) (.cells #[.int .u8 1, .int .u8 1, .int .u8 5, .int .u8 ((2 + 8 * o.blocks.length : Nat) : Int)] 5)) hb
 have x3 := HX.out _ hb1 3 _ rfl
 have HB1 := Lib.hid (HB0.out.trans (hb1.mono HB0.out.size))
 have HBK1 := Lib.hid (HBK.out.more hb1)
 have HX1 := Lib.hid (fun W (hW : Below w1.heap.size w1 W) => HX.out W (hb1.trans (hW.mono hb1.size)))
 clear hb hb1 mu m2 m8
 go_wp2_with fail
 clear x3
 go_loopw [5, 56] (fun s i wr => ∃ (k : Nat) (Q : List Nat), i = .int .i64 (k : Int) ∧ k ≤ o.blocks.length ∧ s = .string (ofB Q) ∧ Q = [1, 1, 5, 2 + 8 * o.blocks.length] ++ blkB (o.blocks.take k) ∧ Below w1.heap.size w1 wr) (fun _ i _ => o.blocks.length - (intOf i).toNat)
 case atStart => exact ⟨0, _, rfl, by omega, rfl, rfl, Below.refl _ _⟩
 case round =>
   obtain ⟨k, Q, rfl, hk, rfl, hQ, hB⟩ := hrel
   have HQ := Lib.hid hQ
   have HB := Lib.hid hB
   clear hQ hB
   by_cases hlt : k < o.blocks.length
   · obtain ⟨b, off, eA, hb1, hc1⟩ := HBK1.out (by omega)
     obtain ⟨u, hu⟩ : ∃ u, o.blocks[k]? = some u := ⟨_, List.getElem?_eq_getElem hlt⟩
     have d0 := (HB.out.cell (p := ⟨b, off + k * 2, none⟩) hb1).trans (hc1 k u hu).1
     have d1 := (HB.out.cell (p := ⟨b, off + k * 2 + 1, none⟩) hb1).trans (hc1 k u hu).2
     have HTS := Lib.hid (take_snocG hu)
     obtain ⟨u1, u2⟩ := u
     obtain ⟨q1, q2⟩ := KB.out _ (List.mem_of_getElem? hu)
     simp only at d0 d1 q1 q2
     subst eA
     have HL2 := Lib.hid (fun W B hB => lay32two u1 u2 W B hB q1 q2)
     have hqz : (ofB Q).size + (ofB (w4 u1 ++ w4 u2)).size ≤ 9223372036854775807 := app_size (by rw [HQ.out, List.length_append, blkB_len, List.length_take]; simp [w4]; omega)
     clear hc1 hu q1 q2
     go_wp2_with fail
     refine (HL2.out _ _ (by simp)).mono ?_
     rintro e w2 ⟨rfl, hb2⟩
     have HB2 := Lib.hid (st_call (st_alloc (st_alloc HB.out _) _) hb2)
     have HV := Lib.hid (show ofB Q ++ ofB (w4 u1 ++ w4 u2) = ofB ([1, 1, 5, 2 + 8 * o.blocks.length] ++ blkB (o.blocks.take (k + 1))) by
       rw [ofB_app, HQ.out, HTS.out]
       unfold blkB
       rw [List.flatMap_append]
       simp only [List.flatMap_cons, List.flatMap_nil, List.append_nil, List.append_assoc])
     clear hb2 d0 d1
     go_wp2_with fail
     go_roundw
     case rel => exact ⟨k + 1, _, by go_num, by omega, congrArg Value.string HV.out, rfl, HB2.out⟩
     case measure => simp only [intOf]; omega
   · obtain rfl : k = o.blocks.length := by omega
     have HV := Lib.hid (show Q = segO o 5 by rw [HQ.out, HE.out, List.take_length])
     go_wp2_with fail
     go_ret
     exact ⟨by rw [HV.out]; rfl, HB1.out.trans (HB.out.mono HB1.out.size)⟩
end Go.Proofs.YtpmnmnflaijaaaaGreat.OptPT
namespace Go.Proofs.YtpmnmnflaijaaaaGreat.OptPE
open Cells (CellsAt)
open Go.RowKit TupMath SumMath Litb Calm IpMath IpRef Rel Num OptMath OptRef OptPlc OptSame OptMay OptTk OptQ OptPT
set_option linter.unusedVariables false
set_option maxRecDepth 100000
theorem laidP (o : Opn) (A : Option Addr) (c k : Nat) (w : World) (hbk : BlkR w A o.blocks) (ok : o.ok) (hi : o.scale ≤ 14) (hf : o.blocks.length ≤ 4) (hk : k = 2 ∨ k = 3 ∨ k = 4 ∨ k = 8 ∨ k = 5) (ht : there o k = true) :
   Calls Tryz.prog 96 #[ov o A c, .int .u8 (k : Int)] w fun e w' => e = .returned (.string (ofB (segO o k))) ∧ Below w.heap.size w w' := by
 rcases hk with rfl | rfl | rfl | rfl | rfl
 · exact laid2 o A c w ok
 · exact laid3 o A c w (of_decide_eq_true ht) hi
 · exact laid4 o A c w
 · exact laid8 o A c w ok
 · exact laid5 o A c w hbk ok hf
theorem five (j k : Nat) (h : ([2, 3, 4, 8, 5] : List Nat)[j]? = some k) : k ≤ 255 ∧ (k = 2 ∨ k = 3 ∨ k = 4 ∨ k = 8 ∨ k = 5) := by
 have hm := List.mem_of_getElem? h
 simp at hm
 omega
set_option maxHeartbeats 16000000 in
theorem writtenP (o : Opn) (A : Option Addr) (c : Nat) (w : World) (hbk : BlkR w A o.blocks) (ok : o.ok) (hi : o.scale ≤ 14) (hf : o.blocks.length ≤ 4) :
   Calls Tryz.prog 64 #[ov o A c] w fun e w' => e = .returned (.string (ofB (rawO o))) ∧ Below w.heap.size w w' := by
 have HX := Lib.hid (fun (W : World) (hW : Below (w.alloc (.cells (oc o A c) 28)).heap.size (w.alloc (.cells (oc o A c) 28)) W) (j : Nat) (v : Value) (hv : (oc o A c)[j]? = some v) => ((hW.cell (p := ⟨w.heap.size, j, none⟩) (by simp)).trans (World.cell?_alloc_mark w _ _ (0, 0) j)).trans hv)
 have HB0 := Lib.hid (st_alloc (Below.refl _ w) (.cells (oc o A c) 28))
 have HBK := Lib.hid (hbk.more HB0.out)
 have hs0 : (w.alloc (.cells (oc o A c) 28)).heap.size = w.heap.size + 1 := by simp
 have HP := Lib.hid (parts_all o)
 have HPL := Lib.hid (parts_len o hf)
 clear hbk
 go_enter Tryz.func64, Tryz.ntmps64
 go_wp2_with fail
 generalize w.alloc (.cells (oc o A c) 28) = w1 at HX HBK HB0 hs0 ⊢
 have hd : ∀ (j kk : Nat), ([2, 3, 4, 8, 5] : List Nat)[j]? = some kk → (w1.alloc (.cells #[.int .u8 2, .int .u8 3, .int .u8 4, .int .u8 8, .int .u8 5] 5)).cell? ⟨w1.heap.size, j, none⟩ = some (.int .u8 (kk : Int)) := by
   obtain ⟨b, e, _, h⟩ := HoldK.new .u8 w1 [2, 3, 4, 8, 5] 5
   injection e with e
   injection e with e
   injection e with e
   subst e
   exact h
 rw [hs0] at hd
 have HB1 := Lib.hid (st_alloc (Below.refl _ w1) (.cells #[.int .u8 2, .int .u8 3, .int .u8 4, .int .u8 8, .int .u8 5] 5))
 have hs1 : (w1.alloc (.cells #[.int .u8 2, .int .u8 3, .int .u8 4, .int .u8 8, .int .u8 5] 5)).heap.size = w1.heap.size + 1 := by simp
 generalize w1.alloc (.cells #[.int .u8 2, .int .u8 3, .int .u8 4, .int .u8 8, .int .u8 5] 5) = w2 at hd HB1 hs1 ⊢
 have HD := Lib.hid (fun (W : World) (hW : Below w2.heap.size w2 W) (j kk : Nat) (hj : ([2, 3, 4, 8, 5] : List Nat)[j]? = some kk) => (hW.cell (p := ⟨w.heap.size + 1, j, none⟩) (by show w.heap.size + 1 < _; omega)).trans (hd j kk hj))
 clear hd
 go_loopw [3, 8] (fun s i wr => ∃ (j : Nat) (Q : List Nat), i = .int .i64 (j : Int) ∧ j ≤ 5 ∧ s = .string (ofB Q) ∧ Q = parts o (([2, 3, 4, 8, 5] : List Nat).take j) ∧ Below w2.heap.size w2 wr) (fun _ i _ => 5 - (intOf i).toNat)
 case atStart => exact ⟨0, _, rfl, by omega, rfl, rfl, Below.refl _ _⟩
 case round =>
   obtain ⟨j, Q, rfl, hj, rfl, hQ, hB⟩ := hrel
   have HQ := Lib.hid hQ
   have HB := Lib.hid hB
   have HB12 := Lib.hid (HB1.out.trans (hB.mono HB1.out.size))
   clear hQ hB
   by_cases hlt : j < 5
   · obtain ⟨kk, hkk⟩ : ∃ kk, ([2, 3, 4, 8, 5] : List Nat)[j]? = some kk := ⟨_, List.getElem?_eq_getElem hlt⟩
     obtain ⟨hk1, hk2⟩ := five j kk hkk
     have d0 := HD.out wr HB.out j kk hkk
     have x0 := HX.out wr HB12.out 0 _ rfl
     have x1 := HX.out wr HB12.out 1 _ rfl
     have x2 := HX.out wr HB12.out 2 _ rfl
     have x3 := HX.out wr HB12.out 3 _ rfl
     have x4 := HX.out wr HB12.out 4 _ rfl
     have x5 := HX.out wr HB12.out 5 _ rfl
     have x6 := HX.out wr HB12.out 6 _ rfl
     have HTS := Lib.hid (show parts o (([2, 3, 4, 8, 5] : List Nat).take (j + 1)) = Q ++ (if there o kk = true then segO o kk else []) by rw [take_snocG hkk, parts_snoc, HQ.out])
     have HK := Lib.hid hk2
     clear hkk hk2
     go_wp2_with fail
     refine (thereP o A c kk _ hk1).mono ?_
     rintro e wA ⟨rfl, hb⟩
     have HBA := Lib.hid (st_call HB.out hb)
     have HBA2 := Lib.hid (st_call HB12.out hb)
     clear hb d0 x0 x1 x2 x3 x4 x5 x6
     cases ht : there o kk
     · have HT2 : Hid (Q = parts o (([2, 3, 4, 8, 5] : List Nat).take (j + 1))) := Lib.hid (by rw [HTS.out, ht]; simp)
       clear ht
       go_wp2_with fail
       go_roundw
       case rel => exact ⟨j + 1, Q, by go_num, by omega, rfl, HT2.out, HBA.out⟩
       case measure => simp only [intOf]; omega
     · have HT2 : Hid (parts o (([2, 3, 4, 8, 5] : List Nat).take (j + 1)) = Q ++ segO o kk) := Lib.hid (by rw [HTS.out, ht]; simp)
       have HT3 := Lib.hid ht
       clear ht
       have x0 := HX.out wA HBA2.out 0 _ rfl
       have x1 := HX.out wA HBA2.out 1 _ rfl
       have x2 := HX.out wA HBA2.out 2 _ rfl
       have x3 := HX.out wA HBA2.out 3 _ rfl
       have x4 := HX.out wA HBA2.out 4 _ rfl
       have x5 := HX.out wA HBA2.out 5 _ rfl
       have x6 := HX.out wA HBA2.out 6 _ rfl
       go_wp2_with fail
       refine (laidP o A c kk _ (HBK.out.more HBA2.out) ok hi hf HK.out HT3.out).mono ?_
       rintro e wB ⟨rfl, hb⟩
       have HBB := Lib.hid (st_call HBA.out hb)
       have hz : (ofB Q).size + (ofB (segO o kk)).size ≤ 9223372036854775807 := app_size (by
         have h1 := HPL.out (([2, 3, 4, 8, 5] : List Nat).take j)
         have h2 := segO_len o kk hf
         rw [← HQ.out] at h1
         rw [List.length_take] at h1
         omega)
       have HV := Lib.hid (show ofB Q ++ ofB (segO o kk) = ofB (parts o (([2, 3, 4, 8, 5] : List Nat).take (j + 1))) by rw [ofB_app, HT2.out])
       clear hb x0 x1 x2 x3 x4 x5 x6
       go_wp2_with fail
       go_roundw
       case rel => exact ⟨j + 1, _, by go_num, by omega, congrArg Value.string HV.out, rfl, HBB.out⟩
       case measure => simp only [intOf]; omega
   · obtain rfl : j = 5 := by omega
     have HV := Lib.hid (show Q = rawO o by rw [HQ.out, ← HP.out]; rfl)
     go_wp2_with fail
     go_ret
     exact ⟨by rw [HV.out]; rfl, HB0.out.trans (HB12.out.mono HB0.out.size)⟩
set_option maxHeartbeats 16000000 in
theorem mayP (o : Opn) (A : Option Addr) (c : Nat) (w : World) (hbk : BlkR w A o.blocks) (k : o.ok) :
   Calls Tryz.prog 44 #[ov o A c] w fun e w' => e = .returned (.bool (mayO o)) ∧ Below w.heap.size w w' := by
 have HX := Lib.hid (fun (W : World) (hW : Below (w.alloc (.cells (oc o A c) 28)).heap.size (w.alloc (.cells (oc o A c) 28)) W) (j : Nat) (v : Value) (hv : (oc o A c)[j]? = some v) => ((hW.cell (p := ⟨w.heap.size, j, none⟩) (by simp)).trans (World.cell?_alloc_mark w _ _ (0, 0) j)).trans hv)
 have HB0 := Lib.hid (st_alloc (Below.refl _ w) (.cells (oc o A c) 28))
 have HBK := Lib.hid (hbk.more HB0.out)
 clear hbk
 by_cases c1 : -1 ≤ o.scale
 rotate_left
 · have HC := Lib.hid c1
   have q0 : decide (-1 ≤ o.scale) = false := decide_eq_false c1
   clear c1
   have HV := Lib.hid (may_not (o := o) fun m => by have := m.lo; exact HC.out this)
   go_enter Tryz.func44, Tryz.ntmps44
   go_wp2_with fail
   have hb0 := HB0.out
   have hx0 := HX.out
   generalize (w.alloc (.cells #[.int .u16 (o.mss : Int), .int .i64 o.scale, .bool o.sack, .slice A o.blocks.length c, .bool o.time, .int .u32 (o.val : Int), .int .u32 (o.echo : Int)] 28)) = w1 at hb0 hx0 ⊢
   have HB1 := Lib.hid hb0
   have HX1 := Lib.hid hx0
   clear hb0 hx0
   have y0 : ∀ i : Later w1.heap.size w1, i.w.cell? ⟨w.heap.size, 0, none⟩ = some (.int .u16 (o.mss : Int)) := fun i => HX1.out i.w i.h 0 _ rfl
   have y1 : ∀ i : Later w1.heap.size w1, i.w.cell? ⟨w.heap.size, 1, none⟩ = some (.int .i64 o.scale) := fun i => HX1.out i.w i.h 1 _ rfl
   have y2 : ∀ i : Later w1.heap.size w1, i.w.cell? ⟨w.heap.size, 2, none⟩ = some (.bool o.sack) := fun i => HX1.out i.w i.h 2 _ rfl
   have y3 : ∀ i : Later w1.heap.size w1, i.w.cell? ⟨w.heap.size, 3, none⟩ = some (.slice A o.blocks.length c) := fun i => HX1.out i.w i.h 3 _ rfl
   have y4 : ∀ i : Later w1.heap.size w1, i.w.cell? ⟨w.heap.size, 4, none⟩ = some (.bool o.time) := fun i => HX1.out i.w i.h 4 _ rfl
   have y5 : ∀ i : Later w1.heap.size w1, i.w.cell? ⟨w.heap.size, 5, none⟩ = some (.int .u32 (o.val : Int)) := fun i => HX1.out i.w i.h 5 _ rfl
   have y6 : ∀ i : Later w1.heap.size w1, i.w.cell? ⟨w.heap.size, 6, none⟩ = some (.int .u32 (o.echo : Int)) := fun i => HX1.out i.w i.h 6 _ rfl
   have KN : Hid (∀ i : Later w1.heap.size w1, Calls Tryz.prog 14 #[] i.w fun e w' => e = .returned (.agg #[.int .u16 0, .int .i64 (-1), .bool false, .slice none 0 0, .bool false, .int .u32 0, .int .u32 0]) ∧ Below i.w.heap.size i.w w') := Lib.hid fun i => noneP i.w
   have hfd : ∀ W : World, (Instr.field 28 (.agg #[.int .u16 0, .int .i64 (-1), .bool false, .slice none 0 0, .bool false, .int .u32 0, .int .u32 0]) 1).run Tryz.prog W = .ok (.int .i64 (-1)) W := fun _ => by kernel_rfl
   refine wp_region_later (n := w1.heap.size) w1 (Below.refl _ _) (by kernel_rfl) (by kernel_rfl) ?_
   repeat (first | go_big_quiet_step (((go_at_call 14; exact later_calls (Nat.le_refl _) _ (KN.out _)))) | go_big_quiet_step (fail))
   refine wpQuiet_nil ?_
   rintro W ⟨⟨wj, hj⟩, rfl⟩
   go_wp2
   go_ret
   exact ⟨by rw [HV.out]; rfl, st_call HB1.out hj⟩
 by_cases c2 : o.scale ≤ 14
 rotate_left
 · have HC := Lib.hid c2
   have q0 : decide (o.scale ≤ 14) = false := decide_eq_false c2
   clear c2
   have HV := Lib.hid (may_not (o := o) fun m => by have := m.hi; exact HC.out this)
   go_enter Tryz.func44, Tryz.ntmps44
   go_wp2_with fail
   have hb0 := HB0.out
   have hx0 := HX.out
   generalize (w.alloc (.cells #[.int .u16 (o.mss : Int), .int .i64 o.scale, .bool o.sack, .slice A o.blocks.length c, .bool o.time, .int .u32 (o.val : Int), .int .u32 (o.echo : Int)] 28)) = w1 at hb0 hx0 ⊢
   have HB1 := Lib.hid hb0
   have HX1 := Lib.hid hx0
   clear hb0 hx0
   have y0 : ∀ i : Later w1.heap.size w1, i.w.cell? ⟨w.heap.size, 0, none⟩ = some (.int .u16 (o.mss : Int)) := fun i => HX1.out i.w i.h 0 _ rfl
   have y1 : ∀ i : Later w1.heap.size w1, i.w.cell? ⟨w.heap.size, 1, none⟩ = some (.int .i64 o.scale) := fun i => HX1.out i.w i.h 1 _ rfl
   have y2 : ∀ i : Later w1.heap.size w1, i.w.cell? ⟨w.heap.size, 2, none⟩ = some (.bool o.sack) := fun i => HX1.out i.w i.h 2 _ rfl
   have y3 : ∀ i : Later w1.heap.size w1, i.w.cell? ⟨w.heap.size, 3, none⟩ = some (.slice A o.blocks.length c) := fun i => HX1.out i.w i.h 3 _ rfl
   have y4 : ∀ i : Later w1.heap.size w1, i.w.cell? ⟨w.heap.size, 4, none⟩ = some (.bool o.time) := fun i => HX1.out i.w i.h 4 _ rfl
   have y5 : ∀ i : Later w1.heap.size w1, i.w.cell? ⟨w.heap.size, 5, none⟩ = some (.int .u32 (o.val : Int)) := fun i => HX1.out i.w i.h 5 _ rfl
   have y6 : ∀ i : Later w1.heap.size w1, i.w.cell? ⟨w.heap.size, 6, none⟩ = some (.int .u32 (o.echo : Int)) := fun i => HX1.out i.w i.h 6 _ rfl
   have KN : Hid (∀ i : Later w1.heap.size w1, Calls Tryz.prog 14 #[] i.w fun e w' => e = .returned (.agg #[.int .u16 0, .int .i64 (-1), .bool false, .slice none 0 0, .bool false, .int .u32 0, .int .u32 0]) ∧ Below i.w.heap.size i.w w') := Lib.hid fun i => noneP i.w
   have hfd : ∀ W : World, (Instr.field 28 (.agg #[.int .u16 0, .int .i64 (-1), .bool false, .slice none 0 0, .bool false, .int .u32 0, .int .u32 0]) 1).run Tryz.prog W = .ok (.int .i64 (-1)) W := fun _ => by kernel_rfl
   refine wp_region_later (n := w1.heap.size) w1 (Below.refl _ _) (by kernel_rfl) (by kernel_rfl) ?_
   repeat (first | go_big_quiet_step (((go_at_call 14; exact later_calls (Nat.le_refl _) _ (KN.out _)))) | go_big_quiet_step (fail))
   refine wpQuiet_nil ?_
   rintro W ⟨⟨wj, hj⟩, rfl⟩
   go_wp2
   go_ret
   exact ⟨by rw [HV.out]; rfl, st_call HB1.out hj⟩
 by_cases c3 : (o.blocks.length : Int) ≤ 4
 rotate_left
 · have HC := Lib.hid c3
   have q0 : decide ((o.blocks.length : Int) ≤ 4) = false := decide_eq_false c3
   clear c3
   have HV := Lib.hid (may_not (o := o) fun m => by have := m.few; have := HC.out; omega)
   go_enter Tryz.func44, Tryz.ntmps44
   go_wp2_with fail
   have hb0 := HB0.out
   have hx0 := HX.out
   generalize (w.alloc (.cells #[.int .u16 (o.mss : Int), .int .i64 o.scale, .bool o.sack, .slice A o.blocks.length c, .bool o.time, .int .u32 (o.val : Int), .int .u32 (o.echo : Int)] 28)) = w1 at hb0 hx0 ⊢
   have HB1 := Lib.hid hb0
   have HX1 := Lib.hid hx0
   clear hb0 hx0
   have y0 : ∀ i : Later w1.heap.size w1, i.w.cell? ⟨w.heap.size, 0, none⟩ = some (.int .u16 (o.mss : Int)) := fun i => HX1.out i.w i.h 0 _ rfl
   have y1 : ∀ i : Later w1.heap.size w1, i.w.cell? ⟨w.heap.size, 1, none⟩ = some (.int .i64 o.scale) := fun i => HX1.out i.w i.h 1 _ rfl
   have y2 : ∀ i : Later w1.heap.size w1, i.w.cell? ⟨w.heap.size, 2, none⟩ = some (.bool o.sack) := fun i => HX1.out i.w i.h 2 _ rfl
   have y3 : ∀ i : Later w1.heap.size w1, i.w.cell? ⟨w.heap.size, 3, none⟩ = some (.slice A o.blocks.length c) := fun i => HX1.out i.w i.h 3 _ rfl
   have y4 : ∀ i : Later w1.heap.size w1, i.w.cell? ⟨w.heap.size, 4, none⟩ = some (.bool o.time) := fun i => HX1.out i.w i.h 4 _ rfl
   have y5 : ∀ i : Later w1.heap.size w1, i.w.cell? ⟨w.heap.size, 5, none⟩ = some (.int .u32 (o.val : Int)) := fun i => HX1.out i.w i.h 5 _ rfl
   have y6 : ∀ i : Later w1.heap.size w1, i.w.cell? ⟨w.heap.size, 6, none⟩ = some (.int .u32 (o.echo : Int)) := fun i => HX1.out i.w i.h 6 _ rfl
   have KN : Hid (∀ i : Later w1.heap.size w1, Calls Tryz.prog 14 #[] i.w fun e w' => e = .returned (.agg #[.int .u16 0, .int .i64 (-1), .bool false, .slice none 0 0, .bool false, .int .u32 0, .int .u32 0]) ∧ Below i.w.heap.size i.w w') := Lib.hid fun i => noneP i.w
   have hfd : ∀ W : World, (Instr.field 28 (.agg #[.int .u16 0, .int .i64 (-1), .bool false, .slice none 0 0, .bool false, .int .u32 0, .int .u32 0]) 1).run Tryz.prog W = .ok (.int .i64 (-1)) W := fun _ => by kernel_rfl
   refine wp_region_later (n := w1.heap.size) w1 (Below.refl _ _) (by kernel_rfl) (by kernel_rfl) ?_
   repeat (first | go_big_quiet_step (((go_at_call 14; exact later_calls (Nat.le_refl _) _ (KN.out _)))) | go_big_quiet_step (fail))
   refine wpQuiet_nil ?_
   rintro W ⟨⟨wj, hj⟩, rfl⟩
   go_wp2
   go_ret
   exact ⟨by rw [HV.out]; rfl, st_call HB1.out hj⟩
 have H14 := Lib.hid c2
 have H4 := Lib.hid (show o.blocks.length ≤ 4 by omega)
 have HZ := Lib.hid (show (ofB (rawO o)).size ≤ 1000 by
   rw [ofB_size, ← parts_all o]
   have := parts_len o H4.out [2, 3, 4, 8, 5]
   simp at this
   omega)
 cases c4 : o.time
 · by_cases c5 : o.val = 0
   · by_cases c6 : o.echo = 0
     · have q5 : ((o.val : Int) == 0) = true := beq_iff_eq.2 (by omega)
       have q6 : ((o.echo : Int) == 0) = true := beq_iff_eq.2 (by omega)
       have HC := Lib.hid (And.intro c5 c6)
       have HMV := Lib.hid (may_len (o := o) c1 c2 (by omega) (fun _ => HC.out))
       obtain ⟨S, hS⟩ : ∃ S, ofB (rawO o) = S := ⟨_, rfl⟩
       have HS := Lib.hid hS
       have hz : S.size ≤ 1000 := by rw [← hS]; exact HZ.out
       rw [hS] at HMV
       clear hS c5 c6
       have HV := Lib.hid (HMV.out)
       have HT := Lib.hid c4
       go_enter Tryz.func44, Tryz.ntmps44
       go_wp2_with fail
       have hb0 := HB0.out
       have hx0 := HX.out
       rw [oc_time HT.out] at hb0 hx0
       have hbk0 := HBK.out
       rw [oc_time HT.out] at hbk0
       generalize (w.alloc (.cells #[.int .u16 (o.mss : Int), .int .i64 o.scale, .bool o.sack, .slice A o.blocks.length c, .bool false, .int .u32 (o.val : Int), .int .u32 (o.echo : Int)] 28)) = w1 at hb0 hx0 hbk0 ⊢
       have HB1 := Lib.hid hb0
       have HX1 := Lib.hid hx0
       have HBK1 := Lib.hid hbk0
       clear hb0 hx0 hbk0
       have y0 : ∀ i : Later w1.heap.size w1, i.w.cell? ⟨w.heap.size, 0, none⟩ = some (.int .u16 (o.mss : Int)) := fun i => HX1.out i.w i.h 0 _ rfl
       have y1 : ∀ i : Later w1.heap.size w1, i.w.cell? ⟨w.heap.size, 1, none⟩ = some (.int .i64 o.scale) := fun i => HX1.out i.w i.h 1 _ rfl
       have y2 : ∀ i : Later w1.heap.size w1, i.w.cell? ⟨w.heap.size, 2, none⟩ = some (.bool o.sack) := fun i => HX1.out i.w i.h 2 _ rfl
       have y3 : ∀ i : Later w1.heap.size w1, i.w.cell? ⟨w.heap.size, 3, none⟩ = some (.slice A o.blocks.length c) := fun i => HX1.out i.w i.h 3 _ rfl
       have y4 : ∀ i : Later w1.heap.size w1, i.w.cell? ⟨w.heap.size, 4, none⟩ = some (.bool false) := fun i => HX1.out i.w i.h 4 _ rfl
       have y5 : ∀ i : Later w1.heap.size w1, i.w.cell? ⟨w.heap.size, 5, none⟩ = some (.int .u32 (o.val : Int)) := fun i => HX1.out i.w i.h 5 _ rfl
       have y6 : ∀ i : Later w1.heap.size w1, i.w.cell? ⟨w.heap.size, 6, none⟩ = some (.int .u32 (o.echo : Int)) := fun i => HX1.out i.w i.h 6 _ rfl
       have KN : Hid (∀ i : Later w1.heap.size w1, Calls Tryz.prog 14 #[] i.w fun e w' => e = .returned (.agg #[.int .u16 0, .int .i64 (-1), .bool false, .slice none 0 0, .bool false, .int .u32 0, .int .u32 0]) ∧ Below i.w.heap.size i.w w') := Lib.hid fun i => noneP i.w
       have hfd : ∀ W : World, (Instr.field 28 (.agg #[.int .u16 0, .int .i64 (-1), .bool false, .slice none 0 0, .bool false, .int .u32 0, .int .u32 0]) 1).run Tryz.prog W = .ok (.int .i64 (-1)) W := fun _ => by kernel_rfl
       have KW : Hid (∀ i : Later w1.heap.size w1, Calls Tryz.prog 64 #[.agg #[.int .u16 (o.mss : Int), .int .i64 o.scale, .bool o.sack, .slice A o.blocks.length c, .bool false, .int .u32 (o.val : Int), .int .u32 (o.echo : Int)]] i.w fun e w' => e = .returned (.string S) ∧ Below i.w.heap.size i.w w') := Lib.hid fun i => by
         have h := writtenP o A c i.w (HBK1.out.more i.h) k H14.out H4.out
         rw [ov_time HT.out, HS.out] at h
         exact h
       refine wp_region_later (n := w1.heap.size) w1 (Below.refl _ _) (by kernel_rfl) (by kernel_rfl) ?_
       repeat (first | go_big_quiet_step ((first | (go_at_call 14; exact later_calls (Nat.le_refl _) _ (KN.out _)) | (go_at_call 64; exact later_calls (Nat.le_refl _) _ (KW.out _)))) | go_big_quiet_step (fail))
       refine wpQuiet_nil ?_
       rintro W ⟨⟨wj, hj⟩, rfl⟩
       go_wp2
       go_ret
       exact ⟨by rw [HV.out]; exact congrArg (fun b => Ending.returned (.bool b)) (decide_eq_decide.2 (by omega)), st_call HB1.out hj⟩
     · have q5 : ((o.val : Int) == 0) = true := beq_iff_eq.2 (by omega)
       have q6 : ((o.echo : Int) == 0) = false := beq_eq_false_iff_ne.2 (by omega)
       have HC := Lib.hid c6
       have HC4 := Lib.hid c4
       clear c5 c6
       have HV := Lib.hid (may_not (o := o) fun m => HC.out (m.time HC4.out).2)
       have HT := Lib.hid c4
       go_enter Tryz.func44, Tryz.ntmps44
       go_wp2_with fail
       have hb0 := HB0.out
       have hx0 := HX.out
       rw [oc_time HT.out] at hb0 hx0
       generalize (w.alloc (.cells #[.int .u16 (o.mss : Int), .int .i64 o.scale, .bool o.sack, .slice A o.blocks.length c, .bool false, .int .u32 (o.val : Int), .int .u32 (o.echo : Int)] 28)) = w1 at hb0 hx0 ⊢
       have HB1 := Lib.hid hb0
       have HX1 := Lib.hid hx0
       clear hb0 hx0
       have y0 : ∀ i : Later w1.heap.size w1, i.w.cell? ⟨w.heap.size, 0, none⟩ = some (.int .u16 (o.mss : Int)) := fun i => HX1.out i.w i.h 0 _ rfl
       have y1 : ∀ i : Later w1.heap.size w1, i.w.cell? ⟨w.heap.size, 1, none⟩ = some (.int .i64 o.scale) := fun i => HX1.out i.w i.h 1 _ rfl
       have y2 : ∀ i : Later w1.heap.size w1, i.w.cell? ⟨w.heap.size, 2, none⟩ = some (.bool o.sack) := fun i => HX1.out i.w i.h 2 _ rfl
       have y3 : ∀ i : Later w1.heap.size w1, i.w.cell? ⟨w.heap.size, 3, none⟩ = some (.slice A o.blocks.length c) := fun i => HX1.out i.w i.h 3 _ rfl
       have y4 : ∀ i : Later w1.heap.size w1, i.w.cell? ⟨w.heap.size, 4, none⟩ = some (.bool false) := fun i => HX1.out i.w i.h 4 _ rfl
       have y5 : ∀ i : Later w1.heap.size w1, i.w.cell? ⟨w.heap.size, 5, none⟩ = some (.int .u32 (o.val : Int)) := fun i => HX1.out i.w i.h 5 _ rfl
       have y6 : ∀ i : Later w1.heap.size w1, i.w.cell? ⟨w.heap.size, 6, none⟩ = some (.int .u32 (o.echo : Int)) := fun i => HX1.out i.w i.h 6 _ rfl
       have KN : Hid (∀ i : Later w1.heap.size w1, Calls Tryz.prog 14 #[] i.w fun e w' => e = .returned (.agg #[.int .u16 0, .int .i64 (-1), .bool false, .slice none 0 0, .bool false, .int .u32 0, .int .u32 0]) ∧ Below i.w.heap.size i.w w') := Lib.hid fun i => noneP i.w
       have hfd : ∀ W : World, (Instr.field 28 (.agg #[.int .u16 0, .int .i64 (-1), .bool false, .slice none 0 0, .bool false, .int .u32 0, .int .u32 0]) 1).run Tryz.prog W = .ok (.int .i64 (-1)) W := fun _ => by kernel_rfl
       refine wp_region_later (n := w1.heap.size) w1 (Below.refl _ _) (by kernel_rfl) (by kernel_rfl) ?_
       repeat (first | go_big_quiet_step (((go_at_call 14; exact later_calls (Nat.le_refl _) _ (KN.out _)))) | go_big_quiet_step (fail))
       refine wpQuiet_nil ?_
       rintro W ⟨⟨wj, hj⟩, rfl⟩
       go_wp2
       go_ret
       exact ⟨by rw [HV.out]; rfl, st_call HB1.out hj⟩
   · have q5 : ((o.val : Int) == 0) = false := beq_eq_false_iff_ne.2 (by omega)
     have HC := Lib.hid c5
     have HC4 := Lib.hid c4
     clear c5
     have HV := Lib.hid (may_not (o := o) fun m => HC.out (m.time HC4.out).1)
     have HT := Lib.hid c4
     go_enter Tryz.func44, Tryz.ntmps44
     go_wp2_with fail
     have hb0 := HB0.out
     have hx0 := HX.out
     rw [oc_time HT.out] at hb0 hx0
     generalize (w.alloc (.cells #[.int .u16 (o.mss : Int), .int .i64 o.scale, .bool o.sack, .slice A o.blocks.length c, .bool false, .int .u32 (o.val : Int), .int .u32 (o.echo : Int)] 28)) = w1 at hb0 hx0 ⊢
     have HB1 := Lib.hid hb0
     have HX1 := Lib.hid hx0
     clear hb0 hx0
     have y0 : ∀ i : Later w1.heap.size w1, i.w.cell? ⟨w.heap.size, 0, none⟩ = some (.int .u16 (o.mss : Int)) := fun i => HX1.out i.w i.h 0 _ rfl
     have y1 : ∀ i : Later w1.heap.size w1, i.w.cell? ⟨w.heap.size, 1, none⟩ = some (.int .i64 o.scale) := fun i => HX1.out i.w i.h 1 _ rfl
     have y2 : ∀ i : Later w1.heap.size w1, i.w.cell? ⟨w.heap.size, 2, none⟩ = some (.bool o.sack) := fun i => HX1.out i.w i.h 2 _ rfl
     have y3 : ∀ i : Later w1.heap.size w1, i.w.cell? ⟨w.heap.size, 3, none⟩ = some (.slice A o.blocks.length c) := fun i => HX1.out i.w i.h 3 _ rfl
     have y4 : ∀ i : Later w1.heap.size w1, i.w.cell? ⟨w.heap.size, 4, none⟩ = some (.bool false) := fun i => HX1.out i.w i.h 4 _ rfl
     have y5 : ∀ i : Later w1.heap.size w1, i.w.cell? ⟨w.heap.size, 5, none⟩ = some (.int .u32 (o.val : Int)) := fun i => HX1.out i.w i.h 5 _ rfl
     have y6 : ∀ i : Later w1.heap.size w1, i.w.cell? ⟨w.heap.size, 6, none⟩ = some (.int .u32 (o.echo : Int)) := fun i => HX1.out i.w i.h 6 _ rfl
     have KN : Hid (∀ i : Later w1.heap.size w1, Calls Tryz.prog 14 #[] i.w fun e w' => e = .returned (.agg #[.int .u16 0, .int .i64 (-1), .bool false, .slice none 0 0, .bool false, .int .u32 0, .int .u32 0]) ∧ Below i.w.heap.size i.w w') := Lib.hid fun i => noneP i.w
     have hfd : ∀ W : World, (Instr.field 28 (.agg #[.int .u16 0, .int .i64 (-1), .bool false, .slice none 0 0, .bool false, .int .u32 0, .int .u32 0]) 1).run Tryz.prog W = .ok (.int .i64 (-1)) W := fun _ => by kernel_rfl
     refine wp_region_later (n := w1.heap.size) w1 (Below.refl _ _) (by kernel_rfl) (by kernel_rfl) ?_
     repeat (first | go_big_quiet_step (((go_at_call 14; exact later_calls (Nat.le_refl _) _ (KN.out _)))) | go_big_quiet_step (fail))
     refine wpQuiet_nil ?_
     rintro W ⟨⟨wj, hj⟩, rfl⟩
     go_wp2
     go_ret
     exact ⟨by rw [HV.out]; rfl, st_call HB1.out hj⟩
 · have HC4 := Lib.hid c4
   have HMV := Lib.hid (may_len (o := o) c1 c2 (by omega) (fun h => absurd (h.symm.trans HC4.out) (by decide)))
   obtain ⟨S, hS⟩ : ∃ S, ofB (rawO o) = S := ⟨_, rfl⟩
   have HS := Lib.hid hS
   have hz : S.size ≤ 1000 := by rw [← hS]; exact HZ.out
   rw [hS] at HMV
   clear hS
   have HV := Lib.hid (HMV.out)
   have HT := Lib.hid c4
   go_enter Tryz.func44, Tryz.ntmps44
   go_wp2_with fail
   have hb0 := HB0.out
   have hx0 := HX.out
   rw [oc_time HT.out] at hb0 hx0
   have hbk0 := HBK.out
   rw [oc_time HT.out] at hbk0
   generalize (w.alloc (.cells #[.int .u16 (o.mss : Int), .int .i64 o.scale, .bool o.sack, .slice A o.blocks.length c, .bool true, .int .u32 (o.val : Int), .int .u32 (o.echo : Int)] 28)) = w1 at hb0 hx0 hbk0 ⊢
   have HB1 := Lib.hid hb0
   have HX1 := Lib.hid hx0
   have HBK1 := Lib.hid hbk0
   clear hb0 hx0 hbk0
   have y0 : ∀ i : Later w1.heap.size w1, i.w.cell? ⟨w.heap.size, 0, none⟩ = some (.int .u16 (o.mss : Int)) := fun i => HX1.out i.w i.h 0 _ rfl
   have y1 : ∀ i : Later w1.heap.size w1, i.w.cell? ⟨w.heap.size, 1, none⟩ = some (.int .i64 o.scale) := fun i => HX1.out i.w i.h 1 _ rfl
   have y2 : ∀ i : Later w1.heap.size w1, i.w.cell? ⟨w.heap.size, 2, none⟩ = some (.bool o.sack) := fun i => HX1.out i.w i.h 2 _ rfl
   have y3 : ∀ i : Later w1.heap.size w1, i.w.cell? ⟨w.heap.size, 3, none⟩ = some (.slice A o.blocks.length c) := fun i => HX1.out i.w i.h 3 _ rfl
   have y4 : ∀ i : Later w1.heap.size w1, i.w.cell? ⟨w.heap.size, 4, none⟩ = some (.bool true) := fun i => HX1.out i.w i.h 4 _ rfl
   have y5 : ∀ i : Later w1.heap.size w1, i.w.cell? ⟨w.heap.size, 5, none⟩ = some (.int .u32 (o.val : Int)) := fun i => HX1.out i.w i.h 5 _ rfl
   have y6 : ∀ i : Later w1.heap.size w1, i.w.cell? ⟨w.heap.size, 6, none⟩ = some (.int .u32 (o.echo : Int)) := fun i => HX1.out i.w i.h 6 _ rfl
   have KN : Hid (∀ i : Later w1.heap.size w1, Calls Tryz.prog 14 #[] i.w fun e w' => e = .returned (.agg #[.int .u16 0, .int .i64 (-1), .bool false, .slice none 0 0, .bool false, .int .u32 0, .int .u32 0]) ∧ Below i.w.heap.size i.w w') := Lib.hid fun i => noneP i.w
   have hfd : ∀ W : World, (Instr.field 28 (.agg #[.int .u16 0, .int .i64 (-1), .bool false, .slice none 0 0, .bool false, .int .u32 0, .int .u32 0]) 1).run Tryz.prog W = .ok (.int .i64 (-1)) W := fun _ => by kernel_rfl
   have KW : Hid (∀ i : Later w1.heap.size w1, Calls Tryz.prog 64 #[.agg #[.int .u16 (o.mss : Int), .int .i64 o.scale, .bool o.sack, .slice A o.blocks.length c, .bool true, .int .u32 (o.val : Int), .int .u32 (o.echo : Int)]] i.w fun e w' => e = .returned (.string S) ∧ Below i.w.heap.size i.w w') := Lib.hid fun i => by
     have h := writtenP o A c i.w (HBK1.out.more i.h) k H14.out H4.out
     rw [ov_time HT.out, HS.out] at h
     exact h
   refine wp_region_later (n := w1.heap.size) w1 (Below.refl _ _) (by kernel_rfl) (by kernel_rfl) ?_
   repeat (first | go_big_quiet_step ((first | (go_at_call 14; exact later_calls (Nat.le_refl _) _ (KN.out _)) | (go_at_call 64; exact later_calls (Nat.le_refl _) _ (KW.out _)))) | go_big_quiet_step (fail))
   refine wpQuiet_nil ?_
   rintro W ⟨⟨wj, hj⟩, rfl⟩
   go_wp2
   go_ret
   exact ⟨by rw [HV.out]; exact congrArg (fun b => Ending.returned (.bool b)) (decide_eq_decide.2 (by omega)), st_call HB1.out hj⟩
set_option maxHeartbeats 16000000 in
theorem encP7 (o : Opn) (A : Option Addr) (c : Nat) (w : World) (hbk : BlkR w A o.blocks) (k : o.ok) :
   Calls Tryz.prog 36 #[ov o A c] w fun e w' => e = .returned (encV7 o) ∧ Below w.heap.size w w' := by
 have HX := Lib.hid (fun (W : World) (hW : Below (w.alloc (.cells (oc o A c) 28)).heap.size (w.alloc (.cells (oc o A c) 28)) W) (j : Nat) (v : Value) (hv : (oc o A c)[j]? = some v) => ((hW.cell (p := ⟨w.heap.size, j, none⟩) (by simp)).trans (World.cell?_alloc_mark w _ _ (0, 0) j)).trans hv)
 have HBK := Lib.hid (fun (W : World) (hW : Below (w.alloc (.cells (oc o A c) 28)).heap.size (w.alloc (.cells (oc o A c) 28)) W) => (hbk.more (st_alloc (Below.refl _ w) (.cells (oc o A c) 28))).more hW)
 have HB0 := Lib.hid (st_alloc (Below.refl _ w) (.cells (oc o A c) 28))
 clear hbk
 by_cases m : mayO o = true
 · have HV := Lib.hid (show encV7 o = _ from if_pos m)
   have M := may_of m
   go_enter Tryz.func36, Tryz.ntmps36
   go_wp2_with fail
   refine (mayP o A c _ (HBK.out _ (Below.refl _ _)) k).mono ?_
   rintro e wA ⟨rfl, hb⟩
   have HB := Lib.hid hb
   rw [m]
   have x0 : wA.cell? ⟨w.heap.size, 0, none⟩ = some (.int .u16 (o.mss : Int)) := HX.out _ hb 0 _ rfl
   have x1 : wA.cell? ⟨w.heap.size, 1, none⟩ = some (.int .i64 o.scale) := HX.out _ hb 1 _ rfl
   have x2 : wA.cell? ⟨w.heap.size, 2, none⟩ = some (.bool o.sack) := HX.out _ hb 2 _ rfl
   have x3 : wA.cell? ⟨w.heap.size, 3, none⟩ = some (.slice A o.blocks.length c) := HX.out _ hb 3 _ rfl
   have x4 : wA.cell? ⟨w.heap.size, 4, none⟩ = some (.bool o.time) := HX.out _ hb 4 _ rfl
   have x5 : wA.cell? ⟨w.heap.size, 5, none⟩ = some (.int .u32 (o.val : Int)) := HX.out _ hb 5 _ rfl
   have x6 : wA.cell? ⟨w.heap.size, 6, none⟩ = some (.int .u32 (o.echo : Int)) := HX.out _ hb 6 _ rfl
   clear hb
   go_wp2_with fail
   refine (writtenP o A c _ (HBK.out _ HB.out) k M.hi M.few).mono ?_
   rintro e wB ⟨rfl, hb⟩
   have HB2 := Lib.hid hb
   clear hb x0 x1 x2 x3 x4 x5 x6
   go_wp2_with fail
   have b1 := HB0.out.trans (HB.out.mono HB0.out.size)
   refine bodyPost_ret (v := encV7 o) ?_ rfl ⟨rfl, b1.trans (HB2.out.mono b1.size)⟩
   rw [HV.out]
   simp [results, Tryz.f36, go_sem]
 · have HV := Lib.hid (show encV7 o = _ from if_neg m)
   have m2 : mayO o = false := by cases h : mayO o; rfl; exact absurd h m
   go_enter Tryz.func36, Tryz.ntmps36
   go_wp2_with fail
   refine (mayP o A c _ (HBK.out _ (Below.refl _ _)) k).mono ?_
   rintro e wA ⟨rfl, hb⟩
   have HB := Lib.hid hb
   rw [m2]
   clear hb m m2
   go_wp2_with fail
   refine bodyPost_ret (v := encV7 o) ?_ rfl ⟨rfl, HB0.out.trans (HB.out.mono HB0.out.size)⟩
   rw [HV.out]
   simp [results, Tryz.f36, go_sem]
end Go.Proofs.YtpmnmnflaijaaaaGreat.OptPE
namespace Go.Proofs.YtpmnmnflaijaaaaGreat.OptPS
open Cells (CellsAt)
open Go.RowKit Own TupMath SumMath Litb Calm IpMath IpRef Rel Num OptMath OptRef OptPlc OptSame OptMay OptTk OptQ OptPT
set_option linter.unusedVariables false
set_option maxRecDepth 100000
set_option maxHeartbeats 16000000 in
theorem equalP (L M : List (Nat × Nat)) (Ao : Option Addr) (co : Nat) (Ap : Option Addr) (cp : Nat) (w : World) (ho : BlkR w Ao L) (hp : BlkR w Ap M) (lo : L.length ≤ 1000000) (lp : M.length ≤ 1000000) :
   Calls Tryz.prog 77 #[.slice Ao L.length co, .slice Ap M.length cp] w fun e w' => e = .returned (.bool (decide (L = M))) ∧ Below w.heap.size w w' := by
 have HO := Lib.hid ho
 have HP := Lib.hid hp
 clear ho hp
 by_cases cl : L.length = M.length
 rotate_left
 · rw [decide_eq_false (fun e => cl (by rw [e]))]
   have q7 : ((L.length : Int) == (M.length : Int)) = false := beq_eq_false_iff_ne.2 (by omega)
   have r7 : ((L.length : Int) != (M.length : Int)) = true := bne_iff_ne.2 (by omega)
   clear cl
   go_enter Tryz.func77, Tryz.ntmps77
   go_wp2_with fail
   go_ret
   exact ⟨rfl, Below.refl _ _⟩
 have q7 : ((L.length : Int) == (M.length : Int)) = true := beq_iff_eq.2 (by omega)
 have r7 : ((L.length : Int) != (M.length : Int)) = false := by rw [bne, q7]; rfl
 have HCL := Lib.hid cl
 clear cl
 go_enter Tryz.func77, Tryz.ntmps77
 go_wp2_with fail
 clear q7 r7
 go_loopw [13] (fun i wr => ∃ k : Nat, i = .int .i64 (k : Int) ∧ k ≤ L.length ∧ L.take k = M.take k ∧ Below w.heap.size w wr) (fun i _ => L.length - (intOf i).toNat)
 case atStart => exact ⟨0, rfl, by omega, rfl, Below.refl _ _⟩
 case round =>
   obtain ⟨k, rfl, hk, htk, hB⟩ := hrel
   have HTK := Lib.hid htk
   have HB := Lib.hid hB
   clear htk hB
   by_cases hlt : k < L.length
   · have hlti : (k : Int) < (L.length : Int) := by omega
     have hlt2 : k < M.length := by have := HCL.out; omega
     have hlti2 : (k : Int) < (M.length : Int) := by omega
     obtain ⟨b, off, e1, hb1, hc1⟩ := HO.out (by omega)
     obtain ⟨b2, off2, e2, hb2, hc2⟩ := HP.out (by omega)
     obtain ⟨u, hu⟩ : ∃ u, L[k]? = some u := ⟨_, List.getElem?_eq_getElem hlt⟩
     obtain ⟨v, hv⟩ : ∃ u, M[k]? = some u := ⟨_, List.getElem?_eq_getElem hlt2⟩
     have d0 := (HB.out.cell (p := ⟨b, off + k * 2, none⟩) hb1).trans (hc1 k u hu).1
     have d1 := (HB.out.cell (p := ⟨b, off + k * 2 + 1, none⟩) hb1).trans (hc1 k u hu).2
     have g0 := (HB.out.cell (p := ⟨b2, off2 + k * 2, none⟩) hb2).trans (hc2 k v hv).1
     have g1 := (HB.out.cell (p := ⟨b2, off2 + k * 2 + 1, none⟩) hb2).trans (hc2 k v hv).2
     have HTS : Hid (u = v → L.take (k + 1) = M.take (k + 1)) := Lib.hid fun e => by
       rw [take_snocG hu, take_snocG hv, HTK.out, e]
     have HNE : Hid (u ≠ v → L ≠ M) := Lib.hid fun e h => by
       rw [h, hv] at hu
       exact e (Option.some.inj hu).symm
     subst e1 e2
     clear hc1 hc2 hu hv
     obtain ⟨u1, u2⟩ := u
     obtain ⟨v1, v2⟩ := v
     simp only at d0 d1 g0 g1
     by_cases h1 : u1 = v1
     · by_cases h2 : u2 = v2
       · subst h1 h2
         have hts := Lib.hid (HTS.out rfl)
         go_wp2_with fail
         go_quiet (fail)
         go_wp2
         go_roundw
         case rel => exact ⟨k + 1, by go_num, by omega, hts.out, HB.out.trans (below_q _ _ _)⟩
         case measure => simp only [intOf]; omega
       · have q8 : ((u2 : Int) == (v2 : Int)) = false := beq_eq_false_iff_ne.2 (by omega)
         subst h1
         have HF := Lib.hid (decide_eq_false (HNE.out (fun e => h2 (congrArg Prod.snd e))))
         clear h2
         go_wp2_with fail
         go_quiet (fail)
         go_wp2
         go_ret
         exact ⟨by rw [HF.out]; rfl, HB.out.trans (below_q _ _ _)⟩
     · have q8 : ((u1 : Int) == (v1 : Int)) = false := beq_eq_false_iff_ne.2 (by omega)
       have HF := Lib.hid (decide_eq_false (HNE.out (fun e => h1 (congrArg Prod.fst e))))
       clear h1
       go_wp2_with fail
       go_quiet (fail)
       go_wp2
       go_ret
       exact ⟨by rw [HF.out]; rfl, HB.out.trans (below_q _ _ _)⟩
   · have hlti : ¬ (k : Int) < (L.length : Int) := by omega
     have HT : Hid (decide (L = M) = true) := Lib.hid (decide_eq_true (by
       have h := HTK.out
       rw [List.take_of_length_le (by omega), List.take_of_length_le (by have := HCL.out; omega)] at h
       exact h))
     go_wp2_with fail
     go_ret
     exact ⟨by rw [HT.out]; rfl, HB.out⟩
set_option maxHeartbeats 16000000 in
theorem sameP (o p : Opn) (Ao : Option Addr) (co : Nat) (Ap : Option Addr) (cp : Nat) (w : World) (ho : BlkR w Ao o.blocks) (hp : BlkR w Ap p.blocks) (lo : o.blocks.length ≤ 1000000) (lp : p.blocks.length ≤ 1000000) :
   Calls Tryz.prog 43 #[ov o Ao co, ov p Ap cp] w fun e w' => e = .returned (.bool (decide (o = p))) ∧ Below w.heap.size w w' := by
 have HB := Lib.hid (st_alloc (st_alloc (Below.refl _ w) (.cells (oc o Ao co) 28)) (.cells (oc p Ap cp) 28))
 have HO := Lib.hid (ho.more HB.out)
 have HP := Lib.hid (hp.more HB.out)
 clear ho hp
 by_cases c0 : o.mss = p.mss
 rotate_left
 · have q0 : ((o.mss : Int) == (p.mss : Int)) = false := beq_eq_false_iff_ne.2 (by omega)
   have HV := Lib.hid (show decide (o = p) = false from decide_eq_false (fun e => c0 (by rw [e])))
   clear c0
   go_enter Tryz.func43, Tryz.ntmps43
   go_wp2_with fail
   go_ret
   exact ⟨by rw [HV.out]; rfl, HB.out⟩
 have q0 : ((o.mss : Int) == (p.mss : Int)) = true := beq_iff_eq.2 (by omega)
 by_cases c1 : o.scale = p.scale
 rotate_left
 · have q1 : (o.scale == p.scale) = false := beq_eq_false_iff_ne.2 c1
   have HV := Lib.hid (show decide (o = p) = false from decide_eq_false (fun e => c1 (by rw [e])))
   clear c0 c1
   go_enter Tryz.func43, Tryz.ntmps43
   go_wp2_with fail
   go_ret
   exact ⟨by rw [HV.out]; rfl, HB.out⟩
 have q1 : (o.scale == p.scale) = true := beq_iff_eq.2 c1
 by_cases c2 : o.sack = p.sack
 rotate_left
 · have q2 : (o.sack == p.sack) = false := beq_eq_false_iff_ne.2 c2
   have HV := Lib.hid (show decide (o = p) = false from decide_eq_false (fun e => c2 (by rw [e])))
   clear c0 c1 c2
   go_enter Tryz.func43, Tryz.ntmps43
   go_wp2_with fail
   go_ret
   exact ⟨by rw [HV.out]; rfl, HB.out⟩
 have q2 : (o.sack == p.sack) = true := beq_iff_eq.2 c2
 by_cases c3 : o.time = p.time
 rotate_left
 · have q3 : (o.time == p.time) = false := beq_eq_false_iff_ne.2 c3
   have HV := Lib.hid (show decide (o = p) = false from decide_eq_false (fun e => c3 (by rw [e])))
   clear c0 c1 c2 c3
   go_enter Tryz.func43, Tryz.ntmps43
   go_wp2_with fail
   go_ret
   exact ⟨by rw [HV.out]; rfl, HB.out⟩
 have q3 : (o.time == p.time) = true := beq_iff_eq.2 c3
 by_cases c4 : o.val = p.val
 rotate_left
 · have q4 : ((o.val : Int) == (p.val : Int)) = false := beq_eq_false_iff_ne.2 (by omega)
   have HV := Lib.hid (show decide (o = p) = false from decide_eq_false (fun e => c4 (by rw [e])))
   clear c0 c1 c2 c3 c4
   go_enter Tryz.func43, Tryz.ntmps43
   go_wp2_with fail
   go_ret
   exact ⟨by rw [HV.out]; rfl, HB.out⟩
 have q4 : ((o.val : Int) == (p.val : Int)) = true := beq_iff_eq.2 (by omega)
 by_cases c5 : o.echo = p.echo
 rotate_left
 · have q5 : ((o.echo : Int) == (p.echo : Int)) = false := beq_eq_false_iff_ne.2 (by omega)
   have HV := Lib.hid (show decide (o = p) = false from decide_eq_false (fun e => c5 (by rw [e])))
   clear c0 c1 c2 c3 c4 c5
   go_enter Tryz.func43, Tryz.ntmps43
   go_wp2_with fail
   go_ret
   exact ⟨by rw [HV.out]; rfl, HB.out⟩
 have q5 : ((o.echo : Int) == (p.echo : Int)) = true := beq_iff_eq.2 (by omega)
 have HV := Lib.hid (show decide (o = p) = decide (o.blocks = p.blocks) from decide_eq_decide.2 (by
   obtain ⟨a1, a2, a3, a4, a5, a6, a7⟩ := o
   obtain ⟨b1, b2, b3, b4, b5, b6, b7⟩ := p
   simp only at c0 c1 c2 c3 c4 c5 ⊢
   subst c0 c1 c2 c3 c4 c5
   simp))
 clear c0 c1 c2 c3 c4 c5
 go_enter Tryz.func43, Tryz.ntmps43
 go_wp2_with fail
 refine (equalP o.blocks p.blocks Ao co Ap cp _ HO.out HP.out lo lp).mono ?_
 rintro e w' ⟨rfl, hb⟩
 have HB2 := Lib.hid (st_call HB.out hb)
 clear hb
 go_wp2_with fail
 go_ret
 exact ⟨by rw [HV.out]; rfl, HB2.out⟩
end Go.Proofs.YtpmnmnflaijaaaaGreat.OptPS
namespace Go.Proofs.YtpmnmnflaijaaaaGreat.PktTP
open Go.Proofs.YtpmnmnflaijaaaaGreat.Own
open Go.RowKit Go.Shelf TupMath SumMath Litb Calm Rel RelT RelK IpMath IpRef OptMath OptRef OptPlc OptSame Boxes OptMay PktMath PktVal PktSmall PktCom
set_option linter.unusedVariables false
set_option linter.unusedSimpArgs false
set_option maxRecDepth 100000
attribute [local go_sem] Oper.semAt_some
theorem clamp_le (x : Int) : clamp x ≤ 14 := by unfold clamp; omega
set_option maxHeartbeats 2000000 in
theorem scaleP (x : Int) (w : World) (h1 : -9223372036854775808 ≤ x) (h2 : x ≤ 9223372036854775807) : Calls Tryz.prog 62 #[.int .i64 x] w fun e w' => e = .returned (.int .i64 (clamp x : Int)) ∧ w' = w := by
 go_enter Tryz.func62, Tryz.ntmps62
 go_wp2_with fail
 all_goals go_ret
 all_goals (refine ⟨ret_n ?_, rfl⟩)
 all_goals (unfold clamp; omega)
theorem mid (n u : Nat) (hn : n ≤ 65535) (hu : u ≤ 14) : IntKind.u32.wrap ((n : Int) * 2 ^ u) = ((n * 2 ^ u : Nat) : Int) ∧ n * 2 ^ u ≤ 1073725440 := by
 have h2 : n * 2 ^ u ≤ 1073725440 := Nat.mul_le_mul hn (Nat.pow_le_pow_right (by decide) hu)
 have e : (n : Int) * 2 ^ u = ((n * 2 ^ u : Nat) : Int) := by push_cast; rfl
 refine ⟨?_, h2⟩
 rw [e, IntKind.wrap_u32]
 generalize n * 2 ^ u = m at h2
 omega
theorem div_q (P d : Nat) : (P : Int) / 2 ^ d = ((P / 2 ^ d : Nat) : Int) := by rw [Int.natCast_ediv, Int.natCast_pow]; rfl
set_option maxHeartbeats 4000000 in
theorem scaledP (n : Nat) (up down : Int) (w : World) (hn : n ≤ 65535) (u1 : -9223372036854775808 ≤ up) (u2 : up ≤ 9223372036854775807) (d1 : -9223372036854775808 ≤ down) (d2 : down ≤ 9223372036854775807) :
   Calls Tryz.prog 32 #[.int .u16 (n : Int), .int .i64 up, .int .i64 down] w fun e w' => e = .returned (.int .u16 (winT n up down : Int)) ∧ Below w.heap.size w w' := by
 have HU := Lib.hid (fun W => scaleP up W u1 u2)
 have HDn := Lib.hid (fun W => scaleP down W d1 d2)
 have HM := Lib.hid (mid n (clamp up) hn (clamp_le up))
 have HW : Hid (winT n up down = min (n * 2 ^ clamp up / 2 ^ clamp down) 65535) := Lib.hid rfl
 have hu : clamp up ≤ 14 := clamp_le up
 have hd : clamp down ≤ 14 := clamp_le down
 generalize clamp up = cu at HU HM HW hu
 generalize clamp down = cd at HDn HW hd
 have z1 : 0 ≤ (cu : Int) := by omega
 have z2 : 0 ≤ (cd : Int) := by omega
 go_enter Tryz.func32, Tryz.ntmps32
 go_wp2_with fail
 go_quiet ((go_at_call 62; first | exact Calls.quiet_of_same (HU.out _) | exact Calls.quiet_of_same (HDn.out _)))
 go_wp2_with fail
 all_goals go_ret
 all_goals (refine ⟨ret_n ?_, Num.below_drewN (Below.refl _ _) _⟩)
 all_goals (rw [HW.out])
 all_goals (obtain ⟨m1, m2⟩ := HM.out; clear HM HU HDn HW)
 rw [IntKind.wrap_u32] at m1
 rw [m1, div_q, show ∀ x : Int, IntKind.u16.wrap x = x % 65536 from fun _ => rfl]
 generalize n * 2 ^ cu / 2 ^ cd = Q
 clear m1 m2
 omega
end Go.Proofs.YtpmnmnflaijaaaaGreat.PktTP
