/-
  The program's own calls of layer 7: None, what is there, and an option's bytes.
-/
import Derived.Test.YtgpkckaojcodmaaOptQ
import Derived.Test.YtgpkckaojcodmaaOptMay
import Derived.Test.YtgpkckaojcodmaaNumA8
import Derived.Test.YtgpkckaojcodmaaNumA16
import Derived.Test.YtgpkckaojcodmaaNumA32
namespace Go.Proofs.Ytgpkckaojcodmaa.OptPT
open Cells (CellsAt)
open Go.RowKit TupMath SumMath Litb Calm IpMath IpRef Rel Num OptMath OptRef OptPlc OptSame OptMay OptTk OptQ
set_option linter.unusedVariables false
set_option maxRecDepth 100000

theorem app_size {a b : List Nat} (h : a.length + b.length ≤ 9223372036854775807) : (ofB a).size + (ofB b).size ≤ 9223372036854775807 := by rw [ofB_size, ofB_size]; exact h
theorem seg2 (o : Opn) : w1s [2, 4] ++ w2s [o.mss] = segO o 2 := by show [2, 4] ++ (w2 o.mss ++ []) = _; rw [List.append_nil]; rfl
theorem seg8 (o : Opn) : w1s [1, 1, 8, 10] ++ w4s [o.val, o.echo] = segO o 8 := by show [1, 1, 8, 10] ++ (w4 o.val ++ (w4 o.echo ++ [])) = _; rw [List.append_nil]; rfl
set_option maxHeartbeats 4000000 in
theorem noneP (w : World) : Calls Try.prog 17 #[] w fun e w' => e = .returned (ov none0 none 0) ∧ Below w.heap.size w w' := by
  go_enter Try.func17, Try.ntmps17
  go_wp2_with fail
  refine bodyPost_ret (v := ov none0 none 0) ?_ rfl ⟨rfl, st_alloc (Below.refl _ _) _⟩
  simp [results, Try.f17, go_sem, none0]

set_option maxHeartbeats 16000000 in
theorem thereP (o : Opn) (A : Option Addr) (c k : Nat) (w : World) (hk : k ≤ 255) : Calls Try.prog 26 #[ov o A c, .int .u8 (k : Int)] w fun e w' => e = .returned (.bool (there o k)) ∧ Below w.heap.size w w' := by
  by_cases c2 : k = 2
  · subst c2
    have e : there o 2 = ((o.mss : Int) != 0) := by
      show decide (o.mss ≠ 0) = _
      by_cases h : o.mss = 0
      · rw [h]; rfl
      · rw [decide_eq_true h]; exact (bne_iff_ne.2 (by omega)).symm
    rw [e]
    clear e
    go_enter Try.func26, Try.ntmps26
    go_wp2
    go_ret
    exact ⟨rfl, st_alloc (Below.refl _ _) _⟩
  by_cases c3 : k = 3
  · subst c3
    have e : there o 3 = decide ((0 : Int) ≤ o.scale) := rfl
    rw [e]
    clear e
    go_enter Try.func26, Try.ntmps26
    go_wp2
    go_ret
    exact ⟨rfl, st_alloc (Below.refl _ _) _⟩
  by_cases c4 : k = 4
  · subst c4
    have e : there o 4 = o.sack := rfl
    rw [e]
    clear e
    go_enter Try.func26, Try.ntmps26
    go_wp2
    go_ret
    exact ⟨rfl, st_alloc (Below.refl _ _) _⟩
  by_cases c8 : k = 8
  · subst c8
    have e : there o 8 = o.time := rfl
    rw [e]
    clear e
    go_enter Try.func26, Try.ntmps26
    go_wp2
    go_ret
    exact ⟨rfl, st_alloc (Below.refl _ _) _⟩
  by_cases c5 : k = 5
  · subst c5
    have e : there o 5 = decide (0 < o.blocks.length) := rfl
    rw [e]
    clear e
    go_enter Try.func26, Try.ntmps26
    go_wp2
    go_ret
    exact ⟨rfl, st_alloc (Below.refl _ _) _⟩
  have e : there o k = false := by unfold there; rw [if_neg c2, if_neg c3, if_neg c4, if_neg c8, if_neg c5]
  rw [e]
  have q2 : ((k : Int) == 2) = false := beq_eq_false_iff_ne.2 (by omega)
  have q3 : ((k : Int) == 3) = false := beq_eq_false_iff_ne.2 (by omega)
  have q4 : ((k : Int) == 4) = false := beq_eq_false_iff_ne.2 (by omega)
  have q5 : ((k : Int) == 5) = false := beq_eq_false_iff_ne.2 (by omega)
  have q8 : ((k : Int) == 8) = false := beq_eq_false_iff_ne.2 (by omega)
  clear e
  go_enter Try.func26, Try.ntmps26
  go_wp2
  go_ret
  exact ⟨rfl, st_alloc (Below.refl _ _) _⟩

def relL3 (o : Opn) (b : Nat) : Nat → Value → World → Prop
  | 0 => fun v _ => v = .int .u8 2
  | 1 => HoldK .u8 [2, 4]
  | 2 => fun v _ => v = .string (ofB (w1s [2, 4]))
  | 3 => fun v _ => v = .pointer (some ⟨b, 0, none⟩)
  | 4 => fun v _ => v = .int .u16 (o.mss : Int)
  | 5 => HoldK .u16 [o.mss]
  | 6 => fun v _ => v = .string (ofB (w2s [o.mss]))
  | 7 => fun v _ => v = .string (ofB (segO o 2))
  | 8 => fun v _ => v = .string (ofB (segO o 2))
  | _ => fun _ _ => True
theorem relL3_more (o : Opn) (b : Nat) (i : Nat) (v : Value) (w w' : World) (hr : relL3 o b i v w) (hb : Below w.heap.size w w') : relL3 o b i v w' := by
  unfold relL3 at hr ⊢
  split at hr <;> first | exact hr | exact hr.more hb
def relL9 (o : Opn) (b : Nat) : Nat → Value → World → Prop
  | 0 => fun v _ => v = .int .u8 8
  | 1 => HoldK .u8 [1, 1, 8, 10]
  | 2 => fun v _ => v = .string (ofB (w1s [1, 1, 8, 10]))
  | 3 => fun v _ => v = .pointer (some ⟨b, 5, none⟩)
  | 4 => fun v _ => v = .int .u32 (o.val : Int)
  | 5 => fun v _ => v = .pointer (some ⟨b, 6, none⟩)
  | 6 => fun v _ => v = .int .u32 (o.echo : Int)
  | 7 => HoldK .u32 [o.val, o.echo]
  | 8 => fun v _ => v = .string (ofB (w4s [o.val, o.echo]))
  | 9 => fun v _ => v = .string (ofB (segO o 8))
  | 10 => fun v _ => v = .string (ofB (segO o 8))
  | _ => fun _ _ => True
theorem relL9_more (o : Opn) (b : Nat) (i : Nat) (v : Value) (w w' : World) (hr : relL9 o b i v w) (hb : Below w.heap.size w w') : relL9 o b i v w' := by
  unfold relL9 at hr ⊢
  split at hr <;> first | exact hr | exact hr.more hb
attribute [local go_sem] relUpon

set_option maxHeartbeats 16000000 in
theorem laid2 (o : Opn) (A : Option Addr) (c : Nat) (w : World) (k : o.ok) : Calls Try.prog 33 #[ov o A c, .int .u8 2] w fun e w' => e = .returned (.string (ofB (segO o 2))) ∧ Below w.heap.size w w' := by
  have HX := Lib.hid (fun (W : World) (hW : Below (w.alloc (.cells (oc o A c) 26)).heap.size (w.alloc (.cells (oc o A c) 26)) W) (j : Nat) (v : Value) (hv : (oc o A c)[j]? = some v) => ((hW.cell (p := ⟨w.heap.size, j, none⟩) (by simp)).trans (World.cell?_alloc_mark w _ _ (0, 0) j)).trans hv)
  have HB0 := Lib.hid (st_alloc (Below.refl _ w) (.cells (oc o A c) 26))
  go_enter Try.func33, Try.ntmps33
  go_wp2_with fail
  refine wp_region_see 70 (relL3 o w.heap.size) rfl (by kernel_rfl) (by kernel_rfl) (by kernel_rfl) (relL3_more o w.heap.size) ?_ ?_
  · intro i hi
    have hi2 : i < 9 := by simpa using hi
    clear hi
    match i, hi2 with
    | 0, _ =>
      intro ρ W hb hc hg hf h0 hd
      have t1 := h0 1 (by kernel_rfl)
      clear hd h0
      go_simp
      exact ⟨rfl, Below.refl _ _⟩
    | 1, _ =>
      intro ρ W hb hc hg hf h0 hd
      have d0 : ρ (.tmp 11) = .int .u8 2 := hd 0 11 (by kernel_rfl) (by kernel_rfl)
      clear hd h0
      go_simp
      exact ⟨HoldK.new .u8 W [2, 4] _, st_alloc (Below.refl _ _) _⟩
    | 2, _ =>
      intro ρ W hb hc hg hf h0 hd
      have dh1 : HoldK .u8 [2, 4] (ρ (.tmp 12)) W := hd 1 12 (by kernel_rfl) (by kernel_rfl)
      clear hd h0
      go_simp
      exact (layH8 dh1 (by simp) (by simp) (by intro x hx; simp at hx; omega)).mono fun e w' ⟨he, hb⟩ => ⟨_, he, rfl, hb⟩
    | 3, _ =>
      intro ρ W hb hc hg hf h0 hd
      have t2 := h0 2 (by kernel_rfl)
      clear hd h0
      go_simp
      exact ⟨rfl, Below.refl _ _⟩
    | 4, _ =>
      intro ρ W hb hc hg hf h0 hd
      have d3 : ρ (.tmp 14) = .pointer (some ⟨w.heap.size, 0, none⟩) := hd 3 14 (by kernel_rfl) (by kernel_rfl)
      have c0 := HX.out W hb 0 _ rfl
      clear hd h0
      go_simp
      exact ⟨rfl, Below.refl _ _⟩
    | 5, _ =>
      intro ρ W hb hc hg hf h0 hd
      have d4 : ρ (.tmp 15) = .int .u16 (o.mss : Int) := hd 4 15 (by kernel_rfl) (by kernel_rfl)
      clear hd h0
      go_simp
      exact ⟨HoldK.new .u16 W [o.mss] _, st_alloc (Below.refl _ _) _⟩
    | 6, _ =>
      intro ρ W hb hc hg hf h0 hd
      have dh5 : HoldK .u16 [o.mss] (ρ (.tmp 16)) W := hd 5 16 (by kernel_rfl) (by kernel_rfl)
      clear hd h0
      go_simp
      exact (layH16 dh5 (by simp) (by simp) (by intro x hx; simp at hx; have := k.mss; omega)).mono fun e w' ⟨he, hb⟩ => ⟨_, he, rfl, hb⟩
    | 7, _ =>
      intro ρ W hb hc hg hf h0 hd
      have d2 : ρ (.tmp 13) = .string (ofB (w1s [2, 4])) := hd 2 13 (by kernel_rfl) (by kernel_rfl)
      have d6 : ρ (.tmp 17) = .string (ofB (w2s [o.mss])) := hd 6 17 (by kernel_rfl) (by kernel_rfl)
      have hz := app_size (a := w1s [2, 4]) (b := w2s [o.mss]) (Nat.le_of_ble_eq_true rfl)
      clear hd h0
      go_simp
      exact ⟨congrArg Value.string (by rw [ofB_app]; exact congrArg ofB (seg2 o)), Below.refl _ _⟩
    | 8, _ =>
      intro ρ W hb hc hg hf h0 hd
      have d7 : ρ (.tmp 18) = .string (ofB (segO o 2)) := hd 7 18 (by kernel_rfl) (by kernel_rfl)
      clear hd h0
      go_simp
      exact ⟨rfl, Below.refl _ _⟩
    | i + 9, hlt => exact absurd hlt (by omega)
  · intro vs W hb hall
    have hl : vs 8 = .string (ofB (segO o 2)) := hall 8 (of_decide_eq_true (by kernel_rfl))
    have HBW := Lib.hid (HB0.out.trans (hb.mono HB0.out.size))
    clear hall hb
    go_wp2
    refine bodyPost_ret (v := .string (ofB (segO o 2))) ?_ rfl ⟨rfl, HBW.out⟩
    rw [← hl]
    exact (results_tmp rfl _ _ _).trans (congrArg (Result.ok · W) (lexA_get (N := 70) (by kernel_rfl) rfl vs 4 8 _ (by kernel_rfl) (of_decide_eq_true (by kernel_rfl))))

set_option maxHeartbeats 16000000 in
theorem laid8 (o : Opn) (A : Option Addr) (c : Nat) (w : World) (k : o.ok) : Calls Try.prog 33 #[ov o A c, .int .u8 8] w fun e w' => e = .returned (.string (ofB (segO o 8))) ∧ Below w.heap.size w w' := by
  have HX := Lib.hid (fun (W : World) (hW : Below (w.alloc (.cells (oc o A c) 26)).heap.size (w.alloc (.cells (oc o A c) 26)) W) (j : Nat) (v : Value) (hv : (oc o A c)[j]? = some v) => ((hW.cell (p := ⟨w.heap.size, j, none⟩) (by simp)).trans (World.cell?_alloc_mark w _ _ (0, 0) j)).trans hv)
  have HB0 := Lib.hid (st_alloc (Below.refl _ w) (.cells (oc o A c) 26))
  go_enter Try.func33, Try.ntmps33
  go_wp2_with fail
  refine wp_region_see 70 (relL9 o w.heap.size) rfl (by kernel_rfl) (by kernel_rfl) (by kernel_rfl) (relL9_more o w.heap.size) ?_ ?_
  · intro i hi
    have hi2 : i < 11 := by simpa using hi
    clear hi
    match i, hi2 with
    | 0, _ =>
      intro ρ W hb hc hg hf h0 hd
      have t1 := h0 1 (by kernel_rfl)
      clear hd h0
      go_simp
      exact ⟨rfl, Below.refl _ _⟩
    | 1, _ =>
      intro ρ W hb hc hg hf h0 hd
      have d0 : ρ (.tmp 34) = .int .u8 8 := hd 0 34 (by kernel_rfl) (by kernel_rfl)
      clear hd h0
      go_simp
      exact ⟨HoldK.new .u8 W [1, 1, 8, 10] _, st_alloc (Below.refl _ _) _⟩
    | 2, _ =>
      intro ρ W hb hc hg hf h0 hd
      have dh1 : HoldK .u8 [1, 1, 8, 10] (ρ (.tmp 35)) W := hd 1 35 (by kernel_rfl) (by kernel_rfl)
      clear hd h0
      go_simp
      exact (layH8 dh1 (by simp) (by simp) (by intro x hx; simp at hx; omega)).mono fun e w' ⟨he, hb⟩ => ⟨_, he, rfl, hb⟩
    | 3, _ =>
      intro ρ W hb hc hg hf h0 hd
      have t2 := h0 2 (by kernel_rfl)
      clear hd h0
      go_simp
      exact ⟨rfl, Below.refl _ _⟩
    | 4, _ =>
      intro ρ W hb hc hg hf h0 hd
      have d3 : ρ (.tmp 37) = .pointer (some ⟨w.heap.size, 5, none⟩) := hd 3 37 (by kernel_rfl) (by kernel_rfl)
      have c5 := HX.out W hb 5 _ rfl
      clear hd h0
      go_simp
      exact ⟨rfl, Below.refl _ _⟩
    | 5, _ =>
      intro ρ W hb hc hg hf h0 hd
      have t2 := h0 2 (by kernel_rfl)
      clear hd h0
      go_simp
      exact ⟨rfl, Below.refl _ _⟩
    | 6, _ =>
      intro ρ W hb hc hg hf h0 hd
      have d5 : ρ (.tmp 39) = .pointer (some ⟨w.heap.size, 6, none⟩) := hd 5 39 (by kernel_rfl) (by kernel_rfl)
      have c6 := HX.out W hb 6 _ rfl
      clear hd h0
      go_simp
      exact ⟨rfl, Below.refl _ _⟩
    | 7, _ =>
      intro ρ W hb hc hg hf h0 hd
      have d4 : ρ (.tmp 38) = .int .u32 (o.val : Int) := hd 4 38 (by kernel_rfl) (by kernel_rfl)
      have d6 : ρ (.tmp 40) = .int .u32 (o.echo : Int) := hd 6 40 (by kernel_rfl) (by kernel_rfl)
      clear hd h0
      go_simp
      exact ⟨HoldK.new .u32 W [o.val, o.echo] _, st_alloc (Below.refl _ _) _⟩
    | 8, _ =>
      intro ρ W hb hc hg hf h0 hd
      have dh7 : HoldK .u32 [o.val, o.echo] (ρ (.tmp 41)) W := hd 7 41 (by kernel_rfl) (by kernel_rfl)
      clear hd h0
      go_simp
      exact (layH32 dh7 (by simp) (by simp) (by intro x hx; simp at hx; have := k.val; have := k.echo; omega)).mono fun e w' ⟨he, hb⟩ => ⟨_, he, rfl, hb⟩
    | 9, _ =>
      intro ρ W hb hc hg hf h0 hd
      have d2 : ρ (.tmp 36) = .string (ofB (w1s [1, 1, 8, 10])) := hd 2 36 (by kernel_rfl) (by kernel_rfl)
      have d8 : ρ (.tmp 42) = .string (ofB (w4s [o.val, o.echo])) := hd 8 42 (by kernel_rfl) (by kernel_rfl)
      have hz := app_size (a := w1s [1, 1, 8, 10]) (b := w4s [o.val, o.echo]) (Nat.le_of_ble_eq_true rfl)
      clear hd h0
      go_simp
      exact ⟨congrArg Value.string (by rw [ofB_app]; exact congrArg ofB (seg8 o)), Below.refl _ _⟩
    | 10, _ =>
      intro ρ W hb hc hg hf h0 hd
      have d9 : ρ (.tmp 43) = .string (ofB (segO o 8)) := hd 9 43 (by kernel_rfl) (by kernel_rfl)
      clear hd h0
      go_simp
      exact ⟨rfl, Below.refl _ _⟩
    | i + 11, hlt => exact absurd hlt (by omega)
  · intro vs W hb hall
    have hl : vs 10 = .string (ofB (segO o 8)) := hall 10 (of_decide_eq_true (by kernel_rfl))
    have HBW := Lib.hid (HB0.out.trans (hb.mono HB0.out.size))
    clear hall hb
    go_wp2
    refine bodyPost_ret (v := .string (ofB (segO o 8))) ?_ rfl ⟨rfl, HBW.out⟩
    rw [← hl]
    exact (results_tmp rfl _ _ _).trans (congrArg (Result.ok · W) (lexA_get (N := 70) (by kernel_rfl) rfl vs 4 10 _ (by kernel_rfl) (of_decide_eq_true (by kernel_rfl))))

theorem lay4 (a b c d : Nat) (w : World) (ha : a ≤ 255) (hb : b ≤ 255) (hc : c ≤ 255) (hd : d ≤ 255) : Calls Try.prog 45 #[.slice (some ⟨w.heap.size, 0, none⟩) 4 4] (w.alloc (.cells #[.int .u8 (a : Int), .int .u8 (b : Int), .int .u8 (c : Int), .int .u8 (d : Int)] 5)) fun e w' => e = .returned (.string (ofB [a, b, c, d])) ∧ Below (w.alloc (.cells #[.int .u8 (a : Int), .int .u8 (b : Int), .int .u8 (c : Int), .int .u8 (d : Int)] 5)).heap.size (w.alloc (.cells #[.int .u8 (a : Int), .int .u8 (b : Int), .int .u8 (c : Int), .int .u8 (d : Int)] 5)) w' :=
  layH8 (HoldK.new .u8 w [a, b, c, d] _) (by simp) (by simp) (by intro x hx; simp at hx; omega)
theorem lay4a (n : Nat) (w : World) (B : Nat) (hB : w.heap.size = B) (hn : n ≤ 255) : Calls Try.prog 45 #[.slice (some ⟨B, 0, none⟩) 4 4] (w.alloc (.cells #[.int .u8 1, .int .u8 3, .int .u8 3, .int .u8 (n : Int)] 5)) fun e w' => e = .returned (.string (ofB [1, 3, 3, n])) ∧ Below (w.alloc (.cells #[.int .u8 1, .int .u8 3, .int .u8 3, .int .u8 (n : Int)] 5)).heap.size (w.alloc (.cells #[.int .u8 1, .int .u8 3, .int .u8 3, .int .u8 (n : Int)] 5)) w' := by subst hB; exact lay4 (1) (3) (3) (n) w (by omega) (by omega) (by omega) (by omega)
theorem lay4b (w : World) (B : Nat) (hB : w.heap.size = B) : Calls Try.prog 45 #[.slice (some ⟨B, 0, none⟩) 4 4] (w.alloc (.cells #[.int .u8 1, .int .u8 1, .int .u8 4, .int .u8 2] 5)) fun e w' => e = .returned (.string (ofB [1, 1, 4, 2])) ∧ Below (w.alloc (.cells #[.int .u8 1, .int .u8 1, .int .u8 4, .int .u8 2] 5)).heap.size (w.alloc (.cells #[.int .u8 1, .int .u8 1, .int .u8 4, .int .u8 2] 5)) w' := by subst hB; exact lay4 (1) (1) (4) (2) w (by omega) (by omega) (by omega) (by omega)
theorem lay4c (n : Nat) (w : World) (B : Nat) (hB : w.heap.size = B) (hn : n ≤ 255) : Calls Try.prog 45 #[.slice (some ⟨B, 0, none⟩) 4 4] (w.alloc (.cells #[.int .u8 1, .int .u8 1, .int .u8 5, .int .u8 (n : Int)] 5)) fun e w' => e = .returned (.string (ofB [1, 1, 5, n])) ∧ Below (w.alloc (.cells #[.int .u8 1, .int .u8 1, .int .u8 5, .int .u8 (n : Int)] 5)).heap.size (w.alloc (.cells #[.int .u8 1, .int .u8 1, .int .u8 5, .int .u8 (n : Int)] 5)) w' := by subst hB; exact lay4 (1) (1) (5) (n) w (by omega) (by omega) (by omega) (by omega)
set_option maxHeartbeats 16000000 in
theorem laid3 (o : Opn) (A : Option Addr) (c : Nat) (w : World) (h0 : 0 ≤ o.scale) (h14 : o.scale ≤ 14) : Calls Try.prog 33 #[ov o A c, .int .u8 3] w fun e w' => e = .returned (.string (ofB (segO o 3))) ∧ Below w.heap.size w w' := by
  obtain ⟨n, hn⟩ : ∃ n : Nat, n = o.scale.toNat := ⟨_, rfl⟩
  have hw : IntKind.u8.wrap o.scale = (n : Int) := by rw [IntKind.wrap_u8]; omega
  have e : segO o 3 = [1, 3, 3, n] := by rw [hn]; rfl
  rw [e]
  have HL := Lib.hid (fun W B hB => lay4a n W B hB (by omega))
  have B0 := Lib.hid (st_alloc (st_alloc (Below.refl _ w) (.cells (oc o A c) 26)) (.cells #[.int .u8 1, .int .u8 3, .int .u8 3, .int .u8 (n : Int)] 5))
  clear e hn
  go_enter Try.func33, Try.ntmps33
  go_wp2_with fail
  refine (HL.out _ _ (by simp)).mono ?_
  rintro e w' ⟨rfl, hb⟩
  have HB := Lib.hid (st_call B0.out hb)
  clear hb
  go_wp2_with fail
  go_ret
  exact ⟨rfl, HB.out⟩
set_option maxHeartbeats 16000000 in
theorem laid4 (o : Opn) (A : Option Addr) (c : Nat) (w : World) : Calls Try.prog 33 #[ov o A c, .int .u8 4] w fun e w' => e = .returned (.string (ofB (segO o 4))) ∧ Below w.heap.size w w' := by
  have e : segO o 4 = [1, 1, 4, 2] := rfl
  rw [e]
  have HL := Lib.hid (fun W B hB => lay4b W B hB)
  have B0 := Lib.hid (st_alloc (st_alloc (Below.refl _ w) (.cells (oc o A c) 26)) (.cells #[.int .u8 1, .int .u8 1, .int .u8 4, .int .u8 2] 5))
  clear e
  go_enter Try.func33, Try.ntmps33
  go_wp2_with fail
  refine (HL.out _ _ (by simp)).mono ?_
  rintro e w' ⟨rfl, hb⟩
  have HB := Lib.hid (st_call B0.out hb)
  clear hb
  go_wp2_with fail
  go_ret
  exact ⟨rfl, HB.out⟩
theorem lay32two (a b : Nat) (w : World) (B : Nat) (hB : w.heap.size = B) (ha : a ≤ 4294967295) (hb : b ≤ 4294967295) : Calls Try.prog 44 #[.slice (some ⟨B, 0, none⟩) 2 2] (w.alloc (.cells #[.int .u32 (a : Int), .int .u32 (b : Int)] 24)) fun e w' => e = .returned (.string (ofB (w4 a ++ w4 b))) ∧ Below (w.alloc (.cells #[.int .u32 (a : Int), .int .u32 (b : Int)] 24)).heap.size (w.alloc (.cells #[.int .u32 (a : Int), .int .u32 (b : Int)] 24)) w' := by
  subst hB
  have h := layH32 (HoldK.new .u32 w [a, b] 24) (by simp) (by simp) (by intro x hx; simp at hx; omega)
  have e : w4s [a, b] = w4 a ++ w4 b := by show w4 a ++ (w4 b ++ []) = _; rw [List.append_nil]
  rw [e] at h
  exact h
set_option maxHeartbeats 16000000 in
theorem laid5 (o : Opn) (A : Option Addr) (c : Nat) (w : World) (hbk : BlkR w A o.blocks) (k : o.ok) (hf : o.blocks.length ≤ 4) : Calls Try.prog 33 #[ov o A c, .int .u8 5] w fun e w' => e = .returned (.string (ofB (segO o 5))) ∧ Below w.heap.size w w' := by
  have HX := Lib.hid (fun (W : World) (hW : Below (w.alloc (.cells (oc o A c) 26)).heap.size (w.alloc (.cells (oc o A c) 26)) W) (j : Nat) (v : Value) (hv : (oc o A c)[j]? = some v) => ((hW.cell (p := ⟨w.heap.size, j, none⟩) (by simp)).trans (World.cell?_alloc_mark w _ _ (0, 0) j)).trans hv)
  have HB0 := Lib.hid (st_alloc (Below.refl _ w) (.cells (oc o A c) 26))
  have HBK := Lib.hid (hbk.more HB0.out)
  have KB := Lib.hid k.blocks
  have HE : Hid (segO o 5 = [1, 1, 5, 2 + 8 * o.blocks.length] ++ blkB o.blocks) := Lib.hid rfl
  have HL := Lib.hid (fun W B hB => lay4c (2 + 8 * o.blocks.length) W B hB (by omega))
  have m8 : IntKind.i64.wrap (8 * (o.blocks.length : Int)) = 8 * (o.blocks.length : Int) := by rw [IntKind.wrap_i64]; omega
  have m2 : IntKind.i64.wrap (2 + 8 * (o.blocks.length : Int)) = 2 + 8 * (o.blocks.length : Int) := by rw [IntKind.wrap_i64]; omega
  have mu : IntKind.u8.wrap (2 + 8 * (o.blocks.length : Int)) = ((2 + 8 * o.blocks.length : Nat) : Int) := by rw [IntKind.wrap_u8]; omega
  clear hbk
  go_enter Try.func33, Try.ntmps33
  go_wp2_with fail
  refine (HL.out _ _ (by simp)).mono ?_
  rintro e w1 ⟨rfl, hb⟩
  have hb1 := st_call (st_alloc (Below.refl _ (w.alloc (.cells (oc o A c) 26))) (.cells #[.int .u8 1, .int .u8 1, .int .u8 5, .int .u8 ((2 + 8 * o.blocks.length : Nat) : Int)] 5)) hb
  have x3 := HX.out _ hb1 3 _ rfl
  have HB1 := Lib.hid (HB0.out.trans (hb1.mono HB0.out.size))
  have HBK1 := Lib.hid (HBK.out.more hb1)
  have HX1 := Lib.hid (fun W (hW : Below w1.heap.size w1 W) => HX.out W (hb1.trans (hW.mono hb1.size)))
  clear hb hb1 mu m2 m8
  go_wp2_with fail
  clear x3
  go_loopw [5, 56] (fun s i wr => ∃ (k : Nat) (Q : List Nat), i = .int .i64 (k : Int) ∧ k ≤ o.blocks.length ∧ s = .string (ofB Q) ∧ Q = [1, 1, 5, 2 + 8 * o.blocks.length] ++ blkB (o.blocks.take k) ∧ Below w1.heap.size w1 wr) (fun _ i _ => o.blocks.length - (intOf i).toNat)
  case atStart => exact ⟨0, _, rfl, by omega, rfl, rfl, Below.refl _ _⟩
  case round =>
    obtain ⟨k, Q, rfl, hk, rfl, hQ, hB⟩ := hrel
    have HQ := Lib.hid hQ
    have HB := Lib.hid hB
    clear hQ hB
    by_cases hlt : k < o.blocks.length
    · obtain ⟨b, off, eA, hb1, hc1⟩ := HBK1.out (by omega)
      obtain ⟨u, hu⟩ : ∃ u, o.blocks[k]? = some u := ⟨_, List.getElem?_eq_getElem hlt⟩
      have d0 := (HB.out.cell (p := ⟨b, off + k * 2, none⟩) hb1).trans (hc1 k u hu).1
      have d1 := (HB.out.cell (p := ⟨b, off + k * 2 + 1, none⟩) hb1).trans (hc1 k u hu).2
      have HTS := Lib.hid (take_snocG hu)
      obtain ⟨u1, u2⟩ := u
      obtain ⟨q1, q2⟩ := KB.out _ (List.mem_of_getElem? hu)
      simp only at d0 d1 q1 q2
      subst eA
      have HL2 := Lib.hid (fun W B hB => lay32two u1 u2 W B hB q1 q2)
      have hqz : (ofB Q).size + (ofB (w4 u1 ++ w4 u2)).size ≤ 9223372036854775807 := app_size (by rw [HQ.out, List.length_append, blkB_len, List.length_take]; simp [w4]; omega)
      clear hc1 hu q1 q2
      go_wp2_with fail
      refine (HL2.out _ _ (by simp)).mono ?_
      rintro e w2 ⟨rfl, hb2⟩
      have HB2 := Lib.hid (st_call (st_alloc (st_alloc HB.out _) _) hb2)
      have HV := Lib.hid (show ofB Q ++ ofB (w4 u1 ++ w4 u2) = ofB ([1, 1, 5, 2 + 8 * o.blocks.length] ++ blkB (o.blocks.take (k + 1))) by
        rw [ofB_app, HQ.out, HTS.out]
        unfold blkB
        rw [List.flatMap_append]
        simp only [List.flatMap_cons, List.flatMap_nil, List.append_nil, List.append_assoc])
      clear hb2 d0 d1
      go_wp2_with fail
      go_roundw
      case rel => exact ⟨k + 1, _, by go_num, by omega, congrArg Value.string HV.out, rfl, HB2.out⟩
      case measure => simp only [intOf]; omega
    · obtain rfl : k = o.blocks.length := by omega
      have HV := Lib.hid (show Q = segO o 5 by rw [HQ.out, HE.out, List.take_length])
      go_wp2_with fail
      go_ret
      exact ⟨by rw [HV.out]; rfl, HB1.out.trans (HB.out.mono HB1.out.size)⟩
end Go.Proofs.Ytgpkckaojcodmaa.OptPT
