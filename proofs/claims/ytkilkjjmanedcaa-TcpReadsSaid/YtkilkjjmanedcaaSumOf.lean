/-
  What Of and Right come to.
-/
import Derived.Test.YtkilkjjmanedcaaSumWords
namespace Go.Proofs.Ytkilkjjmanedcaa.SumOf
open Go.RowKit Go.Shelf SumMath SumPlain SumWords
set_option linter.unusedVariables false
attribute [local go_sem] Oper.semAt_some

theorem fo_wl (l : List Nat) : 65535 - fo (wl l) = cs l := by unfold cs; rw [fo_sum, wl_sum]

set_option maxRecDepth 100000 in
set_option maxHeartbeats 4000000 in
theorem of_any (A : Option Addr) (n c : Nat) (L : List ByteArray) (w : World) (hr : StrR w w.heap.size A n L) (hreach : n ≤ 100000000) (hsz : ∀ s ∈ L, s.size ≤ 100000000) :
    Calls Try.prog 15 #[.slice A n c] w fun e w' => e = .returned (.int .u16 ((cs (cat L) : Nat) : Int)) ∧ Below w.heap.size w w' := by
  rw [← fo_wl]
  obtain ⟨C, hC⟩ : ∃ C, wl (cat L) = C := ⟨_, rfl⟩
  rw [hC]
  have HR := Lib.hid hr
  have HC := Lib.hid hC
  have HZ := Lib.hid hsz
  clear hr hC hsz
  refine (callsIn_wide (n := 4)).1 ?_
  refine callsIn_of_wp_marks Try.func15 rfl trivial ?_ rfl
  simp only [Try.ntmps15, List.size_toArray, List.length_cons, List.length_nil, Nat.reduceAdd, Nat.reduceSub, Array.replicate_succ, Array.replicate_zero, List.push_toArray, List.append_toArray, List.nil_append, List.cons_append]
  gi_wp2_with (refine ⟨trivial, ?_⟩; gi_at_call 30; refine (words_in _ _ trivial rfl _ _ _ _).mono ?_; rintro e w' ⟨rfl, rfl⟩)
  have bS := Boxed.new w 23 (.int .u16 0)
  have bN := Boxed.new (w.alloc (.cells #[.int .u16 0] 23)) 46 (.slice A n c)
  rw [World.size_alloc] at bN
  have hB0 : Below w.heap.size w ((w.alloc (.cells #[.int .u16 0] 23)).alloc (.cells #[.slice A n c] 46)) := ((Below.refl _ w).alloc (Nat.le_refl _) _).alloc (by simp) _
  refine wpIn_rangeFunc_ownF rfl (by omega) (gf := 40) (lb := #[.pointer (some ⟨w.heap.size + 1, 0, none⟩)]) rfl trivial (enters_of Try.func40 (by kernel_rfl) rfl)
    (words_stops Fence.wide _ trivial rfl (by omega) (w.heap.size + 1) w.heap.size A n c L hreach HZ.out _ (by simp) (by simp; omega) bN.cell (HR.out.below hB0)) belowK_t (belowK_b (by simp; omega)) (Below.refl _ _) (fun _ => rfl)
    (fun pre W => (W.cell? ⟨w.heap.size, 0, none⟩ = some (.int .u16 ((fo (vals pre) : Nat) : Int)) ∧ W.frozen? ⟨w.heap.size, 0, none⟩ = false) ∧ Below w.heap.size w W)
    (fun _ _ _ => False)
    (OwnFrom.and (Own.from (fun s A B row hs hg hr => ⟨cell_kept hs.1 hg hr, (frozen_kept hs.1 hg hr).trans hs.2⟩) _) (ownFrom_below (Nat.le_refl _) (by simp; omega)))
    (fun _ _ _ _ _ hs _ _ => hs)
    ⟨⟨(bS.alloc _).cell, (bS.alloc _).frozen⟩, hB0⟩
    (fun x => { tmps := #[.slice A n c, undef, .int .u16 0, .pointer (some ⟨w.heap.size, 0, none⟩), .int .u16 (x.1 : Int), .slice A n c, .func (.func 40) #[] #[.pointer (some ⟨w.heap.size + 1, 0, none⟩)], .int .u16 (x.1 : Int), undef, undef, undef, undef, undef], defers := [] }) ?assign ?body ?done ?stop
  case assign =>
    intro l x W K hK
    gi_wp2
    exact hK
  case body =>
    rintro l pre ⟨x, hx⟩ W ⟨⟨hc, hf⟩, hB⟩ _
    dsimp only
    have hv : fo (vals (pre ++ [⟨x, hx⟩])) = ones (fo (vals pre) + x) := by rw [vals_snoc, fo_snoc]
    have HV := Lib.hid hv
    have hle := fo_le (vals pre)
    clear hv
    generalize fo (vals pre) = v at hc hle HV
    obtain ⟨u, hu⟩ : ∃ u, ones (v + x) = u := ⟨_, rfl⟩
    have HU := Lib.hid hu
    have HP := Lib.hid (plus_any v x W hle hx)
    rw [hu] at HP
    clear hu
    gi_wp2_with (refine ⟨trivial, ?_⟩; gi_at_call 31; refine (CallsIn.inRound l (callsIn_wide.2 HP.out)).mono ?_; rintro e w' ⟨rfl, rfl⟩)
    exact ⟨KeepsOthers.setCell _ _ _, (Below.refl w.heap.size W).setCell (p := ⟨w.heap.size, 0, none⟩) (Nat.le_refl _) _, ⟨by rw [HV.out, HU.out]; exact World.cell?_setCell_same' _ _ _ (by rw [hc]; rfl), by rw [World.frozen?_setCell]; exact hf⟩, hB.setCell (p := ⟨w.heap.size, 0, none⟩) (Nat.le_refl _) _⟩
  case done =>
    rintro D ys W hD hys ⟨⟨hc, _⟩, hB⟩ hK
    rw [hys, HC.out] at hc
    have hle := fo_le C
    have hx := xor16 (fo C) hle
    obtain ⟨v, hv⟩ : ∃ v, fo C = v := ⟨_, rfl⟩
    rw [hv] at hc hle hx
    have HV := Lib.hid hv
    have HX := Lib.hid hx
    clear hv hx
    gi_wp2
    refine ⟨by simp, .inl ⟨_, _, rfl, run_takeDeferred hK, ?_⟩⟩
    refine ⟨_, results_tmp rfl _ _ _, ?_, hB.trans (belowK_b (w := w) (Nat.le_refl _) W D _ _ (by simp at hD; omega) hK rfl rfl)⟩
    rw [HV.out]
    exact ret_int HX.out
  case stop =>
    rintro D c pre W _ _ h _
    exact h.elim

theorem zero16 (x : Nat) : ((x : Int) == 0) = decide (x = 0) := by
  by_cases h : x = 0
  · subst h; rfl
  · rw [decide_eq_false h]; simp; omega

set_option maxHeartbeats 1000000 in
theorem right_any (A : Option Addr) (n c : Nat) (L : List ByteArray) (w : World) (hr : StrR w w.heap.size A n L) (hreach : n ≤ 100000000) (hsz : ∀ s ∈ L, s.size ≤ 100000000) :
    Calls Try.prog 35 #[.slice A n c] w fun e w' => e = .returned (.bool (decide (cs (cat L) = 0))) ∧ Below w.heap.size w w' := by
  have HC := Lib.hid (fun c => of_any A n c L w hr hreach hsz)
  clear hr hsz
  go_enter Try.func35, Try.ntmps35
  go_wp2_with fail
  refine (HC.out _).mono ?_
  rintro e w' ⟨rfl, hb⟩
  have HB := Lib.hid hb
  clear hb
  obtain ⟨v, hv⟩ : ∃ v, cs (cat L) = v := ⟨_, rfl⟩
  rw [hv]
  have HV := Lib.hid hv
  clear hv
  go_wp2_with fail
  go_ret
  exact ⟨ret_bool (by rw [HV.out]; exact zero16 v), HB.out⟩
end Go.Proofs.Ytkilkjjmanedcaa.SumOf
