/-
  What the functions of package span answer: whether a list has a number, covers a span, where a gap begins, how many it has.
-/
import Derived.Test.YtpglooaebndbiaaSpanAt
namespace Go.Proofs.Ytpglooaebndbiaa.SpanAt2
open Go.Shelf Go.RowKit SpanLay SpanPlain SpanPlain2 SpanCalls SpanAt

theorem has_any (A : Option Addr) (n c : Nat) (L : List (Int × Int)) (x : Int) (w : World) (hr : SpR w w.heap.size A n L) (hm : n ≤ 9223372036854775807) :
    Calls Try.prog 31 #[.slice A n c, .int .u64 x] w fun e w' => e = .returned (.bool (mayB L && atB L x)) ∧ Below w.heap.size w w' := by
  have hcon := may_any A n c L w hr hm
  have hat := fun w1 (hb : Below w.heap.size w w1) => at_any A n c L x w1 ((hr.below hb).mono hb.size) hm
  generalize mayB L = mb at hcon ⊢
  generalize atB L x = ab at hat ⊢
  generalize atV L x = s at hat
  have HA := Lib.hid hat
  have HC := Lib.hid hcon
  clear hr hat hcon
  rcases mb with _ | _
  · go_enter Try.func31, Try.ntmps31
    go_wp2_with fail
    refine HC.out.mono ?_
    rintro e w1 ⟨rfl, hb1⟩
    have HB1 := Lib.hid hb1
    clear hb1
    go_wp2_with fail
    go_ret
    exact ⟨rfl, HB1.out⟩
  · go_enter Try.func31, Try.ntmps31
    go_wp2_with fail
    refine HC.out.mono ?_
    rintro e w1 ⟨rfl, hb1⟩
    have HB1 := Lib.hid hb1
    clear hb1
    go_wp2_with fail
    refine (HA.out _ HB1.out).mono ?_
    rintro e w2 ⟨rfl, hb2⟩
    have HB2 := Lib.hid (HB1.out.trans (hb2.mono HB1.out.size))
    clear hb2
    go_wp2_with fail
    go_ret
    exact ⟨rfl, HB2.out.alloc HB2.out.size _⟩

theorem gap_any (A : Option Addr) (n c : Nat) (L : List (Int × Int)) (x : Int) (w : World) (hr : SpR w w.heap.size A n L) (hm : n ≤ 9223372036854775807) :
    Calls Try.prog 35 #[.slice A n c, .int .u64 x] w fun e w' => e = .returned (.int .u64 (gapI L x)) ∧ Below w.heap.size w w' := by
  have hcon := may_any A n c L w hr hm
  have hat := fun w1 (hb : Below w.heap.size w w1) => at_any A n c L x w1 ((hr.below hb).mono hb.size) hm
  have hg : gapI L x = if mayB L then (if atB L x then (atV L x).2 else x) else 0 := by
    unfold gapI atB atV
    rcases atI L x with _ | s <;> rfl
  rw [hg]
  generalize mayB L = mb at hcon ⊢
  generalize atB L x = ab at hat ⊢
  generalize atV L x = s at hat ⊢
  have HA := Lib.hid hat
  have HC := Lib.hid hcon
  clear hr hat hcon hg
  rcases mb with _ | _
  · go_enter Try.func35, Try.ntmps35
    go_wp2_with fail
    refine HC.out.mono ?_
    rintro e w1 ⟨rfl, hb1⟩
    have HB1 := Lib.hid hb1
    clear hb1
    go_wp2_with fail
    go_ret
    exact ⟨rfl, HB1.out⟩
  · go_enter Try.func35, Try.ntmps35
    go_wp2_with fail
    refine HC.out.mono ?_
    rintro e w1 ⟨rfl, hb1⟩
    have HB1 := Lib.hid hb1
    clear hb1
    go_wp2_with fail
    refine (HA.out _ HB1.out).mono ?_
    rintro e w2 ⟨rfl, hb2⟩
    have HB2 := Lib.hid (HB1.out.trans (hb2.mono HB1.out.size))
    clear hb2
    rcases ab with _ | _
    · go_wp2_with fail
      go_ret
      exact ⟨rfl, HB2.out.alloc HB2.out.size _⟩
    · go_wp2_with fail
      go_ret
      exact ⟨rfl, HB2.out.alloc HB2.out.size _⟩

theorem coversB_at {L : List (Int × Int)} {x y : Int} (hxy : ¬ y < x) (hc : mayB L = true → ∀ s ∈ L, ∀ t ∈ L, hitB x s = true → hitB x t = true → s = t) : coversB L x y = (mayB L && (decide (x = y) || (atB L x && decide (y ≤ (atV L x).2)))) := by
  unfold coversB
  rcases hm : mayB L with _ | _
  · rfl
  · rw [decide_eq_true (show x ≤ y from by omega)]
    by_cases he : x = y
    · rw [decide_eq_true he]; rfl
    · rw [decide_eq_false he, Bool.true_and, Bool.true_and, Bool.false_or, Bool.false_or]
      have hlt : x < y := by omega
      unfold atB atV
      rcases first_hit L x with ⟨h1, h2⟩ | ⟨k, hk, h1, h2, h3⟩
      · rw [h1]
        show (L.any fun s => decide (s.1 ≤ x) && decide (y ≤ s.2)) = false
        rw [List.any_eq_false]
        intro s hs
        obtain ⟨j, hj, rfl⟩ := List.mem_iff_getElem.1 hs
        have := h2 j hj
        simp only [hitB, Bool.and_eq_false_iff, decide_eq_false_iff_not] at this
        simp only [Bool.and_eq_true, decide_eq_true_eq, not_and]
        omega
      · rw [h1]
        simp only [Option.isSome_some, Bool.true_and, Option.getD_some]
        rw [Bool.eq_iff_iff]
        simp only [List.any_eq_true, Bool.and_eq_true, decide_eq_true_eq]
        constructor
        · rintro ⟨s, hs, h4, h5⟩
          have := hc hm s hs _ (List.getElem_mem hk) (by simp [hitB]; omega) h2
          rw [← this]
          exact h5
        · intro h4
          have h5 := h2
          simp only [hitB, Bool.and_eq_true, decide_eq_true_eq] at h5
          exact ⟨_, List.getElem_mem hk, h5.1, h4⟩
end Go.Proofs.Ytpglooaebndbiaa.SpanAt2
