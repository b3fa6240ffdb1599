/-
  What the functions of package span answer: the span of a list that has a number; whether it has one, covers a span, where a gap begins.
-/
import Derived.Test.YtpglooaebndbiaaSpanCalls
import Derived.Test.YtpglooaebndbiaaSpanPlain2
import Derived.Test.YtpglooaebndbiaaSpanShelf
import Derived.Lib.SlBy
namespace Go.Proofs.Ytpglooaebndbiaa.SpanAt
open Go.Shelf Go.RowKit SpanLay SpanPlain SpanPlain2 SpanCalls

theorem hit_at (x : Int) (B : Nat) (w : World) (hB : B < w.heap.size) (hcell : w.cell? ⟨B, 0, none⟩ = some (.int .u64 x)) :
    PredBelow Try.prog 53 #[.pointer (some ⟨B, 0, none⟩)] (fun s => .agg (encS s).toArray) (hitB x) w := fun W s hb => by
  have hc : W.cell? ⟨B, 0, none⟩ = some (.int .u64 x) := (hb.cell (p := ⟨B, 0, none⟩) hB).trans hcell
  have hBW : B < W.heap.size := Nat.lt_of_lt_of_le hB hb.size
  have hne : B ≠ W.heap.size := by omega
  obtain ⟨p, q⟩ := s
  show Calls Try.prog 53 #[.agg #[.int .u64 p, .int .u64 q], .pointer (some ⟨B, 0, none⟩)] W _
  by_cases h1 : p ≤ x
  · go_enter Try.func53, Try.ntmps53
    go_wp2
    go_ret
    exact ⟨ret_bool (by simp [hitB, h1]), hb.alloc hb.size _⟩
  · have d1 : decide (p ≤ x) = false := decide_eq_false h1
    go_enter Try.func53, Try.ntmps53
    go_wp2
    go_ret
    exact ⟨ret_bool (by unfold hitB; rw [d1]; rfl), hb.alloc hb.size _⟩

theorem getE {L : List (Int × Int)} {j : Nat} (h : j < L.length) : L[j]! = L[j] := by simp [h]

/-- What the first span that has x answers: its place, or -1. -/
def IdxOf (L : List (Int × Int)) (x : Int) (i : Int) : Prop := (i = -1 ∧ atI L x = none) ∨ ∃ k : Nat, ∃ h : k < L.length, i = k ∧ atI L x = some L[k]

theorem idx_any (A : Option Addr) (n c : Nat) (L : List (Int × Int)) (x : Int) (B : Nat) (w : World) (hr : SpR w w.heap.size A n L) (hm : n ≤ 9223372036854775807) (hB : B < w.heap.size) (hcell : w.cell? ⟨B, 0, none⟩ = some (.int .u64 x)) :
    ∃ i, IdxOf L x i ∧ Calls Try.prog 52 #[.slice A n c, .func (.func 53) #[] #[.pointer (some ⟨B, 0, none⟩)]] w fun e w' => e = .returned (.int .i64 i) ∧ Below w.heap.size w w' := by
  have hn := hr.len
  rcases Nat.eq_zero_or_pos n with h0 | h0
  · subst h0
    obtain rfl : L = [] := List.eq_nil_of_length_eq_zero hn.symm
    refine ⟨-1, .inl ⟨rfl, rfl⟩, ?_⟩
    clear hr hn hm
    go_enter Try.func52, Try.ntmps52
    go_wp2
    refine wp_loop_rounds 1 ?_
    rw [rounds_succ]
    go_wp2
    go_ret
    exact ⟨rfl, Below.refl _ _⟩
  · obtain ⟨b, off, rfl, hb, hc⟩ := hr.at_ h0
    have eg : ∀ args w, (callFunc 53 args).run Try.prog w = .ok (.enter 53 args) w := enters_of Try.func53 (by kernel_rfl) rfl
    have hcon := AnyQ.slices_IndexFunc Try.idxSp 2 Try.isAgg35 Try.sizeOf35 encS (fun _ => rfl) (hitB x) 53 #[.pointer (some ⟨B, 0, none⟩)] eg b off n c L w
      (hit_at x B w hB hcell) (by omega) hm hb (fun j hj i v hi => by
        have h1 := hc j hj
        rw [getE hj] at hi
        match i, hi with
        | 0, hi => simp [encS] at hi; rw [← hi]; exact h1.1
        | 1, hi => simp [encS] at hi; rw [← hi]; exact h1.2
        | i + 2, hi => simp [encS] at hi)
    change Calls Try.prog 52 _ _ _ at hcon
    refine ⟨_, ?_, hcon⟩
    rcases first_hit L x with ⟨h1, h2⟩ | ⟨k, hk, h1, h2, h3⟩
    · exact .inl ⟨Go.Lib.idxBy_miss _ _ _ _ fun j hj => by rw [getE (by omega)]; exact h2 j (by omega), h1⟩
    · exact .inr ⟨k, hk, Go.Lib.idxBy_hit _ _ _ _ _ (by omega) (by omega) (by rw [getE hk]; exact h2) fun j hj => by rw [getE (by omega)]; exact h3 j hj, h1⟩

theorem two_stored {w : World} {g : Nat} {u v : Value} (x y : Value) (h0 : w.cell? ⟨g, 0, none⟩ = some u) (h1 : w.cell? ⟨g, 1, none⟩ = some v) :
    ((w.setCell ⟨g, 0, none⟩ x).setCell ⟨g, 1, none⟩ y).cell? ⟨g, 0, none⟩ = some x ∧ ((w.setCell ⟨g, 0, none⟩ x).setCell ⟨g, 1, none⟩ y).cell? ⟨g, 1, none⟩ = some y := by
  have n1 : (⟨g, 0, none⟩ : Addr) ≠ ⟨g, 1, none⟩ := by simp
  refine ⟨?_, ?_⟩
  · rw [World.cell?_setCell_other _ _ _ _ n1.symm]
    exact World.cell?_setCell_same _ _ _ h0
  · refine World.cell?_setCell_same _ _ _ (u := v) ?_
    rw [World.cell?_setCell_other _ _ _ _ n1]
    exact h1

/-- The span of L that has x, or none. -/
def atV (L : List (Int × Int)) (x : Int) : Int × Int := (atI L x).getD (0, 0)
def atB (L : List (Int × Int)) (x : Int) : Bool := (atI L x).isSome

set_option maxHeartbeats 1000000 in
theorem at_any (A : Option Addr) (n c : Nat) (L : List (Int × Int)) (x : Int) (w : World) (hr : SpR w w.heap.size A n L) (hm : n ≤ 9223372036854775807) :
    Calls Try.prog 47 #[.slice A n c, .int .u64 x] w fun e w' => e = .returned (.tuple #[.agg #[.int .u64 (atV L x).1, .int .u64 (atV L x).2], .bool (atB L x)]) ∧ Below w.heap.size w w' := by
  have Hr := Lib.hid hr
  clear hr
  obtain ⟨i, hi, hcon⟩ := idx_any A n c L x w.heap.size ((w.alloc (.cells #[.int .u64 x] 28)).alloc (.cells #[.int .u64 0, .int .u64 0] 35)) ((Hr.out.keep fun b o h => by rw [World.cell?_alloc_lt _ _ _ (by simp; omega), World.cell?_alloc_lt _ _ _ (by omega)]).mono (by simp; omega)) hm (by simp; omega) (by simp)
  go_enter Try.func47, Try.ntmps47
  go_wp2_with fail
  refine hcon.mono ?_
  rintro e w1 ⟨rfl, hb1⟩
  have HB1 := Lib.hid ((((Below.refl _ w).alloc (Nat.le_refl _) _).alloc (by simp) _).trans (hb1.mono (by simp; omega)))
  have hs1 : w.heap.size + 1 < w1.heap.size := by have := hb1.size; simp at this; omega
  have hc1 : w1.cell? ⟨w.heap.size + 1, 0, none⟩ = some (.int .u64 0) := (hb1.cell (p := ⟨w.heap.size + 1, 0, none⟩) (by simp)).trans (by simp)
  have hc2 : w1.cell? ⟨w.heap.size + 1, 1, none⟩ = some (.int .u64 0) := (hb1.cell (p := ⟨w.heap.size + 1, 1, none⟩) (by simp)).trans (by simp)
  have hf1 : w1.frozen? ⟨w.heap.size + 1, 0, none⟩ = false := (hb1.frozen (p := ⟨w.heap.size + 1, 0, none⟩) (by simp)).trans (by simp)
  have hf2 : w1.frozen? ⟨w.heap.size + 1, 1, none⟩ = false := (hb1.frozen (p := ⟨w.heap.size + 1, 1, none⟩) (by simp)).trans (by simp)
  clear hb1 hcon
  rcases hi with ⟨rfl, ha⟩ | ⟨k, hk, rfl, ha⟩
  · have HA := Lib.hid ha
    clear ha
    obtain ⟨e1, e2⟩ := two_stored (.int .u64 0) (.int .u64 0) hc1 hc2
    go_wp2
    refine bodyPost_ret (v := .tuple #[.agg #[.int .u64 0, .int .u64 0], .bool false]) (by simp [results, Try.results47, go_sem, e1, e2]) rfl ⟨by unfold atV atB; rw [HA.out]; rfl, ?_⟩
    exact (HB1.out.setCell (by simp) _).setCell (by simp) _
  · have HA := Lib.hid ha
    clear ha
    have hkn : k < n := by have := Hr.out.len; omega
    obtain ⟨b, off, rfl, hb, hc⟩ := (Hr.out.below HB1.out).at_ hkn
    obtain ⟨hd1, hd2⟩ := hc k hk
    generalize L[k] = s at hd1 hd2 HA
    obtain ⟨p, q⟩ := s
    clear hc
    obtain ⟨e1, e2⟩ := two_stored (.int .u64 p) (.int .u64 q) hc1 hc2
    go_wp2
    refine bodyPost_ret (v := .tuple #[.agg #[.int .u64 p, .int .u64 q], .bool true]) (by simp [results, Try.results47, go_sem, e1, e2]) rfl ⟨by unfold atV atB; rw [HA.out]; rfl, ?_⟩
    exact (HB1.out.setCell (by simp) _).setCell (by simp) _
end Go.Proofs.Ytpglooaebndbiaa.SpanAt
