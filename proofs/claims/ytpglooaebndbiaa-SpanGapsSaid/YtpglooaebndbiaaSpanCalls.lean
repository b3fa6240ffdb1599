/-
  What the functions of package span answer: which lists may be, whether a list or a span can't be worked with.
-/
import Derived.Test.YtpglooaebndbiaaSpanLay
import Derived.Test.YtpglooaebndbiaaSpanPlain
namespace Go.Proofs.Ytpglooaebndbiaa.SpanCalls
open Go.RowKit SpanLay SpanPlain

set_option maxHeartbeats 1000000 in
theorem may_any (A : Option Addr) (n c : Nat) (L : List (Int × Int)) (w : World) (hr : SpR w w.heap.size A n L) (hm : n ≤ 9223372036854775807) :
    Calls Try.prog 28 #[.slice A n c] w fun e w' => e = .returned (.bool (mayB L)) ∧ Below w.heap.size w w' := by
  have Hr := Lib.hid hr
  clear hr
  by_cases h256 : 256 < n
  · go_enter Try.func28, Try.ntmps28
    go_wp2
    go_ret
    exact ⟨ret_bool (mayB_long (by have := Hr.out.len; omega)).symm, Below.refl _ _⟩
  · go_enter Try.func28, Try.ntmps28
    go_wp2
    go_loopw [10] (fun i wr => ∃ k : Nat, k ≤ n ∧ i = .int .i64 k ∧ okTo L k = true ∧ Below w.heap.size w wr) (fun i _ => n - (intOf i).toNat)
    case atStart => exact ⟨0, Nat.zero_le _, rfl, rfl, Below.refl _ _⟩
    case round =>
      obtain ⟨k, hk, rfl, hp, hbw⟩ := hrel
      have Hp := Lib.hid hp
      have HB := Lib.hid hbw
      have hsz : w.heap.size ≤ wr.heap.size := hbw.size
      clear hp hbw
      by_cases hlt : k < n
      · obtain ⟨b, off, rfl, hb, hc⟩ := (Hr.out.below HB.out).at_ hlt
        have hkl : k < L.length := by have := Hr.out.len; omega
        obtain ⟨hc1, hc2⟩ := hc k hkl
        obtain ⟨p, hp⟩ : ∃ p, L[k].1 = p := ⟨_, rfl⟩
        obtain ⟨q, hq⟩ : ∃ q, L[k].2 = q := ⟨_, rfl⟩
        rw [hp] at hc1
        rw [hq] at hc2
        have HP := Lib.hid hp
        have HQ := Lib.hid hq
        have HC := Lib.hid hc
        have hbn : b < wr.heap.size := by omega
        clear hp hq hc
        by_cases h1 : q ≤ p
        · go_wp2
          go_quiet (fail)
          go_wp2
          go_ret
          exact ⟨ret_bool (mayB_empty hkl HP.out HQ.out h1).symm, below_drewN (HB.out.alloc hsz _) _⟩
        · have d1 : decide (q ≤ p) = false := by simpa using h1
          rcases k with _ | m
          · simp only [Nat.zero_mul, Nat.add_zero] at hc1 hc2
            go_wp2
            go_quiet (fail)
            go_wp2
            go_roundw
            case rel => exact ⟨1, by omega, by go_num, okTo_one hkl HP.out HQ.out (by omega), below_drewN (HB.out.alloc hsz _) _⟩
            case measure => simp [intOf]; omega
          · obtain ⟨hc3, hc4⟩ := HC.out m (by omega)
            obtain ⟨q', hq'⟩ : ∃ q', L[m].2 = q' := ⟨_, rfl⟩
            rw [hq'] at hc4
            have HQ' := Lib.hid hq'
            clear hq' hc3
            have d2 : decide (0 < (m : Int) + 1) = true := decide_eq_true (by omega)
            by_cases h2 : p ≤ q'
            · go_wp2
              go_quiet (fail)
              go_wp2
              go_ret
              exact ⟨ret_bool (mayB_touch hkl HP.out HQ'.out h2).symm, below_drewN (HB.out.alloc hsz _) _⟩
            · go_wp2
              go_quiet (fail)
              go_wp2
              go_roundw
              case rel => exact ⟨m + 1 + 1, by omega, by go_num, okTo_next hkl HP.out HQ.out HQ'.out (by omega) (by omega) Hp.out, below_drewN (HB.out.alloc hsz _) _⟩
              case measure => simp [intOf]; omega
      · go_wp2
        go_ret
        exact ⟨ret_bool (mayB_all (by have := Hr.out.len; omega) (by have := Hr.out.len; omega) Hp.out).symm, HB.out⟩

/-- The error of a list or a span that can't be worked with. -/
def refI (L : List (Int × Int)) (x y : Int) : Int := if mayB L then (if y < x then 2 else 0) else 8

theorem refused_any (A : Option Addr) (n c : Nat) (L : List (Int × Int)) (x y : Int) (w : World) (hr : SpR w w.heap.size A n L) (hm : n ≤ 9223372036854775807) :
    Calls Try.prog 43 #[.slice A n c, .agg #[.int .u64 x, .int .u64 y]] w fun e w' => e = .returned (.int .i64 (refI L x y)) ∧ Below w.heap.size w w' := by
  have hcon := fun o => may_any A n c L (w.alloc (.cells #[.int .u64 x, .int .u64 y] o)) ((hr.keep fun b o h => World.cell?_alloc_lt _ _ _ h).mono (by simp)) hm
  have Hr := Lib.hid hr
  clear hr
  generalize hmb : mayB L = mb at hcon
  have Hm := Lib.hid hmb
  clear hmb
  go_enter Try.func43, Try.ntmps43
  go_wp2_with fail
  refine (hcon _).mono ?_
  rintro e w1 ⟨rfl, hb1⟩
  have hx1 : w1.cell? ⟨w.heap.size, 0, none⟩ = some (.int .u64 x) := (hb1.cell (p := ⟨w.heap.size, 0, none⟩) (by simp)).trans (by simp)
  have hy1 : w1.cell? ⟨w.heap.size, 1, none⟩ = some (.int .u64 y) := (hb1.cell (p := ⟨w.heap.size, 1, none⟩) (by simp)).trans (by simp)
  have HB1 := Lib.hid (((Below.refl _ w).alloc (Nat.le_refl _) _).trans (hb1.mono (by simp)))
  clear hb1 hcon
  rcases mb with _ | _
  · go_wp2
    go_ret
    exact ⟨ret_int (by unfold refI; rw [Hm.out]; rfl), HB1.out⟩
  · by_cases h : y < x
    · go_wp2
      go_ret
      exact ⟨ret_int (by unfold refI; rw [Hm.out, if_pos rfl, if_pos h]), HB1.out⟩
    · go_wp2
      go_ret
      exact ⟨ret_int (by unfold refI; rw [Hm.out, if_pos rfl, if_neg (by omega)]), HB1.out⟩
end Go.Proofs.Ytpglooaebndbiaa.SpanCalls
