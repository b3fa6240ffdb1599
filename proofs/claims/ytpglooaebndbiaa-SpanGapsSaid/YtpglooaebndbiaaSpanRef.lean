/-
  What the document's own answers of layer 2 come to.
-/
import Derived.Test.YtpglooaebndbiaaSpanLay
import Derived.Test.YtpglooaebndbiaaSpanPlain
namespace Go.Proofs.Ytpglooaebndbiaa.SpanRef
open Go.RowKit SpanLay SpanPlain

set_option maxHeartbeats 400000 in
theorem has_ref (A : Option Addr) (n c : Nat) (L : List (Int × Int)) (x : Int) (w : World) (hr : SpR w w.heap.size A n L) (hm : n ≤ 9223372036854775807) :
    Calls Try.prog 32 #[.slice A n c, .int .u64 x] w fun e w' => e = .returned (.bool (hasB L x)) ∧ w = w' := by
  have Hr := Lib.hid hr
  clear hr
  go_enter Try.func32, Try.ntmps32
  go_wp2
  go_loop [5] (fun i => ∃ k : Nat, k ≤ n ∧ i = .int .i64 k ∧ hasB (L.take k) x = false) (fun i => n - (intOf i).toNat)
  case atStart => exact ⟨0, Nat.zero_le _, rfl, rfl⟩
  case round =>
    obtain ⟨k, hk, rfl, hp⟩ := hrel
    have Hp := Lib.hid hp
    clear hp
    by_cases hlt : k < n
    · obtain ⟨b, off, rfl, hb, hc⟩ := Hr.out.at_ hlt
      have hkl : k < L.length := by have := Hr.out.len; omega
      obtain ⟨hc1, hc2⟩ := hc k hkl
      obtain ⟨p, hp⟩ : ∃ p, L[k].1 = p := ⟨_, rfl⟩
      obtain ⟨q, hq⟩ : ∃ q, L[k].2 = q := ⟨_, rfl⟩
      rw [hp] at hc1
      rw [hq] at hc2
      have HP := Lib.hid hp
      have HQ := Lib.hid hq
      clear hp hq hc
      go_wp2
      · go_ret
        have h1 : p ≤ x := by assumption
        have h2 : x < q := by assumption
        exact ⟨ret_bool (hasB_true hkl (by rw [HP.out]; exact h1) (by rw [HQ.out]; exact h2)).symm, rfl⟩
      all_goals
        go_round
        case rel => exact ⟨k + 1, by omega, by go_num, hasB_take_succ hkl (by rw [HP.out, HQ.out]; omega) Hp.out⟩
        case measure => simp [intOf]; omega
    · go_wp2
      go_ret
      exact ⟨ret_bool (hasB_whole (by have := Hr.out.len; omega) Hp.out).symm, rfl⟩

set_option maxHeartbeats 400000 in
theorem may_ref (A : Option Addr) (n c : Nat) (L : List (Int × Int)) (w : World) (hr : SpR w w.heap.size A n L) (hm : n ≤ 9223372036854775807) :
    Calls Try.prog 29 #[.slice A n c] w fun e w' => e = .returned (.bool (mayB L)) ∧ ∃ q, w' = w.drewN q := by
  have Hr := Lib.hid hr
  clear hr
  by_cases h256 : 256 < n
  · go_enter Try.func29, Try.ntmps29
    go_wp2
    go_ret
    exact ⟨ret_bool (mayB_long (by have := Hr.out.len; omega)).symm, 0, rfl⟩
  · go_enter Try.func29, Try.ntmps29
    go_wp2
    go_loopw [3] (fun i wr => ∃ k : Nat, k ≤ n ∧ i = .int .i64 k ∧ okTo L k = true ∧ ∃ q, wr = w.drewN q) (fun i _ => n - (intOf i).toNat)
    case atStart => exact ⟨0, Nat.zero_le _, rfl, rfl, 0, rfl⟩
    case round =>
      obtain ⟨k, hk, rfl, hp, qq, rfl⟩ := hrel
      have Hp := Lib.hid hp
      clear hp
      by_cases hlt : k < n
      · obtain ⟨b, off, rfl, hb, hc⟩ := Hr.out.at_ hlt
        have hkl : k < L.length := by have := Hr.out.len; omega
        obtain ⟨hc1, hc2⟩ := hc k hkl
        obtain ⟨p, hp⟩ : ∃ p, L[k].1 = p := ⟨_, rfl⟩
        obtain ⟨q, hq⟩ : ∃ q, L[k].2 = q := ⟨_, rfl⟩
        rw [hp] at hc1
        rw [hq] at hc2
        have HP := Lib.hid hp
        have HQ := Lib.hid hq
        have HC := Lib.hid hc
        clear hp hq hc
        by_cases h1 : q ≤ p
        · go_wp2
          go_quiet (fail)
          go_wp2
          go_ret
          exact ⟨ret_bool (mayB_empty hkl HP.out HQ.out h1).symm, _, by rw [World.drewN_drewN]⟩
        · have d1 : decide (q ≤ p) = false := by simpa using h1
          rcases k with _ | m
          · simp only [Nat.zero_mul, Nat.add_zero] at hc1 hc2
            go_wp2
            go_quiet (fail)
            go_wp2
            go_roundw
            case rel => exact ⟨1, by omega, by go_num, okTo_one hkl HP.out HQ.out (by omega), _, rfl⟩
            case measure => simp [intOf]; omega
          · obtain ⟨hc3, hc4⟩ := HC.out m (by omega)
            obtain ⟨q', hq'⟩ : ∃ q', L[m].2 = q' := ⟨_, rfl⟩
            rw [hq'] at hc4
            have HQ' := Lib.hid hq'
            clear hq' hc3
            have d2 : decide (0 < (m : Int) + 1) = true := decide_eq_true (by omega)
            by_cases h2 : p ≤ q'
            · go_wp2
              go_quiet (fail)
              go_wp2
              go_ret
              exact ⟨ret_bool (mayB_touch hkl HP.out HQ'.out h2).symm, _, by rw [World.drewN_drewN]⟩
            · go_wp2
              go_quiet (fail)
              go_wp2
              go_roundw
              case rel => exact ⟨m + 1 + 1, by omega, by go_num, okTo_next hkl HP.out HQ.out HQ'.out (by omega) (by omega) Hp.out, _, rfl⟩
              case measure => simp [intOf]; omega
      · go_wp2
        go_ret
        exact ⟨ret_bool (mayB_all (by have := Hr.out.len; omega) (by have := Hr.out.len; omega) Hp.out).symm, _, rfl⟩
end Go.Proofs.Ytpglooaebndbiaa.SpanRef
