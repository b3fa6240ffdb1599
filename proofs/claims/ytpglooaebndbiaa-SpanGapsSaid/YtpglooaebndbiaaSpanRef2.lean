/-
  What the document's own answers of layer 2 come to: gaps, what is covered, how many, which lists are the same.
-/
import Derived.Test.YtpglooaebndbiaaSpanRef
namespace Go.Proofs.Ytpglooaebndbiaa.SpanRef2
open Go.RowKit SpanLay SpanPlain SpanRef

set_option maxHeartbeats 400000 in
theorem gap_ref (A : Option Addr) (n c : Nat) (L : List (Int × Int)) (x : Int) (w : World) (hr : SpR w w.heap.size A n L) (hm : n ≤ 9223372036854775807) :
    Calls Try.prog 36 #[.slice A n c, .int .u64 x] w fun e w' => e = .returned (.int .u64 (gapI L x)) ∧ ∃ q, w' = w.drewN q := by
  have hcon := may_ref A n c L w hr hm
  have Hr := Lib.hid hr
  clear hr
  generalize hmb : mayB L = mb at hcon
  have Hm := Lib.hid hmb
  clear hmb
  rcases mb with _ | _
  · go_enter Try.func36, Try.ntmps36
    go_wp2_with (go_at_call 29; refine hcon.mono ?_; rintro e w' ⟨rfl, q, rfl⟩)
    go_ret
    exact ⟨ret_int (gapI_bad Hm.out).symm, _, rfl⟩
  · go_enter Try.func36, Try.ntmps36
    go_wp2_with (go_at_call 29; refine hcon.mono ?_; rintro e w' ⟨rfl, qq, rfl⟩)
    clear hcon
    go_loop [5] (fun i => ∃ k : Nat, k ≤ n ∧ i = .int .i64 k ∧ hasB (L.take k) x = false) (fun i => n - (intOf i).toNat)
    case atStart => exact ⟨0, Nat.zero_le _, rfl, rfl⟩
    case round =>
      obtain ⟨k, hk, rfl, hp⟩ := hrel
      have Hp := Lib.hid hp
      clear hp
      by_cases hlt : k < n
      · obtain ⟨b, off, rfl, hb, hc⟩ := Hr.out.at_ hlt
        have hkl : k < L.length := by have := Hr.out.len; omega
        obtain ⟨hc1, hc2⟩ := hc k hkl
        obtain ⟨p, hp⟩ : ∃ p, L[k].1 = p := ⟨_, rfl⟩
        obtain ⟨q, hq⟩ : ∃ q, L[k].2 = q := ⟨_, rfl⟩
        rw [hp] at hc1
        rw [hq] at hc2
        have HP := Lib.hid hp
        have HQ := Lib.hid hq
        clear hp hq hc
        go_wp2
        · go_ret
          have h1 : p ≤ x := by assumption
          have h2 : x < q := by assumption
          exact ⟨ret_int (gapI_hit hkl Hm.out Hp.out (by rw [HP.out]; exact h1) (by rw [HQ.out]; exact h2) HQ.out).symm, _, rfl⟩
        all_goals
          go_round
          case rel => exact ⟨k + 1, by omega, by go_num, hasB_take_succ hkl (by rw [HP.out, HQ.out]; omega) Hp.out⟩
          case measure => simp [intOf]; omega
      · go_wp2
        go_ret
        exact ⟨ret_int (gapI_none Hm.out (hasB_whole (by have := Hr.out.len; omega) Hp.out)).symm, _, rfl⟩

set_option maxHeartbeats 800000 in
theorem covers_ref (A : Option Addr) (n c : Nat) (L : List (Int × Int)) (x y : Int) (w : World) (hr : SpR w w.heap.size A n L) (hm : n ≤ 9223372036854775807) :
    Calls Try.prog 34 #[.slice A n c, .agg #[.int .u64 x, .int .u64 y]] w fun e w' => e = .returned (.bool (coversB L x y)) ∧ Below w.heap.size w w' := by
  have hcon := fun o => may_ref A n c L (w.alloc (.cells #[.int .u64 x, .int .u64 y] o)) ((hr.keep fun b o h => World.cell?_alloc_lt _ _ _ h).mono (by simp)) hm
  have Hr := Lib.hid hr
  clear hr
  generalize hmb : mayB L = mb at hcon
  have Hm := Lib.hid hmb
  clear hmb
  rcases mb with _ | _
  · go_enter Try.func34, Try.ntmps34
    go_wp2_with (go_at_call 29; refine (hcon _).mono ?_; rintro e w' ⟨rfl, q, rfl⟩)
    go_ret
    exact ⟨ret_bool (coversB_bad Hm.out).symm, (below_drewN (Below.alloc (Below.refl _ _) (Nat.le_refl _) _) _)⟩
  · rcases Int.lt_trichotomy x y with hxy | hxy | hxy
    · have he : (x == y) = false := by simp; omega
      go_enter Try.func34, Try.ntmps34
      go_wp2_with (go_at_call 29; refine (hcon _).mono ?_; rintro e w' ⟨rfl, qq, rfl⟩)
      clear hcon
      go_loopw [5] (fun i wr => ∃ k : Nat, k ≤ n ∧ i = .int .i64 k ∧ covTo L x y k = false ∧ Below w.heap.size w wr ∧ wr.cell? ⟨w.heap.size, 0, none⟩ = some (.int .u64 x) ∧ wr.cell? ⟨w.heap.size, 1, none⟩ = some (.int .u64 y)) (fun i _ => n - (intOf i).toNat)
      case atStart => exact ⟨0, Nat.zero_le _, rfl, rfl, (below_drewN (Below.alloc (Below.refl _ _) (Nat.le_refl _) _) _), by simp, by simp⟩
      case round =>
        obtain ⟨k, hk, rfl, hp, hbw, hx1, hx2⟩ := hrel
        have Hp := Lib.hid hp
        clear hp
        have HB := Lib.hid hbw
        clear hbw
        by_cases hlt : k < n
        · obtain ⟨b, off, rfl, hb, hc⟩ := (Hr.out.below HB.out).at_ hlt
          have hkl : k < L.length := by have := Hr.out.len; omega
          obtain ⟨hc1, hc2⟩ := hc k hkl
          obtain ⟨p, hp⟩ : ∃ p, L[k].1 = p := ⟨_, rfl⟩
          obtain ⟨q, hq⟩ : ∃ q, L[k].2 = q := ⟨_, rfl⟩
          rw [hp] at hc1
          rw [hq] at hc2
          have HP := Lib.hid hp
          have HQ := Lib.hid hq
          clear hp hq hc
          by_cases h1 : p ≤ x
          · by_cases h2 : y ≤ q
            · go_wp2
              go_quiet (fail)
              go_wp2
              go_ret
              exact ⟨ret_bool (coversB_hit Hm.out (by omega) hkl (by rw [HP.out]; exact h1) (by rw [HQ.out]; exact h2)).symm, below_drewN HB.out _⟩
            · go_wp2
              go_quiet (fail)
              go_wp2
              go_roundw
              case rel => exact ⟨k + 1, by omega, by go_num, covTo_succ hkl (by rw [HP.out, HQ.out]; omega) Hp.out, below_drewN HB.out _, by simpa using hx1, by simpa using hx2⟩
              case measure => simp [intOf]; omega
          · have d1 : decide (p ≤ x) = false := decide_eq_false h1
            go_wp2
            go_quiet (fail)
            go_wp2
            go_roundw
            case rel => exact ⟨k + 1, by omega, by go_num, covTo_succ hkl (by rw [HP.out, HQ.out]; omega) Hp.out, below_drewN HB.out _, by simpa using hx1, by simpa using hx2⟩
            case measure => simp [intOf]; omega
        · go_wp2
          go_ret
          exact ⟨ret_bool (coversB_none hxy (by have := Hr.out.len; omega) Hp.out).symm, HB.out⟩
    · subst hxy
      go_enter Try.func34, Try.ntmps34
      go_wp2_with (go_at_call 29; refine (hcon _).mono ?_; rintro e w' ⟨rfl, qq, rfl⟩)
      go_ret
      exact ⟨ret_bool (coversB_empty Hm.out).symm, (below_drewN (Below.alloc (Below.refl _ _) (Nat.le_refl _) _) _)⟩
    · go_enter Try.func34, Try.ntmps34
      go_wp2_with (go_at_call 29; refine (hcon _).mono ?_; rintro e w' ⟨rfl, qq, rfl⟩)
      go_ret
      exact ⟨ret_bool (coversB_turned hxy).symm, (below_drewN (Below.alloc (Below.refl _ _) (Nat.le_refl _) _) _)⟩
end Go.Proofs.Ytpglooaebndbiaa.SpanRef2
