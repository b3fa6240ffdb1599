/-
  What the document's own answers of layer 2 come to: how many numbers, which lists are the same.
-/
import Derived.Test.YtpglooaebndbiaaSpanRef2
namespace Go.Proofs.Ytpglooaebndbiaa.SpanRef3
open Go.RowKit SpanLay SpanPlain SpanRef

set_option maxHeartbeats 400000 in
theorem len_ref (A : Option Addr) (n c : Nat) (L : List (Int × Int)) (w : World) (hr : SpR w w.heap.size A n L) (hm : n ≤ 9223372036854775807) :
    Calls Try.prog 38 #[.slice A n c] w fun e w' => e = .returned (.int .u64 (lenI L)) ∧ ∃ q, w' = w.drewN q := by
  have hcon := fun q => may_ref A n c L (w.drewN q) hr hm
  have Hr := Lib.hid hr
  clear hr
  generalize hmb : mayB L = mb at hcon
  have Hm := Lib.hid hmb
  clear hmb
  have HC := Lib.hid hcon
  clear hcon
  rcases mb with _ | _
  · go_enter Try.func38, Try.ntmps38
    go_wp2
    refine wp_loop_rounds 1 ?_
    rw [rounds_succ]
    by_cases hlt : 0 < n
    · have hlt' : (0 : Int) < n := by omega
      go_wp2_with (go_at_call 29; refine (HC.out 0).mono ?_; rintro e w' ⟨rfl, q, rfl⟩)
      go_ret
      exact ⟨ret_int (lenI_bad Hm.out).symm, _, rfl⟩
    · have hlt' : ¬ (0 : Int) < n := by omega
      go_wp2
      go_ret
      exact ⟨ret_int (lenI_bad Hm.out).symm, 0, rfl⟩
  · go_enter Try.func38, Try.ntmps38
    go_wp2
    go_loopw [3, 4] (fun s i wr => ∃ k : Nat, k ≤ n ∧ i = .int .i64 k ∧ (∃ a : Int, s = .int .u64 a ∧ a = sumTo L k % M64) ∧ ∃ q, wr = w.drewN q) (fun _ i _ => n - (intOf i).toNat)
    case atStart => exact ⟨0, Nat.zero_le _, rfl, ⟨0, rfl, by simp [sumTo]⟩, 0, rfl⟩
    case round =>
      obtain ⟨k, hk, rfl, ⟨a, rfl, ha⟩, q0, rfl⟩ := hrel
      have Ha := Lib.hid ha
      clear ha
      by_cases hlt : k < n
      · obtain ⟨b, off, rfl, hb, hc⟩ := Hr.out.at_ hlt
        have hkl : k < L.length := by have := Hr.out.len; omega
        obtain ⟨hc1, hc2⟩ := hc k hkl
        obtain ⟨p, hp⟩ : ∃ p, L[k].1 = p := ⟨_, rfl⟩
        obtain ⟨q, hq⟩ : ∃ q, L[k].2 = q := ⟨_, rfl⟩
        rw [hp] at hc1
        rw [hq] at hc2
        have HP := Lib.hid hp
        have HQ := Lib.hid hq
        clear hp hq hc
        go_wp2_with (go_at_call 29; refine (HC.out _).mono ?_; rintro e w' ⟨rfl, q1, rfl⟩)
        go_quiet (fail)
        go_wp2
        go_roundw
        case rel => exact ⟨k + 1, by omega, by go_num, ⟨_, rfl, lenI_step hkl HP.out HQ.out Ha.out⟩, _, rfl⟩
        case measure => simp [intOf]; omega
      · go_wp2
        go_ret
        exact ⟨ret_int (lenI_all (by have := Hr.out.len; omega) Hm.out Ha.out).symm, _, rfl⟩

set_option maxHeartbeats 400000 in
theorem same_ref (A : Option Addr) (n c : Nat) (L : List (Int × Int)) (A' : Option Addr) (n' c' : Nat) (L' : List (Int × Int)) (w : World) (hr : SpR w w.heap.size A n L) (hr' : SpR w w.heap.size A' n' L') (hm : n ≤ 9223372036854775807) (hm' : n' ≤ 9223372036854775807) :
    Calls Try.prog 30 #[.slice A n c, .slice A' n' c'] w fun e w' => e = .returned (.bool (sameB L L')) ∧ ∃ q, w' = w.drewN q := by
  have Hr := Lib.hid hr
  have Hr' := Lib.hid hr'
  clear hr hr'
  by_cases hn : n = n'
  · subst hn
    go_enter Try.func30, Try.ntmps30
    go_wp2
    go_loopw [5] (fun i wr => ∃ k : Nat, k ≤ n ∧ i = .int .i64 k ∧ sameTo L L' k = true ∧ ∃ q, wr = w.drewN q) (fun i _ => n - (intOf i).toNat)
    case atStart => exact ⟨0, Nat.zero_le _, rfl, sameTo_zero _ _, 0, rfl⟩
    case round =>
      obtain ⟨k, hk, rfl, ha, q0, rfl⟩ := hrel
      have Ha := Lib.hid ha
      clear ha
      by_cases hlt : k < n
      · obtain ⟨b, off, rfl, hb, hc⟩ := Hr.out.at_ hlt
        have hkl : k < L.length := by have := Hr.out.len; omega
        obtain ⟨hc1, hc2⟩ := hc k hkl
        obtain ⟨b', off', rfl, hb', hc'⟩ := Hr'.out.at_ hlt
        have hkl' : k < L'.length := by have := Hr'.out.len; omega
        obtain ⟨hc1', hc2'⟩ := hc' k hkl'
        have HN := Lib.hid (fun h => @sameB_part L L' k hkl hkl' h)
        have HS := Lib.hid (fun h1 h2 => @sameTo_succ L L' k hkl hkl' h1 h2 Ha.out)
        generalize L[k] = s at hc1 hc2 HN HS
        generalize L'[k] = s' at hc1' hc2' HN HS
        obtain ⟨p, q⟩ := s
        obtain ⟨p', q'⟩ := s'
        clear hc hc'
        by_cases he : p = p' ∧ q = q'
        · obtain ⟨rfl, rfl⟩ := he
          go_wp2
          go_quiet (fail)
          go_wp2
          go_roundw
          case rel => exact ⟨k + 1, by omega, by go_num, HS.out (by simp) (by simp), _, rfl⟩
          case measure => simp [intOf]; omega
        · by_cases h1 : p = p'
          · subst h1
            have h2 : (q == q') = false := by simpa using he
            go_wp2
            go_quiet (fail)
            go_wp2
            go_ret
            exact ⟨ret_bool (HN.out he).symm, _, by rw [World.drewN_drewN]⟩
          · have h2 : (p == p') = false := by simpa using h1
            go_wp2
            go_quiet (fail)
            go_wp2
            go_ret
            exact ⟨ret_bool (HN.out he).symm, _, by rw [World.drewN_drewN]⟩
      · go_wp2
        go_ret
        exact ⟨ret_bool (sameB_all (by have := Hr.out.len; omega) (by have := Hr'.out.len; omega) Ha.out).symm, _, rfl⟩
  · have hn' : ((n : Int) != n') = true := by rw [bne_iff_ne]; omega
    go_enter Try.func30, Try.ntmps30
    go_wp2
    go_ret
    exact ⟨ret_bool (sameB_len (by have := Hr.out.len; have := Hr'.out.len; omega)).symm, 0, rfl⟩
end Go.Proofs.Ytpglooaebndbiaa.SpanRef3
