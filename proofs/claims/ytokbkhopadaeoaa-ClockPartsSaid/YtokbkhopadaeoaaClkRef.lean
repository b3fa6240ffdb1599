/-
  The document's own answers of layer 9: May, Add, Least.
-/
import Derived.Test.YtokbkhopadaeoaaClkMath
import Derived.Test.YtokbkhopadaeoaaInts
import Derived.Lib.Hide
import Derived.ProofKit
import Derived.Below
namespace Go.Proofs.Ytokbkhopadaeoaa.ClkRef
open Go.RowKit ClkMath Ints
set_option linter.unusedVariables false
set_option linter.unusedSimpArgs false

theorem ret_b {a b : Bool} (h : a = b) : Ending.returned (.bool a) = .returned (.bool b) := by rw [h]
theorem ret_i {k : IntKind} {a b : Int} (h : a = b) : Ending.returned (.int k a) = .returned (.int k b) := by rw [h]
theorem mayR (t : Int) (w : World) : Calls Try.prog 10 #[.int .i64 t] w fun e w' => e = .returned (.bool (mayT t)) ∧ w = w' := by
  by_cases h1 : 0 ≤ t
  · by_cases h2 : t ≤ 17592186044416
    · rw [mayT_yes h1 h2]
      go_enter Try.func10, Try.ntmps10
      go_wp2_with fail
      go_ret
      exact ⟨rfl, rfl⟩
    · rw [mayT_no (by omega)]
      go_enter Try.func10, Try.ntmps10
      go_wp2_with fail
      go_ret
      exact ⟨rfl, rfl⟩
  · rw [mayT_no (by omega)]
    go_enter Try.func10, Try.ntmps10
    go_wp2_with fail
    go_ret
    exact ⟨rfl, rfl⟩
theorem addR (t b : Int) (w : World) (h1 : -9223372036854775808 ≤ t) (h2 : t ≤ 9223372036854775807) (h3 : -9223372036854775808 ≤ b) (h4 : b ≤ 9223372036854775807) :
    Calls Try.prog 8 #[.int .i64 t, .int .i64 b] w fun e w' => e = .returned (.tuple #[.int .i64 (addT t b), .int .i64 (addE t b)]) ∧ w = w' := by
  have HM := Lib.hid (fun W => mayR t W)
  by_cases hm : mayT t = true
  · obtain ⟨m1, m2⟩ := of_mayT hm
    rw [hm] at HM
    by_cases hb : b < 0
    · obtain ⟨e1, e2⟩ := add_arg (t := t) (b := b) (by omega)
      rw [e1, e2]
      go_enter Try.func8, Try.ntmps8
      go_wp2_with fail
      refine (HM.out _).mono ?_
      rintro e w' ⟨rfl, rfl⟩
      go_wp2_with fail
      go_ret2
      exact ⟨rfl, rfl⟩
    · have w1 : IntKind.i64.wrap (17592186044416 - t) = 17592186044416 - t := IntWalk.i64_in _ (by omega)
      by_cases ho : 17592186044416 - t < b
      · obtain ⟨e1, e2⟩ := add_over (t := t) (b := b) (by omega) (by omega)
        rw [e1, e2]
        go_enter Try.func8, Try.ntmps8
        go_wp2_with fail
        refine (HM.out _).mono ?_
        rintro e w' ⟨rfl, rfl⟩
        go_wp2_with fail
        go_ret2
        exact ⟨rfl, rfl⟩
      · obtain ⟨e1, e2⟩ := add_ok (t := t) (b := b) (by omega) (by omega)
        have w2 : IntKind.i64.wrap (t + b) = t + b := IntWalk.i64_in _ (by omega)
        rw [e1, e2]
        go_enter Try.func8, Try.ntmps8
        go_wp2_with fail
        refine (HM.out _).mono ?_
        rintro e w' ⟨rfl, rfl⟩
        go_wp2_with fail
        go_ret2
        exact ⟨rfl, rfl⟩
  · have hm2 : mayT t = false := by cases h : mayT t; rfl; exact absurd h hm
    have := not_mayT hm2
    obtain ⟨e1, e2⟩ := add_arg (t := t) (b := b) (by omega)
    rw [hm2] at HM
    rw [e1, e2]
    go_enter Try.func8, Try.ntmps8
    go_wp2_with fail
    refine (HM.out _).mono ?_
    rintro e w' ⟨rfl, rfl⟩
    go_wp2_with fail
    go_ret2
    exact ⟨rfl, rfl⟩
set_option maxHeartbeats 1000000 in
theorem leastR (A : Option Addr) (n c : Nat) (L : List Int) (w : World) (hr : IntR .i64 w A n L) (hn : n ≤ 9223372036854775807) :
    Calls Try.prog 12 #[.slice A n c] w fun e w' => e = .returned (.int .i64 (least L)) ∧ Below w.heap.size w w' := by
  have HL := Lib.hid hr.len
  have HR := Lib.hid hr
  clear hr
  go_enter Try.func12, Try.ntmps12
  go_wp2_with fail
  go_loopw [3, 4] (fun s i wr => ∃ (k : Nat) (m : Int), k ≤ n ∧ i = .int .i64 (k : Int) ∧ s = .int .i64 m ∧ m = least (L.take k) ∧ Below w.heap.size w wr) (fun _ i _ => n - (intOf i).toNat)
  case atStart => exact ⟨0, 17592186044416, by omega, rfl, rfl, rfl, Below.refl _ _⟩
  case round =>
    obtain ⟨k, m, hk, rfl, rfl, hm, hB⟩ := hrel
    have HMM := Lib.hid hm
    have HB := Lib.hid hB
    clear hm hB
    by_cases hlt : k < n
    · have hki : (k : Int) < (n : Int) := by omega
      obtain ⟨x, hx⟩ : ∃ x, L[k]? = some x := ⟨_, List.getElem?_eq_getElem (by have := HL.out; omega)⟩
      obtain ⟨b, off, rfl, hb, hc⟩ := (HR.out.below (Nat.le_refl _) HB.out).2 (by omega)
      have c0 := hc k x hx
      have HX := Lib.hid hx
      clear hx hc
      have HMR := Lib.hid (fun W => mayR x W)
      have HS := Lib.hid (least_step HX.out)
      by_cases hm2 : mayT x = true
      · rw [hm2] at HMR
        by_cases hlt2 : x < m
        · have HE := Lib.hid (show lea m x = x from if_pos ⟨hm2, hlt2⟩)
          clear hm2
          go_wp2_with fail
          refine (HMR.out _).mono ?_
          rintro e w' ⟨rfl, rfl⟩
          go_wp2_with fail
          go_roundw
          case rel => exact ⟨k + 1, x, by omega, by go_num, rfl, by rw [HS.out, ← HMM.out, HE.out], HB.out⟩
          case measure => simp [intOf]; omega
        · have HE := Lib.hid (show lea m x = m from if_neg (fun h => hlt2 h.2))
          clear hm2
          go_wp2_with fail
          refine (HMR.out _).mono ?_
          rintro e w' ⟨rfl, rfl⟩
          go_wp2_with fail
          go_roundw
          case rel => exact ⟨k + 1, m, by omega, by go_num, rfl, by rw [HS.out, ← HMM.out, HE.out], HB.out⟩
          case measure => simp [intOf]; omega
      · have hm3 : mayT x = false := by cases h : mayT x; rfl; exact absurd h hm2
        rw [hm3] at HMR
        have HE := Lib.hid (show lea m x = m from if_neg (fun h => hm2 h.1))
        clear hm2 hm3
        go_wp2_with fail
        refine (HMR.out _).mono ?_
        rintro e w' ⟨rfl, rfl⟩
        go_wp2_with fail
        go_roundw
        case rel => exact ⟨k + 1, m, by omega, by go_num, rfl, by rw [HS.out, ← HMM.out, HE.out], HB.out⟩
        case measure => simp [intOf]; omega
    · obtain rfl : k = n := by omega
      have hki : ¬ ((k : Nat) : Int) < (k : Int) := by omega
      go_wp2_with fail
      go_ret
      exact ⟨ret_i (by rw [HMM.out, HL.out, List.take_of_length_le (Nat.le_refl _)]), HB.out⟩
end Go.Proofs.Ytokbkhopadaeoaa.ClkRef
