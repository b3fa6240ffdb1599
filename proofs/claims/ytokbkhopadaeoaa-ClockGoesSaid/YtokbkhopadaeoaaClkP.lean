/-
  The program's own calls of layer 9.
-/
import Derived.Test.YtokbkhopadaeoaaClkMath
import Derived.Test.YtokbkhopadaeoaaInts
import Derived.Test.YtokbkhopadaeoaaCells
import Derived.Lib.Hide
import Derived.ProofKit
import Derived.Below
namespace Go.Proofs.Ytokbkhopadaeoaa.ClkP
open Go.RowKit ClkMath Ints
open Cells (CellsAt Apart)
set_option linter.unusedVariables false
set_option linter.unusedSimpArgs false

theorem ret_b {a b : Bool} (h : a = b) : Ending.returned (.bool a) = .returned (.bool b) := by rw [h]
theorem ret_i {k : IntKind} {a b : Int} (h : a = b) : Ending.returned (.int k a) = .returned (.int k b) := by rw [h]
theorem mayP (t : Int) (w : World) : Calls Try.prog 9 #[.int .i64 t] w fun e w' => e = .returned (.bool (mayT t)) ∧ w = w' := by
  by_cases h1 : 0 ≤ t
  · by_cases h2 : t ≤ 17592186044416
    · rw [mayT_yes h1 h2]
      go_enter Try.func9, Try.ntmps9
      go_wp2_with fail
      go_ret
      exact ⟨rfl, rfl⟩
    · rw [mayT_no (by omega)]
      go_enter Try.func9, Try.ntmps9
      go_wp2_with fail
      go_ret
      exact ⟨rfl, rfl⟩
  · rw [mayT_no (by omega)]
    go_enter Try.func9, Try.ntmps9
    go_wp2_with fail
    go_ret
    exact ⟨rfl, rfl⟩
theorem addP (t b : Int) (w : World) (h1 : -9223372036854775808 ≤ t) (h2 : t ≤ 9223372036854775807) (h3 : -9223372036854775808 ≤ b) (h4 : b ≤ 9223372036854775807) :
    Calls Try.prog 7 #[.int .i64 t, .int .i64 b] w fun e w' => e = .returned (.tuple #[.int .i64 (addT t b), .int .i64 (addE t b)]) ∧ w = w' := by
  have HM := Lib.hid (fun W => mayP t W)
  by_cases hm : mayT t = true
  · obtain ⟨m1, m2⟩ := of_mayT hm
    rw [hm] at HM
    by_cases hb : b < 0
    · obtain ⟨e1, e2⟩ := add_arg (t := t) (b := b) (by omega)
      rw [e1, e2]
      go_enter Try.func7, Try.ntmps7
      go_wp2_with fail
      refine (HM.out _).mono ?_
      rintro e w' ⟨rfl, rfl⟩
      go_wp2_with fail
      go_ret2
      exact ⟨rfl, rfl⟩
    · have w1 : IntKind.i64.wrap (17592186044416 - t) = 17592186044416 - t := IntWalk.i64_in _ (by omega)
      by_cases ho : 17592186044416 - t < b
      · obtain ⟨e1, e2⟩ := add_over (t := t) (b := b) (by omega) (by omega)
        rw [e1, e2]
        go_enter Try.func7, Try.ntmps7
        go_wp2_with fail
        refine (HM.out _).mono ?_
        rintro e w' ⟨rfl, rfl⟩
        go_wp2_with fail
        go_ret2
        exact ⟨rfl, rfl⟩
      · obtain ⟨e1, e2⟩ := add_ok (t := t) (b := b) (by omega) (by omega)
        have w2 : IntKind.i64.wrap (t + b) = t + b := IntWalk.i64_in _ (by omega)
        rw [e1, e2]
        go_enter Try.func7, Try.ntmps7
        go_wp2_with fail
        refine (HM.out _).mono ?_
        rintro e w' ⟨rfl, rfl⟩
        go_wp2_with fail
        go_ret2
        exact ⟨rfl, rfl⟩
  · have hm2 : mayT t = false := by cases h : mayT t; rfl; exact absurd h hm
    have := not_mayT hm2
    obtain ⟨e1, e2⟩ := add_arg (t := t) (b := b) (by omega)
    rw [hm2] at HM
    rw [e1, e2]
    go_enter Try.func7, Try.ntmps7
    go_wp2_with fail
    refine (HM.out _).mono ?_
    rintro e w' ⟨rfl, rfl⟩
    go_wp2_with fail
    go_ret2
    exact ⟨rfl, rfl⟩
set_option maxHeartbeats 1000000 in
theorem leastP (A : Option Addr) (n c : Nat) (L : List Int) (w : World) (hr : IntR .i64 w A n L) (hn : n ≤ 9223372036854775807) :
    Calls Try.prog 11 #[.slice A n c] w fun e w' => e = .returned (.int .i64 (least L)) ∧ Below w.heap.size w w' := by
  have HL := Lib.hid hr.len
  have HR := Lib.hid hr
  clear hr
  go_enter Try.func11, Try.ntmps11
  go_wp2_with fail
  go_loopw [3, 8] (fun s i wr => ∃ (k : Nat) (m : Int), k ≤ n ∧ i = .int .i64 (k : Int) ∧ s = .int .i64 m ∧ m = least (L.take k) ∧ Below w.heap.size w wr) (fun _ i _ => n - (intOf i).toNat)
  case atStart => exact ⟨0, 17592186044416, by omega, rfl, rfl, rfl, Below.refl _ _⟩
  case round =>
    obtain ⟨k, m, hk, rfl, rfl, hm, hB⟩ := hrel
    have HMM := Lib.hid hm
    have HB := Lib.hid hB
    clear hm hB
    by_cases hlt : k < n
    · have hki : (k : Int) < (n : Int) := by omega
      obtain ⟨x, hx⟩ : ∃ x, L[k]? = some x := ⟨_, List.getElem?_eq_getElem (by have := HL.out; omega)⟩
      obtain ⟨b, off, rfl, hb, hc⟩ := (HR.out.below (Nat.le_refl _) HB.out).2 (by omega)
      have c0 := hc k x hx
      have HX := Lib.hid hx
      clear hx hc
      have HMR := Lib.hid (fun W => mayP x W)
      have HS := Lib.hid (least_step HX.out)
      by_cases hm2 : mayT x = true
      · rw [hm2] at HMR
        have HE := Lib.hid (show lea m x = (if x < m then x else m) by unfold lea; rw [hm2]; simp only [true_and])
        clear hm2
        go_wp2_with fail
        refine (HMR.out _).mono ?_
        rintro e w' ⟨rfl, rfl⟩
        go_wp2_with fail
        go_roundw
        case rel => exact ⟨k + 1, if x < m then x else m, by omega, by go_num, rfl, by rw [HS.out, ← HMM.out, HE.out], HB.out⟩
        case measure => simp [intOf]; omega
      · have hm3 : mayT x = false := by cases h : mayT x; rfl; exact absurd h hm2
        rw [hm3] at HMR
        have HE := Lib.hid (show lea m x = m from if_neg (fun h => hm2 h.1))
        clear hm2 hm3
        go_wp2_with fail
        refine (HMR.out _).mono ?_
        rintro e w' ⟨rfl, rfl⟩
        go_wp2_with fail
        go_roundw
        case rel => exact ⟨k + 1, m, by omega, by go_num, rfl, by rw [HS.out, ← HMM.out, HE.out], HB.out⟩
        case measure => simp [intOf]; omega
    · obtain rfl : k = n := by omega
      have hki : ¬ ((k : Nat) : Int) < (k : Int) := by omega
      go_wp2_with fail
      go_ret
      exact ⟨ret_i (by rw [HMM.out, HL.out, List.take_of_length_le (Nat.le_refl _)]), HB.out⟩

/-! clocks: a box of two cells: made, the time -/
def ClkAt (w : World) (b : Nat) (now : Int) : Prop := CellsAt w b #[.bool true, .int .i64 now]
theorem thereP (b : Nat) (t : Int) (w : World) (h : ClkAt w b t) : Calls Try.prog 17 #[.pointer (some ⟨b, 0, none⟩)] w fun e w' => e = .returned (.bool true) ∧ w = w' := by
  have c0 := CellsAt.cell h 0 _ rfl
  go_enter Try.func17, Try.ntmps17
  go_wp2_with fail
  go_ret
  exact ⟨rfl, rfl⟩
theorem thereN (w : World) : Calls Try.prog 17 #[.pointer none] w fun e w' => e = .returned (.bool false) ∧ w = w' := by
  go_enter Try.func17, Try.ntmps17
  go_wp2_with fail
  go_ret
  exact ⟨rfl, rfl⟩
theorem newP (t : Int) (w : World) (hm : mayT t = true) :
    Calls Try.prog 13 #[.int .i64 t] w fun e w' => ∃ b, e = .returned (.tuple #[.pointer (some ⟨b, 0, none⟩), .int .i64 0]) ∧ ClkAt w' b t ∧ w.heap.size ≤ b ∧ Below w.heap.size w w' := by
  have HM := Lib.hid (fun W => mayP t W)
  rw [hm] at HM
  go_enter Try.func13, Try.ntmps13
  go_wp2_with fail
  refine (HM.out _).mono ?_
  rintro e w' ⟨rfl, rfl⟩
  go_wp2_with fail
  go_ret2
  exact ⟨w.heap.size, rfl, CellsAt.new w _ _, Nat.le_refl _, (Below.refl _ w).alloc (Nat.le_refl _) _⟩
theorem newN (t : Int) (w : World) (hm : mayT t = false) :
    Calls Try.prog 13 #[.int .i64 t] w fun e w' => e = .returned (.tuple #[.pointer none, .int .i64 2]) ∧ w = w' := by
  have HM := Lib.hid (fun W => mayP t W)
  rw [hm] at HM
  go_enter Try.func13, Try.ntmps13
  go_wp2_with fail
  refine (HM.out _).mono ?_
  rintro e w' ⟨rfl, rfl⟩
  go_wp2_with fail
  go_ret2
  exact ⟨rfl, rfl⟩
theorem nowP (b : Nat) (t : Int) (w : World) (h : ClkAt w b t) : Calls Try.prog 15 #[.pointer (some ⟨b, 0, none⟩)] w fun e w' => e = .returned (.int .i64 t) ∧ w = w' := by
  have c1 := CellsAt.cell h 1 _ rfl
  have HT := Lib.hid (thereP b t w h)
  clear h
  go_enter Try.func15, Try.ntmps15
  go_wp2_with fail
  refine HT.out.mono ?_
  rintro e w' ⟨rfl, rfl⟩
  go_wp2_with fail
  go_ret
  exact ⟨rfl, rfl⟩
theorem leftP (b : Nat) (t a : Int) (w : World) (h : ClkAt w b t) (ht : 0 ≤ t ∧ t ≤ 17592186044416) (h1 : -9223372036854775808 ≤ a) (h2 : a ≤ 9223372036854775807) :
    Calls Try.prog 16 #[.pointer (some ⟨b, 0, none⟩), .int .i64 a] w fun e w' => e = .returned (.int .i64 (if t < a then a - t else 0)) ∧ Below w.heap.size w w' := by
  have c1 := CellsAt.cell h 1 _ rfl
  have HT := Lib.hid (thereP b t w h)
  clear h
  by_cases hlt : t < a
  · have hle : ¬ a ≤ t := by omega
    have hl2 : ¬ a < t := by omega
    have w1 : IntKind.i64.wrap (a - t) = a - t := IntWalk.i64_in _ (by omega)
    rw [if_pos hlt]
    go_enter Try.func16, Try.ntmps16
    go_wp2_with fail
    refine HT.out.mono ?_
    rintro e w' ⟨rfl, rfl⟩
    go_wp2_with fail
    go_quiet (fail)
    go_wp2
    go_ret
    exact ⟨rfl, rfl, rfl, rfl, Nat.le_refl _, fun _ _ => rfl⟩
  · rw [if_neg hlt]
    by_cases heq : a = t
    · subst heq
      have hle : ¬ a < a := by omega
      have hl2 : a ≤ a := by omega
      go_enter Try.func16, Try.ntmps16
      go_wp2_with fail
      refine HT.out.mono ?_
      rintro e w' ⟨rfl, rfl⟩
      go_wp2_with fail
      go_quiet (fail)
      go_wp2
      go_ret
      exact ⟨rfl, rfl, rfl, rfl, Nat.le_refl _, fun _ _ => rfl⟩
    · have hle : ¬ t ≤ a := by omega
      have hl2 : a < t := by omega
      have hl3 : a ≤ t := by omega
      go_enter Try.func16, Try.ntmps16
      go_wp2_with fail
      refine HT.out.mono ?_
      rintro e w' ⟨rfl, rfl⟩
      go_wp2_with fail
      go_quiet (fail)
      go_wp2
      go_ret
      exact ⟨rfl, rfl, rfl, rfl, Nat.le_refl _, fun _ _ => rfl⟩
theorem goP (b : Nat) (t by_ : Int) (w : World) (h : ClkAt w b t) (ht : 0 ≤ t ∧ t ≤ 17592186044416) (h1 : -9223372036854775808 ≤ by_) (h2 : by_ ≤ 9223372036854775807) :
    Calls Try.prog 14 #[.pointer (some ⟨b, 0, none⟩), .int .i64 by_] w fun e w' => e = .returned (.int .i64 (addE t by_)) ∧ ClkAt w' b (if addE t by_ = 0 then addT t by_ else t) ∧ Apart b w w' ∧ Below b w w' := by
  have c1 := CellsAt.cell h 1 _ rfl
  have f1 := CellsAt.free h 1 (by simp)
  have HA := Lib.hid (fun W => addP t by_ W (by omega) (by omega) h1 h2)
  have HC := Lib.hid h
  have HT := Lib.hid (thereP b t w h)
  clear h
  by_cases he : addE t by_ = 0
  · rw [he] at HA
    rw [he, if_pos rfl]
    obtain ⟨n, hn⟩ : ∃ n, addT t by_ = n := ⟨_, rfl⟩
    rw [hn] at HA ⊢
    clear hn he
    go_enter Try.func14, Try.ntmps14
    go_wp2_with fail
    refine HT.out.mono ?_
    rintro e w' ⟨rfl, rfl⟩
    go_wp2_with fail
    refine (HA.out _).mono ?_
    rintro e w' ⟨rfl, rfl⟩
    go_wp2_with fail
    go_ret
    exact ⟨rfl, by simpa [ClkAt] using CellsAt.put HC.out 1 (.int .i64 n) (by simp), (Apart.refl b w).put 1 _, (Below.refl b w).setCell (p := ⟨b, 1, none⟩) (Nat.le_refl _) _⟩
  · rw [if_neg he]
    have q1 : (addE t by_ != 0) = true := bne_iff_ne.2 he
    generalize addE t by_ = n at HA q1
    clear he
    go_enter Try.func14, Try.ntmps14
    go_wp2_with fail
    refine HT.out.mono ?_
    rintro e w' ⟨rfl, rfl⟩
    go_wp2_with fail
    refine (HA.out _).mono ?_
    rintro e w' ⟨rfl, rfl⟩
    go_wp2_with fail
    go_ret
    exact ⟨rfl, HC.out, Apart.refl _ _, Below.refl _ _⟩
theorem nowN (w : World) : Calls Try.prog 15 #[.pointer none] w fun e w' => e = .returned (.int .i64 0) ∧ w = w' := by
  have HT := Lib.hid (thereN w)
  go_enter Try.func15, Try.ntmps15
  go_wp2_with fail
  refine HT.out.mono ?_
  rintro e w' ⟨rfl, rfl⟩
  go_wp2_with fail
  go_ret
  exact ⟨rfl, rfl⟩
theorem leftN (a : Int) (w : World) : Calls Try.prog 16 #[.pointer none, .int .i64 a] w fun e w' => e = .returned (.int .i64 0) ∧ w = w' := by
  have HT := Lib.hid (thereN w)
  go_enter Try.func16, Try.ntmps16
  go_wp2_with fail
  refine HT.out.mono ?_
  rintro e w' ⟨rfl, rfl⟩
  go_wp2_with fail
  go_ret
  exact ⟨rfl, rfl⟩
theorem goN (a : Int) (w : World) : Calls Try.prog 14 #[.pointer none, .int .i64 a] w fun e w' => e = .returned (.int .i64 1) ∧ w = w' := by
  have HT := Lib.hid (thereN w)
  go_enter Try.func14, Try.ntmps14
  go_wp2_with fail
  refine HT.out.mono ?_
  rintro e w' ⟨rfl, rfl⟩
  go_wp2_with fail
  go_ret
  exact ⟨rfl, rfl⟩
end Go.Proofs.Ytokbkhopadaeoaa.ClkP
