/-
  The program's own way through options: first, options (an iterator), right.
-/
import Derived.RangeFuncNested
import Derived.RangeFuncBound
import Derived.RangeFuncCalls
import Derived.RangeFuncLeaves
import Derived.RangeFuncFrom
import Derived.RangeFuncBox
import Derived.Shelf.Abstract
import Derived.Shelf.RegionOpen
import Derived.WalkKit
import Derived.OwnWalkIn
import Derived.TacticsInMore
import Derived.LoopNIn
import Derived.LoopIn
import Derived.Test.YtgpkckaojcodmaaOptPS
namespace Go.Proofs.Ytgpkckaojcodmaa.OptPI
open Go.RowKit Go.Shelf TupMath SumMath Litb Calm IpMath IpRef Rel Num OptMath OptRef OptPlc OptSame OptMay OptTk OptQ OptPT
set_option linter.unusedVariables false
set_option maxRecDepth 100000

theorem ext_all (s : ByteArray) (a : Nat) (h : a ≤ s.size) : bz (s.extract a s.size) = (bz s).drop a := by
  rw [bz_extract s a s.size (Nat.le_refl _), List.take_of_length_le (by rw [bz_len]; exact Nat.le_refl _)]
/-- an option's bytes, as far as they are there -/
def cutS (s : ByteArray) (a : Nat) : ByteArray := s.extract a (a + lenAt (bz s) a)
theorem cutS_bz (s : ByteArray) (a : Nat) (h : a < s.size) : bz (cutS s a) = cutX (bz s) a := by
  have hl := lenAt_le (l := bz s) (a := a) (by rw [bz_len]; exact h)
  rw [bz_len] at hl
  unfold cutS cutX
  rw [bz_extract s a _ hl, List.drop_take]
  congr 1
  omega
theorem cutS_size (s : ByteArray) (a : Nat) (h : a < s.size) : (cutS s a).size = lenAt (bz s) a := by
  have hl := lenAt_le (l := bz s) (a := a) (by rw [bz_len]; exact h)
  rw [bz_len] at hl
  unfold cutS
  rw [ByteArray.size_extract]
  omega
set_option maxHeartbeats 4000000 in
theorem firstP (s : ByteArray) (w : World) (h : 0 < s.size) (hs : s.size ≤ 1000000) : Calls Try.prog 37 #[.string s] w fun e w' => e = .returned (.string (s.extract 0 (min (max 2 (at0 (bz s) 1)) s.size))) ∧ Below w.heap.size w w' := by
  have hk := at_le s 1
  have HA := Lib.hid (at8 s 1 w (by omega) hs)
  generalize at0 (bz s) 1 = k at hk HA
  obtain ⟨m, hm⟩ : ∃ m, max 2 k = m := ⟨_, rfl⟩
  obtain ⟨q, hq⟩ : ∃ q, min m s.size = q := ⟨_, rfl⟩
  rw [hm, hq]
  have m1 : max (2 : Int) (k : Int) = (m : Int) := by omega
  have q1 : min (m : Int) (s.size : Int) = (q : Int) := by omega
  have q2 : q ≤ s.size := by omega
  have q3 : (q : Int) ≤ (s.size : Int) := by omega
  clear hm hq
  go_enter Try.func37, Try.ntmps37
  go_wp2_with fail
  refine HA.out.mono ?_
  rintro e w' ⟨rfl, hb⟩
  have HB := Lib.hid hb
  clear hb
  go_wp2_with fail
  go_ret
  exact ⟨rfl, HB.out⟩
theorem firstAt (s : ByteArray) (a : Nat) (w : World) (h : a < s.size) (hs : s.size ≤ 1000000) : Calls Try.prog 37 #[.string (s.extract a s.size)] w fun e w' => e = .returned (.string (cutS s a)) ∧ Below w.heap.size w w' := by
  have hz : (s.extract a s.size).size = s.size - a := by rw [ByteArray.size_extract]; omega
  refine (firstP (s.extract a s.size) w (by omega) (by omega)).mono ?_
  rintro e w' ⟨rfl, hb⟩
  refine ⟨ret_str (bz_inj ?_), hb⟩
  rw [cutS_bz s a h, bz_extract _ _ _ (by omega), List.drop_zero, ext_all s a (by omega), hz]
  unfold cutX lenAt
  congr 1
  rw [bz_len]
  congr 2
  unfold at0
  rw [List.getElem?_drop]

set_option maxHeartbeats 16000000 in
theorem rightP (s : ByteArray) (w : World) (h : 0 < s.size) (hs : s.size ≤ 1000000) : Calls Try.prog 25 #[.string s] w fun e w' => e = .returned (.bool (rightX (bz s))) ∧ Below w.heap.size w w' := by
  have HA := Lib.hid (at8 s 1 w (by omega) hs)
  have hk := at_le s 1
  unfold rightX
  rw [bz_len]
  have HT := Lib.hid (fun W (h4 : s.size = 4) => at16 s 2 _ _ W (by omega) hs (show (bz s)[2 + 0]? = some (at0 (bz s) 2) by unfold at0; rw [List.getElem?_eq_getElem (by rw [bz_len]; omega)]; rfl) (show (bz s)[2 + 1]? = some (at0 (bz s) 3) by unfold at0; rw [List.getElem?_eq_getElem (by rw [bz_len]; omega)]; rfl))
  have z0 := at_byte s 0 h
  have k0 := at_le s 0
  have HV : Hid (s.size = 4 → v256 ((bz s).drop 2) = at0 (bz s) 2 * 256 + at0 (bz s) 3) := Lib.hid (fun h4 => by
    have e : (bz s).drop 2 = [at0 (bz s) 2, at0 (bz s) 3] := by
      rw [drop_cons (show 2 < (bz s).length by rw [bz_len]; omega), drop_cons (show 3 < (bz s).length by rw [bz_len]; omega), List.drop_eq_nil_of_le (by rw [bz_len]; omega)]
    rw [e]
    simp only [v256, List.foldl_cons, List.foldl_nil]
    omega)
  have H1 : Hid (s.size = 1 → at0 (bz s) 1 = 0) := Lib.hid (fun h1 => by unfold at0; rw [List.getElem?_eq_none (by rw [bz_len]; omega)]; rfl)
  generalize at0 (bz s) 1 = n at HA hk H1
  generalize at0 (bz s) 2 * 256 + at0 (bz s) 3 = y at HT HV
  generalize at0 (bz s) 0 = k at z0 k0
  by_cases c1 : s.size = n
  rotate_left
  · rw [decide_eq_false c1]
    have q1 : ((s.size : Int) == (n : Int)) = false := beq_eq_false_iff_ne.2 (by omega)
    have q2 : ((s.size : Int) != (n : Int)) = true := bne_iff_ne.2 (by omega)
    clear c1
    go_enter Try.func25, Try.ntmps25
    go_wp2_with fail
    refine HA.out.mono ?_
    rintro e w' ⟨rfl, hb⟩
    have HB := Lib.hid hb
    clear hb
    go_wp2_with fail
    go_ret
    exact ⟨rfl, HB.out⟩
  rw [decide_eq_true c1]
  have h2 : 2 ≤ s.size := by
    have := H1.out
    omega
  have q1 : ((s.size : Int) == (n : Int)) = true := beq_iff_eq.2 (by omega)
  have q2 : ((s.size : Int) != (n : Int)) = false := by rw [bne, q1]; rfl
  clear c1 H1
  by_cases c2 : k = 2
  · subst c2
    by_cases c4 : s.size = 4
    · have e : (true && right 2 s.size && tkB 2 ((bz s).drop 2)) = ((y : Int) != 0) := by
        unfold tkB
        rw [HV.out c4, c4]
        by_cases hy : y = 0
        · rw [hy]; rfl
        · rw [decide_eq_false hy]
          exact (bne_iff_ne.2 (by omega)).symm
      rw [e]
      have HT4 := Lib.hid (fun W => HT.out W c4)
      have q4 : ((s.size : Int) == 4) = true := beq_iff_eq.2 (by omega)
      clear e c4 HT HV
      go_enter Try.func25, Try.ntmps25
      go_wp2_with fail
      refine HA.out.mono ?_
      rintro e w' ⟨rfl, hb⟩
      have HB := Lib.hid hb
      clear hb
      go_wp2_with fail
      refine (HT4.out _).mono ?_
      rintro e w2 ⟨rfl, hb⟩
      have HB2 := Lib.hid (st_call HB.out hb)
      clear hb
      go_wp2_with fail
      go_ret
      exact ⟨rfl, HB2.out⟩
    · have e : (true && right 2 s.size && tkB 2 ((bz s).drop 2)) = false := by
        have : right 2 s.size = false := by simp [right, c4]
        rw [this]
        rfl
      rw [e]
      have q4 : ((s.size : Int) == 4) = false := beq_eq_false_iff_ne.2 (by omega)
      clear e c4 HT HV
      go_enter Try.func25, Try.ntmps25
      go_wp2_with fail
      refine HA.out.mono ?_
      rintro e w' ⟨rfl, hb⟩
      have HB := Lib.hid hb
      clear hb
      go_wp2_with fail
      go_ret
      exact ⟨rfl, HB.out⟩
  have et : tkB k ((bz s).drop 2) = true := by unfold tkB; rw [decide_eq_false c2]; rfl
  rw [et, Bool.and_true, Bool.true_and]
  clear et HT HV
  by_cases c3 : k = 3
  · subst c3
    have e : right 3 s.size = ((s.size : Int) == 3) := (beq_nat s.size 3).symm
    rw [e]
    clear e
    go_enter Try.func25, Try.ntmps25
    go_wp2_with fail
    refine HA.out.mono ?_
    rintro e w' ⟨rfl, hb⟩
    have HB := Lib.hid hb
    clear hb
    go_wp2_with fail
    go_ret
    exact ⟨rfl, HB.out⟩
  by_cases c4 : k = 4
  · subst c4
    have e : right 4 s.size = ((s.size : Int) == 2) := (beq_nat s.size 2).symm
    rw [e]
    clear e
    go_enter Try.func25, Try.ntmps25
    go_wp2_with fail
    refine HA.out.mono ?_
    rintro e w' ⟨rfl, hb⟩
    have HB := Lib.hid hb
    clear hb
    go_wp2_with fail
    go_ret
    exact ⟨rfl, HB.out⟩
  by_cases c8 : k = 8
  · subst c8
    have e : right 8 s.size = ((s.size : Int) == 10) := (beq_nat s.size 10).symm
    rw [e]
    clear e
    go_enter Try.func25, Try.ntmps25
    go_wp2_with fail
    refine HA.out.mono ?_
    rintro e w' ⟨rfl, hb⟩
    have HB := Lib.hid hb
    clear hb
    go_wp2_with fail
    go_ret
    exact ⟨rfl, HB.out⟩
  by_cases c5 : k = 5
  · subst c5
    by_cases a1 : (2 : Int) < (s.size : Int)
    · by_cases a2 : (s.size : Int) ≤ 34
      · have m1 : IntKind.i64.wrap ((s.size : Int) - 2) = (s.size : Int) - 2 := by rw [IntKind.wrap_i64]; omega
        have m2 : ((s.size : Int) - 2).tmod 8 = (((s.size - 2) % 8 : Nat) : Int) := by rw [Int.tmod_eq_emod_of_nonneg (by omega)]; omega
        have m3 : ((s.size : Int) - 2) % 8 = (((s.size - 2) % 8 : Nat) : Int) := by omega
        have e : right 5 s.size = ((((s.size - 2) % 8 : Nat) : Int) == 0) := by
          unfold right
          simp only [show (5 : Nat) = 2 ↔ False by decide, show (5 : Nat) = 3 ↔ False by decide, show (5 : Nat) = 4 ↔ False by decide, if_false, if_true]
          rw [Bool.eq_iff_iff]
          simp only [Bool.or_eq_true, beq_iff_eq]
          omega
        rw [e]
        generalize (s.size - 2) % 8 = z at m2 m3
        clear e
        go_enter Try.func25, Try.ntmps25
        go_wp2_with fail
        refine HA.out.mono ?_
        rintro e w' ⟨rfl, hb⟩
        have HB := Lib.hid hb
        clear hb
        go_wp2_with fail
        go_ret
        exact ⟨rfl, HB.out⟩
      · have e : right 5 s.size = false := by
          unfold right
          simp only [show (5 : Nat) = 2 ↔ False by decide, show (5 : Nat) = 3 ↔ False by decide, show (5 : Nat) = 4 ↔ False by decide, if_false, if_true]
          simp
          omega
        rw [e]
        clear e
        go_enter Try.func25, Try.ntmps25
        go_wp2_with fail
        refine HA.out.mono ?_
        rintro e w' ⟨rfl, hb⟩
        have HB := Lib.hid hb
        clear hb
        go_wp2_with fail
        go_ret
        exact ⟨rfl, HB.out⟩
    · have e : right 5 s.size = false := by
        unfold right
        simp only [show (5 : Nat) = 2 ↔ False by decide, show (5 : Nat) = 3 ↔ False by decide, show (5 : Nat) = 4 ↔ False by decide, if_false, if_true]
        simp
        omega
      rw [e]
      clear e
      go_enter Try.func25, Try.ntmps25
      go_wp2_with fail
      refine HA.out.mono ?_
      rintro e w' ⟨rfl, hb⟩
      have HB := Lib.hid hb
      clear hb
      go_wp2_with fail
      go_ret
      exact ⟨rfl, HB.out⟩
  have e : right k s.size = true := by
    unfold right
    rw [if_neg c2, if_neg c3, if_neg c4, if_neg c5, if_neg c8]
    exact decide_eq_true h2
  rw [e]
  have r2 : ((k : Int) == 2) = false := beq_eq_false_iff_ne.2 (by omega)
  have r3 : ((k : Int) == 3) = false := beq_eq_false_iff_ne.2 (by omega)
  have r4 : ((k : Int) == 4) = false := beq_eq_false_iff_ne.2 (by omega)
  have r5 : ((k : Int) == 5) = false := beq_eq_false_iff_ne.2 (by omega)
  have r8 : ((k : Int) == 8) = false := beq_eq_false_iff_ne.2 (by omega)
  clear e c2 c3 c4 c5 c8
  go_enter Try.func25, Try.ntmps25
  go_wp2_with fail
  refine HA.out.mono ?_
  rintro e w' ⟨rfl, hb⟩
  have HB := Lib.hid hb
  clear hb
  go_wp2_with fail
  go_ret
  exact ⟨rfl, HB.out⟩
end Go.Proofs.Ytgpkckaojcodmaa.OptPI
