/-
  Times, plain mathematics: which there are, their sums, the least of some.
-/
import Derived.Test.YtokbkhopadaeoaaChecked
import Derived.WalkKit
namespace Go.Proofs.Ytokbkhopadaeoaa.ClkMath
set_option linter.unusedVariables false

def mayT (t : Int) : Bool := decide (0 ≤ t) && decide (t ≤ 17592186044416)
theorem mayT_yes {t : Int} (h : 0 ≤ t) (h2 : t ≤ 17592186044416) : mayT t = true := by simp [mayT, h, h2]
theorem mayT_no {t : Int} (h : ¬ (0 ≤ t ∧ t ≤ 17592186044416)) : mayT t = false := by
  cases e : mayT t with
  | false => rfl
  | true => exact absurd (by simpa [mayT] using e) h
theorem of_mayT {t : Int} (h : mayT t = true) : 0 ≤ t ∧ t ≤ 17592186044416 := by simpa [mayT] using h
theorem not_mayT {t : Int} (h : mayT t = false) : ¬ (0 ≤ t ∧ t ≤ 17592186044416) := fun c => by rw [mayT_yes c.1 c.2] at h; cases h
/-- a sum's error, and the sum -/
def addE (t b : Int) : Int := if 0 ≤ t ∧ t ≤ 17592186044416 ∧ 0 ≤ b then (if b ≤ 17592186044416 - t then 0 else 9) else 2
def addT (t b : Int) : Int := if addE t b = 0 then t + b else 0
theorem add_arg {t b : Int} (h : ¬ (0 ≤ t ∧ t ≤ 17592186044416 ∧ 0 ≤ b)) : addE t b = 2 ∧ addT t b = 0 := by
  have e : addE t b = 2 := if_neg h
  exact ⟨e, by unfold addT; rw [e]; rfl⟩
theorem add_over {t b : Int} (h : 0 ≤ t ∧ t ≤ 17592186044416 ∧ 0 ≤ b) (h2 : ¬ b ≤ 17592186044416 - t) : addE t b = 9 ∧ addT t b = 0 := by
  have e : addE t b = 9 := by unfold addE; rw [if_pos h, if_neg h2]
  exact ⟨e, by unfold addT; rw [e]; rfl⟩
theorem add_ok {t b : Int} (h : 0 ≤ t ∧ t ≤ 17592186044416 ∧ 0 ≤ b) (h2 : b ≤ 17592186044416 - t) : addE t b = 0 ∧ addT t b = t + b := by
  have e : addE t b = 0 := by unfold addE; rw [if_pos h, if_pos h2]
  exact ⟨e, by unfold addT; rw [e]; rfl⟩
theorem add_may {t b : Int} (h0 : addE t b = 0) : mayT (addT t b) = true := by
  by_cases h : 0 ≤ t ∧ t ≤ 17592186044416 ∧ 0 ≤ b
  · by_cases h2 : b ≤ 17592186044416 - t
    · rw [(add_ok h h2).2]
      exact mayT_yes (by omega) (by omega)
    · have := (add_over h h2).1
      omega
  · have := (add_arg h).1
    omega
/-- the least of those that are times -/
def lea (n : Int) (x : Int) : Int := if mayT x = true ∧ x < n then x else n
def least (l : List Int) : Int := l.foldl lea 17592186044416
theorem lea_bd {n x : Int} (h : 0 ≤ n ∧ n ≤ 17592186044416) : 0 ≤ lea n x ∧ lea n x ≤ 17592186044416 := by
  unfold lea
  split
  · rename_i c
    have := of_mayT c.1
    omega
  · exact h
theorem foldl_bd (l : List Int) : ∀ n : Int, 0 ≤ n ∧ n ≤ 17592186044416 → 0 ≤ l.foldl lea n ∧ l.foldl lea n ≤ 17592186044416 := by
  induction l with
  | nil => exact fun n h => h
  | cons x l ih => exact fun n h => ih _ (lea_bd h)
theorem least_bd (l : List Int) : 0 ≤ least l ∧ least l ≤ 17592186044416 := foldl_bd l _ (by omega)
theorem take_snoc {α : Type} {l : List α} {k : Nat} {x : α} (h : l[k]? = some x) : l.take (k + 1) = l.take k ++ [x] := by
  rw [List.take_add_one, h]
  rfl
theorem least_step {l : List Int} {k : Nat} {x : Int} (h : l[k]? = some x) : least (l.take (k + 1)) = lea (least (l.take k)) x := by
  unfold least
  rw [take_snoc h, List.foldl_append]
  rfl
end Go.Proofs.Ytokbkhopadaeoaa.ClkMath
