/-
  Options that are read: how many blocks they have at most (no Go in sight).
-/
import Derived.Test.YtgpkckaojcodmaaOptTk
namespace Go.Proofs.Ytgpkckaojcodmaa.OptFew
open Go.RowKit TupMath SumMath IpMath OptMath OptTk
set_option linter.unusedVariables false

theorem prs_le : ∀ l : List Nat, (prs l).length ≤ l.length
  | a :: b :: c :: d :: e :: f :: g :: h :: r => by
    have := prs_le r
    show (prs r).length + 1 ≤ _
    simp only [List.length_cons]
    omega
  | [] => Nat.zero_le _
  | [_] => Nat.zero_le _
  | [_, _] => Nat.zero_le _
  | [_, _, _] => Nat.zero_le _
  | [_, _, _, _] => Nat.zero_le _
  | [_, _, _, _, _] => Nat.zero_le _
  | [_, _, _, _, _, _] => Nat.zero_le _
  | [_, _, _, _, _, _, _] => Nat.zero_le _
theorem tk_few {o p : Opn} {x : Nat × List Nat} (h : tk o x = some p) : p.blocks.length ≤ o.blocks.length + x.2.length := by
  obtain ⟨k, q⟩ := x
  rw [tk_is] at h
  split at h
  · obtain rfl := Option.some.inj h
    have := prs_le q
    unfold tkO
    repeat' split
    all_goals simp only [List.length_append]
    all_goals omega
  · cases h
theorem fold_few : ∀ (L : List (Nat × List Nat)) (o p : Opn), L.foldlM tk o = some p → p.blocks.length ≤ o.blocks.length + (L.map fun x => x.2.length).sum
  | [], o, p, h => by
    obtain rfl : o = p := Option.some.inj h
    simp
  | x :: L, o, p, h => by
    rw [List.foldlM_cons] at h
    obtain ⟨o1, h1, h2⟩ := Option.bind_eq_some_iff.1 h
    have a1 := tk_few h1
    have a2 := fold_few L o1 p h2
    simp only [List.map_cons, List.sum_cons]
    omega
theorem its_sum : ∀ (m : Nat) (l met : List Nat) (L : List (Nat × List Nat)), l.length ≤ m → its l met = some L → (L.map fun x => x.2.length).sum ≤ l.length
  | m, l, met, L, hm, h => by
    rcases its_cases h with ⟨rfl, rfl⟩ | ⟨r, rfl, rfl⟩ | ⟨r, rfl, h2⟩ | ⟨k, p, r, L2, rfl, _, _, _, _, h2, rfl⟩
    · simp
    · simp
    · match m, hm with
      | 0, hm => simp at hm
      | m + 1, hm =>
        have := its_sum m r met L (by simp at hm; omega) h2
        simp only [List.length_cons]
        omega
    · match m, hm with
      | 0, hm => simp at hm
      | m + 1, hm =>
        have := its_sum m r (k :: met) L2 (by simp at hm; omega) h2
        simp only [List.map_cons, List.sum_cons, List.length_cons, List.length_append]
        omega
theorem dec_few {l : List Nat} {p : Opn} (h : decO l = some p) : p.blocks.length ≤ l.length := by
  unfold decO at h
  obtain ⟨L, hL, hf⟩ := Option.bind_eq_some_iff.1 h
  have a1 := fold_few L none0 p hf
  have a2 := its_sum l.length l [] L (Nat.le_refl _) hL
  have : none0.blocks.length = 0 := rfl
  omega
theorem dec7_few (l : List Nat) : (dec7 l).2.blocks.length ≤ 40 := by
  by_cases h : 40 < l.length
  · rw [dec7_long h]; exact Nat.zero_le _
  · cases hd : decO l with
    | none => rw [dec7_none h hd]; exact Nat.zero_le _
    | some p =>
      rw [dec7_some h hd]
      have := dec_few hd
      show p.blocks.length ≤ 40
      omega
/-- what is read is of numbers that may be -/
theorem dec7_code (l : List Nat) : (dec7 l).1 = 0 ∨ (dec7 l).1 = 4 ∨ (dec7 l).1 = 70 := by
  unfold dec7
  split
  · exact .inr (.inl rfl)
  · split
    · exact .inr (.inr rfl)
    · exact .inl rfl
end Go.Proofs.Ytgpkckaojcodmaa.OptFew
