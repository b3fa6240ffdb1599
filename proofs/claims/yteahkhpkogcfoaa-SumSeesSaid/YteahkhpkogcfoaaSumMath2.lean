/-
  Plain mathematics of the laws of layer 3: no Go in sight.
-/
import Derived.Test.YteahkhpkogcfoaaSumMath
namespace Go.Proofs.Yteahkhpkogcfoaa.SumMath2
open SumMath
set_option linter.unusedVariables false

theorem wsum_split (l : List Nat) (k : Nat) (hk : k % 2 = 0) (h : k + 2 ≤ l.length) : wsum l = wsum (l.take k) + wAt l k + wsum (l.drop (k + 2)) := by
  have e1 := wsum_append (l.take k) (l.drop k) (by simp; omega)
  have e2 := wsum_drop l k (by omega)
  rw [List.take_append_drop] at e1
  omega
theorem cs_eq {l l' : List Nat} : cs l = cs l' ↔ ones (wsum l) = ones (wsum l') := by
  have h1 := ones_le (wsum l)
  have h2 := ones_le (wsum l')
  unfold cs
  omega
theorem ones_mod {x y : Nat} (h : ones x = ones y) : x % 65535 = y % 65535 := by
  unfold ones at h
  split at h <;> split at h <;> omega
/-- one word is another one -/
def put2 (l : List Nat) (k a b : Nat) : List Nat := (l.set k a).set (k + 1) b
theorem put2_len (l : List Nat) (k a b : Nat) : (put2 l k a b).length = l.length := by simp [put2]
theorem put2_at (l : List Nat) (k a b : Nat) (h : k + 2 ≤ l.length) : wAt (put2 l k a b) k = a * 256 + b := by
  unfold wAt put2
  have h1 : ((l.set k a).set (k + 1) b)[k]? = some a := by
    rw [List.getElem?_set_ne (by omega), List.getElem?_set_self (by omega)]
  have h2 : ((l.set k a).set (k + 1) b)[k + 1]? = some b := by
    rw [List.getElem?_set_self (by simp; omega)]
  rw [h1, h2]; rfl
theorem put2_take (l : List Nat) (k a b : Nat) : (put2 l k a b).take k = l.take k := by
  unfold put2
  rw [List.take_set_of_le (by omega), List.take_set_of_le (by omega)]
theorem put2_drop (l : List Nat) (k a b : Nat) : (put2 l k a b).drop (k + 2) = l.drop (k + 2) := by
  unfold put2
  rw [List.drop_set_of_lt (by omega), List.drop_set_of_lt (by omega)]
theorem put2_sum (l : List Nat) (k a b : Nat) (hk : k % 2 = 0) (h : k + 2 ≤ l.length) : wsum (put2 l k a b) = wsum (l.take k) + (a * 256 + b) + wsum (l.drop (k + 2)) := by
  rw [wsum_split (put2 l k a b) k hk (by rw [put2_len]; exact h), put2_at l k a b h, put2_take, put2_drop]
theorem put2_same (l : List Nat) (k : Nat) (a b : Nat) (hk : k % 2 = 0) (h : k + 2 ≤ l.length) (he : wAt l k = a * 256 + b) : wsum (put2 l k a b) = wsum l := by
  rw [put2_sum l k a b hk h, wsum_split l k hk h, he]
/-- another word makes another checksum -/
theorem sees {l : List Nat} {k a b : Nat} (hk : k % 2 = 0) (h : k + 2 ≤ l.length) (hb : ¬ ((wAt l k) % 65535 = (a * 256 + b) % 65535 ∧ wAt l k ≠ a * 256 + b)) :
    decide (cs (put2 l k a b) = cs l) = decide ((wAt l k) % 65535 = (a * 256 + b) % 65535) := by
  by_cases hs : (wAt l k) % 65535 = (a * 256 + b) % 65535
  · have he : wAt l k = a * 256 + b := by
      by_cases he : wAt l k = a * 256 + b
      · exact he
      · exact absurd ⟨hs, he⟩ hb
    have h2 : cs (put2 l k a b) = cs l := by unfold cs; rw [put2_same l k a b hk h he]
    rw [decide_eq_true h2, decide_eq_true hs]
  · have h2 : ¬ cs (put2 l k a b) = cs l := by
      intro hc
      have h3 := ones_mod (cs_eq.1 hc)
      rw [put2_sum l k a b hk h, wsum_split l k hk h] at h3
      exact hs (by omega)
    rw [decide_eq_false h2, decide_eq_false hs]

/-- a text that bears its checksum is right -/
theorem right_own {l : List Nat} (h : l.length % 2 = 0) (hi lo : Nat) (e : hi * 256 + lo = cs l) : cs (l ++ [hi, lo]) = 0 := by
  have h1 := ones_le (wsum l)
  have e2 : wsum [hi, lo] = 65535 - ones (wsum l) := by show hi * 256 + lo + 0 = _; rw [e]; rfl
  unfold cs
  rw [wsum_append l _ h, e2]
  have e3 : ones (wsum l + (65535 - ones (wsum l))) = 65535 := by
    rw [← ones_add]
    have e4 : ones (wsum l) + (65535 - ones (wsum l)) = 65535 := by omega
    rw [e4]; exact ones_small (Nat.le_refl _)
  rw [e3]
/-- the checksums of two texts, the first one of an even number of bytes, make that of both -/
theorem join_own {a b : List Nat} (h : a.length % 2 = 0) : jo (cs a) (cs b) = cs (a ++ b) := by
  have h1 := ones_le (wsum a)
  have h2 := ones_le (wsum b)
  unfold jo cs
  rw [wsum_append a b h]
  have e : (65535 - (65535 - ones (wsum a))) + (65535 - (65535 - ones (wsum b))) = ones (wsum a) + ones (wsum b) := by omega
  rw [e, ones_add, ones_add']
/-- turned along with a row of words -/
theorem turned_own {p q x y : List Nat} (hp : p.length % 2 = 0) (hx : x.length % 2 = 0) (hl : x.length = y.length) (hb : ∀ z ∈ x, z ≤ 255) (hr : 0 < wsum p + wsum q) :
    tus (cs (p ++ (x ++ q))) x y ((x.length + 1) / 2) = cs (p ++ (y ++ q)) := by
  have e1 : wsum (p ++ (x ++ q)) = (wsum p + wsum q) + wsum x := by rw [wsum_append p _ hp, wsum_append x _ hx]; omega
  have e2 : wsum (p ++ (y ++ q)) = (wsum p + wsum q) + wsum y := by rw [wsum_append p _ hp, wsum_append y _ (by omega)]; omega
  unfold cs
  rw [e1, e2]
  exact tus_all _ hr x y hl hx hb
theorem turned_one {p q : List Nat} {u v a b : Nat} (hp : p.length % 2 = 0) (hu : u ≤ 255) (hv : v ≤ 255) (hr : 0 < wsum p + wsum q) :
    tu (cs (p ++ (u :: v :: q))) (u * 256 + v) (a * 256 + b) = cs (p ++ (a :: b :: q)) := by
  have e1 : wsum (p ++ (u :: v :: q)) = (wsum p + wsum q) + (u * 256 + v) := by rw [wsum_append p _ hp]; simp only [wsum]; omega
  have e2 : wsum (p ++ (a :: b :: q)) = (wsum p + wsum q) + (a * 256 + b) := by rw [wsum_append p _ hp]; simp only [wsum]; omega
  unfold cs
  rw [e1, e2]
  exact tu_step hr (by omega)
/-- a word that is there -/
theorem wsum_pos {l : List Nat} {i : Nat} (hi : i % 2 = 0) (h : i < l.length) (hw : 0 < wAt l i) : 0 < wsum l := by
  have e1 := wsum_append (l.take i) (l.drop i) (by simp; omega)
  rw [List.take_append_drop] at e1
  have e2 := wsum_drop l i h
  omega
end Go.Proofs.Yteahkhpkogcfoaa.SumMath2
