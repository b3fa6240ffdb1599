/-
  Boxes of several cells, written cell by cell (of no package).
-/
import Derived.WalkKit
import Derived.Below
namespace Go.Proofs.Ytokbkhopadaeoaa.Boxes
open Go.RowKit
set_option linter.unusedVariables false

theorem set_at (W : World) (b j : Nat) (v : Value) (h : ∃ u, W.cell? ⟨b, j, none⟩ = some u) : (W.setCell ⟨b, j, none⟩ v).cell? ⟨b, j, none⟩ = some v := by
  obtain ⟨u, hu⟩ := h
  exact World.cell?_setCell_same' _ _ _ (by rw [hu]; rfl)
theorem set_ne (W : World) (b i j : Nat) (v : Value) (h : j ≠ i) : (W.setCell ⟨b, i, none⟩ v).cell? ⟨b, j, none⟩ = W.cell? ⟨b, j, none⟩ :=
  World.cell?_setCell_other _ _ _ _ (fun e => by injection e with _ e; exact h e.symm)
/-- all cells of a box, written one behind the other -/
def setAll (W : World) (b : Nat) (vs : List Value) : World := (vs.foldl (fun (p : World × Nat) v => (p.1.setCell ⟨b, p.2, none⟩ v, p.2 + 1)) (W, 0)).1
theorem setAll_is (W : World) (b : Nat) (vs : List Value) (h : ∀ j, j < vs.length → ∃ u, W.cell? ⟨b, j, none⟩ = some u) :
    (∀ (j : Nat) (v : Value), vs[j]? = some v → (setAll W b vs).cell? ⟨b, j, none⟩ = some v) ∧ Below b W (setAll W b vs) := by
  have key : ∀ (vs : List Value) (V : World) (k n : Nat), k + vs.length ≤ n → (∀ j, j < n → ∃ u, V.cell? ⟨b, j, none⟩ = some u) →
      (∀ j, j < k → (vs.foldl (fun (p : World × Nat) v => (p.1.setCell ⟨b, p.2, none⟩ v, p.2 + 1)) (V, k)).1.cell? ⟨b, j, none⟩ = V.cell? ⟨b, j, none⟩) ∧
      (∀ j v, vs[j]? = some v → (vs.foldl (fun (p : World × Nat) v => (p.1.setCell ⟨b, p.2, none⟩ v, p.2 + 1)) (V, k)).1.cell? ⟨b, k + j, none⟩ = some v) ∧
      Below b V (vs.foldl (fun (p : World × Nat) v => (p.1.setCell ⟨b, p.2, none⟩ v, p.2 + 1)) (V, k)).1 := by
    intro vs
    induction vs with
    | nil => intro V k n _ _; exact ⟨fun _ _ => rfl, fun j v h => by simp at h, Below.refl _ _⟩
    | cons x r ih =>
      intro V k n hk hV
      have hk2 := set_at V b k x (hV k (by simp at hk; omega))
      obtain ⟨i1, i2, i3⟩ := ih (V.setCell ⟨b, k, none⟩ x) (k + 1) n (by simp at hk; omega) (fun j hj => by
        by_cases hjk : j = k
        · subst hjk; exact ⟨x, hk2⟩
        · rw [set_ne V b k j x hjk]; exact hV j hj)
      refine ⟨fun j hj => (i1 j (by omega)).trans (set_ne V b k j x (by omega)), fun j v hv => ?_, ((Below.refl b V).setCell (Nat.le_refl _) _).trans i3⟩
      cases j with
      | zero =>
        simp at hv
        subst hv
        exact (i1 k (by omega)).trans hk2
      | succ j =>
        have := i2 j v (by simpa using hv)
        rw [show k + (j + 1) = k + 1 + j by omega]
        exact this
  obtain ⟨_, h2, h3⟩ := key vs W 0 vs.length (by omega) h
  exact ⟨fun j v hv => by have := h2 j v hv; rw [Nat.zero_add] at this; exact this, h3⟩
theorem set8 (W : World) (b : Nat) (x0 x1 x2 x3 x4 x5 x6 x7 : Value) (h : ∀ j, j < 8 → ∃ u, W.cell? ⟨b, j, none⟩ = some u) :
    ∃ W', (((((((W.setCell ⟨b, 0, none⟩ x0).setCell ⟨b, 1, none⟩ x1).setCell ⟨b, 2, none⟩ x2).setCell ⟨b, 3, none⟩ x3).setCell ⟨b, 4, none⟩ x4).setCell ⟨b, 5, none⟩ x5).setCell ⟨b, 6, none⟩ x6).setCell ⟨b, 7, none⟩ x7 = W' ∧
      (∀ (j : Nat) (v : Value), ([x0, x1, x2, x3, x4, x5, x6, x7] : List Value)[j]? = some v → W'.cell? ⟨b, j, none⟩ = some v) ∧ Below b W W' := by
  obtain ⟨h1, h2⟩ := setAll_is W b [x0, x1, x2, x3, x4, x5, x6, x7] h
  exact ⟨_, rfl, h1, h2⟩
/-- a box known whole -/
theorem box_is (W : World) (b : Nat) (cs : Array Value) (T : TypeId) (h : W.heap[b]? = some (.cells cs T (0, 0))) : (∀ j, W.frozen? ⟨b, j, none⟩ = false) ∧ ∀ (j : Nat) (v : Value), cs[j]? = some v → W.cell? ⟨b, j, none⟩ = some v := by
  refine ⟨fun j => by simp [World.frozen?, h], fun j v hv => ?_⟩
  rw [World.cell?, h]
  simpa using hv
theorem box_lt {W : World} {b : Nat} {o : Obj} (h : W.heap[b]? = some o) : b < W.heap.size := (Array.getElem?_eq_some_iff.1 h).1
theorem box_more {W W' : World} {b : Nat} {o : Obj} (h : W.heap[b]? = some o) (hb : Below W.heap.size W W') : W'.heap[b]? = some o := (hb.block b (box_lt h)).trans h
theorem box_new (W : World) (o : Obj) : (W.alloc o).heap[W.heap.size]? = some o := by
  show (W.heap.push o)[W.heap.size]? = some o
  exact Array.getElem?_push_size
end Go.Proofs.Ytokbkhopadaeoaa.Boxes
