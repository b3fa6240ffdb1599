/-
  Boxes whose cells are known, and may be written (of no package).
-/
import Derived.Test.YtokbkhopadaeoaaBoxes
namespace Go.Proofs.Ytokbkhopadaeoaa.Cells
open Go.RowKit Boxes
set_option linter.unusedVariables false

/-- a frame written out, with a value put in a slot -/
theorem put_lit (l : List Value) (ds : List Deferred) (d : Nat) (v : Value) : Act.put ⟨l.toArray, ds⟩ (some d) v = ⟨(l.set d v).toArray, ds⟩ := by simp [Act.put]
/-- a struct's box: its cells are known, none is frozen -/
def CellsAt (w : World) (b : Nat) (cs : Array Value) : Prop := b < w.heap.size ∧ ∀ (j : Nat) (v : Value), cs[j]? = some v → w.cell? ⟨b, j, none⟩ = some v ∧ w.frozen? ⟨b, j, none⟩ = false
theorem CellsAt.lt {w : World} {b : Nat} {cs : Array Value} (h : CellsAt w b cs) : b < w.heap.size := h.1
theorem CellsAt.cell {w : World} {b : Nat} {cs : Array Value} (h : CellsAt w b cs) (j : Nat) (v : Value) (hv : cs[j]? = some v) : w.cell? ⟨b, j, none⟩ = some v := (h.2 j v hv).1
theorem CellsAt.free {w : World} {b : Nat} {cs : Array Value} (h : CellsAt w b cs) (j : Nat) (hj : j < cs.size) : w.frozen? ⟨b, j, none⟩ = false := (h.2 j _ (Array.getElem?_eq_getElem hj)).2
theorem CellsAt.some_ {w : World} {b : Nat} {cs : Array Value} (h : CellsAt w b cs) (j : Nat) (hj : j < cs.size) : ∃ u, w.cell? ⟨b, j, none⟩ = some u := ⟨_, (h.2 j _ (Array.getElem?_eq_getElem hj)).1⟩
theorem CellsAt.of_block {w : World} {b : Nat} {cs : Array Value} {T : TypeId} (h : w.heap[b]? = some (.cells cs T (0, 0))) : CellsAt w b cs := by
  obtain ⟨h1, h2⟩ := box_is w b cs T h
  exact ⟨box_lt h, fun j v hv => ⟨h2 j v hv, h1 j⟩⟩
theorem CellsAt.new (w : World) (cs : Array Value) (T : TypeId) : CellsAt (w.alloc (.cells cs T)) w.heap.size cs := CellsAt.of_block (T := T) (box_new w _)
theorem CellsAt.more {w w' : World} {b : Nat} {cs : Array Value} (h : CellsAt w b cs) {n : Nat} (hn : b < n) (hb : Below n w w') : CellsAt w' b cs :=
  ⟨Nat.lt_of_lt_of_le h.1 hb.size, fun j v hv => ⟨(hb.cell (p := ⟨b, j, none⟩) hn).trans (h.2 j v hv).1, (hb.frozen (p := ⟨b, j, none⟩) hn).trans (h.2 j v hv).2⟩⟩
theorem CellsAt.later {w w' : World} {b : Nat} {cs : Array Value} (h : CellsAt w b cs) (hb : Below w.heap.size w w') : CellsAt w' b cs := h.more h.1 hb
theorem CellsAt.put {w : World} {b : Nat} {cs : Array Value} (h : CellsAt w b cs) (i : Nat) (v : Value) (hi : i < cs.size) : CellsAt (w.setCell ⟨b, i, none⟩ v) b (cs.setIfInBounds i v) := by
  refine ⟨by simpa using h.1, fun j u hu => ?_⟩
  by_cases e : i = j
  · subst e
    rw [Array.getElem?_setIfInBounds_self_of_lt hi] at hu
    obtain rfl := Option.some.inj hu
    exact ⟨set_at w b i v (h.some_ i hi), by simpa using h.free i hi⟩
  · rw [Array.getElem?_setIfInBounds_ne e] at hu
    exact ⟨(set_ne w b i j v (fun q => e q.symm)).trans (h.2 j u hu).1, by simpa using (h.2 j u hu).2⟩
theorem CellsAt.other {w : World} {b : Nat} {cs : Array Value} (h : CellsAt w b cs) (g i : Nat) (v : Value) (hne : g ≠ b) : CellsAt (w.setCell ⟨g, i, none⟩ v) b cs :=
  ⟨by simpa using h.1, fun j u hu => ⟨(World.cell?_setCell_other _ _ _ _ (fun q => by injection q with q _; exact hne q)).trans (h.2 j u hu).1, by simpa using (h.2 j u hu).2⟩⟩
theorem set7 (W : World) (b : Nat) (x0 x1 x2 x3 x4 x5 x6 : Value) (h : ∀ j, j < 7 → ∃ u, W.cell? ⟨b, j, none⟩ = some u) :
    ∃ W', ((((((W.setCell ⟨b, 0, none⟩ x0).setCell ⟨b, 1, none⟩ x1).setCell ⟨b, 2, none⟩ x2).setCell ⟨b, 3, none⟩ x3).setCell ⟨b, 4, none⟩ x4).setCell ⟨b, 5, none⟩ x5).setCell ⟨b, 6, none⟩ x6 = W' ∧
      (∀ (j : Nat) (v : Value), ([x0, x1, x2, x3, x4, x5, x6] : List Value)[j]? = some v → W'.cell? ⟨b, j, none⟩ = some v) ∧ Below b W W' := by
  obtain ⟨h1, h2⟩ := setAll_is W b [x0, x1, x2, x3, x4, x5, x6] h
  exact ⟨_, rfl, h1, h2⟩
/-- all blocks but one stand as they did -/
def Apart (g : Nat) (w w' : World) : Prop := w.heap.size ≤ w'.heap.size ∧ ∀ p : Addr, p.block ≠ g → w'.cell? p = w.cell? p ∧ w'.frozen? p = w.frozen? p
theorem Apart.refl (g : Nat) (w : World) : Apart g w w := ⟨Nat.le_refl _, fun _ _ => ⟨rfl, rfl⟩⟩
theorem Apart.put {g : Nat} {w w' : World} (h : Apart g w w') (i : Nat) (v : Value) : Apart g w (w'.setCell ⟨g, i, none⟩ v) := by
  refine ⟨by simpa using h.1, fun p hp => ⟨?_, ?_⟩⟩
  · exact (World.cell?_setCell_other _ _ _ _ (fun q => hp (by rw [← q]))).trans (h.2 p hp).1
  · simpa using (h.2 p hp).2
theorem CellsAt.apart {w w' : World} {b g : Nat} {cs : Array Value} (h : CellsAt w b cs) (hne : b ≠ g) (ha : Apart g w w') : CellsAt w' b cs :=
  ⟨Nat.lt_of_lt_of_le h.1 ha.1, fun j v hv => ⟨(ha.2 ⟨b, j, none⟩ hne).1.trans (h.2 j v hv).1, (ha.2 ⟨b, j, none⟩ hne).2.trans (h.2 j v hv).2⟩⟩
/-- a box of seven cells, written anew -/
theorem CellsAt.anew {W : World} {b : Nat} {cs : Array Value} (h : CellsAt W b cs) (hs : cs.size = 7) (x0 x1 x2 x3 x4 x5 x6 : Value) :
    ∃ W', ((((((W.setCell ⟨b, 0, none⟩ x0).setCell ⟨b, 1, none⟩ x1).setCell ⟨b, 2, none⟩ x2).setCell ⟨b, 3, none⟩ x3).setCell ⟨b, 4, none⟩ x4).setCell ⟨b, 5, none⟩ x5).setCell ⟨b, 6, none⟩ x6 = W' ∧
      CellsAt W' b #[x0, x1, x2, x3, x4, x5, x6] ∧ Apart b W W' ∧ Below b W W' := by
  obtain ⟨W', hW, h1, h2⟩ := set7 W b x0 x1 x2 x3 x4 x5 x6 (fun j hj => h.some_ j (by omega))
  have ha : Apart b W W' := by rw [← hW]; exact ((((((((Apart.refl b W).put 0 x0).put 1 x1).put 2 x2).put 3 x3).put 4 x4).put 5 x5).put 6 x6)
  refine ⟨W', hW, ⟨Nat.lt_of_lt_of_le h.1 ha.1, fun j v hv => ⟨h1 j v (by simpa using hv), ?_⟩⟩, ha, h2⟩
  have hj : j < 7 := by have := (Array.getElem?_eq_some_iff.1 hv).1; simpa using this
  have hf := h.free j (by omega)
  rw [← hW]
  simpa using hf
end Go.Proofs.Ytokbkhopadaeoaa.Cells
