/-
  What a value's cells are, said once ahead of the great walks (so that Lean makes the equations of that match here, and not in the midst of one).
-/
import Derived.WalkKit
namespace Go.Proofs.Yteahkhpkogcfoaa.SumCells
theorem pre_cells (v : Value) (s : ByteArray) (h : v = .string s) : v.cells = #[v] := by
  unfold Value.cells
  split <;> simp_all
end Go.Proofs.Yteahkhpkogcfoaa.SumCells
