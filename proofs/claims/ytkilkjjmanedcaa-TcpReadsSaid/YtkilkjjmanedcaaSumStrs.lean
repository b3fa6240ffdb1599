/-
  Slices of strings that a region has just built: what the variadic calls of package sum ask for. (As in SumAlive, over SumWords alone.)
-/
import Derived.Test.YtkilkjjmanedcaaSumWords
namespace Go.Proofs.Ytkilkjjmanedcaa.SumStrs
open Go.RowKit Go.Shelf SumWords
set_option linter.unusedVariables false

theorem strs0 (W : World) (B : Nat) (A : Option Addr) : StrR W B A 0 [] := ⟨rfl, fun h => absurd h (by omega)⟩
theorem strs1 (W : World) (s : ByteArray) (T : TypeId) : StrR (W.alloc (.cells #[.string s] T)) (W.alloc (.cells #[.string s] T)).heap.size (some ⟨W.heap.size, 0, none⟩) 1 [s] := by
  refine ⟨rfl, fun _ => ⟨W.heap.size, 0, rfl, by simp, fun j hj => ?_⟩⟩
  match j, hj with
  | 0, _ => simp
theorem strs1e (W : World) (s : ByteArray) (T : TypeId) (B : Nat) (hB : W.heap.size = B) : StrR (W.alloc (.cells #[.string s] T)) (W.alloc (.cells #[.string s] T)).heap.size (some ⟨B, 0, none⟩) 1 [s] := by
  subst hB
  exact strs1 W s T
theorem strs2 (W : World) (s t : ByteArray) (T : TypeId) : StrR (W.alloc (.cells #[.string s, .string t] T)) (W.alloc (.cells #[.string s, .string t] T)).heap.size (some ⟨W.heap.size, 0, none⟩) 2 [s, t] := by
  refine ⟨rfl, fun _ => ⟨W.heap.size, 0, rfl, by simp, fun j hj => ?_⟩⟩
  match j, hj with
  | 0, _ => simp
  | 1, _ => simp
theorem strs3 (W : World) (s t u : ByteArray) (T : TypeId) : StrR (W.alloc (.cells #[.string s, .string t, .string u] T)) (W.alloc (.cells #[.string s, .string t, .string u] T)).heap.size (some ⟨W.heap.size, 0, none⟩) 3 [s, t, u] := by
  refine ⟨rfl, fun _ => ⟨W.heap.size, 0, rfl, by simp, fun j hj => ?_⟩⟩
  match j, hj with
  | 0, _ => simp
  | 1, _ => simp
  | 2, _ => simp
theorem strs_more {W W' : World} {A : Option Addr} {n : Nat} {L : List ByteArray} (h : StrR W W.heap.size A n L) (hb : Below W.heap.size W W') : StrR W' W'.heap.size A n L := (h.below hb).mono hb.size
theorem strs_alloc {W : World} {A : Option Addr} {n : Nat} {L : List ByteArray} (h : StrR W W.heap.size A n L) (o : Obj) : StrR (W.alloc o) (W.alloc o).heap.size A n L := strs_more h ((Below.refl _ W).alloc (Nat.le_refl _) o)
theorem strs_drew {W : World} {A : Option Addr} {n : Nat} {L : List ByteArray} (h : StrR W W.heap.size A n L) : StrR W.drew W.drew.heap.size A n L := h
end Go.Proofs.Ytkilkjjmanedcaa.SumStrs
