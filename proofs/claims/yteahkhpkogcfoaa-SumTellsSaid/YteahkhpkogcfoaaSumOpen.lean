/-
  How an argument that is a list of strings is opened.
-/
import Derived.Test.YteahkhpkogcfoaaChecked
import Derived.ProofKit
import Derived.OpenShut
import Derived.SliceStrings
import Derived.Test.YteahkhpkogcfoaaSumWords
namespace Go.Proofs.Yteahkhpkogcfoaa.SumOpen
open Go.RowKit Go.ChangeShapes Go.WideShapes SumWords

theorem open_strs {H : Type} {enc : TypeId × Value → H} {w : World} {base : Nat} {spare : Nat → Bool} {held : Bool} {fuel : Nat} {A : Option Addr} {n c : Nat} {x : DataW H × List MemPlace}
    (h : DataW.trod enc Try.prog w base spare held fuel 22 [.slice A n c] = some x) : ∃ L, StrR w w.heap.size A n L ∧ n ≤ maxLen ∧ ∀ s ∈ L, s.size ≤ maxLen := by
  rcases open_strings Try.underlying22 Try.underlying9 (by kernel_rfl) h with ⟨hcs, _⟩ | ⟨a, len, cap, ss, hcs, _, hl, hm, hz, _, hi, hsz⟩
  · injection hcs with hcs
    injection hcs with e1 e2 e3
    subst e1 e2 e3
    exact ⟨[], ⟨rfl, fun h => absurd h (by omega)⟩, by unfold maxLen; omega, by simp⟩
  · injection hcs with hcs
    injection hcs with e1 e2 e3
    subst e1 e2 e3
    have hlm : n ≤ ss.length := by rw [hz]; split <;> omega
    refine ⟨ss.take n, ⟨by simp; omega, fun hn => ?_⟩, Nat.le_trans hl hm, fun s hs => hsz s (List.mem_of_mem_take hs)⟩
    obtain ⟨b, off, spot⟩ := a
    have h0 := hi 0 (by omega)
    have hspot : spot = none := by simpa [Addr.add] using World.cell?_spot h0
    subst hspot
    refine ⟨b, off, rfl, ?_, fun j hj => ?_⟩
    · rcases Nat.lt_or_ge b w.heap.size with hlt | hge
      · exact hlt
      · have h1 := h0
        simp [Addr.add, World.cell?, Array.getElem?_eq_none hge] at h1
    · have hj' : j < ss.length := by simp at hj; omega
      have h1 := hi j hj'
      rw [Go.WideShapes.add_plain] at h1
      rw [h1, List.getElem_take]
      simp [List.getD, hj']
end Go.Proofs.Yteahkhpkogcfoaa.SumOpen
