/-
  How an argument that is a list of bools is opened.
-/
import Derived.Test.YtpglooaebndbiaaChecked
import Derived.WalkKit
import Derived.ProofKit
import Derived.Deep.Slices
import Derived.OpenShut
namespace Go.Proofs.Ytpglooaebndbiaa.BoolOpen
open Go.RowKit Go.ChangeShapes Go.WideShapes Go.Deep

/-- A slice of n bools at A reads as N, below block B. -/
def BlR (w : World) (B : Nat) (A : Option Addr) (n : Nat) (N : List Bool) : Prop :=
  n = N.length ∧ (0 < n → ∃ b off, A = some ⟨b, off, none⟩ ∧ b < B ∧ ∀ (j : Nat) (h : j < N.length), w.cell? ⟨b, off + j, none⟩ = some (.bool N[j]))
theorem BlR.len {w B A n N} (h : BlR w B A n N) : n = N.length := h.1
theorem BlR.at_ {w B A n N} (h : BlR w B A n N) {k : Nat} (hk : k < n) : ∃ b off, A = some ⟨b, off, none⟩ ∧ b < B ∧ ∀ (j : Nat) (h : j < N.length), w.cell? ⟨b, off + j, none⟩ = some (.bool N[j]) := h.2 (by omega)
theorem BlR.keep {w w' B A n N} (h : BlR w B A n N) (hk : ∀ b o, b < B → w'.cell? ⟨b, o, none⟩ = w.cell? ⟨b, o, none⟩) : BlR w' B A n N :=
  ⟨h.1, fun hn => by
    obtain ⟨b, off, e, hb, hc⟩ := h.2 hn
    exact ⟨b, off, e, hb, fun j hj => by rw [hk _ _ hb]; exact hc j hj⟩⟩
theorem BlR.below {w w' B A n N} (h : BlR w B A n N) (hb : Below B w w') : BlR w' B A n N := h.keep fun b o hp => hb.cell (p := ⟨b, o, none⟩) hp
theorem BlR.mono {w B B' A n N} (h : BlR w B A n N) (hB : B ≤ B') : BlR w B' A n N :=
  ⟨h.1, fun hn => by
    obtain ⟨b, off, e, hb, hc⟩ := h.2 hn
    exact ⟨b, off, e, by omega, hc⟩⟩

theorem open_bools {H : Type} {enc : TypeId × Value → H} {w : World} {base : Nat} {spare : Nat → Bool} {held : Bool} {fuel : Nat} {A : Option Addr} {n c : Nat} {x : DataW H × List MemPlace}
    (h : DataW.trod enc Try.prog w base spare held fuel 48 [.slice A n c] = some x) : ∃ L, BlR w w.heap.size A n L ∧ n ≤ maxLen := by
  rcases open_slice1 Try.underlying48 (by kernel_rfl) h with ⟨hcs, _⟩ | ⟨a, len, cap, m, k, V, D, Pl, hcs, _, hl, hm, hmm, _, hi⟩
  · injection hcs with hcs
    injection hcs with e1 e2 e3
    subst e1 e2 e3
    exact ⟨[], ⟨rfl, fun h => absurd h (by omega)⟩, by unfold maxLen; omega⟩
  · injection hcs with hcs
    injection hcs with e1 e2 e3
    subst e1 e2 e3
    have hlm : n ≤ m := by rw [hmm]; split <;> omega
    have key : ∀ i, i < n → ∃ s : Bool, w.cell? (a.add i) = some (.bool s) := by
      intro i hin
      obtain ⟨c0, t0⟩ := hi i (by omega)
      obtain ⟨p, e0, _⟩ := DataW.trod_bool Try.underlying4 t0
      injection e0 with e0
      exact ⟨p, by rw [c0, e0]⟩
    obtain ⟨f, hf⟩ := choose_lt (n := n) (p := fun i (s : Bool) => w.cell? (a.add i) = some (.bool s)) key
    refine ⟨(List.range n).map f, ⟨by simp, fun hn => ?_⟩, Nat.le_trans hl hm⟩
    obtain ⟨b, off, spot⟩ := a
    have h0 := hf 0 hn
    have hspot : spot = none := by simpa [Addr.add] using World.cell?_spot h0
    subst hspot
    refine ⟨b, off, rfl, ?_, fun j hj => ?_⟩
    · rcases Nat.lt_or_ge b w.heap.size with hlt | hge
      · exact hlt
      · have h1 := h0
        simp [Addr.add, World.cell?, Array.getElem?_eq_none hge] at h1
    · simp only [List.length_map, List.length_range] at hj
      have h1 := hf j hj
      rw [Go.WideShapes.add_plain] at h1
      simp only [List.getElem_map, List.getElem_range]
      exact h1
end Go.Proofs.Ytpglooaebndbiaa.BoolOpen
