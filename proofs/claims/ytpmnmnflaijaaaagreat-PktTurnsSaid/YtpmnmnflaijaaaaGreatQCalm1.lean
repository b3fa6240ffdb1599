/-
  Laws for a proof of package pkt: 1 texts in one.
-/
import Derived.WalkKit
import Derived.Deep.QuietTactic
import Derived.BigQuiet
import Derived.Below
import Derived.Lib.Hide
namespace Go.Proofs.YtpmnmnflaijaaaaGreat.Calm
open Go.RowKit
structure Later (n : Nat) (w0 : World) where
 w : World
 h : Below n w0 w
instance (n : Nat) (w0 : World) : Nonempty (Later n w0) := ⟨⟨w0, Below.refl _ _⟩⟩
theorem wp_region_later {P : Program} {n : Nat} {id : Nat} {Q : Exit → Act → World → Prop} {a : Act} {w : World} {l : List Oper} (w0 : World) (hw : Below n w0 w) (hm : P.follows .mixedOrders = true) (hB : Region.lexB .any l.toArray = true)
   (h : wpQuiet P l.toArray (fun w' => ∃ i : Later n w0, w' = i.w) (fun a' => ∀ w', (∃ i : Later n w0, w' = i.w) → Q .normal a' w') l a) : (Code.region id l.toArray true).wp P Q a w :=
 wp_region_quiet (C := fun w' => ∃ i : Later n w0, w' = i.w) hm hB ⟨⟨_, hw.drew⟩, rfl⟩ (by simpa using h)
theorem later_calls {P : Program} {f : FuncId} {args : Array Value} {n : Nat} {w0 : World} {v : Value} (hn : n ≤ w0.heap.size) (i : Later n w0)
   (h : Calls P f args i.w fun e w' => e = .returned v ∧ Below i.w.heap.size i.w w') : Calls P f args i.w fun e w'' => e = .returned v ∧ ∃ j : Later n w0, w'' = j.w :=
 h.mono fun _ w' ⟨he, hb⟩ => ⟨he, ⟨w', i.h.trans (hb.mono (Nat.le_trans hn i.h.size))⟩, rfl⟩
end Go.Proofs.YtpmnmnflaijaaaaGreat.Calm
