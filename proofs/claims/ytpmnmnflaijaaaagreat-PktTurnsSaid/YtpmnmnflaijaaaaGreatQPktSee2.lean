/-
  Laws for a proof of package pkt: 2 texts in one.
-/
import Derived.Test.YtpmnmnflaijaaaaGreatQPkt163
import Derived.Test.YtpmnmnflaijaaaaGreatQOptTurn10
import Derived.Test.YtpmnmnflaijaaaaGreatQOwn1
import Derived.Test.YtpmnmnflaijaaaaGreatQRelG2
import Derived.Deep.MidRow
namespace Go.Proofs.YtpmnmnflaijaaaaGreat.PktBox
open Go.RowKit Boxes Cells OptMath OptSame PktMath PktVal PktOp
set_option linter.unusedVariables false
set_option maxRecDepth 100000
theorem rangeAt {W : World} {b : Nat} {cs : Array Value} (h : CellsAt W b cs) (o : Nat) (sub : List Value) (hs : ∀ j v, sub[j]? = some v → cs[o + j]? = some v) : W.rangeAt b o sub := fun j v hv => h.cell (o + j) v (hs j v hv)
theorem there {W : World} {b : Nat} {cs : Array Value} (h : CellsAt W b cs) (o n : Nat) (hn : o + n ≤ cs.size) : W.there b o n := fun j hj => by
 obtain ⟨u, hu⟩ := h.some_ (o + j) (by omega)
 exact ⟨by rw [hu]; rfl, h.free (o + j) (by omega)⟩
theorem setCells_apart : ∀ (vs : List Value) (W0 W : World) (b o : Nat), Apart b W0 W → Below b W0 W → Apart b W0 (W.setCells b o vs) ∧ Below b W0 (W.setCells b o vs)
 | [], _, _, _, _, h, h2 => ⟨h, h2⟩
 | v :: r, W0, W, b, o, h, h2 => setCells_apart r W0 (W.setCell ⟨b, o, none⟩ v) b (o + 1) (h.put o v) (h2.setCell (p := ⟨b, o, none⟩) (Nat.le_refl _) _)
theorem box_written {W : World} {b : Nat} {cs : Array Value} (h : CellsAt W b cs) (vs : List Value) (hs : cs.size = vs.length) :
   CellsAt (W.setCells b 0 vs) b vs.toArray ∧ Apart b W (W.setCells b 0 vs) ∧ Below b W (W.setCells b 0 vs) := by
 have ht := there h 0 vs.length (by omega)
 obtain ⟨a1, a2⟩ := setCells_apart vs W W b 0 (Apart.refl _ _) (Below.refl _ _)
 refine ⟨⟨Nat.lt_of_lt_of_le h.1 a1.1, fun j v hv => ⟨?_, ?_⟩⟩, a1, a2⟩
 · have := World.rangeAt_setCells_same W b 0 vs ht j v (by simpa using hv)
   rw [Nat.zero_add] at this
   exact this
 · rw [World.frozen?_setCells]
   have hj : j < vs.length := by simpa using (Array.getElem?_eq_some_iff.1 hv).1
   exact h.free j (by omega)
theorem step_load {ops : Array Oper} {rest : List Oper} {op : Oper} {a : Act} {w : World} {Q : Exit → Act → World → Prop} (hw : Region.wanted op (yielded ops a.tmps) = true) (ty : TypeId) (x : Operand) (ho : op.op = .load ty x)
   (b o : Nat) (hx : a.eval x = .pointer (some ⟨b, o, none⟩)) (cs : List Value) (d : TypeDesc) (hc : w.rangeAt b o cs)
   (hu : Tryz.prog.underlying ty = some d) (hd : d.isRow = true) (hi : (Tryz.prog.info? ty).map (·.size) = some cs.length)
   (h : wpList Tryz.prog ops Q rest (a.put op.dst (.agg cs.toArray)) w) : wpList Tryz.prog ops Q (op :: rest) a w :=
 wpList_step fun K hK => by simp only [hw, if_true]; exact wp_load_mid ty x ho b o hx cs d hc hu hd hi (hK _ _ h)
theorem step_seg {ops : Array Oper} {rest : List Oper} {op : Oper} {a : Act} {w : World} {Q : Exit → Act → World → Prop} (hw : Region.wanted op (yielded ops a.tmps) = true) (x : Operand) (ho : op.op = .load 30 x)
   (b : Nat) (hx : a.eval x = .pointer (some ⟨b, 0, none⟩)) (s : Sg) (A : Option Addr) (c : Nat) (hc : CellsAt w b (sc s A c)) (h : wpList Tryz.prog ops Q rest (a.put op.dst (sv s A c)) w) : wpList Tryz.prog ops Q (op :: rest) a w :=
 step_load hw _ x ho b 0 hx (sc s A c).toList _ (rangeAt hc 0 _ (fun j v hv => by rw [Nat.zero_add]; simpa using hv)) Tryz.underlying30 rfl (by kernel_rfl) h
theorem step_shift {ops : Array Oper} {rest : List Oper} {op : Oper} {a : Act} {w : World} {Q : Exit → Act → World → Prop} (hw : Region.wanted op (yielded ops a.tmps) = true) (x : Operand) (ho : op.op = .load 32 x)
   (b : Nat) (hx : a.eval x = .pointer (some ⟨b, 0, none⟩)) (s : Sh) (hc : CellsAt w b (xc s)) (h : wpList Tryz.prog ops Q rest (a.put op.dst (xv s)) w) : wpList Tryz.prog ops Q (op :: rest) a w :=
 step_load hw _ x ho b 0 hx (xc s).toList _ (rangeAt hc 0 _ (fun j v hv => by rw [Nat.zero_add]; simpa using hv)) Tryz.underlying32 rfl (by kernel_rfl) h
end Go.Proofs.YtpmnmnflaijaaaaGreat.PktBox
namespace Go.Proofs.YtpmnmnflaijaaaaGreat.PktSee
open Go.RowKit Boxes Cells Rel OptMath OptSame PktMath PktVal PktOp PktBox
set_option linter.unusedVariables false
set_option maxRecDepth 100000
theorem see_load {o : Oper} {ρ : Operand → Value} {W : World} {T : Value → World → Prop} (ty : TypeId) (x : Operand) (ho : o.op = .load ty x) (b off : Nat) (hx : ρ x = .pointer (some ⟨b, off, none⟩)) (cs : List Value) (d : TypeDesc) (hc : W.rangeAt b off cs)
   (hu : Tryz.prog.underlying ty = some d) (hd : d.isRow = true) (hi : (Tryz.prog.info? ty).map (·.size) = some cs.length) (h : T (.agg cs.toArray) W) : relUpon Tryz.prog T W ((execOp ρ o).run Tryz.prog W) := by
 unfold execOp
 simp only [ho, hx, Instr.loadAt, Instr.sureAddr, Sem.run_bind, Sem.run_pure, Result.andThen_ok, run_loadVar_mid W b off ty cs d hc hu hd hi]
 exact ⟨h, Below.refl _ _⟩
theorem see_seg {o : Oper} {ρ : Operand → Value} {W : World} {T : Value → World → Prop} (x : Operand) (ho : o.op = .load 30 x) (b : Nat) (hx : ρ x = .pointer (some ⟨b, 0, none⟩)) (s : Sg) (A : Option Addr) (c : Nat) (hc : CellsAt W b (sc s A c)) (h : T (sv s A c) W) : relUpon Tryz.prog T W ((execOp ρ o).run Tryz.prog W) :=
 see_load _ x ho b 0 hx (sc s A c).toList _ (rangeAt hc 0 _ (fun j v hv => by rw [Nat.zero_add]; simpa using hv)) Tryz.underlying30 rfl (by kernel_rfl) h
theorem see_shift {o : Oper} {ρ : Operand → Value} {W : World} {T : Value → World → Prop} (x : Operand) (ho : o.op = .load 32 x) (b : Nat) (hx : ρ x = .pointer (some ⟨b, 0, none⟩)) (s : Sh) (hc : CellsAt W b (xc s)) (h : T (xv s) W) : relUpon Tryz.prog T W ((execOp ρ o).run Tryz.prog W) :=
 see_load _ x ho b 0 hx (xc s).toList _ (rangeAt hc 0 _ (fun j v hv => by rw [Nat.zero_add]; simpa using hv)) Tryz.underlying32 rfl (by kernel_rfl) h
end Go.Proofs.YtpmnmnflaijaaaaGreat.PktSee
