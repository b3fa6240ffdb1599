/-
  Laws for a proof of package pkt: 1 texts in one.
-/
import Derived.Test.YtpmnmnflaijaaaaQPkt163
import Derived.Test.YtpmnmnflaijaaaaQPktOp7
import Derived.Test.YtpmnmnflaijaaaaQOwn1
import Derived.Deep.MidRow
namespace Go.Proofs.Ytpmnmnflaijaaaa.PktBox
open Go.RowKit Boxes Cells OptMath OptSame PktMath PktVal PktOp
set_option linter.unusedVariables false
set_option maxRecDepth 100000

theorem rangeAt {W : World} {b : Nat} {cs : Array Value} (h : CellsAt W b cs) (o : Nat) (sub : List Value) (hs : ∀ j v, sub[j]? = some v → cs[o + j]? = some v) : W.rangeAt b o sub := fun j v hv => h.cell (o + j) v (hs j v hv)
theorem there {W : World} {b : Nat} {cs : Array Value} (h : CellsAt W b cs) (o n : Nat) (hn : o + n ≤ cs.size) : W.there b o n := fun j hj => by
  obtain ⟨u, hu⟩ := h.some_ (o + j) (by omega)
  exact ⟨by rw [hu]; rfl, h.free (o + j) (by omega)⟩
theorem setCells_apart : ∀ (vs : List Value) (W0 W : World) (b o : Nat), Apart b W0 W → Below b W0 W → Apart b W0 (W.setCells b o vs) ∧ Below b W0 (W.setCells b o vs)
  | [], _, _, _, _, h, h2 => ⟨h, h2⟩
  | v :: r, W0, W, b, o, h, h2 => setCells_apart r W0 (W.setCell ⟨b, o, none⟩ v) b (o + 1) (h.put o v) (h2.setCell (p := ⟨b, o, none⟩) (Nat.le_refl _) _)
/-- a box written whole -/
theorem box_written {W : World} {b : Nat} {cs : Array Value} (h : CellsAt W b cs) (vs : List Value) (hs : cs.size = vs.length) :
    CellsAt (W.setCells b 0 vs) b vs.toArray ∧ Apart b W (W.setCells b 0 vs) ∧ Below b W (W.setCells b 0 vs) := by
  have ht := there h 0 vs.length (by omega)
  obtain ⟨a1, a2⟩ := setCells_apart vs W W b 0 (Apart.refl _ _) (Below.refl _ _)
  refine ⟨⟨Nat.lt_of_lt_of_le h.1 a1.1, fun j v hv => ⟨?_, ?_⟩⟩, a1, a2⟩
  · have := World.rangeAt_setCells_same W b 0 vs ht j v (by simpa using hv)
    rw [Nat.zero_add] at this
    exact this
  · rw [World.frozen?_setCells]
    have hj : j < vs.length := by simpa using (Array.getElem?_eq_some_iff.1 hv).1
    exact h.free j (by omega)
theorem loadSeg {W : World} {b : Nat} {s : Sg} {A : Option Addr} {c : Nat} (h : CellsAt W b (sc s A c)) : (Instr.loadAt 30 (.pointer (some ⟨b, 0, none⟩))).run Try.prog W = .ok (sv s A c) W :=
  run_loadAt_mid (P := Try.prog) W b 0 30 (sc s A c).toList _ (rangeAt h 0 _ (fun j v hv => by rw [Nat.zero_add]; simpa using hv)) Try.underlying30 rfl (by kernel_rfl)
theorem loadOpts {W : World} {b : Nat} {s : Sg} {A : Option Addr} {c : Nat} (h : CellsAt W b (sc s A c)) : (Instr.loadAt 28 (.pointer (some ⟨b, 8, none⟩))).run Try.prog W = .ok (ov s.opts A c) W :=
  run_loadAt_mid (P := Try.prog) W b 8 28 (oc s.opts A c).toList _ (rangeAt h 8 _ (fun j v hv => by
    match j, hv with
    | 0, hv => exact hv
    | 1, hv => exact hv
    | 2, hv => exact hv
    | 3, hv => exact hv
    | 4, hv => exact hv
    | 5, hv => exact hv
    | 6, hv => exact hv
    | j + 7, hv => simp at hv)) Try.underlying28 rfl (by kernel_rfl)
theorem loadShift {W : World} {b : Nat} {x : Sh} (h : CellsAt W b (xc x)) : (Instr.loadAt 46 (.pointer (some ⟨b, 0, none⟩))).run Try.prog W = .ok (xv x) W :=
  run_loadAt_mid (P := Try.prog) W b 0 46 (xc x).toList _ (rangeAt h 0 _ (fun j v hv => by rw [Nat.zero_add]; simpa using hv)) Try.underlying46 rfl (by kernel_rfl)
theorem storeSeg {W : World} {b : Nat} {cs : Array Value} (h : CellsAt W b cs) (hs : cs.size = 16) (s : Sg) (A : Option Addr) (c : Nat) :
    ∃ W', (Instr.storeAt 30 (.pointer (some ⟨b, 0, none⟩)) (sv s A c)).run Try.prog W = .ok () W' ∧ CellsAt W' b (sc s A c) ∧ Apart b W W' ∧ Below b W W' := by
  obtain ⟨h1, h2, h3⟩ := box_written h (sc s A c).toList (by rw [hs]; rfl)
  exact ⟨_, run_storeAt_mid (P := Try.prog) W b 0 30 (sc s A c) (there h 0 _ (by rw [hs]; exact Nat.le_refl _)) (by kernel_rfl) (by simp [Value.oneCell']), h1, h2, h3⟩
theorem blk_new {W W1 W2 : World} {A : Option Addr} {L : List (Nat × Nat)} (h : BlkR W A L) (hb : Below W.heap.size W W1) (ha : Apart W.heap.size W1 W2) : BlkR W2 A L := fun h0 => by
  obtain ⟨b, off, e, hlt, hc⟩ := h h0
  have hne : b ≠ W.heap.size := Nat.ne_of_lt hlt
  exact ⟨b, off, e, Nat.lt_of_lt_of_le hlt (Nat.le_trans hb.size ha.1), fun j p hp => ⟨(ha.2 ⟨b, off + j * 2, none⟩ hne).1.trans ((hb.cell (p := ⟨b, off + j * 2, none⟩) hlt).trans (hc j p hp).1), (ha.2 ⟨b, off + j * 2 + 1, none⟩ hne).1.trans ((hb.cell (p := ⟨b, off + j * 2 + 1, none⟩) hlt).trans (hc j p hp).2)⟩⟩
/-- a whole box is read, guarded or not -/
theorem step_load {ops : Array Oper} {rest : List Oper} {op : Oper} {a : Act} {w : World} {Q : Exit → Act → World → Prop} (hw : Region.wanted op (yielded ops a.tmps) = true) (ty : TypeId) (x : Operand) (ho : op.op = .load ty x)
    (b o : Nat) (hx : a.eval x = .pointer (some ⟨b, o, none⟩)) (cs : List Value) (d : TypeDesc) (hc : w.rangeAt b o cs)
    (hu : Try.prog.underlying ty = some d) (hd : d.isRow = true) (hi : (Try.prog.info? ty).map (·.size) = some cs.length)
    (h : wpList Try.prog ops Q rest (a.put op.dst (.agg cs.toArray)) w) : wpList Try.prog ops Q (op :: rest) a w :=
  wpList_step fun K hK => by simp only [hw, if_true]; exact wp_load_mid ty x ho b o hx cs d hc hu hd hi (hK _ _ h)
theorem step_seg {ops : Array Oper} {rest : List Oper} {op : Oper} {a : Act} {w : World} {Q : Exit → Act → World → Prop} (hw : Region.wanted op (yielded ops a.tmps) = true) (x : Operand) (ho : op.op = .load 30 x)
    (b : Nat) (hx : a.eval x = .pointer (some ⟨b, 0, none⟩)) (s : Sg) (A : Option Addr) (c : Nat) (hc : CellsAt w b (sc s A c)) (h : wpList Try.prog ops Q rest (a.put op.dst (sv s A c)) w) : wpList Try.prog ops Q (op :: rest) a w :=
  step_load hw _ x ho b 0 hx (sc s A c).toList _ (rangeAt hc 0 _ (fun j v hv => by rw [Nat.zero_add]; simpa using hv)) Try.underlying30 rfl (by kernel_rfl) h
theorem step_shift {ops : Array Oper} {rest : List Oper} {op : Oper} {a : Act} {w : World} {Q : Exit → Act → World → Prop} (hw : Region.wanted op (yielded ops a.tmps) = true) (x : Operand) (ho : op.op = .load 46 x)
    (b : Nat) (hx : a.eval x = .pointer (some ⟨b, 0, none⟩)) (s : Sh) (hc : CellsAt w b (xc s)) (h : wpList Try.prog ops Q rest (a.put op.dst (xv s)) w) : wpList Try.prog ops Q (op :: rest) a w :=
  step_load hw _ x ho b 0 hx (xc s).toList _ (rangeAt hc 0 _ (fun j v hv => by rw [Nat.zero_add]; simpa using hv)) Try.underlying46 rfl (by kernel_rfl) h
/-! a new box, and the store into it -/
theorem stop_seg {ops : Array Oper} {rest : List Oper} {op : Oper} {a : Act} {w : World} {Q : Exit → Act → World → Prop} (x y : Operand) (ho : op.op = .store 30 x y) (h : Go.Proofs.Ytpmnmnflaijaaaa.Own.Stop (wpList Try.prog ops Q (op :: rest) a w)) : wpList Try.prog ops Q (op :: rest) a w := h
theorem stop_shift {ops : Array Oper} {rest : List Oper} {op : Oper} {a : Act} {w : World} {Q : Exit → Act → World → Prop} (x y : Operand) (ho : op.op = .store 46 x y) (h : Go.Proofs.Ytpmnmnflaijaaaa.Own.Stop (wpList Try.prog ops Q (op :: rest) a w)) : wpList Try.prog ops Q (op :: rest) a w := h
theorem store_new {ops : Array Oper} {rest : List Oper} {op : Oper} {a : Act} {Q : Exit → Act → World → Prop} (w : World) (s : Sg) (A : Option Addr) (c : Nat) (hgd : op.guard = none) (x y : Operand) (ho : op.op = .store 30 x y)
    (hx : a.eval x = .pointer (some ⟨w.heap.size, 0, none⟩)) (hy : a.eval y = sv s A c) (h : ∀ V, CellsAt V w.heap.size (sc s A c) → Below w.heap.size w V → wpList Try.prog ops Q rest (a.put op.dst undef) V) :
    wpList Try.prog ops Q (op :: rest) a (w.alloc (.cells #[.int .u32 0, .int .u16 0, .int .u32 0, .int .u16 0, .int .u32 0, .int .u32 0, .int .u8 0, .int .u16 0, .int .u16 0, .int .i64 0, .bool false, .slice none 0 0, .bool false, .int .u32 0, .int .u32 0, .string ⟨#[]⟩] 30)) := by
  have hn := CellsAt.new w #[.int .u32 0, .int .u16 0, .int .u32 0, .int .u16 0, .int .u32 0, .int .u32 0, .int .u8 0, .int .u16 0, .int .u16 0, .int .i64 0, .bool false, .slice none 0 0, .bool false, .int .u32 0, .int .u32 0, .string ⟨#[]⟩] 30
  obtain ⟨h1, h2, h3⟩ := box_written hn (sc s A c).toList rfl
  exact wpList_store_mid hgd 30 x y ho w.heap.size 0 (sc s A c) hx hy (there hn 0 _ (Nat.le_refl _)) (by kernel_rfl) (by simp [Value.oneCell']) (h _ h1 (((Below.refl _ w).alloc (Nat.le_refl _) _).trans h3))
theorem store_newX {ops : Array Oper} {rest : List Oper} {op : Oper} {a : Act} {Q : Exit → Act → World → Prop} (w : World) (s : Sh) (hgd : op.guard = none) (x y : Operand) (ho : op.op = .store 46 x y)
    (hx : a.eval x = .pointer (some ⟨w.heap.size, 0, none⟩)) (hy : a.eval y = xv s) (h : ∀ V, CellsAt V w.heap.size (xc s) → Below w.heap.size w V → wpList Try.prog ops Q rest (a.put op.dst undef) V) :
    wpList Try.prog ops Q (op :: rest) a (w.alloc (.cells #[.int .u32 0, .int .u16 0, .int .u32 0, .int .u16 0, .int .u32 0, .int .u32 0, .int .u32 0, .int .u32 0, .int .i64 0, .int .i64 0] 46)) := by
  have hn := CellsAt.new w #[.int .u32 0, .int .u16 0, .int .u32 0, .int .u16 0, .int .u32 0, .int .u32 0, .int .u32 0, .int .u32 0, .int .i64 0, .int .i64 0] 46
  obtain ⟨h1, h2, h3⟩ := box_written hn (xc s).toList rfl
  exact wpList_store_mid hgd 46 x y ho w.heap.size 0 (xc s) hx hy (there hn 0 _ (Nat.le_refl _)) (by kernel_rfl) (by simp [Value.oneCell']) (h _ h1 (((Below.refl _ w).alloc (Nat.le_refl _) _).trans h3))
end Go.Proofs.Ytpmnmnflaijaaaa.PktBox
