/-
  Laws for a proof of package pkt: 3 texts in one.
-/
import Derived.WalkKit
import Derived.Below
namespace Go.Proofs.YtpmnmnflaijaaaaGreat.Boxes
open Go.RowKit
set_option linter.unusedVariables false
theorem set_at (W : World) (b j : Nat) (v : Value) (h : ∃ u, W.cell? ⟨b, j, none⟩ = some u) : (W.setCell ⟨b, j, none⟩ v).cell? ⟨b, j, none⟩ = some v := by
 obtain ⟨u, hu⟩ := h
 exact World.cell?_setCell_same' _ _ _ (by rw [hu]; rfl)
theorem set_ne (W : World) (b i j : Nat) (v : Value) (h : j ≠ i) : (W.setCell ⟨b, i, none⟩ v).cell? ⟨b, j, none⟩ = W.cell? ⟨b, j, none⟩ :=
 World.cell?_setCell_other _ _ _ _ (fun e => by injection e with _ e; exact h e.symm)
def setAll (W : World) (b : Nat) (vs : List Value) : World := (vs.foldl (fun (p : World × Nat) v => (p.1.setCell ⟨b, p.2, none⟩ v, p.2 + 1)) (W, 0)).1
theorem setAll_is (W : World) (b : Nat) (vs : List Value) (h : ∀ j, j < vs.length → ∃ u, W.cell? ⟨b, j, none⟩ = some u) :
   (∀ (j : Nat) (v : Value), vs[j]? = some v → (setAll W b vs).cell? ⟨b, j, none⟩ = some v) ∧ Below b W (setAll W b vs) := by
 have key : ∀ (vs : List Value) (V : World) (k n : Nat), k + vs.length ≤ n → (∀ j, j < n → ∃ u, V.cell? ⟨b, j, none⟩ = some u) →
     (∀ j, j < k → (vs.foldl (fun (p : World × Nat) v => (p.1.setCell ⟨b, p.2, none⟩ v, p.2 + 1)) (V, k)).1.cell? ⟨b, j, none⟩ = V.cell? ⟨b, j, none⟩) ∧
     (∀ j v, vs[j]? = some v → (vs.foldl (fun (p : World × Nat) v => (p.1.setCell ⟨b, p.2, none⟩ v, p.2 + 1)) (V, k)).1.cell? ⟨b, k + j, none⟩ = some v) ∧
     Below b V (vs.foldl (fun (p : World × Nat) v => (p.1.setCell ⟨b, p.2, none⟩ v, p.2 + 1)) (V, k)).1 := by
   intro vs
   induction vs with
   | nil => intro V k n _ _; exact ⟨fun _ _ => rfl, fun j v h => by simp at h, Below.refl _ _⟩
   | cons x r ih =>
     intro V k n hk hV
     have hk2 := set_at V b k x (hV k (by simp at hk; omega))
     obtain ⟨i1, i2, i3⟩ := ih (V.setCell ⟨b, k, none⟩ x) (k + 1) n (by simp at hk; omega) (fun j hj => by
       by_cases hjk : j = k
       · subst hjk; exact ⟨x, hk2⟩
       · rw [set_ne V b k j x hjk]; exact hV j hj)
     refine ⟨fun j hj => (i1 j (by omega)).trans (set_ne V b k j x (by omega)), fun j v hv => ?_, ((Below.refl b V).setCell (Nat.le_refl _) _).trans i3⟩
     cases j with
     | zero =>
       simp at hv
       subst hv
       exact (i1 k (by omega)).trans hk2
     | succ j =>
       have := i2 j v (by simpa using hv)
       rw [show k + (j + 1) = k + 1 + j by omega]
       exact this
 obtain ⟨_, h2, h3⟩ := key vs W 0 vs.length (by omega) h
 exact ⟨fun j v hv => by have := h2 j v hv; rw [Nat.zero_add] at this; exact this, h3⟩
theorem set8 (W : World) (b : Nat) (x0 x1 x2 x3 x4 x5 x6 x7 : Value) (h : ∀ j, j < 8 → ∃ u, W.cell? ⟨b, j, none⟩ = some u) :
   ∃ W', (((((((W.setCell ⟨b, 0, none⟩ x0).setCell ⟨b, 1, none⟩ x1).setCell ⟨b, 2, none⟩ x2).setCell ⟨b, 3, none⟩ x3).setCell ⟨b, 4, none⟩ x4).setCell ⟨b, 5, none⟩ x5).setCell ⟨b, 6, none⟩ x6).setCell ⟨b, 7, none⟩ x7 = W' ∧
     (∀ (j : Nat) (v : Value), ([x0, x1, x2, x3, x4, x5, x6, x7] : List Value)[j]? = some v → W'.cell? ⟨b, j, none⟩ = some v) ∧ Below b W W' := by
 obtain ⟨h1, h2⟩ := setAll_is W b [x0, x1, x2, x3, x4, x5, x6, x7] h
 exact ⟨_, rfl, h1, h2⟩
theorem box_is (W : World) (b : Nat) (cs : Array Value) (T : TypeId) (h : W.heap[b]? = some (.cells cs T (0, 0))) : (∀ j, W.frozen? ⟨b, j, none⟩ = false) ∧ ∀ (j : Nat) (v : Value), cs[j]? = some v → W.cell? ⟨b, j, none⟩ = some v := by
 refine ⟨fun j => by simp [World.frozen?, h], fun j v hv => ?_⟩
 rw [World.cell?, h]
 simpa using hv
theorem box_lt {W : World} {b : Nat} {o : Obj} (h : W.heap[b]? = some o) : b < W.heap.size := (Array.getElem?_eq_some_iff.1 h).1
theorem box_more {W W' : World} {b : Nat} {o : Obj} (h : W.heap[b]? = some o) (hb : Below W.heap.size W W') : W'.heap[b]? = some o := (hb.block b (box_lt h)).trans h
theorem box_new (W : World) (o : Obj) : (W.alloc o).heap[W.heap.size]? = some o := by
 show (W.heap.push o)[W.heap.size]? = some o
 exact Array.getElem?_push_size
end Go.Proofs.YtpmnmnflaijaaaaGreat.Boxes
namespace Go.Proofs.YtpmnmnflaijaaaaGreat.Cells
open Go.RowKit Boxes
set_option linter.unusedVariables false
theorem put_lit (l : List Value) (ds : List Deferred) (d : Nat) (v : Value) : Act.put ⟨l.toArray, ds⟩ (some d) v = ⟨(l.set d v).toArray, ds⟩ := by simp [Act.put]
def CellsAt (w : World) (b : Nat) (cs : Array Value) : Prop := b < w.heap.size ∧ ∀ (j : Nat) (v : Value), cs[j]? = some v → w.cell? ⟨b, j, none⟩ = some v ∧ w.frozen? ⟨b, j, none⟩ = false
theorem CellsAt.lt {w : World} {b : Nat} {cs : Array Value} (h : CellsAt w b cs) : b < w.heap.size := h.1
theorem CellsAt.cell {w : World} {b : Nat} {cs : Array Value} (h : CellsAt w b cs) (j : Nat) (v : Value) (hv : cs[j]? = some v) : w.cell? ⟨b, j, none⟩ = some v := (h.2 j v hv).1
theorem CellsAt.free {w : World} {b : Nat} {cs : Array Value} (h : CellsAt w b cs) (j : Nat) (hj : j < cs.size) : w.frozen? ⟨b, j, none⟩ = false := (h.2 j _ (Array.getElem?_eq_getElem hj)).2
theorem CellsAt.some_ {w : World} {b : Nat} {cs : Array Value} (h : CellsAt w b cs) (j : Nat) (hj : j < cs.size) : ∃ u, w.cell? ⟨b, j, none⟩ = some u := ⟨_, (h.2 j _ (Array.getElem?_eq_getElem hj)).1⟩
theorem CellsAt.of_block {w : World} {b : Nat} {cs : Array Value} {T : TypeId} (h : w.heap[b]? = some (.cells cs T (0, 0))) : CellsAt w b cs := by
 obtain ⟨h1, h2⟩ := box_is w b cs T h
 exact ⟨box_lt h, fun j v hv => ⟨h2 j v hv, h1 j⟩⟩
theorem CellsAt.new (w : World) (cs : Array Value) (T : TypeId) : CellsAt (w.alloc (.cells cs T)) w.heap.size cs := CellsAt.of_block (T := T) (box_new w _)
theorem CellsAt.more {w w' : World} {b : Nat} {cs : Array Value} (h : CellsAt w b cs) {n : Nat} (hn : b < n) (hb : Below n w w') : CellsAt w' b cs :=
 ⟨Nat.lt_of_lt_of_le h.1 hb.size, fun j v hv => ⟨(hb.cell (p := ⟨b, j, none⟩) hn).trans (h.2 j v hv).1, (hb.frozen (p := ⟨b, j, none⟩) hn).trans (h.2 j v hv).2⟩⟩
theorem CellsAt.later {w w' : World} {b : Nat} {cs : Array Value} (h : CellsAt w b cs) (hb : Below w.heap.size w w') : CellsAt w' b cs := h.more h.1 hb
theorem CellsAt.put {w : World} {b : Nat} {cs : Array Value} (h : CellsAt w b cs) (i : Nat) (v : Value) (hi : i < cs.size) : CellsAt (w.setCell ⟨b, i, none⟩ v) b (cs.setIfInBounds i v) := by
 refine ⟨by simpa using h.1, fun j u hu => ?_⟩
 by_cases e : i = j
 · subst e
   rw [Array.getElem?_setIfInBounds_self_of_lt hi] at hu
   obtain rfl := Option.some.inj hu
   exact ⟨set_at w b i v (h.some_ i hi), by simpa using h.free i hi⟩
 · rw [Array.getElem?_setIfInBounds_ne e] at hu
   exact ⟨(set_ne w b i j v (fun q => e q.symm)).trans (h.2 j u hu).1, by simpa using (h.2 j u hu).2⟩
theorem CellsAt.other {w : World} {b : Nat} {cs : Array Value} (h : CellsAt w b cs) (g i : Nat) (v : Value) (hne : g ≠ b) : CellsAt (w.setCell ⟨g, i, none⟩ v) b cs :=
 ⟨by simpa using h.1, fun j u hu => ⟨(World.cell?_setCell_other _ _ _ _ (fun q => by injection q with q _; exact hne q)).trans (h.2 j u hu).1, by simpa using (h.2 j u hu).2⟩⟩
theorem set7 (W : World) (b : Nat) (x0 x1 x2 x3 x4 x5 x6 : Value) (h : ∀ j, j < 7 → ∃ u, W.cell? ⟨b, j, none⟩ = some u) :
   ∃ W', ((((((W.setCell ⟨b, 0, none⟩ x0).setCell ⟨b, 1, none⟩ x1).setCell ⟨b, 2, none⟩ x2).setCell ⟨b, 3, none⟩ x3).setCell ⟨b, 4, none⟩ x4).setCell ⟨b, 5, none⟩ x5).setCell ⟨b, 6, none⟩ x6 = W' ∧
     (∀ (j : Nat) (v : Value), ([x0, x1, x2, x3, x4, x5, x6] : List Value)[j]? = some v → W'.cell? ⟨b, j, none⟩ = some v) ∧ Below b W W' := by
 obtain ⟨h1, h2⟩ := setAll_is W b [x0, x1, x2, x3, x4, x5, x6] h
 exact ⟨_, rfl, h1, h2⟩
def Apart (g : Nat) (w w' : World) : Prop := w.heap.size ≤ w'.heap.size ∧ ∀ p : Addr, p.block ≠ g → w'.cell? p = w.cell? p ∧ w'.frozen? p = w.frozen? p
theorem Apart.refl (g : Nat) (w : World) : Apart g w w := ⟨Nat.le_refl _, fun _ _ => ⟨rfl, rfl⟩⟩
theorem Apart.put {g : Nat} {w w' : World} (h : Apart g w w') (i : Nat) (v : Value) : Apart g w (w'.setCell ⟨g, i, none⟩ v) := by
 refine ⟨by simpa using h.1, fun p hp => ⟨?_, ?_⟩⟩
 · exact (World.cell?_setCell_other _ _ _ _ (fun q => hp (by rw [← q]))).trans (h.2 p hp).1
 · simpa using (h.2 p hp).2
theorem CellsAt.apart {w w' : World} {b g : Nat} {cs : Array Value} (h : CellsAt w b cs) (hne : b ≠ g) (ha : Apart g w w') : CellsAt w' b cs :=
 ⟨Nat.lt_of_lt_of_le h.1 ha.1, fun j v hv => ⟨(ha.2 ⟨b, j, none⟩ hne).1.trans (h.2 j v hv).1, (ha.2 ⟨b, j, none⟩ hne).2.trans (h.2 j v hv).2⟩⟩
theorem CellsAt.anew {W : World} {b : Nat} {cs : Array Value} (h : CellsAt W b cs) (hs : cs.size = 7) (x0 x1 x2 x3 x4 x5 x6 : Value) :
   ∃ W', ((((((W.setCell ⟨b, 0, none⟩ x0).setCell ⟨b, 1, none⟩ x1).setCell ⟨b, 2, none⟩ x2).setCell ⟨b, 3, none⟩ x3).setCell ⟨b, 4, none⟩ x4).setCell ⟨b, 5, none⟩ x5).setCell ⟨b, 6, none⟩ x6 = W' ∧
     CellsAt W' b #[x0, x1, x2, x3, x4, x5, x6] ∧ Apart b W W' ∧ Below b W W' := by
 obtain ⟨W', hW, h1, h2⟩ := set7 W b x0 x1 x2 x3 x4 x5 x6 (fun j hj => h.some_ j (by omega))
 have ha : Apart b W W' := by rw [← hW]; exact ((((((((Apart.refl b W).put 0 x0).put 1 x1).put 2 x2).put 3 x3).put 4 x4).put 5 x5).put 6 x6)
 refine ⟨W', hW, ⟨Nat.lt_of_lt_of_le h.1 ha.1, fun j v hv => ⟨h1 j v (by simpa using hv), ?_⟩⟩, ha, h2⟩
 have hj : j < 7 := by have := (Array.getElem?_eq_some_iff.1 hv).1; simpa using this
 have hf := h.free j (by omega)
 rw [← hW]
 simpa using hf
end Go.Proofs.YtpmnmnflaijaaaaGreat.Cells
namespace Go.Proofs.YtpmnmnflaijaaaaGreat.Pkt16
open Go.RowKit Boxes Cells
set_option linter.unusedVariables false
set_option maxRecDepth 100000
set_option maxHeartbeats 4000000 in
theorem anew16 {W : World} {b : Nat} {cs : Array Value} (h : CellsAt W b cs) (hs : cs.size = 16) (x0 x1 x2 x3 x4 x5 x6 x7 x8 x9 x10 x11 x12 x13 x14 x15 : Value) :
   ∃ W', ((((((((((((((((W.setCell ⟨b, 0, none⟩ x0).setCell ⟨b, 1, none⟩ x1).setCell ⟨b, 2, none⟩ x2).setCell ⟨b, 3, none⟩ x3).setCell ⟨b, 4, none⟩ x4).setCell ⟨b, 5, none⟩ x5).setCell ⟨b, 6, none⟩ x6).setCell ⟨b, 7, none⟩ x7).setCell ⟨b, 8, none⟩ x8).setCell ⟨b, 9, none⟩ x9).setCell ⟨b, 10, none⟩ x10).setCell ⟨b, 11, none⟩ x11).setCell ⟨b, 12, none⟩ x12).setCell ⟨b, 13, none⟩ x13).setCell ⟨b, 14, none⟩ x14).setCell ⟨b, 15, none⟩ x15) = W' ∧ CellsAt W' b #[x0, x1, x2, x3, x4, x5, x6, x7, x8, x9, x10, x11, x12, x13, x14, x15] ∧ Apart b W W' ∧ Below b W W' := by
 obtain ⟨h1, h2⟩ := setAll_is W b [x0, x1, x2, x3, x4, x5, x6, x7, x8, x9, x10, x11, x12, x13, x14, x15] (fun j hj => h.some_ j (by simp at hj; omega))
 obtain ⟨W', hW⟩ : ∃ W', ((((((((((((((((W.setCell ⟨b, 0, none⟩ x0).setCell ⟨b, 1, none⟩ x1).setCell ⟨b, 2, none⟩ x2).setCell ⟨b, 3, none⟩ x3).setCell ⟨b, 4, none⟩ x4).setCell ⟨b, 5, none⟩ x5).setCell ⟨b, 6, none⟩ x6).setCell ⟨b, 7, none⟩ x7).setCell ⟨b, 8, none⟩ x8).setCell ⟨b, 9, none⟩ x9).setCell ⟨b, 10, none⟩ x10).setCell ⟨b, 11, none⟩ x11).setCell ⟨b, 12, none⟩ x12).setCell ⟨b, 13, none⟩ x13).setCell ⟨b, 14, none⟩ x14).setCell ⟨b, 15, none⟩ x15) = W' := ⟨_, rfl⟩
 have hW2 : setAll W b [x0, x1, x2, x3, x4, x5, x6, x7, x8, x9, x10, x11, x12, x13, x14, x15] = W' := by rw [← hW]; simp only [setAll, List.foldl_cons, List.foldl_nil]
 rw [hW2] at h1 h2
 have ha : Apart b W W' := by rw [← hW]; exact (((((((((((((((((Apart.refl b W).put 0 x0).put 1 x1).put 2 x2).put 3 x3).put 4 x4).put 5 x5).put 6 x6).put 7 x7).put 8 x8).put 9 x9).put 10 x10).put 11 x11).put 12 x12).put 13 x13).put 14 x14).put 15 x15)
 refine ⟨W', hW, ⟨Nat.lt_of_lt_of_le h.1 ha.1, fun j v hv => ⟨h1 j v (by simpa using hv), ?_⟩⟩, ha, h2⟩
 have hj : j < 16 := by have := (Array.getElem?_eq_some_iff.1 hv).1; simpa using this
 have hf := h.free j (by omega)
 rw [← hW]
 simpa using hf
theorem putOpts {W : World} {b : Nat} {a0 a1 a2 a3 a4 a5 a6 a7 a8 a9 a10 a11 a12 a13 a14 a15 : Value} (h : CellsAt W b #[a0, a1, a2, a3, a4, a5, a6, a7, a8, a9, a10, a11, a12, a13, a14, a15]) (x8 x9 x10 x11 x12 x13 x14 : Value) :
   ∃ W', (((((((W.setCell ⟨b, 8, none⟩ x8).setCell ⟨b, 9, none⟩ x9).setCell ⟨b, 10, none⟩ x10).setCell ⟨b, 11, none⟩ x11).setCell ⟨b, 12, none⟩ x12).setCell ⟨b, 13, none⟩ x13).setCell ⟨b, 14, none⟩ x14) = W' ∧ CellsAt W' b #[a0, a1, a2, a3, a4, a5, a6, a7, x8, x9, x10, x11, x12, x13, x14, a15] ∧ Apart b W W' ∧ Below b W W' :=
 ⟨_, rfl, by simpa using (((((((h.put 8 x8 (by simp)).put 9 x9 (by simp)).put 10 x10 (by simp)).put 11 x11 (by simp)).put 12 x12 (by simp)).put 13 x13 (by simp)).put 14 x14 (by simp)), ((((((((Apart.refl b W).put 8 x8).put 9 x9).put 10 x10).put 11 x11).put 12 x12).put 13 x13).put 14 x14), ((((((((Below.refl b W).setCell (p := ⟨b, 8, none⟩) (Nat.le_refl _) x8).setCell (p := ⟨b, 9, none⟩) (Nat.le_refl _) x9).setCell (p := ⟨b, 10, none⟩) (Nat.le_refl _) x10).setCell (p := ⟨b, 11, none⟩) (Nat.le_refl _) x11).setCell (p := ⟨b, 12, none⟩) (Nat.le_refl _) x12).setCell (p := ⟨b, 13, none⟩) (Nat.le_refl _) x13).setCell (p := ⟨b, 14, none⟩) (Nat.le_refl _) x14)⟩
theorem putAddrs {W : World} {b : Nat} {a0 a1 a2 a3 a4 a5 a6 a7 a8 a9 a10 a11 a12 a13 a14 a15 : Value} (h : CellsAt W b #[a0, a1, a2, a3, a4, a5, a6, a7, a8, a9, a10, a11, a12, a13, a14, a15]) (x0 x1 x2 x3 : Value) :
   ∃ W', ((((W.setCell ⟨b, 0, none⟩ x0).setCell ⟨b, 1, none⟩ x1).setCell ⟨b, 2, none⟩ x2).setCell ⟨b, 3, none⟩ x3) = W' ∧ CellsAt W' b #[x0, x1, x2, x3, a4, a5, a6, a7, a8, a9, a10, a11, a12, a13, a14, a15] ∧ Apart b W W' ∧ Below b W W' :=
 ⟨_, rfl, by simpa using ((((h.put 0 x0 (by simp)).put 1 x1 (by simp)).put 2 x2 (by simp)).put 3 x3 (by simp)), (((((Apart.refl b W).put 0 x0).put 1 x1).put 2 x2).put 3 x3), (((((Below.refl b W).setCell (p := ⟨b, 0, none⟩) (Nat.le_refl _) x0).setCell (p := ⟨b, 1, none⟩) (Nat.le_refl _) x1).setCell (p := ⟨b, 2, none⟩) (Nat.le_refl _) x2).setCell (p := ⟨b, 3, none⟩) (Nat.le_refl _) x3)⟩
theorem putSeq {W : World} {b : Nat} {a0 a1 a2 a3 a4 a5 a6 a7 a8 a9 a10 a11 a12 a13 a14 a15 : Value} (h : CellsAt W b #[a0, a1, a2, a3, a4, a5, a6, a7, a8, a9, a10, a11, a12, a13, a14, a15]) (x4 : Value) :
   ∃ W', (W.setCell ⟨b, 4, none⟩ x4) = W' ∧ CellsAt W' b #[a0, a1, a2, a3, x4, a5, a6, a7, a8, a9, a10, a11, a12, a13, a14, a15] ∧ Apart b W W' ∧ Below b W W' :=
 ⟨_, rfl, by simpa using (h.put 4 x4 (by simp)), ((Apart.refl b W).put 4 x4), ((Below.refl b W).setCell (p := ⟨b, 4, none⟩) (Nat.le_refl _) x4)⟩
theorem putAck {W : World} {b : Nat} {a0 a1 a2 a3 a4 a5 a6 a7 a8 a9 a10 a11 a12 a13 a14 a15 : Value} (h : CellsAt W b #[a0, a1, a2, a3, a4, a5, a6, a7, a8, a9, a10, a11, a12, a13, a14, a15]) (x5 : Value) :
   ∃ W', (W.setCell ⟨b, 5, none⟩ x5) = W' ∧ CellsAt W' b #[a0, a1, a2, a3, a4, x5, a6, a7, a8, a9, a10, a11, a12, a13, a14, a15] ∧ Apart b W W' ∧ Below b W W' :=
 ⟨_, rfl, by simpa using (h.put 5 x5 (by simp)), ((Apart.refl b W).put 5 x5), ((Below.refl b W).setCell (p := ⟨b, 5, none⟩) (Nat.le_refl _) x5)⟩
theorem putWin {W : World} {b : Nat} {a0 a1 a2 a3 a4 a5 a6 a7 a8 a9 a10 a11 a12 a13 a14 a15 : Value} (h : CellsAt W b #[a0, a1, a2, a3, a4, a5, a6, a7, a8, a9, a10, a11, a12, a13, a14, a15]) (x7 : Value) :
   ∃ W', (W.setCell ⟨b, 7, none⟩ x7) = W' ∧ CellsAt W' b #[a0, a1, a2, a3, a4, a5, a6, x7, a8, a9, a10, a11, a12, a13, a14, a15] ∧ Apart b W W' ∧ Below b W W' :=
 ⟨_, rfl, by simpa using (h.put 7 x7 (by simp)), ((Apart.refl b W).put 7 x7), ((Below.refl b W).setCell (p := ⟨b, 7, none⟩) (Nat.le_refl _) x7)⟩
end Go.Proofs.YtpmnmnflaijaaaaGreat.Pkt16
