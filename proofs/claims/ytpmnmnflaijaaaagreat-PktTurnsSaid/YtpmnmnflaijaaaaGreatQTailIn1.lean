/-
  Laws for a proof of package pkt: 1 texts in one.
-/
import Derived.StillTail
import Derived.Sort.QuietThIn
import Derived.TacticsIn
namespace Go.Proofs.YtpmnmnflaijaaaaGreat.TailIn
section
variable {F : Fence} {n : Nat} {P : Program} {C : World → Prop} {md : Region.Mode}
theorem seq_in {ops : Array Oper} {Q : Exit → Act → World → Prop} : ∀ (l : List Oper) (k x : Nat) (listed : Array Bool) (a : Act) (w : World), (∀ j, l[j]? = ops[k + j]?) →
   Region.seqB md ops l.length k listed = true → wpListIn F n P ops Q l a w → wpAnyIn F n P md ops Q (l.length + x) listed a w
 | [], k, x, listed, a, w, _, hB, h => by
   have h0 : Region.ready md ops listed = [] := by simpa [Region.seqB] using hB
   cases x with
   | zero => exact ⟨h0, h⟩
   | succ x => exact ⟨fun _ => h, fun i hi => by rw [h0] at hi; cases hi⟩
 | o :: l, k, x, listed, a, w, hl, hB, h => by
   have h0 : ops[k]? = some o := by simpa using (hl 0).symm
   simp only [List.length_cons, Region.seqB, Bool.and_eq_true, decide_eq_true_eq] at hB
   rw [show (o :: l).length + x = (l.length + x) + 1 by simp only [List.length_cons]; omega]
   refine ⟨fun h1 => (by rw [hB.1] at h1; cases h1), fun i hi => ?_⟩
   rw [hB.1] at hi
   obtain rfl : i = k := by simpa using hi
   have hw : wpOpIn F n P ops Q i (wpListIn F n P ops Q l) a w := by unfold wpOpIn; simp only [h0]; exact h
   exact wpOpIn_mono (fun a' w' h' => seq_in l (i + 1) x _ a' w' (fun j => by have := hl (j + 1); simpa [Nat.add_assoc, Nat.add_comm 1 j] using this) hB.2 h') hw
def backB (md : Region.Mode) (lh : List Oper) : Bool := (List.range lh.length).all fun i => match lh[i]? with
 | some o => o.after.all fun e => !Region.binds md e || decide (e.on < i)
 | none => true
theorem back_spec {lh : List Oper} (h : backB md lh = true) {i : Nat} {o : Oper} (hi : lh[i]? = some o) {e} (he : e ∈ o.after) (hb : Region.binds md e = true) : e.on < i := by
 have hl : i < lh.length := (List.getElem?_eq_some_iff.1 hi).1
 have h1 := List.all_eq_true.1 h i (List.mem_range.2 hl)
 rw [hi] at h1
 have h2 := Array.all_eq_true_iff_forall_mem.1 h1 e he
 rw [hb] at h2
 simpa using h2
theorem head_at (lh lt : List Oper) {i : Nat} (h : i < lh.length) : (lh ++ lt).toArray[i]? = lh.toArray[i]? := by
 simp [List.getElem?_append_left h]
theorem qOp_head {lh lt : List Oper} (hg : lh.all (fun o => o.guard.isNone) = true) {i : Nat} (hi : i < lh.length) {K : Act → Prop} {a : Act} (h : qOpIn F n P lh.toArray C i K a) : qOpIn F n P (lh ++ lt).toArray C i K a := by
 unfold qOpIn at *
 rw [head_at lh lt hi]
 have h0 : lh.toArray[i]? = some lh[i] := by simp [hi]
 rw [h0] at h ⊢
 have hn : (lh[i]).guard = none := by
   have := List.all_eq_true.1 hg _ (List.getElem_mem hi)
   simpa using this
 simp only [Region.wanted, hn, if_true] at h ⊢
 exact h
theorem getD_eq (x : Array Bool) {j : Nat} (h : j < x.size) (d d' : Bool) : x.getD j d = x.getD j d' := by simp [h]
theorem done_head {lh : List Oper} (hb : backB md lh = true) {lH listed : Array Bool} (hs : lH.size = lh.length) (hl : ∀ j, j < lh.length → lH.getD j true = listed.getD j true) (h0 : Region.ready md lh.toArray lH = []) :
   ∀ i, i < lh.length → listed.getD i true = true := by
 intro i
 induction i using Nat.strongRecOn with
 | _ i ih =>
   intro hi
   cases hc : listed.getD i true with
   | true => rfl
   | false =>
     have : i ∈ Region.ready md lh.toArray lH := mem_ready.2 ⟨by rw [hl i hi]; exact hc, lh[i], by simp [hi], fun e he hbi => by
       have hlt := back_spec hb (i := i) (o := lh[i]) (by simp [hi]) he hbi
       have := ih e.on hlt (by omega)
       rw [getD_eq lH (by omega) false true, hl _ (by omega)]
       exact this⟩
     rw [h0] at this
     cases this
theorem head_tail {lh lt : List Oper} {Q : Exit → Act → World → Prop} (hro : F.round = none) (hg : lh.all (fun o => o.guard.isNone) = true) (hb : backB md lh = true)
   (hs : Region.sinkB md (lh ++ lt).toArray lh.length = true) (hc : Region.chainB md (lh ++ lt).toArray lh.length = true) (hn : 0 < lt.length)
   (hq : Region.seqB md (lh ++ lt).toArray lt.length lh.length (Array.replicate lh.length true ++ Array.replicate lt.length false) = true) :
   ∀ (f : Nat) (lH listed : Array Bool) (a : Act) (w : World), C w → lH.size = lh.length → (∀ j, j < lh.length → lH.getD j true = listed.getD j true) → HeadInv md (lh ++ lt).toArray lh.length listed →
     wpAnyQIn F n P md lh.toArray C (fun a' => ∀ w', C w' → wpListIn F n P (lh ++ lt).toArray Q lt a' w') f lH a → wpAnyIn F n P md (lh ++ lt).toArray Q (lt.length + f) listed a w := by
 have hsz : (lh ++ lt).toArray.size = lh.length + lt.length := by simp
 have tail : ∀ (f : Nat) (lH listed : Array Bool) (a : Act) (w : World), C w → lH.size = lh.length → (∀ j, j < lh.length → lH.getD j true = listed.getD j true) → HeadInv md (lh ++ lt).toArray lh.length listed →
     Region.ready md lh.toArray lH = [] → (∀ w', C w' → wpListIn F n P (lh ++ lt).toArray Q lt a w') → wpAnyIn F n P md (lh ++ lt).toArray Q (lt.length + f) listed a w := by
   intro f lH listed a w hw h1 h2 inv h0 h
   have hd := done_head hb h1 h2 h0
   have hsl := inv.size
   rw [hsz] at hsl
   have he : listed = Array.replicate lh.length true ++ Array.replicate lt.length false := by
     apply Array.ext
     · rw [hsl]; simp
     · intro i hi1 hi2
       rcases Nat.lt_or_ge i lh.length with hlt | hge
       · have := hd i hlt
         rw [Array.getElem_append_left (by simpa using hlt)]
         simpa [hi1] using this
       · have := inv.tail i hge (by rw [hsz]; omega)
         rw [Array.getElem_append_right (by simpa using hge)]
         simpa [hi1] using this
   exact seq_in lt lh.length f listed a w (fun j => by simp [List.getElem?_append_right]) (by rw [he]; exact hq) (h w hw)
 intro f
 induction f with
 | zero => intro lH listed a w hw h1 h2 inv h; exact tail 0 lH listed a w hw h1 h2 inv h.1 h.2
 | succ f ih =>
   intro lH listed a w hw h1 h2 inv h
   by_cases h0 : Region.ready md lh.toArray lH = []
   · exact tail (f + 1) lH listed a w hw h1 h2 inv h0 (h.1 h0)
   · have hup : ∀ i, i ∈ Region.ready md lh.toArray lH → i < lh.length ∧ i ∈ Region.ready md (lh ++ lt).toArray listed := by
       intro i hi
       obtain ⟨hu, o, ho, hall⟩ := mem_ready.1 hi
       have hlt : i < lh.length := by simpa using (Array.getElem?_eq_some_iff.1 ho).1
       refine ⟨hlt, mem_ready.2 ⟨by rw [← h2 i hlt]; exact hu, o, by rw [head_at lh lt hlt]; exact ho, fun e he hbi => ?_⟩⟩
       have hon := back_spec hb (i := i) (o := o) (by simpa using ho) he hbi
       have h3 := hall e he hbi
       rw [getD_eq lH (by omega) false true, h2 _ (by omega)] at h3
       rw [getD_eq listed (by rw [inv.size, hsz]; omega) false true]
       exact h3
     have hdown : ∀ i, i ∈ Region.ready md (lh ++ lt).toArray listed → i < lh.length → i ∈ Region.ready md lh.toArray lH := by
       intro i hi hlt
       obtain ⟨hu, o, ho, hall⟩ := mem_ready.1 hi
       have ho' : lh.toArray[i]? = some o := by rw [← head_at lh lt hlt]; exact ho
       refine mem_ready.2 ⟨by rw [h2 i hlt]; exact hu, o, ho', fun e he hbi => ?_⟩
       have hon := back_spec hb (i := i) (o := o) (by simpa using ho') he hbi
       have h3 := hall e he hbi
       rw [getD_eq listed (by rw [inv.size, hsz]; omega) false true] at h3
       rw [getD_eq lH (by omega) false true, h2 _ (by omega)]
       exact h3
     obtain ⟨i0, hi0⟩ := List.exists_mem_of_ne_nil _ h0
     obtain ⟨hl0, hr0⟩ := hup i0 hi0
     rw [show lt.length + (f + 1) = (lt.length + f) + 1 by omega]
     refine ⟨fun hx => (by rw [hx] at hr0; cases hr0), fun i hi => ?_⟩
     have hlt : i < lh.length := by
       rcases Nat.lt_or_ge i lh.length with hh | hh
       · exact hh
       · exact absurd hi (tail_waits hs hc (by rw [hsz]; omega) inv _ i0 rfl hl0 (mem_ready.1 hr0).1 i hh)
     refine wpOpIn_of_qOpIn hro hw (fun a' w' hw' h' => ?_) (qOp_head hg hlt (h.2 i (hdown i hi hlt)))
     refine ih (lH.setIfInBounds i true) (listed.setIfInBounds i true) a' w' hw' (by simpa using h1) (fun j hj => ?_) (inv.set hi hlt) h'
     by_cases hij : i = j
     · subst hij
       rw [show (lH.setIfInBounds i true).getD i true = true by simp, show (listed.setIfInBounds i true).getD i true = true by simp]
     · rw [getD_set_ne true hij, getD_set_ne true hij]
       exact h2 j hj
def tailB (lh lt : List Oper) : Bool :=
 lh.all (fun o => o.guard.isNone) && backB .any lh && Region.sinkB .any (lh ++ lt).toArray lh.length && Region.chainB .any (lh ++ lt).toArray lh.length && decide (0 < lt.length) &&
   Region.seqB .any (lh ++ lt).toArray lt.length lh.length (Array.replicate lh.length true ++ Array.replicate lt.length false) && Region.lexB .any lh.toArray
theorem wpIn_region_tail {id : Nat} {Q : Exit → Act → World → Prop} {a : Act} {w : World} {l : List Oper} (k : Nat) (hro : F.round = none) (hm : P.follows .mixedOrders = true) (hB : tailB (l.take k) (l.drop k) = true)
   (hC : C { w with drawn := w.drawn + 1 })
   (h : wpQuietIn F n P (l.take k).toArray C (fun a' => ∀ w', C w' → wpListIn F n P l.toArray Q (l.drop k) a' w') (l.take k) a) : (Code.region id l.toArray true).wpIn F n P Q a w := by
 simp only [tailB, Bool.and_eq_true, decide_eq_true_eq] at hB
 obtain ⟨⟨⟨⟨⟨⟨hg, hb⟩, hs⟩, hc⟩, hn⟩, hq⟩, hlex⟩ := hB
 refine wpIn_region_any hm ?_
 simp only [Region.lexB, Bool.and_eq_true] at hlex
 have hl : l.take k ++ l.drop k = l := List.take_append_drop k l
 have H := wpAnyQIn_lex (F := F) (n := n) (C := C) (md := .any) hlex.1 (l.take k) 0 (Array.replicate (l.take k).toArray.size false) a (by simp) (by simpa using hlex.2) h
 have inv0 : HeadInv .any (l.take k ++ l.drop k).toArray (l.take k).length (Array.replicate (l.take k ++ l.drop k).toArray.size false) :=
   ⟨by simp, fun j oj _ hl => (by rw [getD_replicate_false] at hl; cases hl), fun t _ ht => getD_in (by simpa using ht) (getD_replicate_false _ _)⟩
 have hrep : ∀ (m j : Nat), j < m → (Array.replicate m false).getD j true = false := fun m j h => by rw [getD_eq _ (by simpa using h) true false, getD_replicate_false]
 have hlen : (l.take k).length ≤ l.length := by rw [List.length_take]; omega
 have key := head_tail (F := F) (n := n) (P := P) (C := C) (md := .any) (Q := Q) (lh := l.take k) (lt := l.drop k) hro hg hb hs hc hn hq (l.take k).length (Array.replicate (l.take k).toArray.size false) (Array.replicate (l.take k ++ l.drop k).toArray.size false) a { w with drawn := w.drawn + 1 } hC (by simp) (fun j hj => by
   rw [hrep _ j (by simpa using hj), hrep _ j (by rw [hl, List.size_toArray]; omega)]) inv0 (by rw [hl]; exact H)
 rw [hl] at key
 have e : (l.drop k).length + (l.take k).length = l.toArray.size := by simp; omega
 rw [e] at key
 exact key
end
end Go.Proofs.YtpmnmnflaijaaaaGreat.TailIn
