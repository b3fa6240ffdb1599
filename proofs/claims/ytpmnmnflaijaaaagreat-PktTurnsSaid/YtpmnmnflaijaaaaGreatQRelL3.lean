/-
  Laws for a proof of package pkt: 3 texts in one.
-/
import Derived.Test.YtpmnmnflaijaaaaGreatQRelG2
import Derived.StillTail
namespace Go.Proofs.YtpmnmnflaijaaaaGreat.RelT
open Go.RowKit Rel
set_option linter.unusedVariables false
section
variable {P : Program} {ops : Array Oper} {w0 : World} {a0 : Act} {R : Nat → Value → World → Prop}
theorem seq_more {md : Region.Mode} {Q : Exit → Act → World → Prop} : ∀ (l : List Oper) (k x : Nat) (listed : Array Bool) (a : Act) (w : World), (∀ j, l[j]? = ops[k + j]?) →
   Region.seqB md ops l.length k listed = true → wpList P ops Q l a w → wpAny P md ops Q (l.length + x) listed a w
 | [], k, x, listed, a, w, _, hB, h => by
   have h0 : Region.ready md ops listed = [] := by simpa [Region.seqB] using hB
   cases x with
   | zero => exact ⟨h0, h⟩
   | succ x => exact ⟨fun _ => h, fun i hi => by rw [h0] at hi; cases hi⟩
 | o :: l, k, x, listed, a, w, hl, hB, h => by
   have h0 : ops[k]? = some o := by simpa using (hl 0).symm
   simp only [List.length_cons, Region.seqB, Bool.and_eq_true, decide_eq_true_eq] at hB
   rw [show (o :: l).length + x = (l.length + x) + 1 by simp only [List.length_cons]; omega]
   refine ⟨fun h1 => (by rw [hB.1] at h1; cases h1), fun i hi => ?_⟩
   rw [hB.1] at hi
   obtain rfl : i = k := by simpa using hi
   have hw : wpOp P ops Q i (wpList P ops Q l) a w := by unfold wpOp; simp only [h0]; exact h
   exact wpOp_mono (fun a' w' h' => seq_more l (i + 1) x _ a' w' (fun j => by have := hl (j + 1); simpa [Nat.add_assoc, Nat.add_comm 1 j] using this) hB.2 h') hw
def reach (ops : Array Oper) : Nat → Nat → Nat → Bool
 | 0, _, _ => false
 | n + 1, j, i => match ops[j]? with
   | none => false
   | some o => waits o i || (List.range ops.size).any fun m => waits o m && reach ops n m i
def Closed (ops : Array Oper) (listed : Array Bool) : Prop := ∀ (i : Nat) (o : Oper) (j : Nat), listed.getD i true = true → ops[i]? = some o → waits o j = true → listed.getD j true = true
theorem reach_listed {listed : Array Bool} (hC : Closed ops listed) : ∀ (n j i : Nat), reach ops n j i = true → (∀ o m, ops[j]? = some o → waits o m = true → listed.getD m true = true) → listed.getD i true = true
 | 0, _, _, h, _ => by simp [reach] at h
 | n + 1, j, i, h, hd => by
   unfold reach at h
   cases ho : ops[j]? with
   | none => rw [ho] at h; cases h
   | some o =>
     rw [ho] at h
     simp only [Bool.or_eq_true, List.any_eq_true, List.mem_range, Bool.and_eq_true] at h
     rcases h with h | ⟨m, hm, hw, hr⟩
     · exact hd o i ho h
     · exact reach_listed hC n m i hr fun o' m' ho' hw' => hC m o' m' (hd o m ho hw) ho' hw'
def mark (ops : Array Oper) (k : Nat) : Array Bool := Array.replicate k true ++ Array.replicate (ops.size - k) false
def tailB (ops : Array Oper) (k : Nat) : Bool :=
 decide (k ≤ ops.size) && (List.range ops.size).all (fun j => decide (j < k) || (List.range k).all fun i => reach ops ops.size j i) &&
   decide (left ops (mark ops k) = ops.size - k) && Region.seqB .any ops (ops.size - k) k (mark ops k)
theorem lexA_before (vs : Nat → Value) (t : Tmp) : ∀ k, (∀ j, j < k → slot ops j ≠ some t) → (lexA ops a0 vs k).tmps[t]? = a0.tmps[t]?
 | 0, _ => rfl
 | k + 1, h => by rw [lexA_succ, put_ne _ _ _ _ (h k (by omega)), lexA_before vs t k fun j hj => h j (by omega)]
structure InvT (ops : Array Oper) (R : Nat → Value → World → Prop) (w0 : World) (a0 : Act) (k : Nat) (listed : Array Bool) (a : Act) (w : World) (vs : Nat → Value) : Prop where
 bel : Below w0.heap.size w0 w
 def_ : a.defers = a0.defers
 size : a.tmps.size = a0.tmps.size
 rel : ∀ i : Nat, i < ops.size → listed.getD i true = true → R i (vs i) w
 at_ : ∀ (i : Nat) (t : Tmp), i < ops.size → listed.getD i true = true → slot ops i = some t → a.tmps[t]? = some (vs i)
 other : ∀ t : Tmp, (∀ j : Nat, j < ops.size → listed.getD j true = true → slot ops j ≠ some t) → a.tmps[t]? = a0.tmps[t]?
 later : ∀ j : Nat, k ≤ j → j < ops.size → listed.getD j true = false
 closed : Closed ops listed
theorem slot_lt {j : Nat} {t : Tmp} (hj : slot ops j = some t) : j < ops.size := by
 unfold slot at hj
 rcases Nat.lt_or_ge j ops.size with h' | h'
 · exact h'
 · rw [Array.getElem?_eq_none h'] at hj; cases hj
theorem agreeT {N k : Nat} (M : Made ops N) (hN : a0.tmps.size = N) {listed : Array Bool} {a : Act} {w : World} {vs : Nat → Value} (I : InvT ops R w0 a0 k listed a w vs) {i : Nat} {o : Oper} (ho : ops[i]? = some o)
   (hdep : ∀ j, waits o j = true → listed.getD j true = true ∧ j < i) (t : Tmp) (ht : t ∈ o.looksAt ops) : a.tmps[t]? = (lexA ops a0 vs i).tmps[t]? := by
 by_cases h : ∃ j, slot ops j = some t
 · obtain ⟨j, hj⟩ := h
   obtain ⟨h1, h2⟩ := hdep j (M.looks i o ho t ht j hj)
   rw [I.at_ j t (slot_lt hj) h1 hj, lexA_at M hN vs t j hj i h2]
 · have h' : ∀ j, slot ops j ≠ some t := fun j hj => h ⟨j, hj⟩
   rw [I.other t fun j _ _ => h' j, lexA_other vs t h']
theorem run_anyT {N k : Nat} {Q : Exit → Act → World → Prop} (M : Made ops N) (hN : a0.tmps.size = N) (hk : k ≤ ops.size) (hT : ∀ (j : Nat) (o : Oper), k ≤ j → ops[j]? = some o → ∀ i, i < k → reach ops ops.size j i = true)
   (hleft : left ops (mark ops k) = ops.size - k) (hseq : Region.seqB .any ops (ops.size - k) k (mark ops k) = true)
   (hR : ∀ i v w w', R i v w → Below w.heap.size w w' → R i v w') (step : ∀ i, i < k → relStep P ops R w0 a0 i)
   (fin : ∀ vs w, Below w0.heap.size w0 w → (∀ j, j < k → R j (vs j) w) → wpList P ops Q (ops.toList.drop k) (lexA ops a0 vs k) w) :
   ∀ (fuel : Nat) (listed : Array Bool) (a : Act) (w : World) (vs : Nat → Value), listed.size = ops.size → left ops listed ≤ fuel → InvT ops R w0 a0 k listed a w vs → wpAny P .any ops Q fuel listed a w := by
 have done : ∀ (fuel : Nat) (listed : Array Bool) (a : Act) (w : World) (vs : Nat → Value), listed.size = ops.size → left ops listed ≤ fuel → (∀ i, i < k → listed.getD i true = true) → InvT ops R w0 a0 k listed a w vs → wpAny P .any ops Q fuel listed a w := by
   intro fuel listed a w vs hl hf all I
   have hm : listed = mark ops k := by
     unfold mark
     apply Array.ext
     · rw [hl]; simp; omega
     · intro i hi1 hi2
       rcases Nat.lt_or_ge i k with hlt | hge
       · have := all i hlt
         rw [Array.getElem_append_left (by simpa using hlt)]
         simpa [hi1] using this
       · have := I.later i hge (by omega)
         rw [Array.getElem_append_right (by simpa using hge)]
         simpa [hi1] using this
   have ha : a = lexA ops a0 vs k := by
     have ht : a.tmps = (lexA ops a0 vs k).tmps := by
       apply Array.ext_getElem?
       intro t
       by_cases h : ∃ j, j < k ∧ slot ops j = some t
       · obtain ⟨j, hjk, hj⟩ := h
         rw [I.at_ j t (slot_lt hj) (all j hjk) hj, lexA_at M hN vs t j hj _ hjk]
       · have h' : ∀ j, j < k → slot ops j ≠ some t := fun j hjk hj => h ⟨j, hjk, hj⟩
         rw [lexA_before vs t k h', I.other t fun j hj hlj => ?_]
         rcases Nat.lt_or_ge j k with hlt | hge
         · exact h' j hlt
         · rw [I.later j hge hj] at hlj; cases hlj
     have hd : a.defers = (lexA ops a0 vs k).defers := by rw [I.def_, lexA_def]
     cases a
     cases hx : lexA ops a0 vs k
     rw [hx] at ht hd
     simp only at ht hd
     rw [ht, hd]
   rw [ha]
   have h := fin vs w I.bel fun j hj => I.rel j (by omega) (all j hj)
   rw [hm] at hf ⊢
   rw [hleft] at hf
   have hlen : (ops.toList.drop k).length = ops.size - k := by simp
   have := seq_more (P := P) (md := .any) (Q := Q) (ops := ops) (ops.toList.drop k) k (fuel - (ops.size - k)) (mark ops k) (lexA ops a0 vs k) w (fun j => by simp) (by rw [hlen]; exact hseq) h
   rw [hlen, show ops.size - k + (fuel - (ops.size - k)) = fuel by omega] at this
   exact this
 intro fuel
 induction fuel with
 | zero =>
   intro listed a w vs hl hf I
   refine done 0 listed a w vs hl hf (fun i hi => ?_) I
   cases h : listed.getD i true
   · have := left_lt (ops := ops) (listed := listed) (i := i) (by omega) h
     omega
   · rfl
 | succ fuel ih =>
   intro listed a w vs hl hf I
   by_cases all : ∀ i, i < k → listed.getD i true = true
   · exact done (fuel + 1) listed a w vs hl hf all I
   obtain ⟨i0, hi0⟩ := Classical.not_forall.1 all
   obtain ⟨hi0k, hi0⟩ := Classical.not_imp.1 hi0
   have hi0f : listed.getD i0 true = false := by simpa using hi0
   refine ⟨fun hr => absurd hr (some_ready M hl i0 (by omega) hi0f), fun i hi => ?_⟩
   obtain ⟨h0, o, ho, hall⟩ := mem_ready.1 hi
   have hio := (Array.getElem?_eq_some_iff.1 ho).1
   have hdep : ∀ j, waits o j = true → listed.getD j true = true ∧ j < i := fun j hj => by
     unfold waits at hj
     obtain ⟨n, hn, hb⟩ := Array.any_eq_true.1 hj
     have he : o.after[n] ∈ o.after := Array.getElem_mem hn
     generalize o.after[n] = e at hb he
     simp only [Bool.and_eq_true, beq_iff_eq] at hb
     obtain ⟨hb, rfl⟩ := hb
     have h1 := hall e he hb
     have h2 := M.elder i o ho e he hb
     have h3 : e.on < listed.size := by omega
     simp [Array.getD, h3] at h1 ⊢
     exact ⟨h1, h2⟩
   have hik : i < k := by
     rcases Nat.lt_or_ge i k with h | h
     · exact h
     · have := reach_listed I.closed ops.size i i0 (hT i o h ho i0 hi0k) fun o' m ho' hw => by
         rw [ho] at ho'
         obtain rfl := Option.some.inj ho'
         exact (hdep m hw).1
       rw [hi0f] at this
       cases this
   have ag := fun t ht => agreeT M hN I ho hdep t ht
   have hst := step i hik
   unfold relStep at hst
   simp only [ho] at hst
   have hs := hst vs w I.bel fun j hj => I.rel j (by have := (hdep j hj).2; omega) (hdep j hj).1
   have he : execOp a.eval o = execOp (lexA ops a0 vs i).eval o := execOp_congr o (fun cs b => M.sel i o cs b ho) fun x hx => by
     cases x with
     | tmp t =>
       have := ag t (List.mem_append_left _ (List.mem_filterMap.2 ⟨.tmp t, by simpa using hx, rfl⟩))
       simp only [Act.eval, Array.getD_eq_getD_getElem?, this]
     | _ => rfl
   have hw : Region.wanted o (yielded ops a.tmps) = Region.wanted o (yielded ops (lexA ops a0 vs i).tmps) := by
     unfold Region.wanted
     cases hg : o.guard with
     | none => rfl
     | some gw =>
       obtain ⟨g, want⟩ := gw
       have hy : yielded ops a.tmps g = yielded ops (lexA ops a0 vs i).tmps g := by
         unfold yielded
         cases ht : (ops[g]?).bind (·.dst) with
         | none => rfl
         | some t =>
           have := ag t (by simp [Oper.looksAt, hg, ht])
           simp only [Option.bind_some, this]
       simp only [hy]
   have go : ∀ (v : Value) (w' : World), R i v w' → Below w.heap.size w w' → wpAny P .any ops Q fuel (listed.setIfInBounds i true) (a.put o.dst v) w' := by
     intro v w' hv hb
     have hd : slot ops i = o.dst := by unfold slot; rw [ho]; rfl
     refine ih _ _ _ (fun j => if j = i then v else vs j) (by simpa using hl) (by have := left_lt hio h0; omega) ⟨I.bel.trans (hb.mono I.bel.size), by rw [put_def, I.def_], by rw [put_size, I.size], ?_, ?_, ?_, ?_, ?_⟩
     · intro j hj hlj
       by_cases hji : j = i
       · subst hji; simpa using hv
       · rw [getD_set_ne true (Ne.symm hji)] at hlj
         simp only [if_neg hji]
         exact hR _ _ _ _ (I.rel j hj hlj) hb
     · intro j t hj hlj hsl
       by_cases hji : j = i
       · subst hji
         rw [hd] at hsl
         rw [hsl]
         simp only [if_true]
         exact put_at _ _ _ (by rw [I.size, hN]; exact M.room j t (by rw [hd]; exact hsl))
       · rw [getD_set_ne true (Ne.symm hji)] at hlj
         simp only [if_neg hji]
         rw [put_ne _ _ _ _ (fun e => hji (M.apart j i t hsl (by rw [hd]; exact e)))]
         exact I.at_ j t hj hlj hsl
     · intro t ht
       have hti := ht i hio (by simp [Array.getD, hl, hio])
       rw [put_ne _ _ _ _ (by rw [← hd]; exact hti)]
       refine I.other t fun j hj hlj => ?_
       by_cases hji : j = i
       · subst hji; exact hti
       · exact ht j hj (by rw [getD_set_ne true (Ne.symm hji)]; exact hlj)
     · intro j hkj hj
       rw [getD_set_ne true (by omega)]
       exact I.later j hkj hj
     · intro a b c ha hb hw
       have key : listed.getD c true = true := by
         by_cases hai : a = i
         · subst hai
           rw [ho] at hb
           obtain rfl := Option.some.inj hb
           exact (hdep c hw).1
         · rw [getD_set_ne true (Ne.symm hai)] at ha
           exact I.closed a b c ha hb hw
       by_cases hci : c = i
       · subst hci; simp [Array.getD, hl, hio]
       · rw [getD_set_ne true (Ne.symm hci)]; exact key
   unfold wpOp
   simp only [ho]
   rw [hw]
   split
   · rename_i hwt
     rw [if_pos hwt] at hs
     refine .inl ?_
     unfold Oper.wp
     rw [he]
     generalize (execOp (lexA ops a0 vs i).eval o).run P w = r at hs
     cases r with
     | ok n w' =>
       cases n <;> simp only [relUpon] at hs <;> simp only [Oper.upon]
       case value u => exact go u w' hs.1 hs.2
       case skip => exact go undef w' hs.1 hs.2
       case enter f args => exact hs.mono fun e w'' ⟨v, he, hv, hb⟩ => by subst he; exact go v w'' hv hb
     | halt x w' => simp only [relUpon] at hs
   · rename_i hwt
     rw [if_neg hwt] at hs
     exact go undef w hs (Below.refl _ _)
theorem wp_region_see_tail {id : Nat} {Q : Exit → Act → World → Prop} (k N : Nat) (R : Nat → Value → World → Prop) (hN : a0.tmps.size = N) (hm : P.follows .mixedOrders = true) (hB : relB ops N = true) (hTB : tailB ops k = true) (hF : freeB ops = true) (hR : ∀ i v w w', R i v w → Below w.heap.size w w' → R i v w')
   (step : ∀ i ∈ List.range k, relSee P ops R w0 a0 i)
   (fin : ∀ vs w, Below w0.heap.size w0 w → (∀ j, j < k → R j (vs j) w) → wpList P ops Q (ops.toList.drop k) (lexA ops a0 vs k) w) : (Code.region id ops true).wp P Q a0 w0 := by
 have M := made_of hB
 simp only [tailB, Bool.and_eq_true, decide_eq_true_eq] at hTB
 obtain ⟨⟨⟨hk, hT⟩, hleft⟩, hseq⟩ := hTB
 refine wp_region_any hm ?_
 refine run_anyT (k := k) M hN hk (fun j o hkj ho i hi => ?_) hleft hseq hR (fun i hi => relStep_of_see M hN hF (step i (List.mem_range.2 hi))) fin ops.size _ a0 _ (fun _ => undef) (by simp) ?_ ⟨(Below.refl _ w0).drew, rfl, rfl, ?_, ?_, fun _ _ => rfl, ?_, ?_⟩
 · have h1 := List.all_eq_true.1 hT j (List.mem_range.2 (Array.getElem?_eq_some_iff.1 ho).1)
   simp only [Bool.or_eq_true, decide_eq_true_eq, List.all_eq_true] at h1
   rcases h1 with h1 | h1
   · omega
   · exact h1 i (List.mem_range.2 hi)
 · exact Nat.le_trans List.countP_le_length (by simp)
 · intro i hi hl; simp [Array.getD, hi] at hl
 · intro i t hi hl; simp [Array.getD, hi] at hl
 · intro j _ hj; simp [Array.getD, hj]
 · intro i o j hl ho hw
   have hi := (Array.getElem?_eq_some_iff.1 ho).1
   simp [Array.getD, hi] at hl
end
end Go.Proofs.YtpmnmnflaijaaaaGreat.RelT
namespace Go.Proofs.YtpmnmnflaijaaaaGreat.RelK
open Go.RowKit Rel RelT
set_option linter.unusedVariables false
section
variable {P : Program} {ops : Array Oper} {w0 : World} {a0 : Act} {R : Nat → Value → World → Prop}
def relBk (ops : Array Oper) (N k : Nat) : Bool := Region.noSelect ops && (List.range k).all fun i => match ops[i]? with
 | none => true
 | some o => (o.after.all fun e => !Region.binds .any e || decide (e.on < i)) &&
   ((o.looksAt ops).all fun t => (List.range k).all fun j => !(slot ops j == some t) || waits o j) &&
   (match o.dst with | none => true | some t => decide (t < N) && (List.range k).all fun j => j == i || !(slot ops j == some t))
structure MadeK (ops : Array Oper) (N k : Nat) : Prop where
 sel : ∀ (j : Nat) (o : Oper) cs b, ops[j]? = some o → o.op ≠ .select cs b
 elder : ∀ (i : Nat) (o : Oper), i < k → ops[i]? = some o → ∀ e ∈ o.after, Region.binds .any e = true → e.on < i
 looks : ∀ (i : Nat) (o : Oper), i < k → ops[i]? = some o → ∀ t ∈ o.looksAt ops, ∀ j, j < k → slot ops j = some t → waits o j = true
 apart : ∀ (i j : Nat) (t : Tmp), i < k → j < k → slot ops i = some t → slot ops j = some t → i = j
 room : ∀ (i : Nat) (t : Tmp), i < k → slot ops i = some t → t < N
theorem madeK_of {N k : Nat} (h : relBk ops N k = true) : MadeK ops N k := by
 unfold relBk at h
 rw [Bool.and_eq_true] at h
 obtain ⟨hs, h⟩ := h
 rw [List.all_eq_true] at h
 have key : ∀ (i : Nat) (o : Oper), i < k → ops[i]? = some o → ((o.after.all fun e => !Region.binds .any e || decide (e.on < i)) = true ∧ ((o.looksAt ops).all fun t => (List.range k).all fun j => !(slot ops j == some t) || waits o j) = true) ∧
     (match o.dst with | none => true | some t => decide (t < N) && (List.range k).all fun j => j == i || !(slot ops j == some t)) = true := fun i o hik ho => by
   have := h i (List.mem_range.2 hik)
   simp only [ho, Bool.and_eq_true] at this
   exact ⟨this.1, by simpa using this.2⟩
 have of_slot : ∀ i t, slot ops i = some t → ∃ o, ops[i]? = some o ∧ o.dst = some t := fun i t hst => by
   unfold slot at hst
   cases ho : ops[i]? with
   | none => rw [ho] at hst; cases hst
   | some o => rw [ho] at hst; exact ⟨o, rfl, hst⟩
 refine ⟨fun j o cs b hj => Region.noSelect_spec hs j o cs b hj, ?_, ?_, ?_, ?_⟩
 · intro i o hik ho e he hb
   have := (key i o hik ho).1.1
   rw [Array.all_eq_true_iff_forall_mem] at this
   have := this e he
   rw [hb] at this
   simpa using this
 · intro i o hik ho t ht j hjk hj
   have := (key i o hik ho).1.2
   rw [List.all_eq_true] at this
   have := this t ht
   rw [List.all_eq_true] at this
   have := this j (List.mem_range.2 hjk)
   rw [hj] at this
   simpa using this
 · intro i j t hik hjk hi hj
   obtain ⟨oi, hoi, hd⟩ := of_slot i t hi
   have := (key i oi hik hoi).2
   rw [hd] at this
   simp only [Bool.and_eq_true, List.all_eq_true] at this
   have := this.2 j (List.mem_range.2 hjk)
   rw [hj] at this
   simp at this
   exact this.symm
 · intro i t hik hi
   obtain ⟨oi, hoi, hd⟩ := of_slot i t hi
   have := (key i oi hik hoi).2
   rw [hd] at this
   simp only [Bool.and_eq_true, decide_eq_true_eq] at this
   exact this.1
theorem lexA_atK {N m : Nat} (M : MadeK ops N m) (hN : a0.tmps.size = N) (vs : Nat → Value) (t : Tmp) (j : Nat) (h : slot ops j = some t) : ∀ k, k ≤ m → j < k → (lexA ops a0 vs k).tmps[t]? = some (vs j)
 | 0, _, hk => by omega
 | k + 1, hm, hk => by
   rw [lexA_succ]
   by_cases e : j = k
   · subst e
     rw [h]
     exact put_at _ _ _ (by rw [lexA_size, hN]; exact M.room j t (by omega) h)
   · rw [put_ne _ _ _ _ (fun e2 => e (M.apart j k t (by omega) (by omega) h e2))]
     exact lexA_atK M hN vs t j h k (by omega) (by omega)
theorem some_readyK {N k : Nat} (M : MadeK ops N k) {listed : Array Bool} (hl : listed.size = ops.size) (hk : k ≤ ops.size) : ∀ i, i < k → listed.getD i true = false → Region.ready .any ops listed ≠ [] := by
 intro i
 induction i using Nat.strongRecOn with
 | _ i ih =>
   intro hi h
   obtain ⟨o, ho⟩ : ∃ o, ops[i]? = some o := ⟨_, Array.getElem?_eq_getElem (by omega)⟩
   by_cases hall : ∀ e ∈ o.after, Region.binds .any e = true → listed.getD e.on false = true
   · intro hn
     have : i ∈ Region.ready .any ops listed := mem_ready.2 ⟨h, o, ho, hall⟩
     rw [hn] at this
     cases this
   · obtain ⟨e, he⟩ := Classical.not_forall.1 hall
     obtain ⟨he1, he⟩ := Classical.not_imp.1 he
     obtain ⟨hb, he⟩ := Classical.not_imp.1 he
     have hlt := M.elder i o hi ho e he1 hb
     refine ih e.on hlt (by omega) ?_
     have h2 : e.on < listed.size := by omega
     simp [Array.getD, h2] at he ⊢
     exact he
theorem agreeK {N k : Nat} (M : MadeK ops N k) (hN : a0.tmps.size = N) (hk : k ≤ ops.size) {listed : Array Bool} {a : Act} {w : World} {vs : Nat → Value} (I : InvT ops R w0 a0 k listed a w vs) {i : Nat} {o : Oper} (hik : i < k) (ho : ops[i]? = some o)
   (hdep : ∀ j, waits o j = true → listed.getD j true = true ∧ j < i) (t : Tmp) (ht : t ∈ o.looksAt ops) : a.tmps[t]? = (lexA ops a0 vs i).tmps[t]? := by
 by_cases h : ∃ j, j < k ∧ slot ops j = some t
 · obtain ⟨j, hjk, hj⟩ := h
   obtain ⟨h1, h2⟩ := hdep j (M.looks i o hik ho t ht j hjk hj)
   rw [I.at_ j t (slot_lt hj) h1 hj, lexA_atK M hN vs t j hj i (by omega) h2]
 · have h' : ∀ j, j < k → slot ops j ≠ some t := fun j hjk hj => h ⟨j, hjk, hj⟩
   rw [lexA_before vs t i fun j hj => h' j (by omega), I.other t fun j hj hlj => ?_]
   rcases Nat.lt_or_ge j k with hlt | hge
   · exact h' j hlt
   · rw [I.later j hge hj] at hlj; cases hlj
theorem run_anyK {N k : Nat} {Q : Exit → Act → World → Prop} (M : MadeK ops N k) (hN : a0.tmps.size = N) (hk : k ≤ ops.size) (hT : ∀ (j : Nat) (o : Oper), k ≤ j → ops[j]? = some o → ∀ i, i < k → reach ops ops.size j i = true)
   (hleft : left ops (RelT.mark ops k) = ops.size - k) (hseq : Region.seqB .any ops (ops.size - k) k (RelT.mark ops k) = true)
   (hR : ∀ i v w w', R i v w → Below w.heap.size w w' → R i v w') (step : ∀ i, i < k → relStep P ops R w0 a0 i)
   (fin : ∀ vs w, Below w0.heap.size w0 w → (∀ j, j < k → R j (vs j) w) → wpList P ops Q (ops.toList.drop k) (lexA ops a0 vs k) w) :
   ∀ (fuel : Nat) (listed : Array Bool) (a : Act) (w : World) (vs : Nat → Value), listed.size = ops.size → left ops listed ≤ fuel → InvT ops R w0 a0 k listed a w vs → wpAny P .any ops Q fuel listed a w := by
 have done : ∀ (fuel : Nat) (listed : Array Bool) (a : Act) (w : World) (vs : Nat → Value), listed.size = ops.size → left ops listed ≤ fuel → (∀ i, i < k → listed.getD i true = true) → InvT ops R w0 a0 k listed a w vs → wpAny P .any ops Q fuel listed a w := by
   intro fuel listed a w vs hl hf all I
   have hm : listed = RelT.mark ops k := by
     unfold RelT.mark
     apply Array.ext
     · rw [hl]; simp; omega
     · intro i hi1 hi2
       rcases Nat.lt_or_ge i k with hlt | hge
       · have := all i hlt
         rw [Array.getElem_append_left (by simpa using hlt)]
         simpa [hi1] using this
       · have := I.later i hge (by omega)
         rw [Array.getElem_append_right (by simpa using hge)]
         simpa [hi1] using this
   have ha : a = lexA ops a0 vs k := by
     have ht : a.tmps = (lexA ops a0 vs k).tmps := by
       apply Array.ext_getElem?
       intro t
       by_cases h : ∃ j, j < k ∧ slot ops j = some t
       · obtain ⟨j, hjk, hj⟩ := h
         rw [I.at_ j t (slot_lt hj) (all j hjk) hj, lexA_atK M hN vs t j hj k (Nat.le_refl _) hjk]
       · have h' : ∀ j, j < k → slot ops j ≠ some t := fun j hjk hj => h ⟨j, hjk, hj⟩
         rw [lexA_before vs t k h', I.other t fun j hj hlj => ?_]
         rcases Nat.lt_or_ge j k with hlt | hge
         · exact h' j hlt
         · rw [I.later j hge hj] at hlj; cases hlj
     have hd : a.defers = (lexA ops a0 vs k).defers := by rw [I.def_, lexA_def]
     cases a
     cases hx : lexA ops a0 vs k
     rw [hx] at ht hd
     simp only at ht hd
     rw [ht, hd]
   rw [ha]
   have h := fin vs w I.bel fun j hj => I.rel j (by omega) (all j hj)
   rw [hm] at hf ⊢
   rw [hleft] at hf
   have hlen : (ops.toList.drop k).length = ops.size - k := by simp
   have := seq_more (P := P) (md := .any) (Q := Q) (ops := ops) (ops.toList.drop k) k (fuel - (ops.size - k)) (RelT.mark ops k) (lexA ops a0 vs k) w (fun j => by simp) (by rw [hlen]; exact hseq) h
   rw [hlen, show ops.size - k + (fuel - (ops.size - k)) = fuel by omega] at this
   exact this
 intro fuel
 induction fuel with
 | zero =>
   intro listed a w vs hl hf I
   refine done 0 listed a w vs hl hf (fun i hi => ?_) I
   cases h : listed.getD i true
   · have := left_lt (ops := ops) (listed := listed) (i := i) (by omega) h
     omega
   · rfl
 | succ fuel ih =>
   intro listed a w vs hl hf I
   by_cases all : ∀ i, i < k → listed.getD i true = true
   · exact done (fuel + 1) listed a w vs hl hf all I
   obtain ⟨i0, hi0⟩ := Classical.not_forall.1 all
   obtain ⟨hi0k, hi0⟩ := Classical.not_imp.1 hi0
   have hi0f : listed.getD i0 true = false := by simpa using hi0
   refine ⟨fun hr => absurd hr (some_readyK M hl hk i0 hi0k hi0f), fun i hi => ?_⟩
   obtain ⟨h0, o, ho, hall⟩ := mem_ready.1 hi
   have hio := (Array.getElem?_eq_some_iff.1 ho).1
   have hdep1 : ∀ j, waits o j = true → listed.getD j true = true := fun j hj => by
     unfold waits at hj
     obtain ⟨n, hn, hb⟩ := Array.any_eq_true.1 hj
     have he : o.after[n] ∈ o.after := Array.getElem_mem hn
     generalize o.after[n] = e at hb he
     simp only [Bool.and_eq_true, beq_iff_eq] at hb
     obtain ⟨hb, rfl⟩ := hb
     have h1 := hall e he hb
     by_cases h3 : e.on < listed.size
     · simp [Array.getD, h3] at h1 ⊢; exact h1
     · simp [Array.getD, h3]
   have hik : i < k := by
     rcases Nat.lt_or_ge i k with h | h
     · exact h
     · have := reach_listed I.closed ops.size i i0 (hT i o h ho i0 hi0k) fun o' m ho' hw => by
         rw [ho] at ho'
         obtain rfl := Option.some.inj ho'
         exact hdep1 m hw
       rw [hi0f] at this
       cases this
   have hdep : ∀ j, waits o j = true → listed.getD j true = true ∧ j < i := fun j hj => by
     refine ⟨hdep1 j hj, ?_⟩
     unfold waits at hj
     obtain ⟨n, hn, hb⟩ := Array.any_eq_true.1 hj
     have he : o.after[n] ∈ o.after := Array.getElem_mem hn
     generalize o.after[n] = e at hb he
     simp only [Bool.and_eq_true, beq_iff_eq] at hb
     obtain ⟨hb, rfl⟩ := hb
     exact M.elder i o hik ho e he hb
   have ag := fun t ht => agreeK M hN hk I hik ho hdep t ht
   have hst := step i hik
   unfold relStep at hst
   simp only [ho] at hst
   have hs := hst vs w I.bel fun j hj => I.rel j (by have := (hdep j hj).2; omega) (hdep j hj).1
   have he : execOp a.eval o = execOp (lexA ops a0 vs i).eval o := execOp_congr o (fun cs b => M.sel i o cs b ho) fun x hx => by
     cases x with
     | tmp t =>
       have := ag t (List.mem_append_left _ (List.mem_filterMap.2 ⟨.tmp t, by simpa using hx, rfl⟩))
       simp only [Act.eval, Array.getD_eq_getD_getElem?, this]
     | _ => rfl
   have hw : Region.wanted o (yielded ops a.tmps) = Region.wanted o (yielded ops (lexA ops a0 vs i).tmps) := by
     unfold Region.wanted
     cases hg : o.guard with
     | none => rfl
     | some gw =>
       obtain ⟨g, want⟩ := gw
       have hy : yielded ops a.tmps g = yielded ops (lexA ops a0 vs i).tmps g := by
         unfold yielded
         cases ht : (ops[g]?).bind (·.dst) with
         | none => rfl
         | some t =>
           have := ag t (by simp [Oper.looksAt, hg, ht])
           simp only [Option.bind_some, this]
       simp only [hy]
   have go : ∀ (v : Value) (w' : World), R i v w' → Below w.heap.size w w' → wpAny P .any ops Q fuel (listed.setIfInBounds i true) (a.put o.dst v) w' := by
     intro v w' hv hb
     have hd : slot ops i = o.dst := by unfold slot; rw [ho]; rfl
     refine ih _ _ _ (fun j => if j = i then v else vs j) (by simpa using hl) (by have := left_lt hio h0; omega) ⟨I.bel.trans (hb.mono I.bel.size), by rw [put_def, I.def_], by rw [put_size, I.size], ?_, ?_, ?_, ?_, ?_⟩
     · intro j hj hlj
       by_cases hji : j = i
       · subst hji; simpa using hv
       · rw [getD_set_ne true (Ne.symm hji)] at hlj
         simp only [if_neg hji]
         exact hR _ _ _ _ (I.rel j hj hlj) hb
     · intro j t hj hlj hsl
       by_cases hji : j = i
       · subst hji
         rw [hd] at hsl
         rw [hsl]
         simp only [if_true]
         exact put_at _ _ _ (by rw [I.size, hN]; exact M.room j t hik (by rw [hd]; exact hsl))
       · rw [getD_set_ne true (Ne.symm hji)] at hlj
         simp only [if_neg hji]
         have hjk : j < k := by
           rcases Nat.lt_or_ge j k with h | h
           · exact h
           · rw [I.later j h hj] at hlj; cases hlj
         rw [put_ne _ _ _ _ (fun e => hji (M.apart j i t hjk hik hsl (by rw [hd]; exact e)))]
         exact I.at_ j t hj hlj hsl
     · intro t ht
       have hti := ht i hio (by simp [Array.getD, hl, hio])
       rw [put_ne _ _ _ _ (by rw [← hd]; exact hti)]
       refine I.other t fun j hj hlj => ?_
       by_cases hji : j = i
       · subst hji; exact hti
       · exact ht j hj (by rw [getD_set_ne true (Ne.symm hji)]; exact hlj)
     · intro j hkj hj
       rw [getD_set_ne true (by omega)]
       exact I.later j hkj hj
     · intro a b c ha hb hw
       have key : listed.getD c true = true := by
         by_cases hai : a = i
         · subst hai
           rw [ho] at hb
           obtain rfl := Option.some.inj hb
           exact (hdep c hw).1
         · rw [getD_set_ne true (Ne.symm hai)] at ha
           exact I.closed a b c ha hb hw
       by_cases hci : c = i
       · subst hci; simp [Array.getD, hl, hio]
       · rw [getD_set_ne true (Ne.symm hci)]; exact key
   unfold wpOp
   simp only [ho]
   rw [hw]
   split
   · rename_i hwt
     rw [if_pos hwt] at hs
     refine .inl ?_
     unfold Oper.wp
     rw [he]
     generalize (execOp (lexA ops a0 vs i).eval o).run P w = r at hs
     cases r with
     | ok n w' =>
       cases n <;> simp only [relUpon] at hs <;> simp only [Oper.upon]
       case value u => exact go u w' hs.1 hs.2
       case skip => exact go undef w' hs.1 hs.2
       case enter f args => exact hs.mono fun e w'' ⟨v, he, hv, hb⟩ => by subst he; exact go v w'' hv hb
     | halt x w' => simp only [relUpon] at hs
   · rename_i hwt
     rw [if_neg hwt] at hs
     exact go undef w hs (Below.refl _ _)
def relSeeK (P : Program) (ops : Array Oper) (k : Nat) (R : Nat → Value → World → Prop) (w0 : World) (a0 : Act) (i : Nat) : Prop :=
 match ops[i]? with
 | none => True
 | some o => ∀ (ρ : Operand → Value) (w : World), Below w0.heap.size w0 w → (∀ v, ρ (.const v) = v) → (∀ g, ρ (.global g) = .pointer (some ⟨g, 0, none⟩)) → (∀ f, ρ (.func f) = .func (.func f) #[] #[]) →
   (∀ t, ((List.range k).all fun j => !(slot ops j == some t)) = true → ρ (.tmp t) = a0.tmps.getD t undef) →
   (∀ j t, waits o j = true → slot ops j = some t → R j (ρ (.tmp t)) w) → relUpon P (R i) w ((execOp ρ o).run P w)
def freeBk (ops : Array Oper) (k : Nat) : Bool := (List.range k).all fun i => match ops[i]? with | some o => o.guard.isNone | none => true
theorem relStep_of_seeK {N k i : Nat} (M : MadeK ops N k) (hik : i < k) (hN : a0.tmps.size = N) (hF : freeBk ops k = true) (hs : relSeeK P ops k R w0 a0 i) : relStep P ops R w0 a0 i := by
 unfold relSeeK at hs
 unfold relStep
 cases ho : ops[i]? with
 | none => trivial
 | some o =>
   rw [ho] at hs
   simp only at hs ⊢
   intro vs w hb hd
   have hg : o.guard = none := by
     unfold freeBk at hF
     have := List.all_eq_true.1 hF i (List.mem_range.2 hik)
     rw [ho] at this
     cases hgo : o.guard with
     | none => rfl
     | some g => simp only [hgo] at this; cases this
   rw [if_pos (by unfold Region.wanted; rw [hg])]
   refine hs (lexA ops a0 vs i).eval w hb (fun _ => rfl) (fun _ => rfl) (fun _ => rfl) (fun t ht => ?_) (fun j t hw hj => ?_)
   · have h' : ∀ j, j < k → slot ops j ≠ some t := fun j hjk hj => by
       rw [List.all_eq_true] at ht
       have := ht j (List.mem_range.2 hjk)
       rw [hj] at this
       simp at this
     simp only [Act.eval, Array.getD_eq_getD_getElem?, lexA_before vs t i fun j hj => h' j (by omega)]
   · have hlt : j < i := by
       unfold waits at hw
       obtain ⟨n, hn, hb⟩ := Array.any_eq_true.1 hw
       simp only [Bool.and_eq_true, beq_iff_eq] at hb
       rw [← hb.2]
       exact M.elder i o hik ho _ (Array.getElem_mem hn) hb.1
     have : (lexA ops a0 vs i).eval (.tmp t) = vs j := by
       simp only [Act.eval, Array.getD_eq_getD_getElem?, lexA_atK M hN vs t j hj i (by omega) hlt]
       rfl
     rw [this]
     exact hd j hw
theorem wp_region_seeK {id : Nat} {Q : Exit → Act → World → Prop} (k N : Nat) (R : Nat → Value → World → Prop) (hN : a0.tmps.size = N) (hm : P.follows .mixedOrders = true) (hB : relBk ops N k = true) (hTB : tailB ops k = true) (hF : freeBk ops k = true) (hR : ∀ i v w w', R i v w → Below w.heap.size w w' → R i v w')
   (step : ∀ i ∈ List.range k, relSeeK P ops k R w0 a0 i)
   (fin : ∀ vs w, Below w0.heap.size w0 w → (∀ j, j < k → R j (vs j) w) → wpList P ops Q (ops.toList.drop k) (lexA ops a0 vs k) w) : (Code.region id ops true).wp P Q a0 w0 := by
 have M := madeK_of hB
 simp only [tailB, Bool.and_eq_true, decide_eq_true_eq] at hTB
 obtain ⟨⟨⟨hk, hT⟩, hleft⟩, hseq⟩ := hTB
 refine wp_region_any hm ?_
 refine run_anyK (k := k) M hN hk (fun j o hkj ho i hi => ?_) hleft hseq hR (fun i hi => relStep_of_seeK M hi hN hF (step i (List.mem_range.2 hi))) fin ops.size _ a0 _ (fun _ => undef) (by simp) ?_ ⟨(Below.refl _ w0).drew, rfl, rfl, ?_, ?_, fun _ _ => rfl, ?_, ?_⟩
 · have h1 := List.all_eq_true.1 hT j (List.mem_range.2 (Array.getElem?_eq_some_iff.1 ho).1)
   simp only [Bool.or_eq_true, decide_eq_true_eq, List.all_eq_true] at h1
   rcases h1 with h1 | h1
   · omega
   · exact h1 i (List.mem_range.2 hi)
 · exact Nat.le_trans List.countP_le_length (by simp)
 · intro i hi hl; simp [Array.getD, hi] at hl
 · intro i t hi hl; simp [Array.getD, hi] at hl
 · intro j _ hj; simp [Array.getD, hj]
 · intro i o j hl ho hw
   have hi := (Array.getElem?_eq_some_iff.1 ho).1
   simp [Array.getD, hi] at hl
end
end Go.Proofs.YtpmnmnflaijaaaaGreat.RelK
namespace Go.Proofs.YtpmnmnflaijaaaaGreat.RelL
open Go.RowKit Rel RelT
set_option linter.unusedVariables false
section
variable {P : Program} {ops : Array Oper} {w0 : World} {a0 : Act} {R : Nat → Value → World → Prop}
def markF (ops : Array Oper) (k f : Nat) : Array Bool := (RelT.mark ops k).setIfInBounds f false
def lateB (ops : Array Oper) (k f : Nat) : Bool :=
 decide (k < ops.size) && decide (f < k) &&
   (List.range ops.size).all (fun j => decide (j < k) || (List.range k).all fun i => (decide (j = k) && decide (i = f)) || reach ops ops.size j i) &&
   decide (left ops (RelT.mark ops k) = ops.size - k) && Region.seqB .any ops (ops.size - k) k (RelT.mark ops k) &&
   decide (left ops (markF ops k f) = ops.size - k + 1) &&
   decide (Region.ready .any ops ((markF ops k f).setIfInBounds k true) = [f]) &&
   Region.seqB .any ops (ops.size - k - 1) (k + 1) (((markF ops k f).setIfInBounds k true).setIfInBounds f true)
def tailF (ops : Array Oper) (k f : Nat) : List Oper := (ops.toList.drop k).take 1 ++ ((ops.toList.drop f).take 1 ++ ops.toList.drop (k + 1))
theorem run_anyL {N k f : Nat} {Q : Exit → Act → World → Prop} (M : Made ops N) (hN : a0.tmps.size = N) (hk : k < ops.size) (hfk : f < k) (hT : ∀ (j : Nat) (o : Oper), k ≤ j → ops[j]? = some o → ∀ i, i < k → (j = k ∧ i = f) ∨ reach ops ops.size j i = true)
   (hleft : left ops (RelT.mark ops k) = ops.size - k) (hseq : Region.seqB .any ops (ops.size - k) k (RelT.mark ops k) = true)
   (hleftF : left ops (markF ops k f) = ops.size - k + 1) (hrdy : Region.ready .any ops ((markF ops k f).setIfInBounds k true) = [f])
   (hseqF : Region.seqB .any ops (ops.size - k - 1) (k + 1) (((markF ops k f).setIfInBounds k true).setIfInBounds f true) = true)
   (hR : ∀ i v w w', R i v w → Below w.heap.size w w' → R i v w') (step : ∀ i, i < k → relStep P ops R w0 a0 i)
   (fin : ∀ vs w, Below w0.heap.size w0 w → (∀ j, j < k → R j (vs j) w) → wpList P ops Q (ops.toList.drop k) (lexA ops a0 vs k) w)
   (fin2 : ∀ vs w, Below w0.heap.size w0 w → (∀ j, j < k → j ≠ f → R j (vs j) w) → wpList P ops Q (tailF ops k f) (lexA ops a0 vs k) w) :
   ∀ (fuel : Nat) (listed : Array Bool) (a : Act) (w : World) (vs : Nat → Value), listed.size = ops.size → left ops listed ≤ fuel → InvT ops R w0 a0 k listed a w vs → wpAny P .any ops Q fuel listed a w := by
 have done : ∀ (fuel : Nat) (listed : Array Bool) (a : Act) (w : World) (vs : Nat → Value), listed.size = ops.size → left ops listed ≤ fuel → (∀ i, i < k → listed.getD i true = true) → InvT ops R w0 a0 k listed a w vs → wpAny P .any ops Q fuel listed a w := by
   intro fuel listed a w vs hl hf all I
   have hm : listed = RelT.mark ops k := by
     unfold RelT.mark
     apply Array.ext
     · rw [hl]; simp; omega
     · intro i hi1 hi2
       rcases Nat.lt_or_ge i k with hlt | hge
       · have := all i hlt
         rw [Array.getElem_append_left (by simpa using hlt)]
         simpa [hi1] using this
       · have := I.later i hge (by omega)
         rw [Array.getElem_append_right (by simpa using hge)]
         simpa [hi1] using this
   have ha : a = lexA ops a0 vs k := by
     have ht : a.tmps = (lexA ops a0 vs k).tmps := by
       apply Array.ext_getElem?
       intro t
       by_cases h : ∃ j, j < k ∧ slot ops j = some t
       · obtain ⟨j, hjk, hj⟩ := h
         rw [I.at_ j t (slot_lt hj) (all j hjk) hj, lexA_at M hN vs t j hj _ hjk]
       · have h' : ∀ j, j < k → slot ops j ≠ some t := fun j hjk hj => h ⟨j, hjk, hj⟩
         rw [lexA_before vs t k h', I.other t fun j hj hlj => ?_]
         rcases Nat.lt_or_ge j k with hlt | hge
         · exact h' j hlt
         · rw [I.later j hge hj] at hlj; cases hlj
     have hd : a.defers = (lexA ops a0 vs k).defers := by rw [I.def_, lexA_def]
     cases a
     cases hx : lexA ops a0 vs k
     rw [hx] at ht hd
     simp only at ht hd
     rw [ht, hd]
   rw [ha]
   have h := fin vs w I.bel fun j hj => I.rel j (by omega) (all j hj)
   rw [hm] at hf ⊢
   rw [hleft] at hf
   have hlen : (ops.toList.drop k).length = ops.size - k := by simp
   have := seq_more (P := P) (md := .any) (Q := Q) (ops := ops) (ops.toList.drop k) k (fuel - (ops.size - k)) (RelT.mark ops k) (lexA ops a0 vs k) w (fun j => by simp) (by rw [hlen]; exact hseq) h
   rw [hlen, show ops.size - k + (fuel - (ops.size - k)) = fuel by omega] at this
   exact this
 have late : ∀ (fuel : Nat) (listed : Array Bool) (a : Act) (w : World) (vs : Nat → Value), listed.size = ops.size → left ops listed ≤ fuel + 1 → InvT ops R w0 a0 k listed a w vs → (¬ ∀ i, i < k → listed.getD i true = true) →
     ∀ i ∈ Region.ready .any ops listed, ¬ i < k → wpOp P ops Q i (wpAny P .any ops Q fuel (listed.setIfInBounds i true)) a w := by
   intro fuel listed a w vs hl hf I all i hi hik
   obtain ⟨h0, o, ho, hall⟩ := mem_ready.1 hi
   have hio := (Array.getElem?_eq_some_iff.1 ho).1
   have hdep : ∀ j, waits o j = true → listed.getD j true = true ∧ j < i := fun j hj => by
     unfold waits at hj
     obtain ⟨n, hn, hb⟩ := Array.any_eq_true.1 hj
     have he : o.after[n] ∈ o.after := Array.getElem_mem hn
     generalize o.after[n] = e at hb he
     simp only [Bool.and_eq_true, beq_iff_eq] at hb
     obtain ⟨hb, rfl⟩ := hb
     have h1 := hall e he hb
     have h2 := M.elder i o ho e he hb
     have h3 : e.on < listed.size := by omega
     simp [Array.getD, h3] at h1 ⊢
     exact ⟨h1, h2⟩
   have others : ∀ i0, i0 < k → listed.getD i0 true = false → i = k ∧ i0 = f := fun i0 hi0k hi0f => by
     rcases hT i o (by omega) ho i0 hi0k with h | h
     · exact h
     · have := reach_listed I.closed ops.size i i0 h fun o' m ho' hw => by
         rw [ho] at ho'
         obtain rfl := Option.some.inj ho'
         exact (hdep m hw).1
       rw [hi0f] at this
       cases this
   obtain ⟨i0, hi0⟩ := Classical.not_forall.1 all
   obtain ⟨hi0k, hi0⟩ := Classical.not_imp.1 hi0
   have hi0f : listed.getD i0 true = false := by simpa using hi0
   obtain ⟨rfl, rfl⟩ := others i0 hi0k hi0f
   have rest : ∀ j, j < i → j ≠ i0 → listed.getD j true = true := fun j hj hne => by
     cases h : listed.getD j true
     · exact absurd (others j hj h).2 hne
     · rfl
   have hm : listed = markF ops i i0 := by
     unfold markF RelT.mark
     apply Array.ext
     · rw [hl]; simp; omega
     · intro j hj1 hj2
       by_cases hj0 : j = i0
       · subst hj0
         rw [Array.getElem_setIfInBounds_self]
         simpa [hj1] using hi0f
       · rw [Array.getElem_setIfInBounds_ne (h := fun e => hj0 e.symm)]
         rcases Nat.lt_or_ge j i with hlt | hge
         · have := rest j hlt hj0
           rw [Array.getElem_append_left (by simpa using hlt)]
           simpa [hj1] using this
         · have := I.later j hge (by omega)
           rw [Array.getElem_append_right (by simpa using hge)]
           simpa [hj1] using this
         all_goals (simp; omega)
   obtain ⟨vs', hvs⟩ : ∃ vs' : Nat → Value, vs' = fun j => if j = i0 then (match slot ops i0 with | none => undef | some t => a0.tmps.getD t undef) else vs j := ⟨_, rfl⟩
   have ha : a = lexA ops a0 vs' i := by
     have ht : a.tmps = (lexA ops a0 vs' i).tmps := by
       apply Array.ext_getElem?
       intro t
       by_cases h : ∃ j, j < i ∧ slot ops j = some t
       · obtain ⟨j, hjk, hj⟩ := h
         rw [lexA_at M hN vs' t j hj _ hjk]
         by_cases hj0 : j = i0
         · subst hj0
           rw [I.other t fun m hm hlm e => ?_]
           · have htN := M.room j t hj
             rw [hvs]
             simp only [if_true, hj]
             rw [Array.getD_eq_getD_getElem?, Array.getElem?_eq_getElem (show t < a0.tmps.size by rw [hN]; exact htN)]
             rfl
           · have := M.apart m j t e hj
             subst this
             rw [hi0f] at hlm; cases hlm
         · rw [I.at_ j t (slot_lt hj) (rest j hjk hj0) hj, hvs]
           simp only [if_neg hj0]
       · have h' : ∀ j, j < i → slot ops j ≠ some t := fun j hjk hj => h ⟨j, hjk, hj⟩
         rw [lexA_before vs' t i h', I.other t fun j hj hlj => ?_]
         rcases Nat.lt_or_ge j i with hlt | hge
         · exact h' j hlt
         · rw [I.later j hge hj] at hlj; cases hlj
     have hd : a.defers = (lexA ops a0 vs' i).defers := by rw [I.def_, lexA_def]
     cases a
     cases hx : lexA ops a0 vs' i
     rw [hx] at ht hd
     simp only at ht hd
     rw [ht, hd]
   have hfin := fin2 vs' w I.bel fun j hj hne => by
     rw [hvs]
     simp only [if_neg hne]
     exact I.rel j (by omega) (rest j hj hne)
   have hof : i0 < ops.size := by omega
   have e1 : (ops.toList.drop i).take 1 = [o] := by
     rw [List.drop_eq_getElem_cons (by simpa using hio)]
     have : ops.toList[i]'(by simpa using hio) = o := by
       rw [Array.getElem_toList]
       exact (Array.getElem?_eq_some_iff.1 ho).2
     rw [this]; rfl
   have e2 : (ops.toList.drop i0).take 1 = [ops[i0]] := by
     rw [List.drop_eq_getElem_cons (by simpa using hof)]
     rw [Array.getElem_toList]; rfl
   unfold tailF at hfin
   rw [e1, e2] at hfin
   rw [ha]
   have h0f : ops[i0]? = some ops[i0] := Array.getElem?_eq_getElem hof
   have hw1 : wpOp P ops Q i (wpList P ops Q (ops[i0] :: ops.toList.drop (i + 1))) (lexA ops a0 vs' i) w := by unfold wpOp; simp only [ho]; exact hfin
   refine wpOp_mono (fun a' w' h' => ?_) hw1
   rw [hm] at hf ⊢
   rw [hleftF] at hf
   obtain ⟨x, hx⟩ : ∃ x, fuel = (ops.toList.drop (i + 1)).length + x + 1 := ⟨fuel - (ops.size - i), by simp; omega⟩
   rw [hx]
   refine ⟨fun h1 => (by rw [hrdy] at h1; cases h1), fun m hmr => ?_⟩
   rw [hrdy] at hmr
   obtain rfl : m = i0 := by simpa using hmr
   have hw2 : wpOp P ops Q m (wpList P ops Q (ops.toList.drop (i + 1))) a' w' := by unfold wpOp; simp only [h0f]; exact h'
   refine wpOp_mono (fun a'' w'' h'' => ?_) hw2
   exact seq_more (ops.toList.drop (i + 1)) (i + 1) x _ a'' w'' (fun j => by simp) (by rw [show (ops.toList.drop (i + 1)).length = ops.size - i - 1 by simp; omega]; exact hseqF) h''
 intro fuel
 induction fuel with
 | zero =>
   intro listed a w vs hl hf I
   refine done 0 listed a w vs hl hf (fun i hi => ?_) I
   cases h : listed.getD i true
   · have := left_lt (ops := ops) (listed := listed) (i := i) (by omega) h
     omega
   · rfl
 | succ fuel ih =>
   intro listed a w vs hl hf I
   by_cases all : ∀ i, i < k → listed.getD i true = true
   · exact done (fuel + 1) listed a w vs hl hf all I
   obtain ⟨i0, hi0⟩ := Classical.not_forall.1 all
   obtain ⟨hi0k, hi0⟩ := Classical.not_imp.1 hi0
   have hi0f : listed.getD i0 true = false := by simpa using hi0
   refine ⟨fun hr => absurd hr (some_ready M hl i0 (by omega) hi0f), fun i hi => ?_⟩
   obtain ⟨h0, o, ho, hall⟩ := mem_ready.1 hi
   have hio := (Array.getElem?_eq_some_iff.1 ho).1
   have hdep : ∀ j, waits o j = true → listed.getD j true = true ∧ j < i := fun j hj => by
     unfold waits at hj
     obtain ⟨n, hn, hb⟩ := Array.any_eq_true.1 hj
     have he : o.after[n] ∈ o.after := Array.getElem_mem hn
     generalize o.after[n] = e at hb he
     simp only [Bool.and_eq_true, beq_iff_eq] at hb
     obtain ⟨hb, rfl⟩ := hb
     have h1 := hall e he hb
     have h2 := M.elder i o ho e he hb
     have h3 : e.on < listed.size := by omega
     simp [Array.getD, h3] at h1 ⊢
     exact ⟨h1, h2⟩
   by_cases hik : i < k
   rotate_left
   · exact late fuel listed a w vs hl hf I all i hi hik
   have ag := fun t ht => agreeT M hN I ho hdep t ht
   have hst := step i hik
   unfold relStep at hst
   simp only [ho] at hst
   have hs := hst vs w I.bel fun j hj => I.rel j (by have := (hdep j hj).2; omega) (hdep j hj).1
   have he : execOp a.eval o = execOp (lexA ops a0 vs i).eval o := execOp_congr o (fun cs b => M.sel i o cs b ho) fun x hx => by
     cases x with
     | tmp t =>
       have := ag t (List.mem_append_left _ (List.mem_filterMap.2 ⟨.tmp t, by simpa using hx, rfl⟩))
       simp only [Act.eval, Array.getD_eq_getD_getElem?, this]
     | _ => rfl
   have hw : Region.wanted o (yielded ops a.tmps) = Region.wanted o (yielded ops (lexA ops a0 vs i).tmps) := by
     unfold Region.wanted
     cases hg : o.guard with
     | none => rfl
     | some gw =>
       obtain ⟨g, want⟩ := gw
       have hy : yielded ops a.tmps g = yielded ops (lexA ops a0 vs i).tmps g := by
         unfold yielded
         cases ht : (ops[g]?).bind (·.dst) with
         | none => rfl
         | some t =>
           have := ag t (by simp [Oper.looksAt, hg, ht])
           simp only [Option.bind_some, this]
       simp only [hy]
   have go : ∀ (v : Value) (w' : World), R i v w' → Below w.heap.size w w' → wpAny P .any ops Q fuel (listed.setIfInBounds i true) (a.put o.dst v) w' := by
     intro v w' hv hb
     have hd : slot ops i = o.dst := by unfold slot; rw [ho]; rfl
     refine ih _ _ _ (fun j => if j = i then v else vs j) (by simpa using hl) (by have := left_lt hio h0; omega) ⟨I.bel.trans (hb.mono I.bel.size), by rw [put_def, I.def_], by rw [put_size, I.size], ?_, ?_, ?_, ?_, ?_⟩
     · intro j hj hlj
       by_cases hji : j = i
       · subst hji; simpa using hv
       · rw [getD_set_ne true (Ne.symm hji)] at hlj
         simp only [if_neg hji]
         exact hR _ _ _ _ (I.rel j hj hlj) hb
     · intro j t hj hlj hsl
       by_cases hji : j = i
       · subst hji
         rw [hd] at hsl
         rw [hsl]
         simp only [if_true]
         exact put_at _ _ _ (by rw [I.size, hN]; exact M.room j t (by rw [hd]; exact hsl))
       · rw [getD_set_ne true (Ne.symm hji)] at hlj
         simp only [if_neg hji]
         rw [put_ne _ _ _ _ (fun e => hji (M.apart j i t hsl (by rw [hd]; exact e)))]
         exact I.at_ j t hj hlj hsl
     · intro t ht
       have hti := ht i hio (by simp [Array.getD, hl, hio])
       rw [put_ne _ _ _ _ (by rw [← hd]; exact hti)]
       refine I.other t fun j hj hlj => ?_
       by_cases hji : j = i
       · subst hji; exact hti
       · exact ht j hj (by rw [getD_set_ne true (Ne.symm hji)]; exact hlj)
     · intro j hkj hj
       rw [getD_set_ne true (by omega)]
       exact I.later j hkj hj
     · intro a b c ha hb hw
       have key : listed.getD c true = true := by
         by_cases hai : a = i
         · subst hai
           rw [ho] at hb
           obtain rfl := Option.some.inj hb
           exact (hdep c hw).1
         · rw [getD_set_ne true (Ne.symm hai)] at ha
           exact I.closed a b c ha hb hw
       by_cases hci : c = i
       · subst hci; simp [Array.getD, hl, hio]
       · rw [getD_set_ne true (Ne.symm hci)]; exact key
   unfold wpOp
   simp only [ho]
   rw [hw]
   split
   · rename_i hwt
     rw [if_pos hwt] at hs
     refine .inl ?_
     unfold Oper.wp
     rw [he]
     generalize (execOp (lexA ops a0 vs i).eval o).run P w = r at hs
     cases r with
     | ok n w' =>
       cases n <;> simp only [relUpon] at hs <;> simp only [Oper.upon]
       case value u => exact go u w' hs.1 hs.2
       case skip => exact go undef w' hs.1 hs.2
       case enter f args => exact hs.mono fun e w'' ⟨v, he, hv, hb⟩ => by subst he; exact go v w'' hv hb
     | halt x w' => simp only [relUpon] at hs
   · rename_i hwt
     rw [if_neg hwt] at hs
     exact go undef w hs (Below.refl _ _)
theorem wp_region_see_late {id : Nat} {Q : Exit → Act → World → Prop} (k f N : Nat) (R : Nat → Value → World → Prop) (hN : a0.tmps.size = N) (hm : P.follows .mixedOrders = true) (hB : relB ops N = true) (hTB : lateB ops k f = true) (hF : freeB ops = true) (hR : ∀ i v w w', R i v w → Below w.heap.size w w' → R i v w')
   (step : ∀ i ∈ List.range k, relSee P ops R w0 a0 i)
   (fin : ∀ vs w, Below w0.heap.size w0 w → (∀ j, j < k → R j (vs j) w) → wpList P ops Q (ops.toList.drop k) (lexA ops a0 vs k) w)
   (fin2 : ∀ vs w, Below w0.heap.size w0 w → (∀ j, j < k → j ≠ f → R j (vs j) w) → wpList P ops Q (tailF ops k f) (lexA ops a0 vs k) w) : (Code.region id ops true).wp P Q a0 w0 := by
 have M := made_of hB
 simp only [lateB, Bool.and_eq_true, decide_eq_true_eq] at hTB
 obtain ⟨⟨⟨⟨⟨⟨⟨hk, hfk⟩, hT⟩, hleft⟩, hseq⟩, hleftF⟩, hrdy⟩, hseqF⟩ := hTB
 refine wp_region_any hm ?_
 refine run_anyL (k := k) (f := f) M hN hk hfk (fun j o hkj ho i hi => ?_) hleft hseq hleftF hrdy hseqF hR (fun i hi => relStep_of_see M hN hF (step i (List.mem_range.2 hi))) fin fin2 ops.size _ a0 _ (fun _ => undef) (by simp) ?_ ⟨(Below.refl _ w0).drew, rfl, rfl, ?_, ?_, fun _ _ => rfl, ?_, ?_⟩
 · have h1 := List.all_eq_true.1 hT j (List.mem_range.2 (Array.getElem?_eq_some_iff.1 ho).1)
   simp only [Bool.or_eq_true, decide_eq_true_eq, List.all_eq_true] at h1
   rcases h1 with h1 | h1
   · omega
   · have h2 := h1 i (List.mem_range.2 hi)
     simp only [Bool.and_eq_true, decide_eq_true_eq] at h2
     exact h2
 · exact Nat.le_trans List.countP_le_length (by simp)
 · intro i hi hl; simp [Array.getD, hi] at hl
 · intro i t hi hl; simp [Array.getD, hi] at hl
 · intro j _ hj; simp [Array.getD, hj]
 · intro i o j hl ho hw
   have hi := (Array.getElem?_eq_some_iff.1 ho).1
   simp [Array.getD, hi] at hl
end
end Go.Proofs.YtpmnmnflaijaaaaGreat.RelL
