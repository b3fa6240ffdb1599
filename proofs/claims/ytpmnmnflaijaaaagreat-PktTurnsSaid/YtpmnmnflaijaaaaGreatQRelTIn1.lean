/-
  Laws for a proof of package pkt: 1 texts in one.
-/
import Derived.Test.YtpmnmnflaijaaaaGreatQRelL3
import Derived.Test.YtpmnmnflaijaaaaGreatQRelIn1
namespace Go.Proofs.YtpmnmnflaijaaaaGreat.RelTIn
open Go.RowKit Rel RelT RelIn
set_option linter.unusedVariables false
section
variable {P : Program} {ops : Array Oper} {w0 : World} {a0 : Act} {R : Nat → Value → World → Prop}
theorem seq_moreIn {l₀ n₀ : Nat} {md : Region.Mode} {Q : Exit → Act → World → Prop} : ∀ (l : List Oper) (k x : Nat) (listed : Array Bool) (a : Act) (w : World), (∀ j, l[j]? = ops[k + j]?) →
   Region.seqB md ops l.length k listed = true → wpListIn (Fence.wide.inRound l₀) n₀ P ops Q l a w → wpAnyIn (Fence.wide.inRound l₀) n₀ P md ops Q (l.length + x) listed a w
 | [], k, x, listed, a, w, _, hB, h => by
   have h0 : Region.ready md ops listed = [] := by simpa [Region.seqB] using hB
   cases x with
   | zero => exact ⟨h0, h⟩
   | succ x => exact ⟨fun _ => h, fun i hi => by rw [h0] at hi; cases hi⟩
 | o :: l, k, x, listed, a, w, hl, hB, h => by
   have h0 : ops[k]? = some o := by simpa using (hl 0).symm
   simp only [List.length_cons, Region.seqB, Bool.and_eq_true, decide_eq_true_eq] at hB
   rw [show (o :: l).length + x = (l.length + x) + 1 by simp only [List.length_cons]; omega]
   refine ⟨fun h1 => (by rw [hB.1] at h1; cases h1), fun i hi => ?_⟩
   rw [hB.1] at hi
   obtain rfl : i = k := by simpa using hi
   have hw : wpOpIn (Fence.wide.inRound l₀) n₀ P ops Q i (wpListIn (Fence.wide.inRound l₀) n₀ P ops Q l) a w := by unfold wpOpIn; simp only [h0]; exact h
   exact wpOpIn_mono (fun a' w' h' => seq_moreIn l (i + 1) x _ a' w' (fun j => by have := hl (j + 1); simpa [Nat.add_assoc, Nat.add_comm 1 j] using this) hB.2 h') hw
theorem run_anyTIn {l₀ n₀ N k : Nat} {Q : Exit → Act → World → Prop} (M : Made ops N) (hD : noDefer ops = true) (hN : a0.tmps.size = N) (hk : k ≤ ops.size) (hT : ∀ (j : Nat) (o : Oper), k ≤ j → ops[j]? = some o → ∀ i, i < k → reach ops ops.size j i = true)
   (hleft : left ops (RelT.mark ops k) = ops.size - k) (hseq : Region.seqB .any ops (ops.size - k) k (RelT.mark ops k) = true)
   (hR : ∀ i v w w', R i v w → Below w.heap.size w w' → R i v w') (step : ∀ i, i < k → relStep P ops R w0 a0 i)
   (fin : ∀ vs w, Below w0.heap.size w0 w → (∀ j, j < k → R j (vs j) w) → wpListIn (Fence.wide.inRound l₀) n₀ P ops Q (ops.toList.drop k) (lexA ops a0 vs k) w) :
   ∀ (fuel : Nat) (listed : Array Bool) (a : Act) (w : World) (vs : Nat → Value), listed.size = ops.size → left ops listed ≤ fuel → InvT ops R w0 a0 k listed a w vs → wpAnyIn (Fence.wide.inRound l₀) n₀ P .any ops Q fuel listed a w := by
 have done : ∀ (fuel : Nat) (listed : Array Bool) (a : Act) (w : World) (vs : Nat → Value), listed.size = ops.size → left ops listed ≤ fuel → (∀ i, i < k → listed.getD i true = true) → InvT ops R w0 a0 k listed a w vs → wpAnyIn (Fence.wide.inRound l₀) n₀ P .any ops Q fuel listed a w := by
   intro fuel listed a w vs hl hf all I
   have hm : listed = RelT.mark ops k := by
     unfold RelT.mark
     apply Array.ext
     · rw [hl]; simp; omega
     · intro i hi1 hi2
       rcases Nat.lt_or_ge i k with hlt | hge
       · have := all i hlt
         rw [Array.getElem_append_left (by simpa using hlt)]
         simpa [hi1] using this
       · have := I.later i hge (by omega)
         rw [Array.getElem_append_right (by simpa using hge)]
         simpa [hi1] using this
   have ha : a = lexA ops a0 vs k := by
     have ht : a.tmps = (lexA ops a0 vs k).tmps := by
       apply Array.ext_getElem?
       intro t
       by_cases h : ∃ j, j < k ∧ slot ops j = some t
       · obtain ⟨j, hjk, hj⟩ := h
         rw [I.at_ j t (slot_lt hj) (all j hjk) hj, lexA_at M hN vs t j hj _ hjk]
       · have h' : ∀ j, j < k → slot ops j ≠ some t := fun j hjk hj => h ⟨j, hjk, hj⟩
         rw [lexA_before vs t k h', I.other t fun j hj hlj => ?_]
         rcases Nat.lt_or_ge j k with hlt | hge
         · exact h' j hlt
         · rw [I.later j hge hj] at hlj; cases hlj
     have hd : a.defers = (lexA ops a0 vs k).defers := by rw [I.def_, lexA_def]
     cases a
     cases hx : lexA ops a0 vs k
     rw [hx] at ht hd
     simp only at ht hd
     rw [ht, hd]
   rw [ha]
   have h := fin vs w I.bel fun j hj => I.rel j (by omega) (all j hj)
   rw [hm] at hf ⊢
   rw [hleft] at hf
   have hlen : (ops.toList.drop k).length = ops.size - k := by simp
   have := seq_moreIn (l₀ := l₀) (n₀ := n₀) (P := P) (md := .any) (Q := Q) (ops := ops) (ops.toList.drop k) k (fuel - (ops.size - k)) (RelT.mark ops k) (lexA ops a0 vs k) w (fun j => by simp) (by rw [hlen]; exact hseq) h
   rw [hlen, show ops.size - k + (fuel - (ops.size - k)) = fuel by omega] at this
   exact this
 intro fuel
 induction fuel with
 | zero =>
   intro listed a w vs hl hf I
   refine done 0 listed a w vs hl hf (fun i hi => ?_) I
   cases h : listed.getD i true
   · have := left_lt (ops := ops) (listed := listed) (i := i) (by omega) h
     omega
   · rfl
 | succ fuel ih =>
   intro listed a w vs hl hf I
   by_cases all : ∀ i, i < k → listed.getD i true = true
   · exact done (fuel + 1) listed a w vs hl hf all I
   obtain ⟨i0, hi0⟩ := Classical.not_forall.1 all
   obtain ⟨hi0k, hi0⟩ := Classical.not_imp.1 hi0
   have hi0f : listed.getD i0 true = false := by simpa using hi0
   refine ⟨fun hr => absurd hr (some_ready M hl i0 (by omega) hi0f), fun i hi => ?_⟩
   obtain ⟨h0, o, ho, hall⟩ := mem_ready.1 hi
   have hio := (Array.getElem?_eq_some_iff.1 ho).1
   have hdep : ∀ j, waits o j = true → listed.getD j true = true ∧ j < i := fun j hj => by
     unfold waits at hj
     obtain ⟨n, hn, hb⟩ := Array.any_eq_true.1 hj
     have he : o.after[n] ∈ o.after := Array.getElem_mem hn
     generalize o.after[n] = e at hb he
     simp only [Bool.and_eq_true, beq_iff_eq] at hb
     obtain ⟨hb, rfl⟩ := hb
     have h1 := hall e he hb
     have h2 := M.elder i o ho e he hb
     have h3 : e.on < listed.size := by omega
     simp [Array.getD, h3] at h1 ⊢
     exact ⟨h1, h2⟩
   have hik : i < k := by
     rcases Nat.lt_or_ge i k with h | h
     · exact h
     · have := reach_listed I.closed ops.size i i0 (hT i o h ho i0 hi0k) fun o' m ho' hw => by
         rw [ho] at ho'
         obtain rfl := Option.some.inj ho'
         exact (hdep m hw).1
       rw [hi0f] at this
       cases this
   have ag := fun t ht => agreeT M hN I ho hdep t ht
   have hst := step i hik
   unfold relStep at hst
   simp only [ho] at hst
   have hs := hst vs w I.bel fun j hj => I.rel j (by have := (hdep j hj).2; omega) (hdep j hj).1
   have he : execOp a.eval o = execOp (lexA ops a0 vs i).eval o := execOp_congr o (fun cs b => M.sel i o cs b ho) fun x hx => by
     cases x with
     | tmp t =>
       have := ag t (List.mem_append_left _ (List.mem_filterMap.2 ⟨.tmp t, by simpa using hx, rfl⟩))
       simp only [Act.eval, Array.getD_eq_getD_getElem?, this]
     | _ => rfl
   have hw : Region.wanted o (yielded ops a.tmps) = Region.wanted o (yielded ops (lexA ops a0 vs i).tmps) := by
     unfold Region.wanted
     cases hg : o.guard with
     | none => rfl
     | some gw =>
       obtain ⟨g, want⟩ := gw
       have hy : yielded ops a.tmps g = yielded ops (lexA ops a0 vs i).tmps g := by
         unfold yielded
         cases ht : (ops[g]?).bind (·.dst) with
         | none => rfl
         | some t =>
           have := ag t (by simp [Oper.looksAt, hg, ht])
           simp only [Option.bind_some, this]
       simp only [hy]
   have go : ∀ (v : Value) (w' : World), R i v w' → Below w.heap.size w w' → wpAnyIn (Fence.wide.inRound l₀) n₀ P .any ops Q fuel (listed.setIfInBounds i true) (a.put o.dst v) w' := by
     intro v w' hv hb
     have hd : slot ops i = o.dst := by unfold slot; rw [ho]; rfl
     refine ih _ _ _ (fun j => if j = i then v else vs j) (by simpa using hl) (by have := left_lt hio h0; omega) ⟨I.bel.trans (hb.mono I.bel.size), by rw [put_def, I.def_], by rw [put_size, I.size], ?_, ?_, ?_, ?_, ?_⟩
     · intro j hj hlj
       by_cases hji : j = i
       · subst hji; simpa using hv
       · rw [getD_set_ne true (Ne.symm hji)] at hlj
         simp only [if_neg hji]
         exact hR _ _ _ _ (I.rel j hj hlj) hb
     · intro j t hj hlj hsl
       by_cases hji : j = i
       · subst hji
         rw [hd] at hsl
         rw [hsl]
         simp only [if_true]
         exact put_at _ _ _ (by rw [I.size, hN]; exact M.room j t (by rw [hd]; exact hsl))
       · rw [getD_set_ne true (Ne.symm hji)] at hlj
         simp only [if_neg hji]
         rw [put_ne _ _ _ _ (fun e => hji (M.apart j i t hsl (by rw [hd]; exact e)))]
         exact I.at_ j t hj hlj hsl
     · intro t ht
       have hti := ht i hio (by simp [Array.getD, hl, hio])
       rw [put_ne _ _ _ _ (by rw [← hd]; exact hti)]
       refine I.other t fun j hj hlj => ?_
       by_cases hji : j = i
       · subst hji; exact hti
       · exact ht j hj (by rw [getD_set_ne true (Ne.symm hji)]; exact hlj)
     · intro j hkj hj
       rw [getD_set_ne true (by omega)]
       exact I.later j hkj hj
     · intro a b c ha hb hw
       have key : listed.getD c true = true := by
         by_cases hai : a = i
         · subst hai
           rw [ho] at hb
           obtain rfl := Option.some.inj hb
           exact (hdep c hw).1
         · rw [getD_set_ne true (Ne.symm hai)] at ha
           exact I.closed a b c ha hb hw
       by_cases hci : c = i
       · subst hci; simp [Array.getD, hl, hio]
       · rw [getD_set_ne true (Ne.symm hci)]; exact key
   unfold wpOpIn
   simp only [ho]
   rw [hw]
   split
   · rename_i hwt
     rw [if_pos hwt] at hs
     unfold Oper.wpIn
     refine ⟨fun _ _ => trivial, ?_⟩
     rw [Fence.inRound_round, Oper.semAt_some l₀ a.eval o (fun c hc => by
       unfold noDefer at hD
       rw [Array.all_eq_true_iff_forall_mem] at hD
       have := hD o (Array.mem_of_getElem? ho)
       rw [hc] at this
       cases this), he]
     generalize (execOp (lexA ops a0 vs i).eval o).run P w = r at hs
     cases r with
     | ok nx w' =>
       cases nx <;> simp only [relUpon] at hs <;> simp only [Oper.uponIn]
       case value u => exact go u w' hs.1 hs.2
       case skip => exact go undef w' hs.1 hs.2
       case enter f args => exact ⟨fun h => (by cases h), CallsIn.inRound l₀ ((callsIn_wide.2 hs).mono fun e w'' ⟨v, he, hv, hb⟩ => by subst he; exact go v w'' hv hb)⟩
     | halt x w' => simp only [relUpon] at hs
   · rename_i hwt
     rw [if_neg hwt] at hs
     exact ⟨fun _ _ => trivial, go undef w hs (Below.refl _ _)⟩
theorem wpIn_region_see_tail {id l₀ n₀ : Nat} {Q : Exit → Act → World → Prop} (k N : Nat) (R : Nat → Value → World → Prop) (hN : a0.tmps.size = N) (hm : P.follows .mixedOrders = true) (hB : relB ops N = true) (hD : noDefer ops = true) (hTB : RelT.tailB ops k = true) (hF : freeB ops = true) (hR : ∀ i v w w', R i v w → Below w.heap.size w w' → R i v w')
   (step : ∀ i ∈ List.range k, relSee P ops R w0 a0 i)
   (fin : ∀ vs w, Below w0.heap.size w0 w → (∀ j, j < k → R j (vs j) w) → wpListIn (Fence.wide.inRound l₀) n₀ P ops Q (ops.toList.drop k) (lexA ops a0 vs k) w) : (Code.region id ops true).wpIn (Fence.wide.inRound l₀) n₀ P Q a0 w0 := by
 have M := made_of hB
 simp only [RelT.tailB, Bool.and_eq_true, decide_eq_true_eq] at hTB
 obtain ⟨⟨⟨hk, hT⟩, hleft⟩, hseq⟩ := hTB
 refine wpIn_region_any hm ?_
 refine run_anyTIn (k := k) M hD hN hk (fun j o hkj ho i hi => ?_) hleft hseq hR (fun i hi => relStep_of_see M hN hF (step i (List.mem_range.2 hi))) fin ops.size _ a0 _ (fun _ => undef) (by simp) ?_ ⟨(Below.refl _ w0).drew, rfl, rfl, ?_, ?_, fun _ _ => rfl, ?_, ?_⟩
 · have h1 := List.all_eq_true.1 hT j (List.mem_range.2 (Array.getElem?_eq_some_iff.1 ho).1)
   simp only [Bool.or_eq_true, decide_eq_true_eq, List.all_eq_true] at h1
   rcases h1 with h1 | h1
   · omega
   · exact h1 i (List.mem_range.2 hi)
 · exact Nat.le_trans List.countP_le_length (by simp)
 · intro i hi hl; simp [Array.getD, hi] at hl
 · intro i t hi hl; simp [Array.getD, hi] at hl
 · intro j _ hj; simp [Array.getD, hj]
 · intro i o j hl ho hw
   have hi := (Array.getElem?_eq_some_iff.1 ho).1
   simp [Array.getD, hi] at hl
end
end Go.Proofs.YtpmnmnflaijaaaaGreat.RelTIn
