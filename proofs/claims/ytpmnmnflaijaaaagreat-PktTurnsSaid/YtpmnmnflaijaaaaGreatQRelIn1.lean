/-
  Laws for a proof of package pkt: 1 texts in one.
-/
import Derived.Test.YtpmnmnflaijaaaaGreatQRelG2
import Derived.RangeFuncCalls
import Derived.TacticsIn
import Derived.OrdersIn
namespace Go.Proofs.YtpmnmnflaijaaaaGreat.RelIn
open Go.RowKit Rel
set_option linter.unusedVariables false
section
variable {P : Program} {ops : Array Oper} {w0 : World} {a0 : Act} {R : Nat → Value → World → Prop}
def noDefer (ops : Array Oper) : Bool := ops.all fun o => match o.op with | .defer _ => false | _ => true
theorem run_anyIn {N n l : Nat} {Q : Exit → Act → World → Prop} (M : Made ops N) (hD : noDefer ops = true) (hN : a0.tmps.size = N) (hR : ∀ i v w w', R i v w → Below w.heap.size w w' → R i v w') (step : ∀ i, relStep P ops R w0 a0 i)
   (fin : ∀ vs w, Below w0.heap.size w0 w → (∀ j, j < ops.size → R j (vs j) w) → Q .normal (lexA ops a0 vs ops.size) w) :
   ∀ (fuel : Nat) (listed : Array Bool) (a : Act) (w : World) (vs : Nat → Value), listed.size = ops.size → left ops listed ≤ fuel → Inv ops R w0 a0 listed a w vs → wpAnyIn (Fence.wide.inRound l) n P .any ops Q fuel listed a w := by
 have done : ∀ (listed : Array Bool) (a : Act) (w : World) (vs : Nat → Value), listed.size = ops.size → Region.ready .any ops listed = [] → Inv ops R w0 a0 listed a w vs → Q .normal a w := by
   intro listed a w vs hl hr I
   have all : ∀ i, i < ops.size → listed.getD i true = true := fun i hi => by
     cases h : listed.getD i true
     · exact absurd hr (some_ready M hl i hi h)
     · rfl
   have ha : a = lexA ops a0 vs ops.size := by
     have ht : a.tmps = (lexA ops a0 vs ops.size).tmps := by
       apply Array.ext_getElem?
       intro t
       by_cases h : ∃ j, slot ops j = some t
       · obtain ⟨j, hj⟩ := h
         have hjs : j < ops.size := by
           unfold slot at hj
           rcases Nat.lt_or_ge j ops.size with h' | h'
           · exact h'
           · rw [Array.getElem?_eq_none h'] at hj; cases hj
         rw [I.at_ j t hjs (all j hjs) hj, lexA_at M hN vs t j hj _ hjs]
       · have h' : ∀ j, slot ops j ≠ some t := fun j hj => h ⟨j, hj⟩
         rw [I.other t h', lexA_other vs t h']
     have hd : a.defers = (lexA ops a0 vs ops.size).defers := by rw [I.def_, lexA_def]
     cases a
     cases hx : lexA ops a0 vs ops.size
     rw [hx] at ht hd
     simp only at ht hd
     rw [ht, hd]
   rw [ha]
   exact fin vs w I.bel fun j hj => I.rel j hj (all j hj)
 intro fuel
 induction fuel with
 | zero =>
   intro listed a w vs hl hf I
   have hr : Region.ready .any ops listed = [] := by
     rcases hx : Region.ready .any ops listed with _ | ⟨i, r⟩
     · rfl
     · have hm : i ∈ Region.ready .any ops listed := by rw [hx]; exact List.mem_cons_self ..
       obtain ⟨h0, o, ho, _⟩ := mem_ready.1 hm
       have := left_lt (Array.getElem?_eq_some_iff.1 ho).1 h0
       omega
   exact ⟨hr, done listed a w vs hl hr I⟩
 | succ fuel ih =>
   intro listed a w vs hl hf I
   refine ⟨fun hr => done listed a w vs hl hr I, fun i hi => ?_⟩
   obtain ⟨h0, o, ho, hall⟩ := mem_ready.1 hi
   have hio := (Array.getElem?_eq_some_iff.1 ho).1
   have hdep : ∀ j, waits o j = true → listed.getD j true = true ∧ j < i := fun j hj => by
     unfold waits at hj
     obtain ⟨k, hk, hb⟩ := Array.any_eq_true.1 hj
     have he : o.after[k] ∈ o.after := Array.getElem_mem hk
     generalize o.after[k] = e at hb he
     simp only [Bool.and_eq_true, beq_iff_eq] at hb
     obtain ⟨hb, rfl⟩ := hb
     have h1 := hall e he hb
     have h2 := M.elder i o ho e he hb
     have h3 : e.on < listed.size := by omega
     simp [Array.getD, h3] at h1 ⊢
     exact ⟨h1, h2⟩
   have ag := fun t ht => agree M hN I ho hdep t ht
   have hst := step i
   unfold relStep at hst
   simp only [ho] at hst
   have hs := hst vs w I.bel fun j hj => I.rel j (by have := (hdep j hj).2; omega) (hdep j hj).1
   have he : execOp a.eval o = execOp (lexA ops a0 vs i).eval o := execOp_congr o (fun cs b => M.sel i o cs b ho) fun x hx => by
     cases x with
     | tmp t =>
       have := ag t (List.mem_append_left _ (List.mem_filterMap.2 ⟨.tmp t, by simpa using hx, rfl⟩))
       simp only [Act.eval, Array.getD_eq_getD_getElem?, this]
     | _ => rfl
   have hw : Region.wanted o (yielded ops a.tmps) = Region.wanted o (yielded ops (lexA ops a0 vs i).tmps) := by
     unfold Region.wanted
     cases hg : o.guard with
     | none => rfl
     | some gw =>
       obtain ⟨g, want⟩ := gw
       have hy : yielded ops a.tmps g = yielded ops (lexA ops a0 vs i).tmps g := by
         unfold yielded
         cases ht : (ops[g]?).bind (·.dst) with
         | none => rfl
         | some t =>
           have := ag t (by simp [Oper.looksAt, hg, ht])
           simp only [Option.bind_some, this]
       simp only [hy]
   -- behind the operation
   have go : ∀ (v : Value) (w' : World), R i v w' → Below w.heap.size w w' → wpAnyIn (Fence.wide.inRound l) n P .any ops Q fuel (listed.setIfInBounds i true) (a.put o.dst v) w' := by
     intro v w' hv hb
     have hd : slot ops i = o.dst := by unfold slot; rw [ho]; rfl
     refine ih _ _ _ (fun j => if j = i then v else vs j) (by simpa using hl) (by have := left_lt hio h0; omega) ⟨I.bel.trans (hb.mono I.bel.size), by rw [put_def, I.def_], by rw [put_size, I.size], ?_, ?_, ?_⟩
     · intro j hj hlj
       by_cases hji : j = i
       · subst hji; simpa using hv
       · rw [getD_set_ne true (Ne.symm hji)] at hlj
         simp only [if_neg hji]
         exact hR _ _ _ _ (I.rel j hj hlj) hb
     · intro j t hj hlj hsl
       by_cases hji : j = i
       · subst hji
         rw [hd] at hsl
         rw [hsl]
         simp only [if_true]
         exact put_at _ _ _ (by rw [I.size, hN]; exact M.room j t (by rw [hd]; exact hsl))
       · rw [getD_set_ne true (Ne.symm hji)] at hlj
         simp only [if_neg hji]
         rw [put_ne _ _ _ _ (fun e => hji (M.apart j i t hsl (by rw [hd]; exact e)))]
         exact I.at_ j t hj hlj hsl
     · intro t ht
       rw [put_ne _ _ _ _ (by rw [← hd]; exact ht i)]
       exact I.other t ht
   unfold wpOpIn
   simp only [ho]
   rw [hw]
   split
   · rename_i hwt
     rw [if_pos hwt] at hs
     unfold Oper.wpIn
     refine ⟨fun _ _ => trivial, ?_⟩
     rw [Fence.inRound_round, Oper.semAt_some l a.eval o (fun c hc => by
       unfold noDefer at hD
       rw [Array.all_eq_true_iff_forall_mem] at hD
       have := hD o (Array.mem_of_getElem? ho)
       rw [hc] at this
       cases this), he]
     generalize (execOp (lexA ops a0 vs i).eval o).run P w = r at hs
     cases r with
     | ok nx w' =>
       cases nx <;> simp only [relUpon] at hs <;> simp only [Oper.uponIn]
       case value u => exact go u w' hs.1 hs.2
       case skip => exact go undef w' hs.1 hs.2
       case enter f args => exact ⟨fun h => (by cases h), CallsIn.inRound l ((callsIn_wide.2 hs).mono fun e w'' ⟨v, he, hv, hb⟩ => by subst he; exact go v w'' hv hb)⟩
     | halt x w' => simp only [relUpon] at hs
   · rename_i hwt
     rw [if_neg hwt] at hs
     exact ⟨fun _ _ => trivial, go undef w hs (Below.refl _ _)⟩
theorem wpIn_region_rel {id n l : Nat} {Q : Exit → Act → World → Prop} (N : Nat) (R : Nat → Value → World → Prop) (hN : a0.tmps.size = N) (hm : P.follows .mixedOrders = true) (hB : relB ops N = true) (hD : noDefer ops = true) (hR : ∀ i v w w', R i v w → Below w.heap.size w w' → R i v w')
   (step : ∀ i ∈ List.range ops.size, relStep P ops R w0 a0 i)
   (fin : ∀ vs w, Below w0.heap.size w0 w → (∀ j, j < ops.size → R j (vs j) w) → Q .normal (lexA ops a0 vs ops.size) w) : (Code.region id ops true).wpIn (Fence.wide.inRound l) n P Q a0 w0 := by
 have M := made_of hB
 refine wpIn_region_any hm ?_
 refine run_anyIn M hD hN hR (fun i => ?_) fin ops.size _ a0 _ (fun _ => undef) (by simp) ?_ ⟨(Below.refl _ w0).drew, rfl, rfl, ?_, ?_, fun _ _ => rfl⟩
 · by_cases hi : i < ops.size
   · exact step i (List.mem_range.2 hi)
   · unfold relStep; rw [Array.getElem?_eq_none (by omega)]; trivial
 · exact Nat.le_trans List.countP_le_length (by simp)
 · intro i hi hl; simp [Array.getD, hi] at hl
 · intro i t hi hl; simp [Array.getD, hi] at hl
def guardD (ops : Array Oper) (GL : List (Nat × Bool)) : Bool := ops.all fun o => match o.guard with
 | none => true
 | some p => (GL.contains (p.1, p.2) || GL.contains (p.1, !p.2)) && waits o p.1 && (slot ops p.1).isSome
def passed (ops : Array Oper) (GL : List (Nat × Bool)) (i : Nat) : Bool := match ops[i]? with
 | none => false
 | some o => match o.guard with
   | none => false
   | some p => GL.contains (p.1, !p.2)
def relDo (P : Program) (ops : Array Oper) (R : Nat → Value → World → Prop) (w0 : World) (a0 : Act) (GL : List (Nat × Bool)) (i : Nat) : Prop :=
 if passed ops GL i = true then ∀ w, R i undef w else relSee P ops R w0 a0 i
theorem relStep_of_do {N i : Nat} {GL : List (Nat × Bool)} (M : Made ops N) (hN : a0.tmps.size = N) (hG : guardD ops GL = true) (hRg : ∀ p ∈ GL, ∀ v w, R p.1 v w → v = .bool p.2) (hs : relDo P ops R w0 a0 GL i) : relStep P ops R w0 a0 i := by
 unfold relDo at hs
 unfold relStep
 cases ho : ops[i]? with
 | none => trivial
 | some o =>
   simp only
   intro vs w hb hd
   have lt_of : ∀ j, waits o j = true → j < i := fun j hw => by
     unfold waits at hw
     obtain ⟨k, hk, hb⟩ := Array.any_eq_true.1 hw
     simp only [Bool.and_eq_true, beq_iff_eq] at hb
     rw [← hb.2]
     exact M.elder i o ho _ (Array.getElem_mem hk) hb.1
   have val : ∀ g want b, o.guard = some (g, want) → (g, b) ∈ GL → yielded ops (lexA ops a0 vs i).tmps g = some b := by
     intro g want b hgo hmem
     unfold guardD at hG
     rw [Array.all_eq_true_iff_forall_mem] at hG
     have h1 := hG o (Array.mem_of_getElem? ho)
     rw [hgo] at h1
     simp only [Bool.and_eq_true] at h1
     obtain ⟨⟨_, h2⟩, h3⟩ := h1
     obtain ⟨t, ht⟩ := Option.isSome_iff_exists.1 h3
     have hv := hRg (g, b) hmem (vs g) w (hd g h2)
     have hl := lexA_at M hN vs t g ht i (lt_of g h2)
     unfold yielded
     have ht' : (ops[g]?).bind (·.dst) = some t := ht
     rw [ht']
     simp only [Option.bind_some, hl, hv]
   by_cases hp : passed ops GL i = true
   · rw [if_pos hp] at hs
     unfold passed at hp
     rw [ho] at hp
     simp only at hp
     have hg : Region.wanted o (yielded ops (lexA ops a0 vs i).tmps) = false := by
       unfold Region.wanted
       cases hgo : o.guard with
       | none => rw [hgo] at hp; cases hp
       | some p =>
         obtain ⟨g, want⟩ := p
         rw [hgo] at hp
         have hmem : (g, !want) ∈ GL := by simpa using hp
         have hy := val g want (!want) hgo hmem
         cases want <;> simp [hy]
     rw [if_neg (by rw [hg]; exact Bool.false_ne_true)]
     exact hs w
   · rw [if_neg hp] at hs
     unfold relSee at hs
     rw [ho] at hs
     simp only at hs
     have hg : Region.wanted o (yielded ops (lexA ops a0 vs i).tmps) = true := by
       unfold Region.wanted
       cases hgo : o.guard with
       | none => rfl
       | some p =>
         obtain ⟨g, want⟩ := p
         have hG2 := hG
         unfold guardD at hG2
         rw [Array.all_eq_true_iff_forall_mem] at hG2
         have h1 := hG2 o (Array.mem_of_getElem? ho)
         rw [hgo] at h1
         simp only [Bool.and_eq_true, Bool.or_eq_true] at h1
         have hmem : (g, want) ∈ GL := by
           rcases h1.1.1 with h | h
           · simpa using h
           · exfalso
             apply hp
             unfold passed
             rw [ho]
             simp only
             rw [hgo]
             exact h
         have hy := val g want want hgo hmem
         simp [hy]
     rw [if_pos hg]
     refine hs (lexA ops a0 vs i).eval w hb (fun _ => rfl) (fun _ => rfl) (fun _ => rfl) (fun t ht => ?_) (fun j t hw hj => ?_)
     · have h' : ∀ j, slot ops j ≠ some t := fun j hj => by
         have hjs : j < ops.size := by
           unfold slot at hj
           rcases Nat.lt_or_ge j ops.size with h' | h'
           · exact h'
           · rw [Array.getElem?_eq_none h'] at hj; cases hj
         rw [List.all_eq_true] at ht
         have := ht j (List.mem_range.2 hjs)
         rw [hj] at this
         simp at this
       simp only [Act.eval, Array.getD_eq_getD_getElem?, lexA_other vs t h']
     · have : (lexA ops a0 vs i).eval (.tmp t) = vs j := by
         simp only [Act.eval, Array.getD_eq_getD_getElem?, lexA_at M hN vs t j hj i (lt_of j hw)]
         rfl
       rw [this]
       exact hd j hw
theorem wpIn_region_do {id n l : Nat} {Q : Exit → Act → World → Prop} (N : Nat) (GL : List (Nat × Bool)) (R : Nat → Value → World → Prop) (hN : a0.tmps.size = N) (hm : P.follows .mixedOrders = true) (hB : relB ops N = true) (hD : noDefer ops = true) (hG : guardD ops GL = true)
   (hRg : ∀ p ∈ GL, ∀ v w, R p.1 v w → v = .bool p.2) (hR : ∀ i v w w', R i v w → Below w.heap.size w w' → R i v w')
   (step : ∀ i ∈ List.range ops.size, relDo P ops R w0 a0 GL i)
   (fin : ∀ vs w, Below w0.heap.size w0 w → (∀ j, j < ops.size → R j (vs j) w) → Q .normal (lexA ops a0 vs ops.size) w) : (Code.region id ops true).wpIn (Fence.wide.inRound l) n P Q a0 w0 :=
 wpIn_region_rel N R hN hm hB hD hR (fun i hi => relStep_of_do (made_of hB) hN hG hRg (step i hi)) fin
end
end Go.Proofs.YtpmnmnflaijaaaaGreat.RelIn
