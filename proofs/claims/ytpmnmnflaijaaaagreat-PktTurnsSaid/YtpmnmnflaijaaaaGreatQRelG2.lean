/-
  Laws for a proof of package pkt: 2 texts in one.
-/
import Derived.WalkKit
import Derived.Deep.QuietTactic
import Derived.Below
namespace Go.Proofs.YtpmnmnflaijaaaaGreat.Rel
open Go.RowKit
set_option linter.unusedVariables false
section
variable {P : Program} {ops : Array Oper} {w0 : World} {a0 : Act} {R : Nat → Value → World → Prop}
def slot (ops : Array Oper) (i : Nat) : Option Tmp := (ops[i]?).bind (·.dst)
def lexA (ops : Array Oper) (a0 : Act) (vs : Nat → Value) (k : Nat) : Act := (List.range k).foldl (fun a i => a.put (slot ops i) (vs i)) a0
def waits (o : Oper) (j : Nat) : Bool := o.after.any fun e => Region.binds .any e && e.on == j
def relB (ops : Array Oper) (N : Nat) : Bool := Region.noSelect ops && (List.range ops.size).all fun i => match ops[i]? with
 | none => true
 | some o => (o.after.all fun e => !Region.binds .any e || decide (e.on < i)) &&
   ((o.looksAt ops).all fun t => (List.range ops.size).all fun j => !(slot ops j == some t) || waits o j) &&
   (match o.dst with | none => true | some t => decide (t < N) && (List.range ops.size).all fun j => j == i || !(slot ops j == some t))
def relUpon (P : Program) (T : Value → World → Prop) (w : World) : Result Next → Prop
 | .ok (.value u) w' => T u w' ∧ Below w.heap.size w w'
 | .ok .skip w' => T undef w' ∧ Below w.heap.size w w'
 | .ok (.enter f args) w' => Calls P f args w' (fun e w'' => ∃ v, e = .returned v ∧ T v w'' ∧ Below w.heap.size w w'')
 | _ => False
def relStep (P : Program) (ops : Array Oper) (R : Nat → Value → World → Prop) (w0 : World) (a0 : Act) (i : Nat) : Prop :=
 match ops[i]? with
 | none => True
 | some o => ∀ (vs : Nat → Value) (w : World), Below w0.heap.size w0 w → (∀ j, waits o j = true → R j (vs j) w) →
   if Region.wanted o (yielded ops (lexA ops a0 vs i).tmps) = true then relUpon P (R i) w ((execOp (lexA ops a0 vs i).eval o).run P w) else R i undef w
theorem lexA_succ (vs : Nat → Value) (k : Nat) : lexA ops a0 vs (k + 1) = (lexA ops a0 vs k).put (slot ops k) (vs k) := by
 unfold lexA; rw [List.range_succ, List.foldl_append]; rfl
theorem put_size (a : Act) (d : Option Tmp) (v : Value) : (a.put d v).tmps.size = a.tmps.size := by cases d <;> simp [Act.put]
theorem put_def (a : Act) (d : Option Tmp) (v : Value) : (a.put d v).defers = a.defers := by cases d <;> rfl
theorem put_at (a : Act) (t : Tmp) (v : Value) (h : t < a.tmps.size) : (a.put (some t) v).tmps[t]? = some v := by simp [Act.put, h]
theorem put_ne (a : Act) (d : Option Tmp) (v : Value) (t : Tmp) (h : d ≠ some t) : (a.put d v).tmps[t]? = a.tmps[t]? := by
 cases d with
 | none => rfl
 | some d => exact Array.getElem?_setIfInBounds_ne (fun e => h (by rw [e]))
structure Made (ops : Array Oper) (N : Nat) : Prop where
 sel : ∀ (j : Nat) (o : Oper) cs b, ops[j]? = some o → o.op ≠ .select cs b
 elder : ∀ (i : Nat) (o : Oper), ops[i]? = some o → ∀ e ∈ o.after, Region.binds .any e = true → e.on < i
 looks : ∀ (i : Nat) (o : Oper), ops[i]? = some o → ∀ t ∈ o.looksAt ops, ∀ j, slot ops j = some t → waits o j = true
 apart : ∀ (i j : Nat) (t : Tmp), slot ops i = some t → slot ops j = some t → i = j
 room : ∀ (i : Nat) (t : Tmp), slot ops i = some t → t < N
theorem made_of {N : Nat} (h : relB ops N = true) : Made ops N := by
 unfold relB at h
 rw [Bool.and_eq_true] at h
 obtain ⟨hs, h⟩ := h
 rw [List.all_eq_true] at h
 have key : ∀ (i : Nat) (o : Oper), ops[i]? = some o → i < ops.size ∧ ((o.after.all fun e => !Region.binds .any e || decide (e.on < i)) = true ∧ ((o.looksAt ops).all fun t => (List.range ops.size).all fun j => !(slot ops j == some t) || waits o j) = true) ∧
     (match o.dst with | none => true | some t => decide (t < N) && (List.range ops.size).all fun j => j == i || !(slot ops j == some t)) = true := fun i o ho => by
   have hi := (Array.getElem?_eq_some_iff.1 ho).1
   have := h i (List.mem_range.2 hi)
   simp only [ho, Bool.and_eq_true] at this
   exact ⟨hi, this.1, by simpa using this.2⟩
 have of_slot : ∀ i t, slot ops i = some t → ∃ o, ops[i]? = some o ∧ o.dst = some t := fun i t hst => by
   unfold slot at hst
   cases ho : ops[i]? with
   | none => rw [ho] at hst; cases hst
   | some o => rw [ho] at hst; exact ⟨o, rfl, hst⟩
 refine ⟨fun j o cs b hj => Region.noSelect_spec hs j o cs b hj, ?_, ?_, ?_, ?_⟩
 · intro i o ho e he hb
   have := (key i o ho).2.1.1
   rw [Array.all_eq_true_iff_forall_mem] at this
   have := this e he
   rw [hb] at this
   simpa using this
 · intro i o ho t ht j hj
   have := (key i o ho).2.1.2
   rw [List.all_eq_true] at this
   have := this t ht
   rw [List.all_eq_true] at this
   obtain ⟨oj, hoj, _⟩ := of_slot j t hj
   have := this j (List.mem_range.2 (Array.getElem?_eq_some_iff.1 hoj).1)
   rw [hj] at this
   simpa using this
 · intro i j t hi hj
   obtain ⟨oi, hoi, hd⟩ := of_slot i t hi
   have := (key i oi hoi).2.2
   rw [hd] at this
   simp only [Bool.and_eq_true, List.all_eq_true] at this
   obtain ⟨oj, hoj, _⟩ := of_slot j t hj
   have := this.2 j (List.mem_range.2 (Array.getElem?_eq_some_iff.1 hoj).1)
   rw [hj] at this
   simp at this
   exact this.symm
 · intro i t hi
   obtain ⟨oi, hoi, hd⟩ := of_slot i t hi
   have := (key i oi hoi).2.2
   rw [hd] at this
   simp only [Bool.and_eq_true, decide_eq_true_eq] at this
   exact this.1
theorem lexA_size (vs : Nat → Value) : ∀ k, (lexA ops a0 vs k).tmps.size = a0.tmps.size
 | 0 => rfl
 | k + 1 => by rw [lexA_succ, put_size, lexA_size vs k]
theorem lexA_def (vs : Nat → Value) : ∀ k, (lexA ops a0 vs k).defers = a0.defers
 | 0 => rfl
 | k + 1 => by rw [lexA_succ, put_def, lexA_def vs k]
theorem lexA_other (vs : Nat → Value) (t : Tmp) (h : ∀ j, slot ops j ≠ some t) : ∀ k, (lexA ops a0 vs k).tmps[t]? = a0.tmps[t]?
 | 0 => rfl
 | k + 1 => by rw [lexA_succ, put_ne _ _ _ _ (h k), lexA_other vs t h k]
theorem lexA_at {N : Nat} (M : Made ops N) (hN : a0.tmps.size = N) (vs : Nat → Value) (t : Tmp) (j : Nat) (h : slot ops j = some t) : ∀ k, j < k → (lexA ops a0 vs k).tmps[t]? = some (vs j)
 | 0, hk => by omega
 | k + 1, hk => by
   rw [lexA_succ]
   by_cases e : j = k
   · subst e
     rw [h]
     exact put_at _ _ _ (by rw [lexA_size, hN]; exact M.room j t h)
   · rw [put_ne _ _ _ _ (fun e2 => e (M.apart j k t h e2))]
     exact lexA_at M hN vs t j h k (by omega)
structure Inv (ops : Array Oper) (R : Nat → Value → World → Prop) (w0 : World) (a0 : Act) (listed : Array Bool) (a : Act) (w : World) (vs : Nat → Value) : Prop where
 bel : Below w0.heap.size w0 w
 def_ : a.defers = a0.defers
 size : a.tmps.size = a0.tmps.size
 rel : ∀ i : Nat, i < ops.size → listed.getD i true = true → R i (vs i) w
 at_ : ∀ (i : Nat) (t : Tmp), i < ops.size → listed.getD i true = true → slot ops i = some t → a.tmps[t]? = some (vs i)
 other : ∀ t : Tmp, (∀ j : Nat, slot ops j ≠ some t) → a.tmps[t]? = a0.tmps[t]?
def left (ops : Array Oper) (listed : Array Bool) : Nat := (List.range ops.size).countP fun i => !listed.getD i true
theorem countP_lt {p q : Nat → Bool} : ∀ (l : List Nat), (∀ x ∈ l, q x = true → p x = true) → (∃ x ∈ l, p x = true ∧ q x = false) → l.countP q < l.countP p
 | [], _, ⟨x, hx, _⟩ => by cases hx
 | y :: l, h, ⟨x, hx, h1, h2⟩ => by
   have hl : l.countP q ≤ l.countP p := List.countP_mono_left fun z hz => h z (List.mem_cons_of_mem _ hz)
   simp only [List.countP_cons]
   rcases List.mem_cons.1 hx with rfl | hx
   · simp only [h1, h2]
     simp
     omega
   · have := countP_lt l (fun z hz => h z (List.mem_cons_of_mem _ hz)) ⟨x, hx, h1, h2⟩
     have hy := h y (List.mem_cons_self ..)
     cases hq : q y
     · simp; split <;> omega
     · simp [hy hq]; omega
theorem left_lt {listed : Array Bool} {i : Nat} (hi : i < ops.size) (h : listed.getD i true = false) : left ops (listed.setIfInBounds i true) < left ops listed := by
 have hlt : i < listed.size := by
   rcases Nat.lt_or_ge i listed.size with h' | h'
   · exact h'
   · simp [Array.getD, Nat.not_lt.2 h'] at h
 refine countP_lt _ (fun x _ hx => ?_) ⟨i, List.mem_range.2 hi, by simp [h], by simp [Array.getD, hlt]⟩
 by_cases hxi : i = x
 · subst hxi; simp [Array.getD, hlt] at hx
 · rw [getD_set_ne true hxi] at hx; exact hx
theorem some_ready {N : Nat} (M : Made ops N) {listed : Array Bool} (hl : listed.size = ops.size) : ∀ i, i < ops.size → listed.getD i true = false → Region.ready .any ops listed ≠ [] := by
 intro i
 induction i using Nat.strongRecOn with
 | _ i ih =>
   intro hi h
   obtain ⟨o, ho⟩ : ∃ o, ops[i]? = some o := ⟨_, Array.getElem?_eq_getElem hi⟩
   by_cases hall : ∀ e ∈ o.after, Region.binds .any e = true → listed.getD e.on false = true
   · intro hn
     have : i ∈ Region.ready .any ops listed := mem_ready.2 ⟨h, o, ho, hall⟩
     rw [hn] at this
     cases this
   · obtain ⟨e, he⟩ := Classical.not_forall.1 hall
     obtain ⟨he1, he⟩ := Classical.not_imp.1 he
     obtain ⟨hb, he⟩ := Classical.not_imp.1 he
     have hlt := M.elder i o ho e he1 hb
     refine ih e.on hlt (by omega) ?_
     have h2 : e.on < listed.size := by omega
     simp [Array.getD, h2] at he ⊢
     exact he
theorem agree {N : Nat} (M : Made ops N) (hN : a0.tmps.size = N) {listed : Array Bool} {a : Act} {w : World} {vs : Nat → Value} (I : Inv ops R w0 a0 listed a w vs) {i : Nat} {o : Oper} (ho : ops[i]? = some o)
   (hdep : ∀ j, waits o j = true → listed.getD j true = true ∧ j < i) (t : Tmp) (ht : t ∈ o.looksAt ops) : a.tmps[t]? = (lexA ops a0 vs i).tmps[t]? := by
 by_cases h : ∃ j, slot ops j = some t
 · obtain ⟨j, hj⟩ := h
   obtain ⟨h1, h2⟩ := hdep j (M.looks i o ho t ht j hj)
   have hjs : j < ops.size := by
     unfold slot at hj
     rcases Nat.lt_or_ge j ops.size with h' | h'
     · exact h'
     · rw [Array.getElem?_eq_none h'] at hj; cases hj
   rw [I.at_ j t hjs h1 hj, lexA_at M hN vs t j hj i h2]
 · have h' : ∀ j, slot ops j ≠ some t := fun j hj => h ⟨j, hj⟩
   rw [I.other t h', lexA_other vs t h']
theorem run_any {N : Nat} {Q : Exit → Act → World → Prop} (M : Made ops N) (hN : a0.tmps.size = N) (hR : ∀ i v w w', R i v w → Below w.heap.size w w' → R i v w') (step : ∀ i, relStep P ops R w0 a0 i)
   (fin : ∀ vs w, Below w0.heap.size w0 w → (∀ j, j < ops.size → R j (vs j) w) → Q .normal (lexA ops a0 vs ops.size) w) :
   ∀ (fuel : Nat) (listed : Array Bool) (a : Act) (w : World) (vs : Nat → Value), listed.size = ops.size → left ops listed ≤ fuel → Inv ops R w0 a0 listed a w vs → wpAny P .any ops Q fuel listed a w := by
 have done : ∀ (listed : Array Bool) (a : Act) (w : World) (vs : Nat → Value), listed.size = ops.size → Region.ready .any ops listed = [] → Inv ops R w0 a0 listed a w vs → Q .normal a w := by
   intro listed a w vs hl hr I
   have all : ∀ i, i < ops.size → listed.getD i true = true := fun i hi => by
     cases h : listed.getD i true
     · exact absurd hr (some_ready M hl i hi h)
     · rfl
   have ha : a = lexA ops a0 vs ops.size := by
     have ht : a.tmps = (lexA ops a0 vs ops.size).tmps := by
       apply Array.ext_getElem?
       intro t
       by_cases h : ∃ j, slot ops j = some t
       · obtain ⟨j, hj⟩ := h
         have hjs : j < ops.size := by
           unfold slot at hj
           rcases Nat.lt_or_ge j ops.size with h' | h'
           · exact h'
           · rw [Array.getElem?_eq_none h'] at hj; cases hj
         rw [I.at_ j t hjs (all j hjs) hj, lexA_at M hN vs t j hj _ hjs]
       · have h' : ∀ j, slot ops j ≠ some t := fun j hj => h ⟨j, hj⟩
         rw [I.other t h', lexA_other vs t h']
     have hd : a.defers = (lexA ops a0 vs ops.size).defers := by rw [I.def_, lexA_def]
     cases a
     cases hx : lexA ops a0 vs ops.size
     rw [hx] at ht hd
     simp only at ht hd
     rw [ht, hd]
   rw [ha]
   exact fin vs w I.bel fun j hj => I.rel j hj (all j hj)
 intro fuel
 induction fuel with
 | zero =>
   intro listed a w vs hl hf I
   have hr : Region.ready .any ops listed = [] := by
     rcases hx : Region.ready .any ops listed with _ | ⟨i, r⟩
     · rfl
     · have hm : i ∈ Region.ready .any ops listed := by rw [hx]; exact List.mem_cons_self ..
       obtain ⟨h0, o, ho, _⟩ := mem_ready.1 hm
       have := left_lt (Array.getElem?_eq_some_iff.1 ho).1 h0
       omega
   exact ⟨hr, done listed a w vs hl hr I⟩
 | succ fuel ih =>
   intro listed a w vs hl hf I
   refine ⟨fun hr => done listed a w vs hl hr I, fun i hi => ?_⟩
   obtain ⟨h0, o, ho, hall⟩ := mem_ready.1 hi
   have hio := (Array.getElem?_eq_some_iff.1 ho).1
   have hdep : ∀ j, waits o j = true → listed.getD j true = true ∧ j < i := fun j hj => by
     unfold waits at hj
     obtain ⟨k, hk, hb⟩ := Array.any_eq_true.1 hj
     have he : o.after[k] ∈ o.after := Array.getElem_mem hk
     generalize o.after[k] = e at hb he
     simp only [Bool.and_eq_true, beq_iff_eq] at hb
     obtain ⟨hb, rfl⟩ := hb
     have h1 := hall e he hb
     have h2 := M.elder i o ho e he hb
     have h3 : e.on < listed.size := by omega
     simp [Array.getD, h3] at h1 ⊢
     exact ⟨h1, h2⟩
   have ag := fun t ht => agree M hN I ho hdep t ht
   have hst := step i
   unfold relStep at hst
   simp only [ho] at hst
   have hs := hst vs w I.bel fun j hj => I.rel j (by have := (hdep j hj).2; omega) (hdep j hj).1
   have he : execOp a.eval o = execOp (lexA ops a0 vs i).eval o := execOp_congr o (fun cs b => M.sel i o cs b ho) fun x hx => by
     cases x with
     | tmp t =>
       have := ag t (List.mem_append_left _ (List.mem_filterMap.2 ⟨.tmp t, by simpa using hx, rfl⟩))
       simp only [Act.eval, Array.getD_eq_getD_getElem?, this]
     | _ => rfl
   have hw : Region.wanted o (yielded ops a.tmps) = Region.wanted o (yielded ops (lexA ops a0 vs i).tmps) := by
     unfold Region.wanted
     cases hg : o.guard with
     | none => rfl
     | some gw =>
       obtain ⟨g, want⟩ := gw
       have hy : yielded ops a.tmps g = yielded ops (lexA ops a0 vs i).tmps g := by
         unfold yielded
         cases ht : (ops[g]?).bind (·.dst) with
         | none => rfl
         | some t =>
           have := ag t (by simp [Oper.looksAt, hg, ht])
           simp only [Option.bind_some, this]
       simp only [hy]
   -- behind the operation
   have go : ∀ (v : Value) (w' : World), R i v w' → Below w.heap.size w w' → wpAny P .any ops Q fuel (listed.setIfInBounds i true) (a.put o.dst v) w' := by
     intro v w' hv hb
     have hd : slot ops i = o.dst := by unfold slot; rw [ho]; rfl
     refine ih _ _ _ (fun j => if j = i then v else vs j) (by simpa using hl) (by have := left_lt hio h0; omega) ⟨I.bel.trans (hb.mono I.bel.size), by rw [put_def, I.def_], by rw [put_size, I.size], ?_, ?_, ?_⟩
     · intro j hj hlj
       by_cases hji : j = i
       · subst hji; simpa using hv
       · rw [getD_set_ne true (Ne.symm hji)] at hlj
         simp only [if_neg hji]
         exact hR _ _ _ _ (I.rel j hj hlj) hb
     · intro j t hj hlj hsl
       by_cases hji : j = i
       · subst hji
         rw [hd] at hsl
         rw [hsl]
         simp only [if_true]
         exact put_at _ _ _ (by rw [I.size, hN]; exact M.room j t (by rw [hd]; exact hsl))
       · rw [getD_set_ne true (Ne.symm hji)] at hlj
         simp only [if_neg hji]
         rw [put_ne _ _ _ _ (fun e => hji (M.apart j i t hsl (by rw [hd]; exact e)))]
         exact I.at_ j t hj hlj hsl
     · intro t ht
       rw [put_ne _ _ _ _ (by rw [← hd]; exact ht i)]
       exact I.other t ht
   unfold wpOp
   simp only [ho]
   rw [hw]
   split
   · rename_i hwt
     rw [if_pos hwt] at hs
     refine .inl ?_
     unfold Oper.wp
     rw [he]
     generalize (execOp (lexA ops a0 vs i).eval o).run P w = r at hs
     cases r with
     | ok n w' =>
       cases n <;> simp only [relUpon] at hs <;> simp only [Oper.upon]
       case value u => exact go u w' hs.1 hs.2
       case skip => exact go undef w' hs.1 hs.2
       case enter f args => exact hs.mono fun e w'' ⟨v, he, hv, hb⟩ => by subst he; exact go v w'' hv hb
     | halt x w' => simp only [relUpon] at hs
   · rename_i hwt
     rw [if_neg hwt] at hs
     exact go undef w hs (Below.refl _ _)
theorem wp_region_rel {id : Nat} {Q : Exit → Act → World → Prop} (N : Nat) (R : Nat → Value → World → Prop) (hN : a0.tmps.size = N) (hm : P.follows .mixedOrders = true) (hB : relB ops N = true) (hR : ∀ i v w w', R i v w → Below w.heap.size w w' → R i v w')
   (step : ∀ i ∈ List.range ops.size, relStep P ops R w0 a0 i)
   (fin : ∀ vs w, Below w0.heap.size w0 w → (∀ j, j < ops.size → R j (vs j) w) → Q .normal (lexA ops a0 vs ops.size) w) : (Code.region id ops true).wp P Q a0 w0 := by
 have M := made_of hB
 refine wp_region_any hm ?_
 refine run_any M hN hR (fun i => ?_) fin ops.size _ a0 _ (fun _ => undef) (by simp) ?_ ⟨(Below.refl _ w0).drew, rfl, rfl, ?_, ?_, fun _ _ => rfl⟩
 · by_cases hi : i < ops.size
   · exact step i (List.mem_range.2 hi)
   · unfold relStep; rw [Array.getElem?_eq_none (by omega)]; trivial
 · exact Nat.le_trans List.countP_le_length (by simp)
 · intro i hi hl; simp [Array.getD, hi] at hl
 · intro i t hi hl; simp [Array.getD, hi] at hl
def relSee (P : Program) (ops : Array Oper) (R : Nat → Value → World → Prop) (w0 : World) (a0 : Act) (i : Nat) : Prop :=
 match ops[i]? with
 | none => True
 | some o => ∀ (ρ : Operand → Value) (w : World), Below w0.heap.size w0 w → (∀ v, ρ (.const v) = v) → (∀ g, ρ (.global g) = .pointer (some ⟨g, 0, none⟩)) → (∀ f, ρ (.func f) = .func (.func f) #[] #[]) →
   (∀ t, ((List.range ops.size).all fun j => !(slot ops j == some t)) = true → ρ (.tmp t) = a0.tmps.getD t undef) →
   (∀ j t, waits o j = true → slot ops j = some t → R j (ρ (.tmp t)) w) → relUpon P (R i) w ((execOp ρ o).run P w)
def freeB (ops : Array Oper) : Bool := ops.all fun o => o.guard.isNone
theorem relStep_of_see {N i : Nat} (M : Made ops N) (hN : a0.tmps.size = N) (hF : freeB ops = true) (hs : relSee P ops R w0 a0 i) : relStep P ops R w0 a0 i := by
 unfold relSee at hs
 unfold relStep
 cases ho : ops[i]? with
 | none => trivial
 | some o =>
   rw [ho] at hs
   simp only at hs ⊢
   intro vs w hb hd
   have hg : o.guard = none := by
     unfold freeB at hF
     rw [Array.all_eq_true_iff_forall_mem] at hF
     have := hF o (Array.mem_of_getElem? ho)
     cases hgo : o.guard with
     | none => rfl
     | some g => rw [hgo] at this; cases this
   rw [if_pos (by unfold Region.wanted; rw [hg])]
   refine hs (lexA ops a0 vs i).eval w hb (fun _ => rfl) (fun _ => rfl) (fun _ => rfl) (fun t ht => ?_) (fun j t hw hj => ?_)
   · have h' : ∀ j, slot ops j ≠ some t := fun j hj => by
       have hjs : j < ops.size := by
         unfold slot at hj
         rcases Nat.lt_or_ge j ops.size with h' | h'
         · exact h'
         · rw [Array.getElem?_eq_none h'] at hj; cases hj
       rw [List.all_eq_true] at ht
       have := ht j (List.mem_range.2 hjs)
       rw [hj] at this
       simp at this
     simp only [Act.eval, Array.getD_eq_getD_getElem?, lexA_other vs t h']
   · have hlt : j < i := by
       unfold waits at hw
       obtain ⟨k, hk, hb⟩ := Array.any_eq_true.1 hw
       simp only [Bool.and_eq_true, beq_iff_eq] at hb
       rw [← hb.2]
       exact M.elder i o ho _ (Array.getElem_mem hk) hb.1
     have : (lexA ops a0 vs i).eval (.tmp t) = vs j := by
       simp only [Act.eval, Array.getD_eq_getD_getElem?, lexA_at M hN vs t j hj i hlt]
       rfl
     rw [this]
     exact hd j hw
theorem wp_region_see {id : Nat} {Q : Exit → Act → World → Prop} (N : Nat) (R : Nat → Value → World → Prop) (hN : a0.tmps.size = N) (hm : P.follows .mixedOrders = true) (hB : relB ops N = true) (hF : freeB ops = true) (hR : ∀ i v w w', R i v w → Below w.heap.size w w' → R i v w')
   (step : ∀ i ∈ List.range ops.size, relSee P ops R w0 a0 i)
   (fin : ∀ vs w, Below w0.heap.size w0 w → (∀ j, j < ops.size → R j (vs j) w) → Q .normal (lexA ops a0 vs ops.size) w) : (Code.region id ops true).wp P Q a0 w0 := by
 exact wp_region_rel N R hN hm hB hR (fun i hi => relStep_of_see (made_of hB) hN hF (step i hi)) fin
theorem lexA_slots (vs : Nat → Value) (k : Nat) (l : List (Option Tmp × Nat)) (h : (List.range k).map (fun i => (slot ops i, i)) = l) : lexA ops a0 vs k = l.foldl (fun a p => a.put p.1 (vs p.2)) a0 := by
 rw [← h, List.foldl_map]; rfl
theorem lexA_get {N : Nat} (hB : relB ops N = true) (hN : a0.tmps.size = N) (vs : Nat → Value) (t : Tmp) (j k : Nat) (h : slot ops j = some t) (hj : j < k) : (lexA ops a0 vs k).tmps.getD t undef = vs j := by
 rw [Array.getD_eq_getD_getElem?, lexA_at (made_of hB) hN vs t j h k hj]
 rfl
end
def HoldK (κ : IntKind) (L : List Nat) (v : Value) (w : World) : Prop := ∃ b, v = .slice (some ⟨b, 0, none⟩) L.length L.length ∧ b < w.heap.size ∧ ∀ (j x : Nat), L[j]? = some x → w.cell? ⟨b, j, none⟩ = some (.int κ (x : Int))
theorem HoldK.more {κ : IntKind} {L : List Nat} {v : Value} {w w' : World} (h : HoldK κ L v w) (hb : Below w.heap.size w w') : HoldK κ L v w' := by
 obtain ⟨b, e, hlt, hc⟩ := h
 exact ⟨b, e, Nat.lt_of_lt_of_le hlt hb.size, fun j x hx => (hb.cell (p := ⟨b, j, none⟩) hlt).trans (hc j x hx)⟩
theorem HoldK.new (κ : IntKind) (w : World) (L : List Nat) (T : TypeId) : HoldK κ L (.slice (some ⟨w.heap.size, 0, none⟩) L.length L.length) (w.alloc (.cells (L.map fun x : Nat => Value.int κ (x : Int)).toArray T)) :=
 ⟨w.heap.size, rfl, by simp, fun j x hx => (World.cell?_alloc_mark w _ T (0, 0) j).trans (by simp [hx])⟩
end Go.Proofs.YtpmnmnflaijaaaaGreat.Rel
namespace Go.Proofs.YtpmnmnflaijaaaaGreat.RelG
open Go.RowKit Rel
set_option linter.unusedVariables false
section
variable {P : Program} {ops : Array Oper} {w0 : World} {a0 : Act} {R : Nat → Value → World → Prop}
def guardB (ops : Array Oper) (GL : List (Nat × Bool)) : Bool := ops.all fun o => match o.guard with
 | none => true
 | some p => GL.contains p && waits o p.1 && (slot ops p.1).isSome
theorem relStep_of_seeG {N i : Nat} {GL : List (Nat × Bool)} (M : Made ops N) (hN : a0.tmps.size = N) (hG : guardB ops GL = true) (hRg : ∀ p ∈ GL, ∀ v w, R p.1 v w → v = .bool p.2) (hs : relSee P ops R w0 a0 i) : relStep P ops R w0 a0 i := by
 unfold relSee at hs
 unfold relStep
 cases ho : ops[i]? with
 | none => trivial
 | some o =>
   rw [ho] at hs
   simp only at hs ⊢
   intro vs w hb hd
   have lt_of : ∀ j, waits o j = true → j < i := fun j hw => by
     unfold waits at hw
     obtain ⟨k, hk, hb⟩ := Array.any_eq_true.1 hw
     simp only [Bool.and_eq_true, beq_iff_eq] at hb
     rw [← hb.2]
     exact M.elder i o ho _ (Array.getElem_mem hk) hb.1
   have hg : Region.wanted o (yielded ops (lexA ops a0 vs i).tmps) = true := by
     unfold guardB at hG
     rw [Array.all_eq_true_iff_forall_mem] at hG
     have h1 := hG o (Array.mem_of_getElem? ho)
     unfold Region.wanted
     cases hgo : o.guard with
     | none => rfl
     | some p =>
       obtain ⟨g, want⟩ := p
       rw [hgo] at h1
       simp only [Bool.and_eq_true] at h1
       obtain ⟨⟨h1, h2⟩, h3⟩ := h1
       have hmem : (g, want) ∈ GL := by simpa using h1
       obtain ⟨t, ht⟩ := Option.isSome_iff_exists.1 h3
       have hv := hRg (g, want) hmem (vs g) w (hd g h2)
       have hl := lexA_at M hN vs t g ht i (lt_of g h2)
       have hy : yielded ops (lexA ops a0 vs i).tmps g = some want := by
         unfold yielded
         have ht' : (ops[g]?).bind (·.dst) = some t := ht
         rw [ht']
         simp only [Option.bind_some, hl, hv]
       simp [hy]
   rw [if_pos hg]
   refine hs (lexA ops a0 vs i).eval w hb (fun _ => rfl) (fun _ => rfl) (fun _ => rfl) (fun t ht => ?_) (fun j t hw hj => ?_)
   · have h' : ∀ j, slot ops j ≠ some t := fun j hj => by
       have hjs : j < ops.size := by
         unfold slot at hj
         rcases Nat.lt_or_ge j ops.size with h' | h'
         · exact h'
         · rw [Array.getElem?_eq_none h'] at hj; cases hj
       rw [List.all_eq_true] at ht
       have := ht j (List.mem_range.2 hjs)
       rw [hj] at this
       simp at this
     simp only [Act.eval, Array.getD_eq_getD_getElem?, lexA_other vs t h']
   · have : (lexA ops a0 vs i).eval (.tmp t) = vs j := by
       simp only [Act.eval, Array.getD_eq_getD_getElem?, lexA_at M hN vs t j hj i (lt_of j hw)]
       rfl
     rw [this]
     exact hd j hw
theorem wp_region_seeG {id : Nat} {Q : Exit → Act → World → Prop} (N : Nat) (GL : List (Nat × Bool)) (R : Nat → Value → World → Prop) (hN : a0.tmps.size = N) (hm : P.follows .mixedOrders = true) (hB : relB ops N = true) (hG : guardB ops GL = true)
   (hRg : ∀ p ∈ GL, ∀ v w, R p.1 v w → v = .bool p.2) (hR : ∀ i v w w', R i v w → Below w.heap.size w w' → R i v w')
   (step : ∀ i ∈ List.range ops.size, relSee P ops R w0 a0 i)
   (fin : ∀ vs w, Below w0.heap.size w0 w → (∀ j, j < ops.size → R j (vs j) w) → Q .normal (lexA ops a0 vs ops.size) w) : (Code.region id ops true).wp P Q a0 w0 :=
 wp_region_rel N R hN hm hB hR (fun i hi => relStep_of_seeG (made_of hB) hN hG hRg (step i hi)) fin
end
end Go.Proofs.YtpmnmnflaijaaaaGreat.RelG
