/-
  As XRel, for a region with guarded operations ('&&', '||') whose guards all hold: every one of them is carried out.
  Nothing of the program is named here.
-/
import Derived.Test.YtgpkckaojcodmaaRel
namespace Go.Proofs.Ytgpkckaojcodmaa.RelG
open Go.RowKit Rel
set_option linter.unusedVariables false

section
variable {P : Program} {ops : Array Oper} {w0 : World} {a0 : Act} {R : Nat → Value → World → Prop}

/-- each guard is one of these, of an elder operation that leaves a value -/
def guardB (ops : Array Oper) (GL : List (Nat × Bool)) : Bool := ops.all fun o => match o.guard with
  | none => true
  | some p => GL.contains p && waits o p.1 && (slot ops p.1).isSome
theorem relStep_of_seeG {N i : Nat} {GL : List (Nat × Bool)} (M : Made ops N) (hN : a0.tmps.size = N) (hG : guardB ops GL = true) (hRg : ∀ p ∈ GL, ∀ v w, R p.1 v w → v = .bool p.2) (hs : relSee P ops R w0 a0 i) : relStep P ops R w0 a0 i := by
  unfold relSee at hs
  unfold relStep
  cases ho : ops[i]? with
  | none => trivial
  | some o =>
    rw [ho] at hs
    simp only at hs ⊢
    intro vs w hb hd
    have lt_of : ∀ j, waits o j = true → j < i := fun j hw => by
      unfold waits at hw
      obtain ⟨k, hk, hb⟩ := Array.any_eq_true.1 hw
      simp only [Bool.and_eq_true, beq_iff_eq] at hb
      rw [← hb.2]
      exact M.elder i o ho _ (Array.getElem_mem hk) hb.1
    have hg : Region.wanted o (yielded ops (lexA ops a0 vs i).tmps) = true := by
      unfold guardB at hG
      rw [Array.all_eq_true_iff_forall_mem] at hG
      have h1 := hG o (Array.mem_of_getElem? ho)
      unfold Region.wanted
      cases hgo : o.guard with
      | none => rfl
      | some p =>
        obtain ⟨g, want⟩ := p
        rw [hgo] at h1
        simp only [Bool.and_eq_true] at h1
        obtain ⟨⟨h1, h2⟩, h3⟩ := h1
        have hmem : (g, want) ∈ GL := by simpa using h1
        obtain ⟨t, ht⟩ := Option.isSome_iff_exists.1 h3
        have hv := hRg (g, want) hmem (vs g) w (hd g h2)
        have hl := lexA_at M hN vs t g ht i (lt_of g h2)
        have hy : yielded ops (lexA ops a0 vs i).tmps g = some want := by
          unfold yielded
          have ht' : (ops[g]?).bind (·.dst) = some t := ht
          rw [ht']
          simp only [Option.bind_some, hl, hv]
        simp [hy]
    rw [if_pos hg]
    refine hs (lexA ops a0 vs i).eval w hb (fun _ => rfl) (fun _ => rfl) (fun _ => rfl) (fun t ht => ?_) (fun j t hw hj => ?_)
    · have h' : ∀ j, slot ops j ≠ some t := fun j hj => by
        have hjs : j < ops.size := by
          unfold slot at hj
          rcases Nat.lt_or_ge j ops.size with h' | h'
          · exact h'
          · rw [Array.getElem?_eq_none h'] at hj; cases hj
        rw [List.all_eq_true] at ht
        have := ht j (List.mem_range.2 hjs)
        rw [hj] at this
        simp at this
      simp only [Act.eval, Array.getD_eq_getD_getElem?, lexA_other vs t h']
    · have : (lexA ops a0 vs i).eval (.tmp t) = vs j := by
        simp only [Act.eval, Array.getD_eq_getD_getElem?, lexA_at M hN vs t j hj i (lt_of j hw)]
        rfl
      rw [this]
      exact hd j hw
theorem wp_region_seeG {id : Nat} {Q : Exit → Act → World → Prop} (N : Nat) (GL : List (Nat × Bool)) (R : Nat → Value → World → Prop) (hN : a0.tmps.size = N) (hm : P.follows .mixedOrders = true) (hB : relB ops N = true) (hG : guardB ops GL = true)
    (hRg : ∀ p ∈ GL, ∀ v w, R p.1 v w → v = .bool p.2) (hR : ∀ i v w w', R i v w → Below w.heap.size w w' → R i v w')
    (step : ∀ i ∈ List.range ops.size, relSee P ops R w0 a0 i)
    (fin : ∀ vs w, Below w0.heap.size w0 w → (∀ j, j < ops.size → R j (vs j) w) → Q .normal (lexA ops a0 vs ops.size) w) : (Code.region id ops true).wp P Q a0 w0 :=
  wp_region_rel N R hN hm hB hR (fun i hi => relStep_of_seeG (made_of hB) hN hG hRg (step i hi)) fin
end
end Go.Proofs.Ytgpkckaojcodmaa.RelG
