/-
  How an argument that is a list of numbers (of any kind) is opened, and how such a list lies in memory.
-/
import Derived.Test.YtokbkhopadaeoaaChecked
import Derived.WalkKit
import Derived.ProofKit
import Derived.Deep.Slices
import Derived.OpenShut
import Derived.Laws.AppendOwnNone
import Derived.Test.YtokbkhopadaeoaaOwn
namespace Go.Proofs.Ytokbkhopadaeoaa.Ints
open Go.RowKit Go.ChangeShapes Go.WideShapes Go.Deep
set_option linter.unusedVariables false

/-- a slice of n numbers of kind K at A reads as N, in a block that stands -/
def IntR (K : IntKind) (w : World) (A : Option Addr) (n : Nat) (N : List Int) : Prop :=
  n = N.length ∧ (0 < n → ∃ b off, A = some ⟨b, off, none⟩ ∧ b < w.heap.size ∧ ∀ (j : Nat) (x : Int), N[j]? = some x → w.cell? ⟨b, off + j, none⟩ = some (.int K x))
theorem IntR.len {K w A n N} (h : IntR K w A n N) : n = N.length := h.1
theorem IntR.nil (K : IntKind) (w : World) (A : Option Addr) : IntR K w A 0 [] := ⟨rfl, fun h => absurd h (by omega)⟩
theorem IntR.more {K w w' A n N} (h : IntR K w A n N) (hb : Below w.heap.size w w') : IntR K w' A n N :=
  ⟨h.1, fun hn => by
    obtain ⟨b, off, e, hlt, hc⟩ := h.2 hn
    exact ⟨b, off, e, Nat.lt_of_lt_of_le hlt hb.size, fun j x hx => (hb.cell (p := ⟨b, off + j, none⟩) hlt).trans (hc j x hx)⟩⟩
/-- the same, below a block: what stands below it stays -/
theorem IntR.below {K w w' A n N} {B : Nat} (h : IntR K w A n N) (hB : w.heap.size ≤ B) (hb : Below B w w') : IntR K w' A n N :=
  ⟨h.1, fun hn => by
    obtain ⟨b, off, e, hlt, hc⟩ := h.2 hn
    exact ⟨b, off, e, Nat.lt_of_lt_of_le hlt hb.size, fun j x hx => (hb.cell (p := ⟨b, off + j, none⟩) (Nat.lt_of_lt_of_le hlt hB)).trans (hc j x hx)⟩⟩

theorem open_ints {H : Type} {enc : TypeId × Value → H} {w : World} {base : Nat} {spare : Nat → Bool} {held : Bool} {fuel : Nat} {t e : TypeId} {K : IntKind} {A : Option Addr} {n c : Nat} {x : DataW H × List MemPlace}
    (ht : Try.prog.underlying t = some (.slice e)) (he : Try.prog.underlying e = some (.int K)) (h1c : Try.prog.cellsOf e = 1)
    (h : DataW.trod enc Try.prog w base spare held fuel t [.slice A n c] = some x) : ∃ L, IntR K w A n L ∧ (n ≤ maxLen ∧ (A = none → n = 0 ∧ c = 0)) ∧ ∀ x ∈ L, (Lit.int K x).wf = true := by
  rcases open_slice1 ht h1c h with ⟨hcs, _⟩ | ⟨a, len, cap, m, k, V, D, Pl, hcs, _, hl, hm, hmm, _, hi⟩
  · injection hcs with hcs
    injection hcs with e1 e2 e3
    subst e1 e2 e3
    exact ⟨[], IntR.nil _ _ _, ⟨by unfold maxLen; omega, fun _ => ⟨rfl, rfl⟩⟩, fun x hx => absurd hx (by simp)⟩
  · injection hcs with hcs
    injection hcs with e1 e2 e3
    subst e1 e2 e3
    have hlm : n ≤ m := by rw [hmm]; split <;> omega
    have key : ∀ i, i < n → ∃ s : Int, w.cell? (a.add i) = some (.int K s) ∧ (Lit.int K s).wf = true := by
      intro i hin
      obtain ⟨c0, t0⟩ := hi i (by omega)
      obtain ⟨p, e0, _, hw⟩ := DataW.trod_int he t0
      injection e0 with e0
      exact ⟨p, by rw [c0, e0], hw⟩
    obtain ⟨f, hf⟩ := choose_lt (n := n) (p := fun i (s : Int) => w.cell? (a.add i) = some (.int K s) ∧ (Lit.int K s).wf = true) key
    refine ⟨(List.range n).map f, ⟨by simp, fun hn => ?_⟩, ⟨Nat.le_trans hl hm, fun h => by cases h⟩, ?_⟩
    · obtain ⟨b, off, spot⟩ := a
      have h0 := (hf 0 hn).1
      have hspot : spot = none := by simpa [Addr.add] using World.cell?_spot h0
      subst hspot
      refine ⟨b, off, rfl, ?_, fun j x hj => ?_⟩
      · rcases Nat.lt_or_ge b w.heap.size with hlt | hge
        · exact hlt
        · have h1 := h0
          simp [Addr.add, World.cell?, Array.getElem?_eq_none hge] at h1
      · obtain ⟨hj1, hj2⟩ := List.getElem?_eq_some_iff.1 hj
        simp only [List.length_map, List.length_range] at hj1
        have h1 := (hf j hj1).1
        rw [Go.WideShapes.add_plain] at h1
        simp only [List.getElem_map, List.getElem_range] at hj2
        rw [← hj2]
        exact h1
    · intro x hx
      obtain ⟨i, hi2, rfl⟩ := List.mem_map.1 hx
      exact (hf i (List.mem_range.1 hi2)).2

/-- a literal of three numbers, just built -/
theorem IntR.three (K : IntKind) (w : World) (a b c : Int) (T : TypeId) : IntR K (w.alloc (.cells #[.int K a, .int K b, .int K c] T)) (some ⟨w.heap.size, 0, none⟩) 3 [a, b, c] :=
  ⟨rfl, fun _ => ⟨w.heap.size, 0, rfl, by simp, fun j x hj => by
    rw [Nat.zero_add]
    refine (World.cell?_alloc_mark w _ T (0, 0) j).trans ?_
    match j, hj with
    | 0, hj => simp at hj; subst hj; rfl
    | 1, hj => simp at hj; subst hj; rfl
    | 2, hj => simp at hj; subst hj; rfl
    | j + 3, hj => simp at hj⟩⟩
/-- 'append([]T(nil), l...)', guarded or not -/
theorem clone_ints {ops : Array Oper} {rest : List Oper} {o : Oper} {a : Act} {Q : Exit → Act → World → Prop} (w : World) (hw : Region.wanted o (yielded ops a.tmps) = true) (s x : Operand) (t e : TypeId)
    (ho : o.op = .call { callee := .builtin .append, args := #[s, x], argTypes := #[t, t] }) (K : IntKind) (bytes : Nat) (ht : Try.prog.underlying t = some (.slice e))
    (hi : (Try.prog.info? e).map (fun i => (i.zero, i.size, i.bytes)) = some (some (.int K 0), 1, bytes)) (hby : bytes ≤ 8)
    (hs : a.eval s = .slice none 0 0) (A : Option Addr) (n c : Nat) (L : List Int) (hx : a.eval x = .slice A n c) (hr : IntR K w A n L) (hn : A = none → n = 0 ∧ c = 0) (hsm : n ≤ 1000000)
    (h : ∀ A' c' w', IntR K w' A' n L → Below w.heap.size w w' → wpList Try.prog ops Q rest (a.put o.dst (.slice A' n c')) w') : wpList Try.prog ops Q (o :: rest) a w := by
  obtain ⟨i, h0, h1, h2, h3⟩ := Own.info_parts hi
  refine wpList_step fun k hk => ?_
  rw [if_pos hw]
  cases A with
  | none =>
    obtain ⟨rfl, rfl⟩ := hn rfl
    have hL : L = [] := List.eq_nil_of_length_eq_zero hr.len.symm
    subst hL
    have hrun := run_append_owned_none (P := Try.prog) (w := w) w.heap.size t o.type e i 1 ht h0 (.slice none 0 0) 0 [] (World.ownsRow_nil _ _ _ _)
    unfold Oper.wp
    simp [execOp, ho, resolve, invoke, builtin, hs, hx, hrun, Result.andThen]
    exact hk _ _ (h none 0 w hr (Below.refl _ _))
  | some ad =>
    refine wp_append_own w s x t ho w.heap.size e i _ 1 bytes ht h0 h1 h2 h3 (by rfl) (by decide) (.slice none 0 0) 0 [] hs (World.ownsRow_nil _ _ _ _) ad n c (L.map fun z => Value.int K z) hx (by rw [List.length_map, ← hr.len, Nat.mul_one]) ?_ ?_ (by unfold maxLen; omega) ?_ (Nat.le_refl _) ?_
    · intro j u hu
      rw [List.getElem?_map, Option.map_eq_some_iff] at hu
      obtain ⟨z, hz, rfl⟩ := hu
      have hj := (List.getElem?_eq_some_iff.1 hz).1
      obtain ⟨b, off, e1, _, hc⟩ := hr.2 (by have := hr.len; omega)
      injection e1 with e1
      subst e1
      rw [Go.WideShapes.add_plain]
      exact hc j z hz
    · intro u hu
      obtain ⟨z, _, rfl⟩ := List.mem_map.1 hu
      rfl
    · have : (0 + n) * bytes ≤ 1000000 * 8 := Nat.mul_le_mul (by omega) hby
      omega
    · intro v' w' g1 g2 _
      rw [Nat.zero_add, List.nil_append] at g1
      obtain ⟨A', c', rfl⟩ := Own.own_form g1
      have hb : Below w.heap.size w w' := (Below.refl _ w).grown g2 (Nat.le_refl _) fun k hk => by simp [Value.ownBlock] at hk
      refine hk _ _ (h A' c' w' ⟨hr.len, fun h0 => ?_⟩ hb)
      obtain ⟨g, rfl, _, hg, hc, _⟩ := Own.own_at g1 h0
      exact ⟨g, 0, rfl, hg, fun j z hz => hc j _ (by rw [List.getElem?_map, hz]; rfl)⟩
end Go.Proofs.Ytokbkhopadaeoaa.Ints
