/-
  How an argument that is a list of spans, a span, a list of bools is opened.
-/
import Derived.Test.YtpglooaebndbiaaSpanLay
import Derived.Deep.Slices
import Derived.Deep.Fields
import Derived.ChangeSame
import Derived.Lib.SmallJoins
import Derived.OpenShut
namespace Go.Proofs.Ytpglooaebndbiaa.SpanOpen
open Go.RowKit Go.ChangeShapes Go.WideShapes Go.Deep Go.Joins SpanLay

theorem cells_span : Try.prog.cellsOf 35 = 2 := by kernel_rfl

section
variable {H : Type} {enc : TypeId × Value → H} {P : Program} {w : World} {base : Nat} {spare : Nat → Bool} {held : Bool}
theorem open_slice_fields {t e : TypeId} {fs : Array Field} {fuel : Nat} {cs : List Value} {x : DataW H × List MemPlace} (ht : P.underlying t = some (.slice e)) (he : P.underlying e = some (.struct fs))
    (hone : oneCellFields P fs = true) (hC : P.cellsOf e = fs.size) (h : DataW.trod enc P w base spare held fuel t cs = some x) :
    cs = [.slice none 0 0] ∨
    ∃ (a : Addr) (len cap m : Nat), cs = [.slice (some a) len cap] ∧ len ≤ cap ∧ cap ≤ maxLen ∧ len ≤ m ∧
      ∀ i, i < m → ∃ n, ∀ (j : Nat) (f : Field), fs[j]? = some f → ∃ (v : Value) (y : DataW H × List MemPlace), w.cell? (a.add (i * fs.size + j)) = some v ∧ DataW.trod enc P w base spare held n f.type [v] = some y := by
  rcases open_slice ht h with h0 | ⟨a, len, cap, m, n, D, Pl, hcs, hb, hl, hm, hmm, hx, hi⟩
  · exact .inl h0.1
  · refine .inr ⟨a, len, cap, m, hcs, hl, hm, by rw [hmm]; split <;> omega, fun i him => ?_⟩
    obtain ⟨cs', hc, ht'⟩ := hi i him
    rw [hC] at hc
    obtain ⟨ys, n', hn', hy, hlen, hyl, hf⟩ := DataW.trod_struct he ht'
    obtain ⟨_, hcl, hat⟩ := World.cells?_some hc
    refine ⟨n', fun j f hj => ?_⟩
    obtain ⟨ho, hk⟩ := hone_of hone j f hj
    have hjl : j < fs.size := (Array.getElem?_eq_some_iff.1 hj).1
    have hcell := hat j hjl
    have hv : cs'[j]? = some (cs'[j]'(by omega)) := List.getElem?_eq_getElem (by omega)
    have h1 := hf j f hj
    rw [ho, hk] at h1
    have hone' : (cs'.drop j).take 1 = [cs'[j]'(by omega)] := by
      rw [List.drop_eq_getElem_cons (by omega)]
      rfl
    rw [hone'] at h1
    have hys : ys[j]? = some (ys[j]'(by omega)) := List.getElem?_eq_getElem (by omega)
    refine ⟨_, _, ?_, h1.trans hys⟩
    rw [← Go.Deep.add_add, hcell, hv]
end

/-- A list of spans that came in. -/
theorem open_spans {H : Type} {enc : TypeId × Value → H} {w : World} {base : Nat} {spare : Nat → Bool} {held : Bool} {fuel : Nat} {A : Option Addr} {n c : Nat} {x : DataW H × List MemPlace}
    (h : DataW.trod enc Try.prog w base spare held fuel 33 [.slice A n c] = some x) : ∃ L, SpR w w.heap.size A n L ∧ n ≤ maxLen ∧ ∀ s ∈ L, Fit s := by
  rcases open_slice_fields Try.underlying33 Try.underlying35 (by kernel_rfl) cells_span h with hcs | ⟨a, len, cap, m, hcs, hl, hm, hlm, hi⟩
  · injection hcs with hcs
    injection hcs with e1 e2 e3
    subst e1 e2 e3
    exact ⟨[], SpR.nil _ _ _, by unfold maxLen; omega, fun s hs => absurd hs List.not_mem_nil⟩
  · injection hcs with hcs
    injection hcs with e1 e2 e3
    subst e1 e2 e3
    have key : ∀ i, i < n → ∃ s : Int × Int, Fit s ∧ w.cell? (a.add (i * 2)) = some (.int .u64 s.1) ∧ w.cell? (a.add (i * 2 + 1)) = some (.int .u64 s.2) := by
      intro i hin
      obtain ⟨k, hf⟩ := hi i (by omega)
      obtain ⟨v0, y0, c0, t0⟩ := hf 0 _ rfl
      obtain ⟨v1, y1, c1, t1⟩ := hf 1 _ rfl
      obtain ⟨p, e0, _, w0⟩ := DataW.trod_int Try.underlying28 t0
      obtain ⟨q, e1, _, w1⟩ := DataW.trod_int Try.underlying28 t1
      injection e0 with e0
      injection e1 with e1
      subst e0 e1
      have ⟨b0, b0'⟩ := bounds_u64 w0
      have ⟨b1, b1'⟩ := bounds_u64 w1
      exact ⟨(p, q), ⟨b0, b0', b1, b1'⟩, c0, c1⟩
    obtain ⟨f, hf⟩ := choose_lt (n := n) (p := fun i (s : Int × Int) => Fit s ∧ w.cell? (a.add (i * 2)) = some (.int .u64 s.1) ∧ w.cell? (a.add (i * 2 + 1)) = some (.int .u64 s.2)) key
    refine ⟨(List.range n).map f, ⟨by simp, fun hn => ?_⟩, Nat.le_trans hl hm, fun s hs => ?_⟩
    · obtain ⟨b, off, spot⟩ := a
      have h0 := (hf 0 hn).2.1
      have hspot : spot = none := by simpa [Addr.add] using World.cell?_spot h0
      subst hspot
      refine ⟨b, off, rfl, ?_, fun j hj => ?_⟩
      · rcases Nat.lt_or_ge b w.heap.size with hlt | hge
        · exact hlt
        · have h1 := h0
          simp [Addr.add, World.cell?, Array.getElem?_eq_none hge] at h1
      · simp only [List.length_map, List.length_range] at hj
        obtain ⟨_, h1, h2⟩ := hf j hj
        rw [Go.WideShapes.add_plain] at h1 h2
        simp only [List.getElem_map, List.getElem_range]
        exact ⟨h1, by rw [Nat.add_assoc]; exact h2⟩
    · obtain ⟨i, hi', rfl⟩ := List.mem_map.1 hs
      exact (hf i (List.mem_range.1 hi')).1

/-- A span that came in. -/
theorem open_span {H : Type} {enc : TypeId × Value → H} {w : World} {base : Nat} {spare : Nat → Bool} {held : Bool} {r : Reach} {b0 : Nat} {v : Value} {d : DataW H} {p : List MemPlace}
    (hv : Value.okWide Try.prog w r b0 35 v) (h : DataW.Trod enc Try.prog w base spare held 35 v d p) : ∃ x y : Int, v = .agg #[.int .u64 x, .int .u64 y] ∧ Fit (x, y) := by
  obtain ⟨c0, c1, y0, y1, m, rfl, rfl, rfl, hy0, hy1⟩ := open_agg2 Try.underlying35 (by kernel_rfl) cells_span hv h
  obtain ⟨a, e0, _, wa⟩ := DataW.trod_int Try.underlying28 hy0
  obtain ⟨b, e1, _, wb⟩ := DataW.trod_int Try.underlying28 hy1
  injection e0 with e0
  injection e1 with e1
  subst e0 e1
  have ⟨b0, b0'⟩ := bounds_u64 wa
  have ⟨b1, b1'⟩ := bounds_u64 wb
  exact ⟨a, b, rfl, b0, b0', b1, b1'⟩
end Go.Proofs.Ytpglooaebndbiaa.SpanOpen
