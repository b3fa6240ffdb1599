/-
  Laws for a proof of package pkt: 6 texts in one.
-/
import Derived.Test.YtpmnmnflaijaaaaQOptFew9
import Derived.Test.YtpmnmnflaijaaaaQPktOp7
import Derived.Test.YtpmnmnflaijaaaaQPktBox1
import Derived.Test.YtpmnmnflaijaaaaQRelG2
import Derived.Test.YtpmnmnflaijaaaaQTcpRef4
import Derived.Test.YtpmnmnflaijaaaaQTcpEnc2
import Derived.WalkKit
import Derived.ProofKit
import Derived.OpenShut
import Derived.Test.YtpmnmnflaijaaaaChecked
import Derived.Deep.Slices
import Derived.Deep.Fields
import Derived.ChangeSame
import Derived.Lib.SmallJoins
import Derived.ChangeArms
namespace Go.Proofs.Ytpmnmnflaijaaaa.TupOpen
open Go.RowKit Go.ChangeShapes Go.WideShapes
set_option maxRecDepth 100000

theorem open_addr {H : Type} {enc : TypeId × Value → H} {w : World} {base : Nat} {spare : Nat → Bool} {held : Bool} {fuel : Nat} {cs : List Value} {x : DataW H × List MemPlace}
    (h : DataW.trod enc Try.prog w base spare held fuel 25 cs = some x) : ∃ i p : Nat, cs = [.int .u32 (i : Int), .int .u16 (p : Int)] ∧ i ≤ 4294967295 ∧ p ≤ 65535 := by
  obtain ⟨y0, y1, n, _, hl, h0, h1⟩ := trod_struct2 Try.underlying25 h
  have hl2 : cs.length = 2 := hl
  match cs, hl2 with
  | [a, b], _ =>
    obtain ⟨i, e0, _, wi⟩ := DataW.trod_int Try.underlying22 h0
    obtain ⟨p, e1, _, wp⟩ := DataW.trod_int Try.underlying23 h1
    have ⟨bi, bi'⟩ := bounds_u32 wi
    have ⟨bp, bp'⟩ := bounds_u16 wp
    obtain ⟨i, rfl⟩ := Int.eq_ofNat_of_zero_le bi
    obtain ⟨p, rfl⟩ := Int.eq_ofNat_of_zero_le bp
    have e0' : [a] = [Value.int .u32 (i : Int)] := e0
    have e1' : [b] = [Value.int .u16 (p : Int)] := e1
    injection e0' with e0'
    injection e1' with e1'
    exact ⟨i, p, by rw [e0', e1'], by omega, by omega⟩

end Go.Proofs.Ytpmnmnflaijaaaa.TupOpen

namespace Go.Proofs.Ytpmnmnflaijaaaa.OptOpen
open Go.RowKit Go.ChangeShapes Go.WideShapes Go.Deep Go.Joins OptMath OptSame
set_option maxRecDepth 100000

theorem cells_blk : Try.prog.cellsOf 103 = 2 := by kernel_rfl

section
variable {H : Type} {enc : TypeId × Value → H} {P : Program} {w : World} {base : Nat} {spare : Nat → Bool} {held : Bool}
theorem open_slice_fields {t e : TypeId} {fs : Array Field} {fuel : Nat} {cs : List Value} {x : DataW H × List MemPlace} (ht : P.underlying t = some (.slice e)) (he : P.underlying e = some (.struct fs))
    (hone : oneCellFields P fs = true) (hC : P.cellsOf e = fs.size) (h : DataW.trod enc P w base spare held fuel t cs = some x) :
    cs = [.slice none 0 0] ∨
    ∃ (a : Addr) (len cap m : Nat), cs = [.slice (some a) len cap] ∧ len ≤ cap ∧ cap ≤ maxLen ∧ len ≤ m ∧
      ∀ i, i < m → ∃ n, ∀ (j : Nat) (f : Field), fs[j]? = some f → ∃ (v : Value) (y : DataW H × List MemPlace), w.cell? (a.add (i * fs.size + j)) = some v ∧ DataW.trod enc P w base spare held n f.type [v] = some y := by
  rcases open_slice ht h with h0 | ⟨a, len, cap, m, n, D, Pl, hcs, hb, hl, hm, hmm, hx, hi⟩
  · exact .inl h0.1
  · refine .inr ⟨a, len, cap, m, hcs, hl, hm, by rw [hmm]; split <;> omega, fun i him => ?_⟩
    obtain ⟨cs', hc, ht'⟩ := hi i him
    rw [hC] at hc
    obtain ⟨ys, n', hn', hy, hlen, hyl, hf⟩ := DataW.trod_struct he ht'
    obtain ⟨_, hcl, hat⟩ := World.cells?_some hc
    refine ⟨n', fun j f hj => ?_⟩
    obtain ⟨ho, hk⟩ := hone_of hone j f hj
    have hjl : j < fs.size := (Array.getElem?_eq_some_iff.1 hj).1
    have hcell := hat j hjl
    have hv : cs'[j]? = some (cs'[j]'(by omega)) := List.getElem?_eq_getElem (by omega)
    have h1 := hf j f hj
    rw [ho, hk] at h1
    have hone' : (cs'.drop j).take 1 = [cs'[j]'(by omega)] := by
      rw [List.drop_eq_getElem_cons (by omega)]
      rfl
    rw [hone'] at h1
    have hys : ys[j]? = some (ys[j]'(by omega)) := List.getElem?_eq_getElem (by omega)
    refine ⟨_, _, ?_, h1.trans hys⟩
    rw [← Go.Deep.add_add, hcell, hv]
end

/-- A row of blocks that came in. -/
theorem open_blocks {H : Type} {enc : TypeId × Value → H} {w : World} {base : Nat} {spare : Nat → Bool} {held : Bool} {fuel : Nat} {v : Value} {x : DataW H × List MemPlace}
    (h : DataW.trod enc Try.prog w base spare held fuel 26 [v] = some x) : ∃ (A : Option Addr) (c : Nat) (L : List (Nat × Nat)), v = .slice A L.length c ∧ BlkR w A L ∧ L.length ≤ maxLen ∧ ∀ p ∈ L, p.1 ≤ 4294967295 ∧ p.2 ≤ 4294967295 := by
  rcases open_slice_fields Try.underlying26 Try.underlying103 (by kernel_rfl) cells_blk h with hcs | ⟨a, len, cap, m, hcs, hl, hm, hlm, hi⟩
  · injection hcs with hcs
    subst hcs
    exact ⟨none, 0, [], rfl, BlkR.nil _ _, by simp, fun s hs => absurd hs List.not_mem_nil⟩
  · injection hcs with hcs
    subst hcs
    have key : ∀ i, i < len → ∃ s : Nat × Nat, (s.1 ≤ 4294967295 ∧ s.2 ≤ 4294967295) ∧ w.cell? (a.add (i * 2)) = some (.int .u32 (s.1 : Int)) ∧ w.cell? (a.add (i * 2 + 1)) = some (.int .u32 (s.2 : Int)) := by
      intro i hin
      obtain ⟨k, hf⟩ := hi i (by omega)
      obtain ⟨v0, y0, c0, t0⟩ := hf 0 _ rfl
      obtain ⟨v1, y1, c1, t1⟩ := hf 1 _ rfl
      obtain ⟨p, e0, _, w0⟩ := DataW.trod_int Try.underlying22 t0
      obtain ⟨q, e1, _, w1⟩ := DataW.trod_int Try.underlying22 t1
      injection e0 with e0
      injection e1 with e1
      subst e0 e1
      have ⟨b0, b0'⟩ := bounds_u32 w0
      have ⟨b1, b1'⟩ := bounds_u32 w1
      obtain ⟨p, rfl⟩ := Int.eq_ofNat_of_zero_le b0
      obtain ⟨q, rfl⟩ := Int.eq_ofNat_of_zero_le b1
      exact ⟨(p, q), ⟨by show p ≤ _; omega, by show q ≤ _; omega⟩, c0, c1⟩
    obtain ⟨f, hf⟩ := choose_lt (n := len) (p := fun i (s : Nat × Nat) => (s.1 ≤ 4294967295 ∧ s.2 ≤ 4294967295) ∧ w.cell? (a.add (i * 2)) = some (.int .u32 (s.1 : Int)) ∧ w.cell? (a.add (i * 2 + 1)) = some (.int .u32 (s.2 : Int))) key
    have hlen : ((List.range len).map f).length = len := by simp
    refine ⟨some a, cap, (List.range len).map f, by rw [hlen], fun hn => ?_, by rw [hlen]; exact Nat.le_trans hl hm, fun s hs => ?_⟩
    · rw [hlen] at hn
      obtain ⟨b, off, spot⟩ := a
      have h0 := (hf 0 hn).2.1
      have hspot : spot = none := by simpa [Addr.add] using World.cell?_spot h0
      subst hspot
      refine ⟨b, off, rfl, ?_, fun j p hj => ?_⟩
      · rcases Nat.lt_or_ge b w.heap.size with hlt | hge
        · exact hlt
        · have h1 := h0
          simp [Addr.add, World.cell?, Array.getElem?_eq_none hge] at h1
      · obtain ⟨hjl, he⟩ := List.getElem?_eq_some_iff.1 hj
        rw [hlen] at hjl
        obtain ⟨_, h1, h2⟩ := hf j hjl
        rw [Go.WideShapes.add_plain] at h1 h2
        rw [List.getElem_map, List.getElem_range] at he
        subst he
        exact ⟨h1, by rw [Nat.add_assoc]; exact h2⟩
    · obtain ⟨i, hi', rfl⟩ := List.mem_map.1 hs
      exact (hf i (List.mem_range.1 hi')).1

/-- Options, as cells. -/
theorem open_opts_cells {H : Type} {enc : TypeId × Value → H} {w : World} {base : Nat} {spare : Nat → Bool} {held : Bool} {fuel : Nat} {cs : List Value} {x : DataW H × List MemPlace}
    (h : DataW.trod enc Try.prog w base spare held fuel 28 cs = some x) :
    ∃ (o : Opn) (A : Option Addr) (c : Nat), cs = (oc o A c).toList ∧ BlkR w A o.blocks ∧ o.ok ∧ o.blocks.length ≤ maxLen ∧ -9223372036854775808 ≤ o.scale ∧ o.scale ≤ 9223372036854775807 := by
  obtain ⟨xs, n, _, _, hl, hlen, hfx⟩ := DataW.trod_struct Try.underlying28 h
  have hl7 : cs.length = 7 := hl
  match cs, hl7, xs, hlen with
  | [x0, x1, x2, x3, x4, x5, x6], _, [y0, y1, y2, y3, y4, y5, y6], _ =>
    have h0 : DataW.trod enc Try.prog w base spare held n 23 [x0] = some y0 := hfx 0 _ rfl
    have h1 : DataW.trod enc Try.prog w base spare held n 3 [x1] = some y1 := hfx 1 _ rfl
    have h2 : DataW.trod enc Try.prog w base spare held n 4 [x2] = some y2 := hfx 2 _ rfl
    have h3 : DataW.trod enc Try.prog w base spare held n 26 [x3] = some y3 := hfx 3 _ rfl
    have h4 : DataW.trod enc Try.prog w base spare held n 4 [x4] = some y4 := hfx 4 _ rfl
    have h5 : DataW.trod enc Try.prog w base spare held n 22 [x5] = some y5 := hfx 5 _ rfl
    have h6 : DataW.trod enc Try.prog w base spare held n 22 [x6] = some y6 := hfx 6 _ rfl
    obtain ⟨a0, e0, _, w0⟩ := DataW.trod_int Try.underlying23 h0
    obtain ⟨a1, e1, _, w1⟩ := DataW.trod_int Try.underlying3 h1
    obtain ⟨a2, e2, _⟩ := DataW.trod_bool Try.underlying4 h2
    obtain ⟨A, c, L, rfl, hB, hL, hLe⟩ := open_blocks h3
    obtain ⟨a4, e4, _⟩ := DataW.trod_bool Try.underlying4 h4
    obtain ⟨a5, e5, _, w5⟩ := DataW.trod_int Try.underlying22 h5
    obtain ⟨a6, e6, _, w6⟩ := DataW.trod_int Try.underlying22 h6
    have ⟨b0, c0⟩ := bounds_u16 w0
    have ⟨b1, c1⟩ := bounds_i64 w1
    have ⟨b5, c5⟩ := bounds_u32 w5
    have ⟨b6, c6⟩ := bounds_u32 w6
    obtain ⟨a0, rfl⟩ := Int.eq_ofNat_of_zero_le b0
    obtain ⟨a5, rfl⟩ := Int.eq_ofNat_of_zero_le b5
    obtain ⟨a6, rfl⟩ := Int.eq_ofNat_of_zero_le b6
    injection e0 with e0
    injection e1 with e1
    injection e2 with e2
    injection e4 with e4
    injection e5 with e5
    injection e6 with e6
    subst e0 e1 e2 e4 e5 e6
    exact ⟨⟨a0, a1, a2, L, a4, a5, a6⟩, A, c, rfl, hB, ⟨by show a0 ≤ _; omega, hLe, by show a5 ≤ _; omega, by show a6 ≤ _; omega⟩, hL, b1, c1⟩
/-- Options that came in. -/
theorem open_opts {H : Type} {enc : TypeId × Value → H} {w : World} {base : Nat} {spare : Nat → Bool} {held : Bool} {r : Reach} {b0 : Nat} {v : Value} {d : DataW H} {p : List MemPlace}
    (hv : Value.okWide Try.prog w r b0 28 v) (h : DataW.Trod enc Try.prog w base spare held 28 v d p) :
    ∃ (o : Opn) (A : Option Addr) (c : Nat), v = ov o A c ∧ BlkR w A o.blocks ∧ o.ok ∧ o.blocks.length ≤ maxLen ∧ -9223372036854775808 ≤ o.scale ∧ o.scale ≤ 9223372036854775807 := by
  obtain ⟨cs, rfl, hsz⟩ := okWide_struct Try.underlying28 hv
  obtain ⟨fuel, hf⟩ := h
  have hf' : DataW.trod enc Try.prog w base spare held fuel 28 cs.toList = some (d, p) := by simpa [Value.cells] using hf
  obtain ⟨o, A, c, hcs, h1⟩ := open_opts_cells hf'
  obtain ⟨l⟩ := cs
  have hcs' : l = (oc o A c).toList := hcs
  subst hcs'
  exact ⟨o, A, c, rfl, h1⟩
end Go.Proofs.Ytpmnmnflaijaaaa.OptOpen

namespace Go.Proofs.Ytpmnmnflaijaaaa.PktOpen
open Go.RowKit Go.ChangeShapes Go.WideShapes Go.Deep Go.Joins OptMath OptSame PktMath PktVal
set_option maxRecDepth 100000

/-- A segment that came in. -/
theorem open_seg {H : Type} {enc : TypeId × Value → H} {w : World} {base : Nat} {spare : Nat → Bool} {held : Bool} {r : Reach} {b0 : Nat} {v : Value} {d : DataW H} {p : List MemPlace}
    (hv : Value.okWide Try.prog w r b0 30 v) (h : DataW.Trod enc Try.prog w base spare held 30 v d p) :
    ∃ (s : Sg) (A : Option Addr) (c : Nat), v = sv s A c ∧ BlkR w A s.opts.blocks ∧ s.ok ∧ s.opts.blocks.length ≤ maxLen ∧ -9223372036854775808 ≤ s.opts.scale ∧ s.opts.scale ≤ 9223372036854775807 ∧ s.data.size ≤ maxLen := by
  obtain ⟨cs, rfl, hsz⟩ := okWide_struct Try.underlying30 hv
  obtain ⟨fuel, hf⟩ := h
  have hf' : DataW.trod enc Try.prog w base spare held fuel 30 cs.toList = some (d, p) := by simpa [Value.cells] using hf
  obtain ⟨xs, n, _, _, hl, hlen, hfx⟩ := DataW.trod_struct Try.underlying30 hf'
  have hl16 : cs.toList.length = 16 := hl
  obtain ⟨l⟩ := cs
  match l, hl16, xs, hlen with
  | [x0, x1, x2, x3, x4, x5, x6, x7, x8, x9, x10, x11, x12, x13, x14, x15], _, [y0, y1, y2, y3, y4, y5, y6, y7], _ =>
    have h0 : DataW.trod enc Try.prog w base spare held n 25 [x0, x1] = some y0 := hfx 0 _ rfl
    have h1 : DataW.trod enc Try.prog w base spare held n 25 [x2, x3] = some y1 := hfx 1 _ rfl
    have h2 : DataW.trod enc Try.prog w base spare held n 22 [x4] = some y2 := hfx 2 _ rfl
    have h3 : DataW.trod enc Try.prog w base spare held n 22 [x5] = some y3 := hfx 3 _ rfl
    have h4 : DataW.trod enc Try.prog w base spare held n 5 [x6] = some y4 := hfx 4 _ rfl
    have h5 : DataW.trod enc Try.prog w base spare held n 23 [x7] = some y5 := hfx 5 _ rfl
    have h6 : DataW.trod enc Try.prog w base spare held n 28 [x8, x9, x10, x11, x12, x13, x14] = some y6 := hfx 6 _ rfl
    have h7 : DataW.trod enc Try.prog w base spare held n 9 [x15] = some y7 := hfx 7 _ rfl
    obtain ⟨a0, a1, e0, k0, k1⟩ := TupOpen.open_addr h0
    obtain ⟨a2, a3, e1, k2, k3⟩ := TupOpen.open_addr h1
    obtain ⟨a4, e2, _, w4⟩ := DataW.trod_int Try.underlying22 h2
    obtain ⟨a5, e3, _, w5⟩ := DataW.trod_int Try.underlying22 h3
    obtain ⟨a6, e4, _, w6⟩ := DataW.trod_int Try.underlying5 h4
    obtain ⟨a7, e5, _, w7⟩ := DataW.trod_int Try.underlying23 h5
    obtain ⟨o, A, c, e6, hB, hok, hL, s1, s2⟩ := OptOpen.open_opts_cells h6
    obtain ⟨S, e7, _, hS⟩ := DataW.trod_string Try.underlying9 h7
    have ⟨b4, c4⟩ := bounds_u32 w4
    have ⟨b5, c5⟩ := bounds_u32 w5
    have ⟨b6, c6⟩ := bounds_u8 w6
    have ⟨b7, c7⟩ := bounds_u16 w7
    obtain ⟨a4, rfl⟩ := Int.eq_ofNat_of_zero_le b4
    obtain ⟨a5, rfl⟩ := Int.eq_ofNat_of_zero_le b5
    obtain ⟨a6, rfl⟩ := Int.eq_ofNat_of_zero_le b6
    obtain ⟨a7, rfl⟩ := Int.eq_ofNat_of_zero_le b7
    injection e0 with e0 e0'
    injection e0' with e0' _
    injection e1 with e1 e1'
    injection e1' with e1' _
    injection e2 with e2
    injection e3 with e3
    injection e4 with e4
    injection e5 with e5
    injection e7 with e7
    have e6' : [x8, x9, x10, x11, x12, x13, x14] = [.int .u16 (o.mss : Int), .int .i64 o.scale, .bool o.sack, .slice A o.blocks.length c, .bool o.time, .int .u32 (o.val : Int), .int .u32 (o.echo : Int)] := e6
    injection e6' with f0 e6'
    injection e6' with f1 e6'
    injection e6' with f2 e6'
    injection e6' with f3 e6'
    injection e6' with f4 e6'
    injection e6' with f5 e6'
    injection e6' with f6 _
    subst e0 e0' e1 e1' e2 e3 e4 e5 e7 f0 f1 f2 f3 f4 f5 f6
    exact ⟨⟨a0, a1, a2, a3, a4, a5, a6, a7, o, S⟩, A, c, rfl, hB, ⟨k0, k1, k2, k3, by show a4 ≤ _; omega, by show a5 ≤ _; omega, by show a6 ≤ _; omega, by show a7 ≤ _; omega, hok⟩, hL, s1, s2, hS⟩

/-- A shift that came in. -/
theorem open_shift {H : Type} {enc : TypeId × Value → H} {w : World} {base : Nat} {spare : Nat → Bool} {held : Bool} {r : Reach} {b0 : Nat} {v : Value} {d : DataW H} {p : List MemPlace}
    (hv : Value.okWide Try.prog w r b0 46 v) (h : DataW.Trod enc Try.prog w base spare held 46 v d p) :
    ∃ (x : Sh), v = xv x ∧ x.ok ∧ -9223372036854775808 ≤ x.up ∧ x.up ≤ 9223372036854775807 ∧ -9223372036854775808 ≤ x.down ∧ x.down ≤ 9223372036854775807 := by
  obtain ⟨cs, rfl, hsz⟩ := okWide_struct Try.underlying46 hv
  obtain ⟨fuel, hf⟩ := h
  have hf' : DataW.trod enc Try.prog w base spare held fuel 46 cs.toList = some (d, p) := by simpa [Value.cells] using hf
  obtain ⟨xs, n, _, _, hl, hlen, hfx⟩ := DataW.trod_struct Try.underlying46 hf'
  have hl10 : cs.toList.length = 10 := hl
  obtain ⟨l⟩ := cs
  match l, hl10, xs, hlen with
  | [x0, x1, x2, x3, x4, x5, x6, x7, x8, x9], _, [y0, y1, y2, y3, y4, y5, y6, y7], _ =>
    have h0 : DataW.trod enc Try.prog w base spare held n 25 [x0, x1] = some y0 := hfx 0 _ rfl
    have h1 : DataW.trod enc Try.prog w base spare held n 25 [x2, x3] = some y1 := hfx 1 _ rfl
    have h2 : DataW.trod enc Try.prog w base spare held n 22 [x4] = some y2 := hfx 2 _ rfl
    have h3 : DataW.trod enc Try.prog w base spare held n 22 [x5] = some y3 := hfx 3 _ rfl
    have h4 : DataW.trod enc Try.prog w base spare held n 22 [x6] = some y4 := hfx 4 _ rfl
    have h5 : DataW.trod enc Try.prog w base spare held n 22 [x7] = some y5 := hfx 5 _ rfl
    have h6 : DataW.trod enc Try.prog w base spare held n 3 [x8] = some y6 := hfx 6 _ rfl
    have h7 : DataW.trod enc Try.prog w base spare held n 3 [x9] = some y7 := hfx 7 _ rfl
    obtain ⟨a0, a1, e0, k0, k1⟩ := TupOpen.open_addr h0
    obtain ⟨a2, a3, e1, k2, k3⟩ := TupOpen.open_addr h1
    obtain ⟨a4, e2, _, w4⟩ := DataW.trod_int Try.underlying22 h2
    obtain ⟨a5, e3, _, w5⟩ := DataW.trod_int Try.underlying22 h3
    obtain ⟨a6, e4, _, w6⟩ := DataW.trod_int Try.underlying22 h4
    obtain ⟨a7, e5, _, w7⟩ := DataW.trod_int Try.underlying22 h5
    obtain ⟨a8, e6, _, w8⟩ := DataW.trod_int Try.underlying3 h6
    obtain ⟨a9, e7, _, w9⟩ := DataW.trod_int Try.underlying3 h7
    have ⟨b4, c4⟩ := bounds_u32 w4
    have ⟨b5, c5⟩ := bounds_u32 w5
    have ⟨b6, c6⟩ := bounds_u32 w6
    have ⟨b7, c7⟩ := bounds_u32 w7
    have ⟨b8, c8⟩ := bounds_i64 w8
    have ⟨b9, c9⟩ := bounds_i64 w9
    obtain ⟨a4, rfl⟩ := Int.eq_ofNat_of_zero_le b4
    obtain ⟨a5, rfl⟩ := Int.eq_ofNat_of_zero_le b5
    obtain ⟨a6, rfl⟩ := Int.eq_ofNat_of_zero_le b6
    obtain ⟨a7, rfl⟩ := Int.eq_ofNat_of_zero_le b7
    injection e0 with e0 e0'
    injection e0' with e0' _
    injection e1 with e1 e1'
    injection e1' with e1' _
    injection e2 with e2
    injection e3 with e3
    injection e4 with e4
    injection e5 with e5
    injection e6 with e6
    injection e7 with e7
    subst e0 e0' e1 e1' e2 e3 e4 e5 e6 e7
    exact ⟨⟨a0, a1, a2, a3, a4, a5, a6, a7, a8, a9⟩, rfl, ⟨k0, k1, k2, k3, by show a4 ≤ _; omega, by show a5 ≤ _; omega, by show a6 ≤ _; omega, by show a7 ≤ _; omega⟩, b8, c8, b9, c9⟩
end Go.Proofs.Ytpmnmnflaijaaaa.PktOpen

namespace Go.Proofs.Ytpmnmnflaijaaaa.PktSee
open Go.RowKit Boxes Cells Rel OptMath OptSame PktMath PktVal PktOp PktBox
set_option linter.unusedVariables false
set_option maxRecDepth 100000

theorem see_load {o : Oper} {ρ : Operand → Value} {W : World} {T : Value → World → Prop} (ty : TypeId) (x : Operand) (ho : o.op = .load ty x) (b off : Nat) (hx : ρ x = .pointer (some ⟨b, off, none⟩)) (cs : List Value) (d : TypeDesc) (hc : W.rangeAt b off cs)
    (hu : Try.prog.underlying ty = some d) (hd : d.isRow = true) (hi : (Try.prog.info? ty).map (·.size) = some cs.length) (h : T (.agg cs.toArray) W) : relUpon Try.prog T W ((execOp ρ o).run Try.prog W) := by
  unfold execOp
  simp only [ho, hx, Instr.loadAt, Instr.sureAddr, Sem.run_bind, Sem.run_pure, Result.andThen_ok, run_loadVar_mid W b off ty cs d hc hu hd hi]
  exact ⟨h, Below.refl _ _⟩
theorem see_seg {o : Oper} {ρ : Operand → Value} {W : World} {T : Value → World → Prop} (x : Operand) (ho : o.op = .load 30 x) (b : Nat) (hx : ρ x = .pointer (some ⟨b, 0, none⟩)) (s : Sg) (A : Option Addr) (c : Nat) (hc : CellsAt W b (sc s A c)) (h : T (sv s A c) W) : relUpon Try.prog T W ((execOp ρ o).run Try.prog W) :=
  see_load _ x ho b 0 hx (sc s A c).toList _ (rangeAt hc 0 _ (fun j v hv => by rw [Nat.zero_add]; simpa using hv)) Try.underlying30 rfl (by kernel_rfl) h
theorem see_shift {o : Oper} {ρ : Operand → Value} {W : World} {T : Value → World → Prop} (x : Operand) (ho : o.op = .load 46 x) (b : Nat) (hx : ρ x = .pointer (some ⟨b, 0, none⟩)) (s : Sh) (hc : CellsAt W b (xc s)) (h : T (xv s) W) : relUpon Try.prog T W ((execOp ρ o).run Try.prog W) :=
  see_load _ x ho b 0 hx (xc s).toList _ (rangeAt hc 0 _ (fun j v hv => by rw [Nat.zero_add]; simpa using hv)) Try.underlying46 rfl (by kernel_rfl) h
end Go.Proofs.Ytpmnmnflaijaaaa.PktSee

namespace Go.Proofs.Ytpmnmnflaijaaaa.PktMayR
open Go.Proofs.Ytpmnmnflaijaaaa.Own
open Go.RowKit TupMath SumMath Litb Calm Rel RelT RelK IpMath IpRef OptMath OptRef OptPlc OptSame Boxes OptMay PktMath PktVal PktSmall PktCom
set_option linter.unusedVariables false
set_option linter.unusedSimpArgs false
set_option maxRecDepth 100000
attribute [local go_sem] Oper.semAt_some

set_option maxHeartbeats 8000000 in
theorem mayR8 (s : Sg) (A : Option Addr) (c : Nat) (w : World) (hbk : BlkR w A s.opts.blocks) (k : s.ok) (hd : s.data.size ≤ maxLen) :
    Calls Try.prog 13 #[sv s A c] w fun e w' => e = .returned (.bool (mayS s)) ∧ Below w.heap.size w w' := by
  have kf := k.flags
  have HD : Hid (s.data.size ≤ 9223372036854775807) := Lib.hid (Nat.le_trans hd (by decide))
  have HX := Lib.hid (fun (W : World) (hW : Below (w.alloc (.cells (sc s A c) 30)).heap.size (w.alloc (.cells (sc s A c) 30)) W) (j : Nat) (v : Value) (hv : (sc s A c)[j]? = some v) => ((hW.cell (p := ⟨w.heap.size, j, none⟩) (by simp)).trans (World.cell?_alloc_mark w _ _ (0, 0) j)).trans hv)
  have HBK := Lib.hid (fun (W : World) (hW : Below (w.alloc (.cells (sc s A c) 30)).heap.size (w.alloc (.cells (sc s A c) 30)) W) => (hbk.more (st_alloc (Below.refl _ w) (.cells (sc s A c) 30))).more hW)
  have HB0 := Lib.hid (st_alloc (Below.refl _ w) (.cells (sc s A c) 30))
  have HK := Lib.hid k.opts
  clear hbk
  cases hf : flg s.flags with
  | false =>
    have HV : Hid (mayS s = false) := Lib.hid (by unfold mayS; rw [hf]; rfl)
    go_enter Try.func13, Try.ntmps13
    go_wp2_with fail
    refine (PktSmall.flagsR s.flags _ kf).mono ?_
    rintro e wA ⟨rfl, hb⟩
    have HB := Lib.hid (st_call HB0.out hb)
    rw [hf]
    clear hb
    go_wp2_with fail
    go_ret
    exact ⟨by rw [HV.out]; rfl, HB.out⟩
  | true =>
    go_enter Try.func13, Try.ntmps13
    go_wp2_with fail
    refine (PktSmall.flagsR s.flags _ kf).mono ?_
    rintro e wA ⟨rfl, hb⟩
    have HB := Lib.hid (st_call HB0.out hb)
    have HA := Lib.hid hb
    rw [hf]
    have x8 : wA.cell? ⟨w.heap.size, 8, none⟩ = some (.int .u16 (s.opts.mss : Int)) := HX.out _ HA.out 8 _ rfl
    have x9 : wA.cell? ⟨w.heap.size, 9, none⟩ = some (.int .i64 s.opts.scale) := HX.out _ HA.out 9 _ rfl
    have x10 : wA.cell? ⟨w.heap.size, 10, none⟩ = some (.bool s.opts.sack) := HX.out _ HA.out 10 _ rfl
    have x11 : wA.cell? ⟨w.heap.size, 11, none⟩ = some (.slice A s.opts.blocks.length c) := HX.out _ HA.out 11 _ rfl
    have x12 : wA.cell? ⟨w.heap.size, 12, none⟩ = some (.bool s.opts.time) := HX.out _ HA.out 12 _ rfl
    have x13 : wA.cell? ⟨w.heap.size, 13, none⟩ = some (.int .u32 (s.opts.val : Int)) := HX.out _ HA.out 13 _ rfl
    have x14 : wA.cell? ⟨w.heap.size, 14, none⟩ = some (.int .u32 (s.opts.echo : Int)) := HX.out _ HA.out 14 _ rfl
    clear hb
    cases hm : mayO s.opts with
    | false =>
      have HV : Hid (mayS s = false) := Lib.hid (by unfold mayS; rw [hf, hm]; rfl)
      go_wp2_with fail
      refine (OptMay.mayR s.opts A c _ (HBK.out _ HA.out) HK.out).mono ?_
      rintro e wB ⟨rfl, hb⟩
      have HB2 := Lib.hid (st_call HB.out hb)
      rw [hm]
      clear hb x8 x9 x10 x11 x12 x13 x14
      go_wp2_with fail
      go_ret
      exact ⟨by rw [HV.out]; rfl, HB2.out⟩
    | true =>
      have HV : Hid (mayS s = decide (s.data.size ≤ 1460)) := Lib.hid (by unfold mayS; rw [hf, hm]; rfl)
      go_wp2_with fail
      refine (OptMay.mayR s.opts A c _ (HBK.out _ HA.out) HK.out).mono ?_
      rintro e wB ⟨rfl, hb⟩
      have HB2 := Lib.hid (st_call HB.out hb)
      have y15 : wB.cell? ⟨w.heap.size, 15, none⟩ = some (.string s.data) := HX.out _ (st_call HA.out hb) 15 _ rfl
      rw [hm]
      have hd2 := HD.out
      clear hb x8 x9 x10 x11 x12 x13 x14
      go_wp2_with fail
      go_ret
      exact ⟨by rw [HV.out]; exact congrArg (fun b => Ending.returned (.bool b)) (decide_eq_decide.2 (by omega)), HB2.out⟩
end Go.Proofs.Ytpmnmnflaijaaaa.PktMayR

namespace Go.Proofs.Ytpmnmnflaijaaaa.PktEncR
open Go.Proofs.Ytpmnmnflaijaaaa.Own
open Go.RowKit TupMath SumMath Litb Calm Rel RelT RelK IpMath IpRef OptMath OptRef OptPlc OptSame Boxes OptMay PktMath PktVal PktSmall PktCom IpHead IpEnc TcpMath TcpRef TcpEnc
set_option linter.unusedVariables false
set_option linter.unusedSimpArgs false
set_option maxRecDepth 100000
attribute [local go_sem] Oper.semAt_some

set_option maxHeartbeats 16000000 in
theorem encR8 (s : Sg) (A : Option Addr) (c : Nat) (w : World) (hbk : BlkR w A s.opts.blocks) (k : s.ok) (hd : s.data.size ≤ maxLen) :
    Calls Try.prog 11 #[sv s A c] w fun e w' => e = .returned (encV8 s) ∧ Below w.heap.size w w' := by
  have HD : Hid (s.data.size ≤ maxLen) := Lib.hid hd
  have HX := Lib.hid (fun (W : World) (hW : Below (w.alloc (.cells (sc s A c) 30)).heap.size (w.alloc (.cells (sc s A c) 30)) W) (j : Nat) (v : Value) (hv : (sc s A c)[j]? = some v) => ((hW.cell (p := ⟨w.heap.size, j, none⟩) (by simp)).trans (World.cell?_alloc_mark w _ _ (0, 0) j)).trans hv)
  have HBK := Lib.hid (fun (W : World) (hW : Below (w.alloc (.cells (sc s A c) 30)).heap.size (w.alloc (.cells (sc s A c) 30)) W) => (hbk.more (st_alloc (Below.refl _ w) (.cells (sc s A c) 30))).more hW)
  have HB0 := Lib.hid (st_alloc (Below.refl _ w) (.cells (sc s A c) 30))
  have HK := Lib.hid k
  clear hbk hd k
  cases hm : mayS s with
  | false =>
    have HV : Hid (encV8 s = .tuple #[.string ⟨#[]⟩, .int .i64 2]) := Lib.hid (by unfold encV8; rw [hm]; rfl)
    go_enter Try.func11, Try.ntmps11
    go_wp2_with fail
    refine (PktMayR.mayR8 s A c _ (HBK.out _ (Below.refl _ _)) HK.out HD.out).mono ?_
    rintro e wA ⟨rfl, hb⟩
    have HB := Lib.hid (st_call HB0.out hb)
    rw [hm]
    clear hb
    go_wp2_with fail
    refine bodyPost_ret (v := encV8 s) ?_ rfl ⟨rfl, HB.out⟩
    rw [HV.out]
    simp [results, Try.f11, go_sem]
  | true =>
    have m := of_mayS hm
    have HV : Hid (encV8 s = .tuple #[.string (ofB (pk s)), .int .i64 0]) := Lib.hid (by unfold encV8; rw [hm]; rfl)
    have H7 : Hid (encV7 s.opts = .tuple #[.string (th s).opts, .int .i64 0]) := Lib.hid (if_pos (of_may m.opts))
    have h40 : (th s).opts.size ≤ 40 := (th_may m).most
    have hfew := m.few
    have H6 : Hid (encV6 s.sip s.dip (th s) s.data = .tuple #[.string (ofB (seg s.sip s.dip (th s) (bz s.data))), .int .i64 0]) := Lib.hid (encV6_ok (th_may m) (by omega))
    have hsg : (ofB (seg s.sip s.dip (th s) (bz s.data))).size = 20 + (th s).opts.size + s.data.size := by rw [ofB_size, seg_len, bz_len]
    have H5 : Hid (encV (ihd s) (ofB (seg s.sip s.dip (th s) (bz s.data))) = .tuple #[.string (ofB (pk s)), .int .i64 0]) := Lib.hid (by
      unfold encV
      rw [if_pos (by omega), bz_ofB (sg_le HK.out m)]
      rfl)
    have T5 := Lib.hid (fun W => IpEnc.encR (ihd s) (ofB (seg s.sip s.dip (th s) (bz s.data))) W (ihd_ok HK.out) (by omega))
    have T6 := Lib.hid (fun W => TcpEnc.encR6 s.sip s.dip (th s) s.data W HK.out.sip HK.out.dip (th_ok HK.out) (by omega) (by omega))
    rw [H5.out] at T5
    rw [H6.out] at T6
    generalize ofB (seg s.sip s.dip (th s) (bz s.data)) = L at T5 T6
    generalize ofB (pk s) = P at T5 HV
    have ev : tv (th s) = .agg #[.int .u16 (s.sport : Int), .int .u16 (s.dport : Int), .int .u32 (s.seq : Int), .int .u32 (s.ack : Int), .int .u8 (s.flags : Int), .int .u16 (s.win : Int), .int .u16 0, .string (th s).opts] := rfl
    rw [ev] at T6
    have eh : hv (ihd s) = .agg #[.int .u32 (s.sip : Int), .int .u32 (s.dip : Int), .int .u8 6, .int .u8 64, .int .u8 0, .int .u16 0, .bool true] := rfl
    rw [eh] at T5
    generalize (th s).opts = O at H7 T6
    clear H5 H6 hsg h40 hfew m ev eh
    go_enter Try.func11, Try.ntmps11
    go_wp2_with fail
    refine (PktMayR.mayR8 s A c _ (HBK.out _ (Below.refl _ _)) HK.out HD.out).mono ?_
    rintro e wA ⟨rfl, hb⟩
    have HB := Lib.hid (st_call HB0.out hb)
    have HA := Lib.hid hb
    rw [hm]
    have x8 : wA.cell? ⟨w.heap.size, 8, none⟩ = some (.int .u16 (s.opts.mss : Int)) := HX.out _ HA.out 8 _ rfl
    have x9 : wA.cell? ⟨w.heap.size, 9, none⟩ = some (.int .i64 s.opts.scale) := HX.out _ HA.out 9 _ rfl
    have x10 : wA.cell? ⟨w.heap.size, 10, none⟩ = some (.bool s.opts.sack) := HX.out _ HA.out 10 _ rfl
    have x11 : wA.cell? ⟨w.heap.size, 11, none⟩ = some (.slice A s.opts.blocks.length c) := HX.out _ HA.out 11 _ rfl
    have x12 : wA.cell? ⟨w.heap.size, 12, none⟩ = some (.bool s.opts.time) := HX.out _ HA.out 12 _ rfl
    have x13 : wA.cell? ⟨w.heap.size, 13, none⟩ = some (.int .u32 (s.opts.val : Int)) := HX.out _ HA.out 13 _ rfl
    have x14 : wA.cell? ⟨w.heap.size, 14, none⟩ = some (.int .u32 (s.opts.echo : Int)) := HX.out _ HA.out 14 _ rfl
    clear hb
    go_wp2_with fail
    refine (OptMay.encR7 s.opts A c _ (HBK.out _ HA.out) HK.out.opts).mono ?_
    rintro e wB ⟨rfl, hb⟩
    have HB2 := Lib.hid (st_call HB.out hb)
    have HA2 := Lib.hid (st_call HA.out hb)
    rw [H7.out]
    clear hb x8 x9 x10 x11 x12 x13 x14
    have y0 : wB.cell? ⟨w.heap.size, 0, none⟩ = some (.int .u32 (s.sip : Int)) := HX.out _ HA2.out 0 _ rfl
    have y1 : wB.cell? ⟨w.heap.size, 1, none⟩ = some (.int .u16 (s.sport : Int)) := HX.out _ HA2.out 1 _ rfl
    have y2 : wB.cell? ⟨w.heap.size, 2, none⟩ = some (.int .u32 (s.dip : Int)) := HX.out _ HA2.out 2 _ rfl
    have y3 : wB.cell? ⟨w.heap.size, 3, none⟩ = some (.int .u16 (s.dport : Int)) := HX.out _ HA2.out 3 _ rfl
    have y4 : wB.cell? ⟨w.heap.size, 4, none⟩ = some (.int .u32 (s.seq : Int)) := HX.out _ HA2.out 4 _ rfl
    have y5 : wB.cell? ⟨w.heap.size, 5, none⟩ = some (.int .u32 (s.ack : Int)) := HX.out _ HA2.out 5 _ rfl
    have y6 : wB.cell? ⟨w.heap.size, 6, none⟩ = some (.int .u8 (s.flags : Int)) := HX.out _ HA2.out 6 _ rfl
    have y7 : wB.cell? ⟨w.heap.size, 7, none⟩ = some (.int .u16 (s.win : Int)) := HX.out _ HA2.out 7 _ rfl
    have y15 : wB.cell? ⟨w.heap.size, 15, none⟩ = some (.string s.data) := HX.out _ HA2.out 15 _ rfl
    go_wp2_with fail
    refine (T6.out _).mono ?_
    rintro e wC ⟨rfl, hb⟩
    have HB3 := Lib.hid (st_call HB2.out hb)
    have HA3 := Lib.hid (st_call HA2.out hb)
    clear hb y0 y1 y2 y3 y4 y5 y6 y7 y15
    have z0 : wC.cell? ⟨w.heap.size, 0, none⟩ = some (.int .u32 (s.sip : Int)) := HX.out _ HA3.out 0 _ rfl
    have z2 : wC.cell? ⟨w.heap.size, 2, none⟩ = some (.int .u32 (s.dip : Int)) := HX.out _ HA3.out 2 _ rfl
    go_wp2_with fail
    refine (T5.out _).mono ?_
    rintro e wD ⟨rfl, hb⟩
    have HB4 := Lib.hid (st_call HB3.out hb)
    clear hb z0 z2
    go_wp2_with fail
    refine bodyPost_ret (v := encV8 s) ?_ rfl ⟨rfl, HB4.out⟩
    rw [HV.out]
    simp [results, Try.f11, go_sem]
end Go.Proofs.Ytpmnmnflaijaaaa.PktEncR
