/-
  Laws for a proof of package pkt: 2 texts in one.
-/
import Derived.Test.YtpmnmnflaijaaaaGreatQOptFew9
import Derived.Test.YtpmnmnflaijaaaaGreatQAddrOpen1
import Derived.Test.YtpmnmnflaijaaaaGreatQOptTurn10
import Derived.Deep.Slices
import Derived.Deep.Fields
import Derived.ChangeSame
import Derived.Lib.SmallJoins
import Derived.OpenShut
import Derived.ChangeArms
namespace Go.Proofs.YtpmnmnflaijaaaaGreat.OptOpen
open Go.RowKit Go.ChangeShapes Go.WideShapes Go.Deep Go.Joins OptMath OptSame
set_option maxRecDepth 100000
theorem cells_blk : Tryz.prog.cellsOf 74 = 2 := by kernel_rfl
section
variable {H : Type} {enc : TypeId × Value → H} {P : Program} {w : World} {base : Nat} {spare : Nat → Bool} {held : Bool}
theorem open_slice_fields {t e : TypeId} {fs : Array Field} {fuel : Nat} {cs : List Value} {x : DataW H × List MemPlace} (ht : P.underlying t = some (.slice e)) (he : P.underlying e = some (.struct fs))
   (hone : oneCellFields P fs = true) (hC : P.cellsOf e = fs.size) (h : DataW.trod enc P w base spare held fuel t cs = some x) :
   cs = [.slice none 0 0] ∨
   ∃ (a : Addr) (len cap m : Nat), cs = [.slice (some a) len cap] ∧ len ≤ cap ∧ cap ≤ maxLen ∧ len ≤ m ∧
     ∀ i, i < m → ∃ n, ∀ (j : Nat) (f : Field), fs[j]? = some f → ∃ (v : Value) (y : DataW H × List MemPlace), w.cell? (a.add (i * fs.size + j)) = some v ∧ DataW.trod enc P w base spare held n f.type [v] = some y := by
 rcases open_slice ht h with h0 | ⟨a, len, cap, m, n, D, Pl, hcs, hb, hl, hm, hmm, hx, hi⟩
 · exact .inl h0.1
 · refine .inr ⟨a, len, cap, m, hcs, hl, hm, by rw [hmm]; split <;> omega, fun i him => ?_⟩
   obtain ⟨cs', hc, ht'⟩ := hi i him
   rw [hC] at hc
   obtain ⟨ys, n', hn', hy, hlen, hyl, hf⟩ := DataW.trod_struct he ht'
   obtain ⟨_, hcl, hat⟩ := World.cells?_some hc
   refine ⟨n', fun j f hj => ?_⟩
   obtain ⟨ho, hk⟩ := hone_of hone j f hj
   have hjl : j < fs.size := (Array.getElem?_eq_some_iff.1 hj).1
   have hcell := hat j hjl
   have hv : cs'[j]? = some (cs'[j]'(by omega)) := List.getElem?_eq_getElem (by omega)
   have h1 := hf j f hj
   rw [ho, hk] at h1
   have hone' : (cs'.drop j).take 1 = [cs'[j]'(by omega)] := by
     rw [List.drop_eq_getElem_cons (by omega)]
     rfl
   rw [hone'] at h1
   have hys : ys[j]? = some (ys[j]'(by omega)) := List.getElem?_eq_getElem (by omega)
   refine ⟨_, _, ?_, h1.trans hys⟩
   rw [← Go.Deep.add_add, hcell, hv]
end
theorem open_blocks {H : Type} {enc : TypeId × Value → H} {w : World} {base : Nat} {spare : Nat → Bool} {held : Bool} {fuel : Nat} {v : Value} {x : DataW H × List MemPlace}
   (h : DataW.trod enc Tryz.prog w base spare held fuel 26 [v] = some x) : ∃ (A : Option Addr) (c : Nat) (L : List (Nat × Nat)), v = .slice A L.length c ∧ BlkR w A L ∧ L.length ≤ maxLen ∧ ∀ p ∈ L, p.1 ≤ 4294967295 ∧ p.2 ≤ 4294967295 := by
 rcases open_slice_fields Tryz.underlying26 Tryz.underlying74 (by kernel_rfl) cells_blk h with hcs | ⟨a, len, cap, m, hcs, hl, hm, hlm, hi⟩
 · injection hcs with hcs
   subst hcs
   exact ⟨none, 0, [], rfl, BlkR.nil _ _, by simp, fun s hs => absurd hs List.not_mem_nil⟩
 · injection hcs with hcs
   subst hcs
   have key : ∀ i, i < len → ∃ s : Nat × Nat, (s.1 ≤ 4294967295 ∧ s.2 ≤ 4294967295) ∧ w.cell? (a.add (i * 2)) = some (.int .u32 (s.1 : Int)) ∧ w.cell? (a.add (i * 2 + 1)) = some (.int .u32 (s.2 : Int)) := by
     intro i hin
     obtain ⟨k, hf⟩ := hi i (by omega)
     obtain ⟨v0, y0, c0, t0⟩ := hf 0 _ rfl
     obtain ⟨v1, y1, c1, t1⟩ := hf 1 _ rfl
     obtain ⟨p, e0, _, w0⟩ := DataW.trod_int Tryz.underlying22 t0
     obtain ⟨q, e1, _, w1⟩ := DataW.trod_int Tryz.underlying22 t1
     injection e0 with e0
     injection e1 with e1
     subst e0 e1
     have ⟨b0, b0'⟩ := bounds_u32 w0
     have ⟨b1, b1'⟩ := bounds_u32 w1
     obtain ⟨p, rfl⟩ := Int.eq_ofNat_of_zero_le b0
     obtain ⟨q, rfl⟩ := Int.eq_ofNat_of_zero_le b1
     exact ⟨(p, q), ⟨by show p ≤ _; omega, by show q ≤ _; omega⟩, c0, c1⟩
   obtain ⟨f, hf⟩ := choose_lt (n := len) (p := fun i (s : Nat × Nat) => (s.1 ≤ 4294967295 ∧ s.2 ≤ 4294967295) ∧ w.cell? (a.add (i * 2)) = some (.int .u32 (s.1 : Int)) ∧ w.cell? (a.add (i * 2 + 1)) = some (.int .u32 (s.2 : Int))) key
   have hlen : ((List.range len).map f).length = len := by simp
   refine ⟨some a, cap, (List.range len).map f, by rw [hlen], fun hn => ?_, by rw [hlen]; exact Nat.le_trans hl hm, fun s hs => ?_⟩
   · rw [hlen] at hn
     obtain ⟨b, off, spot⟩ := a
     have h0 := (hf 0 hn).2.1
     have hspot : spot = none := by simpa [Addr.add] using World.cell?_spot h0
     subst hspot
     refine ⟨b, off, rfl, ?_, fun j p hj => ?_⟩
     · rcases Nat.lt_or_ge b w.heap.size with hlt | hge
       · exact hlt
       · have h1 := h0
         simp [Addr.add, World.cell?, Array.getElem?_eq_none hge] at h1
     · obtain ⟨hjl, he⟩ := List.getElem?_eq_some_iff.1 hj
       rw [hlen] at hjl
       obtain ⟨_, h1, h2⟩ := hf j hjl
       rw [Go.WideShapes.add_plain] at h1 h2
       rw [List.getElem_map, List.getElem_range] at he
       subst he
       exact ⟨h1, by rw [Nat.add_assoc]; exact h2⟩
   · obtain ⟨i, hi', rfl⟩ := List.mem_map.1 hs
     exact (hf i (List.mem_range.1 hi')).1
theorem open_opts_cells {H : Type} {enc : TypeId × Value → H} {w : World} {base : Nat} {spare : Nat → Bool} {held : Bool} {fuel : Nat} {cs : List Value} {x : DataW H × List MemPlace}
   (h : DataW.trod enc Tryz.prog w base spare held fuel 28 cs = some x) :
   ∃ (o : Opn) (A : Option Addr) (c : Nat), cs = (oc o A c).toList ∧ BlkR w A o.blocks ∧ o.ok ∧ o.blocks.length ≤ maxLen ∧ -9223372036854775808 ≤ o.scale ∧ o.scale ≤ 9223372036854775807 := by
 obtain ⟨xs, n, _, _, hl, hlen, hfx⟩ := DataW.trod_struct Tryz.underlying28 h
 have hl7 : cs.length = 7 := hl
 match cs, hl7, xs, hlen with
 | [x0, x1, x2, x3, x4, x5, x6], _, [y0, y1, y2, y3, y4, y5, y6], _ =>
   have h0 : DataW.trod enc Tryz.prog w base spare held n 23 [x0] = some y0 := hfx 0 _ rfl
   have h1 : DataW.trod enc Tryz.prog w base spare held n 3 [x1] = some y1 := hfx 1 _ rfl
   have h2 : DataW.trod enc Tryz.prog w base spare held n 4 [x2] = some y2 := hfx 2 _ rfl
   have h3 : DataW.trod enc Tryz.prog w base spare held n 26 [x3] = some y3 := hfx 3 _ rfl
   have h4 : DataW.trod enc Tryz.prog w base spare held n 4 [x4] = some y4 := hfx 4 _ rfl
   have h5 : DataW.trod enc Tryz.prog w base spare held n 22 [x5] = some y5 := hfx 5 _ rfl
   have h6 : DataW.trod enc Tryz.prog w base spare held n 22 [x6] = some y6 := hfx 6 _ rfl
   obtain ⟨a0, e0, _, w0⟩ := DataW.trod_int Tryz.underlying23 h0
   obtain ⟨a1, e1, _, w1⟩ := DataW.trod_int Tryz.underlying3 h1
   obtain ⟨a2, e2, _⟩ := DataW.trod_bool Tryz.underlying4 h2
   obtain ⟨A, c, L, rfl, hB, hL, hLe⟩ := open_blocks h3
   obtain ⟨a4, e4, _⟩ := DataW.trod_bool Tryz.underlying4 h4
   obtain ⟨a5, e5, _, w5⟩ := DataW.trod_int Tryz.underlying22 h5
   obtain ⟨a6, e6, _, w6⟩ := DataW.trod_int Tryz.underlying22 h6
   have ⟨b0, c0⟩ := bounds_u16 w0
   have ⟨b1, c1⟩ := bounds_i64 w1
   have ⟨b5, c5⟩ := bounds_u32 w5
   have ⟨b6, c6⟩ := bounds_u32 w6
   obtain ⟨a0, rfl⟩ := Int.eq_ofNat_of_zero_le b0
   obtain ⟨a5, rfl⟩ := Int.eq_ofNat_of_zero_le b5
   obtain ⟨a6, rfl⟩ := Int.eq_ofNat_of_zero_le b6
   injection e0 with e0
   injection e1 with e1
   injection e2 with e2
   injection e4 with e4
   injection e5 with e5
   injection e6 with e6
   subst e0 e1 e2 e4 e5 e6
   exact ⟨⟨a0, a1, a2, L, a4, a5, a6⟩, A, c, rfl, hB, ⟨by show a0 ≤ _; omega, hLe, by show a5 ≤ _; omega, by show a6 ≤ _; omega⟩, hL, b1, c1⟩
end Go.Proofs.YtpmnmnflaijaaaaGreat.OptOpen
namespace Go.Proofs.YtpmnmnflaijaaaaGreat.PktOpen
open Go.RowKit Go.ChangeShapes Go.WideShapes Go.Deep Go.Joins OptMath OptSame PktMath PktVal
set_option maxRecDepth 100000
theorem open_seg {H : Type} {enc : TypeId × Value → H} {w : World} {base : Nat} {spare : Nat → Bool} {held : Bool} {r : Reach} {b0 : Nat} {v : Value} {d : DataW H} {p : List MemPlace}
   (hv : Value.okWide Tryz.prog w r b0 30 v) (h : DataW.Trod enc Tryz.prog w base spare held 30 v d p) :
   ∃ (s : Sg) (A : Option Addr) (c : Nat), v = sv s A c ∧ BlkR w A s.opts.blocks ∧ s.ok ∧ s.opts.blocks.length ≤ maxLen ∧ -9223372036854775808 ≤ s.opts.scale ∧ s.opts.scale ≤ 9223372036854775807 ∧ s.data.size ≤ maxLen := by
 obtain ⟨cs, rfl, hsz⟩ := okWide_struct Tryz.underlying30 hv
 obtain ⟨fuel, hf⟩ := h
 have hf' : DataW.trod enc Tryz.prog w base spare held fuel 30 cs.toList = some (d, p) := by simpa [Value.cells] using hf
 obtain ⟨xs, n, _, _, hl, hlen, hfx⟩ := DataW.trod_struct Tryz.underlying30 hf'
 have hl16 : cs.toList.length = 16 := hl
 obtain ⟨l⟩ := cs
 match l, hl16, xs, hlen with
 | [x0, x1, x2, x3, x4, x5, x6, x7, x8, x9, x10, x11, x12, x13, x14, x15], _, [y0, y1, y2, y3, y4, y5, y6, y7], _ =>
   have h0 : DataW.trod enc Tryz.prog w base spare held n 25 [x0, x1] = some y0 := hfx 0 _ rfl
   have h1 : DataW.trod enc Tryz.prog w base spare held n 25 [x2, x3] = some y1 := hfx 1 _ rfl
   have h2 : DataW.trod enc Tryz.prog w base spare held n 22 [x4] = some y2 := hfx 2 _ rfl
   have h3 : DataW.trod enc Tryz.prog w base spare held n 22 [x5] = some y3 := hfx 3 _ rfl
   have h4 : DataW.trod enc Tryz.prog w base spare held n 5 [x6] = some y4 := hfx 4 _ rfl
   have h5 : DataW.trod enc Tryz.prog w base spare held n 23 [x7] = some y5 := hfx 5 _ rfl
   have h6 : DataW.trod enc Tryz.prog w base spare held n 28 [x8, x9, x10, x11, x12, x13, x14] = some y6 := hfx 6 _ rfl
   have h7 : DataW.trod enc Tryz.prog w base spare held n 9 [x15] = some y7 := hfx 7 _ rfl
   obtain ⟨a0, a1, e0, k0, k1⟩ := TupOpen.open_addr h0
   obtain ⟨a2, a3, e1, k2, k3⟩ := TupOpen.open_addr h1
   obtain ⟨a4, e2, _, w4⟩ := DataW.trod_int Tryz.underlying22 h2
   obtain ⟨a5, e3, _, w5⟩ := DataW.trod_int Tryz.underlying22 h3
   obtain ⟨a6, e4, _, w6⟩ := DataW.trod_int Tryz.underlying5 h4
   obtain ⟨a7, e5, _, w7⟩ := DataW.trod_int Tryz.underlying23 h5
   obtain ⟨o, A, c, e6, hB, hok, hL, s1, s2⟩ := OptOpen.open_opts_cells h6
   obtain ⟨S, e7, _, hS⟩ := DataW.trod_string Tryz.underlying9 h7
   have ⟨b4, c4⟩ := bounds_u32 w4
   have ⟨b5, c5⟩ := bounds_u32 w5
   have ⟨b6, c6⟩ := bounds_u8 w6
   have ⟨b7, c7⟩ := bounds_u16 w7
   obtain ⟨a4, rfl⟩ := Int.eq_ofNat_of_zero_le b4
   obtain ⟨a5, rfl⟩ := Int.eq_ofNat_of_zero_le b5
   obtain ⟨a6, rfl⟩ := Int.eq_ofNat_of_zero_le b6
   obtain ⟨a7, rfl⟩ := Int.eq_ofNat_of_zero_le b7
   injection e0 with e0 e0'
   injection e0' with e0' _
   injection e1 with e1 e1'
   injection e1' with e1' _
   injection e2 with e2
   injection e3 with e3
   injection e4 with e4
   injection e5 with e5
   injection e7 with e7
   have e6' : [x8, x9, x10, x11, x12, x13, x14] = [.int .u16 (o.mss : Int), .int .i64 o.scale, .bool o.sack, .slice A o.blocks.length c, .bool o.time, .int .u32 (o.val : Int), .int .u32 (o.echo : Int)] := e6
   injection e6' with f0 e6'
   injection e6' with f1 e6'
   injection e6' with f2 e6'
   injection e6' with f3 e6'
   injection e6' with f4 e6'
   injection e6' with f5 e6'
   injection e6' with f6 _
   subst e0 e0' e1 e1' e2 e3 e4 e5 e7 f0 f1 f2 f3 f4 f5 f6
   exact ⟨⟨a0, a1, a2, a3, a4, a5, a6, a7, o, S⟩, A, c, rfl, hB, ⟨k0, k1, k2, k3, by show a4 ≤ _; omega, by show a5 ≤ _; omega, by show a6 ≤ _; omega, by show a7 ≤ _; omega, hok⟩, hL, s1, s2, hS⟩
theorem open_shift {H : Type} {enc : TypeId × Value → H} {w : World} {base : Nat} {spare : Nat → Bool} {held : Bool} {r : Reach} {b0 : Nat} {v : Value} {d : DataW H} {p : List MemPlace}
   (hv : Value.okWide Tryz.prog w r b0 32 v) (h : DataW.Trod enc Tryz.prog w base spare held 32 v d p) :
   ∃ (x : Sh), v = xv x ∧ x.ok ∧ -9223372036854775808 ≤ x.up ∧ x.up ≤ 9223372036854775807 ∧ -9223372036854775808 ≤ x.down ∧ x.down ≤ 9223372036854775807 := by
 obtain ⟨cs, rfl, hsz⟩ := okWide_struct Tryz.underlying32 hv
 obtain ⟨fuel, hf⟩ := h
 have hf' : DataW.trod enc Tryz.prog w base spare held fuel 32 cs.toList = some (d, p) := by simpa [Value.cells] using hf
 obtain ⟨xs, n, _, _, hl, hlen, hfx⟩ := DataW.trod_struct Tryz.underlying32 hf'
 have hl10 : cs.toList.length = 10 := hl
 obtain ⟨l⟩ := cs
 match l, hl10, xs, hlen with
 | [x0, x1, x2, x3, x4, x5, x6, x7, x8, x9], _, [y0, y1, y2, y3, y4, y5, y6, y7], _ =>
   have h0 : DataW.trod enc Tryz.prog w base spare held n 25 [x0, x1] = some y0 := hfx 0 _ rfl
   have h1 : DataW.trod enc Tryz.prog w base spare held n 25 [x2, x3] = some y1 := hfx 1 _ rfl
   have h2 : DataW.trod enc Tryz.prog w base spare held n 22 [x4] = some y2 := hfx 2 _ rfl
   have h3 : DataW.trod enc Tryz.prog w base spare held n 22 [x5] = some y3 := hfx 3 _ rfl
   have h4 : DataW.trod enc Tryz.prog w base spare held n 22 [x6] = some y4 := hfx 4 _ rfl
   have h5 : DataW.trod enc Tryz.prog w base spare held n 22 [x7] = some y5 := hfx 5 _ rfl
   have h6 : DataW.trod enc Tryz.prog w base spare held n 3 [x8] = some y6 := hfx 6 _ rfl
   have h7 : DataW.trod enc Tryz.prog w base spare held n 3 [x9] = some y7 := hfx 7 _ rfl
   obtain ⟨a0, a1, e0, k0, k1⟩ := TupOpen.open_addr h0
   obtain ⟨a2, a3, e1, k2, k3⟩ := TupOpen.open_addr h1
   obtain ⟨a4, e2, _, w4⟩ := DataW.trod_int Tryz.underlying22 h2
   obtain ⟨a5, e3, _, w5⟩ := DataW.trod_int Tryz.underlying22 h3
   obtain ⟨a6, e4, _, w6⟩ := DataW.trod_int Tryz.underlying22 h4
   obtain ⟨a7, e5, _, w7⟩ := DataW.trod_int Tryz.underlying22 h5
   obtain ⟨a8, e6, _, w8⟩ := DataW.trod_int Tryz.underlying3 h6
   obtain ⟨a9, e7, _, w9⟩ := DataW.trod_int Tryz.underlying3 h7
   have ⟨b4, c4⟩ := bounds_u32 w4
   have ⟨b5, c5⟩ := bounds_u32 w5
   have ⟨b6, c6⟩ := bounds_u32 w6
   have ⟨b7, c7⟩ := bounds_u32 w7
   have ⟨b8, c8⟩ := bounds_i64 w8
   have ⟨b9, c9⟩ := bounds_i64 w9
   obtain ⟨a4, rfl⟩ := Int.eq_ofNat_of_zero_le b4
   obtain ⟨a5, rfl⟩ := Int.eq_ofNat_of_zero_le b5
   obtain ⟨a6, rfl⟩ := Int.eq_ofNat_of_zero_le b6
   obtain ⟨a7, rfl⟩ := Int.eq_ofNat_of_zero_le b7
   injection e0 with e0 e0'
   injection e0' with e0' _
   injection e1 with e1 e1'
   injection e1' with e1' _
   injection e2 with e2
   injection e3 with e3
   injection e4 with e4
   injection e5 with e5
   injection e6 with e6
   injection e7 with e7
   subst e0 e0' e1 e1' e2 e3 e4 e5 e6 e7
   exact ⟨⟨a0, a1, a2, a3, a4, a5, a6, a7, a8, a9⟩, rfl, ⟨k0, k1, k2, k3, by show a4 ≤ _; omega, by show a5 ≤ _; omega, by show a6 ≤ _; omega, by show a7 ≤ _; omega⟩, b8, c8, b9, c9⟩
end Go.Proofs.YtpmnmnflaijaaaaGreat.PktOpen
