/-
  How an argument that is a pair of addresses is opened.
-/
import Derived.Test.YtpphpnnehljekaaDoorChecked
import Derived.WalkKit
import Derived.ProofKit
import Derived.OpenShut
namespace Go.Proofs.YtpphpnnehljekaaDoor.TupOpen
open Go.RowKit Go.ChangeShapes Go.WideShapes
set_option maxRecDepth 100000

theorem open_addr {H : Type} {enc : TypeId × Value → H} {w : World} {base : Nat} {spare : Nat → Bool} {held : Bool} {fuel : Nat} {cs : List Value} {x : DataW H × List MemPlace}
    (h : DataW.trod enc Tryd.prog w base spare held fuel 25 cs = some x) : ∃ i p : Nat, cs = [.int .u32 (i : Int), .int .u16 (p : Int)] ∧ i ≤ 4294967295 ∧ p ≤ 65535 := by
  obtain ⟨y0, y1, n, _, hl, h0, h1⟩ := trod_struct2 Tryd.underlying25 h
  have hl2 : cs.length = 2 := hl
  match cs, hl2 with
  | [a, b], _ =>
    obtain ⟨i, e0, _, wi⟩ := DataW.trod_int Tryd.underlying22 h0
    obtain ⟨p, e1, _, wp⟩ := DataW.trod_int Tryd.underlying23 h1
    have ⟨bi, bi'⟩ := bounds_u32 wi
    have ⟨bp, bp'⟩ := bounds_u16 wp
    obtain ⟨i, rfl⟩ := Int.eq_ofNat_of_zero_le bi
    obtain ⟨p, rfl⟩ := Int.eq_ofNat_of_zero_le bp
    have e0' : [a] = [Value.int .u32 (i : Int)] := e0
    have e1' : [b] = [Value.int .u16 (p : Int)] := e1
    injection e0' with e0'
    injection e1' with e1'
    exact ⟨i, p, by rw [e0', e1'], by omega, by omega⟩

/-- A pair that came in. -/
theorem open_pair {H : Type} {enc : TypeId × Value → H} {w : World} {base : Nat} {spare : Nat → Bool} {held : Bool} {r : Reach} {b0 : Nat} {v : Value} {d : DataW H} {p : List MemPlace}
    (hv : Value.okWide Tryd.prog w r b0 27 v) (h : DataW.Trod enc Tryd.prog w base spare held 27 v d p) :
    ∃ a b c e : Nat, v = .agg #[.int .u32 (a : Int), .int .u16 (b : Int), .int .u32 (c : Int), .int .u16 (e : Int)] ∧ a ≤ 4294967295 ∧ b ≤ 65535 ∧ c ≤ 4294967295 ∧ e ≤ 65535 := by
  obtain ⟨cs, rfl, hsz⟩ := okWide_struct Tryd.underlying27 hv
  obtain ⟨fuel, hf⟩ := h
  have hf' : DataW.trod enc Tryd.prog w base spare held fuel 27 cs.toList = some (d, p) := by simpa [Value.cells] using hf
  obtain ⟨y0, y1, n, _, hl, h0, h1⟩ := trod_struct2 Tryd.underlying27 hf'
  have hl4 : cs.toList.length = 4 := hl
  obtain ⟨l⟩ := cs
  match l, hl4 with
  | [x0, x1, x2, x3], _ =>
    obtain ⟨a, b, e0, ha, hb⟩ := open_addr h0
    obtain ⟨c, e, e1, hc, he⟩ := open_addr h1
    have e0' : [x0, x1] = [Value.int .u32 (a : Int), Value.int .u16 (b : Int)] := e0
    have e1' : [x2, x3] = [Value.int .u32 (c : Int), Value.int .u16 (e : Int)] := e1
    injection e0' with q0 q1
    injection q1 with q1 _
    injection e1' with q2 q3
    injection q3 with q3 _
    subst q0 q1 q2 q3
    exact ⟨a, b, c, e, rfl, ha, hb, hc, he⟩
end Go.Proofs.YtpphpnnehljekaaDoor.TupOpen
