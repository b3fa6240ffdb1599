/-
  How an argument that is a header of seven fields is opened.
-/
import Derived.Test.YtlpfnndmkfkjaaaChecked
import Derived.WalkKit
import Derived.ProofKit
import Derived.OpenShut
namespace Go.Proofs.Ytlpfnndmkfkjaaa.IpOpen
open Go.RowKit Go.ChangeShapes Go.WideShapes
set_option maxRecDepth 100000

/-- A header that came in. -/
theorem open_ip {H : Type} {enc : TypeId × Value → H} {w : World} {base : Nat} {spare : Nat → Bool} {held : Bool} {r : Reach} {b0 : Nat} {v : Value} {d : DataW H} {p : List MemPlace}
    (hv : Value.okWide Try.prog w r b0 25 v) (h : DataW.Trod enc Try.prog w base spare held 25 v d p) :
    ∃ (src dst proto ttl tos id : Nat) (df : Bool), v = .agg #[.int .u32 (src : Int), .int .u32 (dst : Int), .int .u8 (proto : Int), .int .u8 (ttl : Int), .int .u8 (tos : Int), .int .u16 (id : Int), .bool df] ∧
      src ≤ 4294967295 ∧ dst ≤ 4294967295 ∧ proto ≤ 255 ∧ ttl ≤ 255 ∧ tos ≤ 255 ∧ id ≤ 65535 := by
  obtain ⟨cs, rfl, hsz⟩ := okWide_struct Try.underlying25 hv
  obtain ⟨fuel, hf⟩ := h
  have hf' : DataW.trod enc Try.prog w base spare held fuel 25 cs.toList = some (d, p) := by simpa [Value.cells] using hf
  obtain ⟨xs, n, _, _, hl, hlen, hfx⟩ := DataW.trod_struct Try.underlying25 hf'
  have hl7 : cs.toList.length = 7 := hl
  obtain ⟨l⟩ := cs
  match l, hl7, xs, hlen with
  | [x0, x1, x2, x3, x4, x5, x6], _, [y0, y1, y2, y3, y4, y5, y6], _ =>
    have h0 : DataW.trod enc Try.prog w base spare held n 22 [x0] = some y0 := hfx 0 _ rfl
    have h1 : DataW.trod enc Try.prog w base spare held n 22 [x1] = some y1 := hfx 1 _ rfl
    have h2 : DataW.trod enc Try.prog w base spare held n 5 [x2] = some y2 := hfx 2 _ rfl
    have h3 : DataW.trod enc Try.prog w base spare held n 5 [x3] = some y3 := hfx 3 _ rfl
    have h4 : DataW.trod enc Try.prog w base spare held n 5 [x4] = some y4 := hfx 4 _ rfl
    have h5 : DataW.trod enc Try.prog w base spare held n 23 [x5] = some y5 := hfx 5 _ rfl
    have h6 : DataW.trod enc Try.prog w base spare held n 4 [x6] = some y6 := hfx 6 _ rfl
    obtain ⟨a0, e0, _, w0⟩ := DataW.trod_int Try.underlying22 h0
    obtain ⟨a1, e1, _, w1⟩ := DataW.trod_int Try.underlying22 h1
    obtain ⟨a2, e2, _, w2⟩ := DataW.trod_int Try.underlying5 h2
    obtain ⟨a3, e3, _, w3⟩ := DataW.trod_int Try.underlying5 h3
    obtain ⟨a4, e4, _, w4⟩ := DataW.trod_int Try.underlying5 h4
    obtain ⟨a5, e5, _, w5⟩ := DataW.trod_int Try.underlying23 h5
    obtain ⟨a6, e6, _⟩ := DataW.trod_bool Try.underlying4 h6
    have ⟨b0, c0⟩ := bounds_u32 w0
    have ⟨b1, c1⟩ := bounds_u32 w1
    have ⟨b2, c2⟩ := bounds_u8 w2
    have ⟨b3, c3⟩ := bounds_u8 w3
    have ⟨b4, c4⟩ := bounds_u8 w4
    have ⟨b5, c5⟩ := bounds_u16 w5
    obtain ⟨a0, rfl⟩ := Int.eq_ofNat_of_zero_le b0
    obtain ⟨a1, rfl⟩ := Int.eq_ofNat_of_zero_le b1
    obtain ⟨a2, rfl⟩ := Int.eq_ofNat_of_zero_le b2
    obtain ⟨a3, rfl⟩ := Int.eq_ofNat_of_zero_le b3
    obtain ⟨a4, rfl⟩ := Int.eq_ofNat_of_zero_le b4
    obtain ⟨a5, rfl⟩ := Int.eq_ofNat_of_zero_le b5
    injection e0 with e0
    injection e1 with e1
    injection e2 with e2
    injection e3 with e3
    injection e4 with e4
    injection e5 with e5
    injection e6 with e6
    subst e0 e1 e2 e3 e4 e5 e6
    exact ⟨a0, a1, a2, a3, a4, a5, a6, rfl, by omega, by omega, by omega, by omega, by omega, by omega⟩
end Go.Proofs.Ytlpfnndmkfkjaaa.IpOpen
