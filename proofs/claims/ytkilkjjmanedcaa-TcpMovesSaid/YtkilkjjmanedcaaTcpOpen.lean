/-
  How an argument that is a segment's head, of seven numbers and a string, is opened.
-/
import Derived.Test.YtkilkjjmanedcaaChecked
import Derived.WalkKit
import Derived.ProofKit
import Derived.OpenShut
import Derived.ChangeArms
namespace Go.Proofs.Ytkilkjjmanedcaa.TcpOpen
open Go.RowKit Go.ChangeShapes Go.WideShapes
set_option maxRecDepth 100000

/-- A head that came in. -/
theorem open_tcp {H : Type} {enc : TypeId × Value → H} {w : World} {base : Nat} {spare : Nat → Bool} {held : Bool} {r : Reach} {b0 : Nat} {v : Value} {d : DataW H} {p : List MemPlace}
    (hv : Value.okWide Try.prog w r b0 25 v) (h : DataW.Trod enc Try.prog w base spare held 25 v d p) :
    ∃ (src dst seq ack fl win urg : Nat) (opts : ByteArray), v = .agg #[.int .u16 (src : Int), .int .u16 (dst : Int), .int .u32 (seq : Int), .int .u32 (ack : Int), .int .u8 (fl : Int), .int .u16 (win : Int), .int .u16 (urg : Int), .string opts] ∧
      src ≤ 65535 ∧ dst ≤ 65535 ∧ seq ≤ 4294967295 ∧ ack ≤ 4294967295 ∧ fl ≤ 255 ∧ win ≤ 65535 ∧ urg ≤ 65535 ∧ opts.size ≤ maxLen := by
  obtain ⟨cs, rfl, hsz⟩ := okWide_struct Try.underlying25 hv
  obtain ⟨fuel, hf⟩ := h
  have hf' : DataW.trod enc Try.prog w base spare held fuel 25 cs.toList = some (d, p) := by simpa [Value.cells] using hf
  obtain ⟨xs, n, _, _, hl, hlen, hfx⟩ := DataW.trod_struct Try.underlying25 hf'
  have hl8 : cs.toList.length = 8 := hl
  obtain ⟨l⟩ := cs
  match l, hl8, xs, hlen with
  | [x0, x1, x2, x3, x4, x5, x6, x7], _, [y0, y1, y2, y3, y4, y5, y6, y7], _ =>
    have h0 : DataW.trod enc Try.prog w base spare held n 23 [x0] = some y0 := hfx 0 _ rfl
    have h1 : DataW.trod enc Try.prog w base spare held n 23 [x1] = some y1 := hfx 1 _ rfl
    have h2 : DataW.trod enc Try.prog w base spare held n 22 [x2] = some y2 := hfx 2 _ rfl
    have h3 : DataW.trod enc Try.prog w base spare held n 22 [x3] = some y3 := hfx 3 _ rfl
    have h4 : DataW.trod enc Try.prog w base spare held n 5 [x4] = some y4 := hfx 4 _ rfl
    have h5 : DataW.trod enc Try.prog w base spare held n 23 [x5] = some y5 := hfx 5 _ rfl
    have h6 : DataW.trod enc Try.prog w base spare held n 23 [x6] = some y6 := hfx 6 _ rfl
    have h7 : DataW.trod enc Try.prog w base spare held n 9 [x7] = some y7 := hfx 7 _ rfl
    obtain ⟨a0, e0, _, w0⟩ := DataW.trod_int Try.underlying23 h0
    obtain ⟨a1, e1, _, w1⟩ := DataW.trod_int Try.underlying23 h1
    obtain ⟨a2, e2, _, w2⟩ := DataW.trod_int Try.underlying22 h2
    obtain ⟨a3, e3, _, w3⟩ := DataW.trod_int Try.underlying22 h3
    obtain ⟨a4, e4, _, w4⟩ := DataW.trod_int Try.underlying5 h4
    obtain ⟨a5, e5, _, w5⟩ := DataW.trod_int Try.underlying23 h5
    obtain ⟨a6, e6, _, w6⟩ := DataW.trod_int Try.underlying23 h6
    obtain ⟨a7, e7, _, w7⟩ := DataW.trod_string Try.underlying9 h7
    have ⟨b0, c0⟩ := bounds_u16 w0
    have ⟨b1, c1⟩ := bounds_u16 w1
    have ⟨b2, c2⟩ := bounds_u32 w2
    have ⟨b3, c3⟩ := bounds_u32 w3
    have ⟨b4, c4⟩ := bounds_u8 w4
    have ⟨b5, c5⟩ := bounds_u16 w5
    have ⟨b6, c6⟩ := bounds_u16 w6
    obtain ⟨a0, rfl⟩ := Int.eq_ofNat_of_zero_le b0
    obtain ⟨a1, rfl⟩ := Int.eq_ofNat_of_zero_le b1
    obtain ⟨a2, rfl⟩ := Int.eq_ofNat_of_zero_le b2
    obtain ⟨a3, rfl⟩ := Int.eq_ofNat_of_zero_le b3
    obtain ⟨a4, rfl⟩ := Int.eq_ofNat_of_zero_le b4
    obtain ⟨a5, rfl⟩ := Int.eq_ofNat_of_zero_le b5
    obtain ⟨a6, rfl⟩ := Int.eq_ofNat_of_zero_le b6
    injection e0 with e0
    injection e1 with e1
    injection e2 with e2
    injection e3 with e3
    injection e4 with e4
    injection e5 with e5
    injection e6 with e6
    injection e7 with e7
    subst e0 e1 e2 e3 e4 e5 e6 e7
    exact ⟨a0, a1, a2, a3, a4, a5, a6, a7, rfl, by omega, by omega, by omega, by omega, by omega, by omega, by omega, w7⟩
end Go.Proofs.Ytkilkjjmanedcaa.TcpOpen
