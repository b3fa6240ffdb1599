/-
  Laws for a proof of package pkt: 1 texts in one.
-/
import Derived.WalkKit
import Derived.ProofKit
import Derived.OpenShut
import Derived.Test.YtpmnmnflaijaaaaGreatChecked
namespace Go.Proofs.YtpmnmnflaijaaaaGreat.TupOpen
open Go.RowKit Go.ChangeShapes Go.WideShapes
set_option maxRecDepth 100000
theorem open_addr {H : Type} {enc : TypeId × Value → H} {w : World} {base : Nat} {spare : Nat → Bool} {held : Bool} {fuel : Nat} {cs : List Value} {x : DataW H × List MemPlace}
   (h : DataW.trod enc Tryz.prog w base spare held fuel 25 cs = some x) : ∃ i p : Nat, cs = [.int .u32 (i : Int), .int .u16 (p : Int)] ∧ i ≤ 4294967295 ∧ p ≤ 65535 := by
 obtain ⟨y0, y1, n, _, hl, h0, h1⟩ := trod_struct2 Tryz.underlying25 h
 have hl2 : cs.length = 2 := hl
 match cs, hl2 with
 | [a, b], _ =>
   obtain ⟨i, e0, _, wi⟩ := DataW.trod_int Tryz.underlying22 h0
   obtain ⟨p, e1, _, wp⟩ := DataW.trod_int Tryz.underlying23 h1
   have ⟨bi, bi'⟩ := bounds_u32 wi
   have ⟨bp, bp'⟩ := bounds_u16 wp
   obtain ⟨i, rfl⟩ := Int.eq_ofNat_of_zero_le bi
   obtain ⟨p, rfl⟩ := Int.eq_ofNat_of_zero_le bp
   have e0' : [a] = [Value.int .u32 (i : Int)] := e0
   have e1' : [b] = [Value.int .u16 (p : Int)] := e1
   injection e0' with e0'
   injection e1' with e1'
   exact ⟨i, p, by rw [e0', e1'], by omega, by omega⟩
end Go.Proofs.YtpmnmnflaijaaaaGreat.TupOpen
