/-
  Laws for a proof of package pkt: 1 texts in one.
-/
import Derived.Shelf.SlGeneric
import Derived.Ground.NamesProg
import Derived.Shelf.LaysM
import Derived.Shelf.Small.Bits
import Derived.Test.YtpmnmnflaijaaaaProg
namespace Go.Proofs
open Go.Shelf
def Try.layOnes_ren : Go.Shelf.Ren := ⟨fun | 135 => 62 | n => n, fun | 5 => 5 | 3 => 3 | 9 => 9 | n => n, fun | n => n⟩
theorem Try.layOnes : Go.Proofs.Lays.n135 Try.prog Try.layOnes_ren := {
  mixed := by kernel_rfl
  f135 := Try.func62.trans (congrArg some (by kernel_rfl))
  t3 := Try.underlying3
  a3 := Try.isAgg3
  z3 := Try.sizeOf3
  v3 := Try.zeroValue3
  t5 := Try.underlying5
  a5 := Try.isAgg5
  z5 := Try.sizeOf5
  v5 := Try.zeroValue5
  t9 := Try.underlying9
  a9 := Try.isAgg9
  z9 := Try.sizeOf9
  v9 := Try.zeroValue9 }
end Go.Proofs
