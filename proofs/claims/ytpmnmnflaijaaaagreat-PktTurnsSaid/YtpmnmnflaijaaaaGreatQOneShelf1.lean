/-
  Laws for a proof of package pkt: 1 texts in one.
-/
import Derived.Shelf.SlGeneric
import Derived.Ground.NamesProg
import Derived.Shelf.LaysM
import Derived.Shelf.Small.Bits
import Derived.Test.YtpmnmnflaijaaaaGreatProg
namespace Go.Proofs
open Go.Shelf
def Tryz.layOnes_ren : Go.Shelf.Ren := ⟨fun | 135 => 76 | n => n, fun | 5 => 5 | 3 => 3 | 9 => 9 | n => n, fun | n => n⟩
theorem Tryz.layOnes : Go.Proofs.Lays.n135 Tryz.prog Tryz.layOnes_ren := {
 mixed := by kernel_rfl
 f135 := Tryz.func76.trans (congrArg some (by kernel_rfl))
 t3 := Tryz.underlying3
 a3 := Tryz.isAgg3
 z3 := Tryz.sizeOf3
 v3 := Tryz.zeroValue3
 t5 := Tryz.underlying5
 a5 := Tryz.isAgg5
 z5 := Tryz.sizeOf5
 v5 := Tryz.zeroValue5
 t9 := Tryz.underlying9
 a9 := Tryz.isAgg9
 z9 := Tryz.sizeOf9
 v9 := Tryz.zeroValue9 }
end Go.Proofs
