/-
  Addresses' numbers in bytes.
-/
import Derived.Test.YtpphpnnehljekaaDoorTupLib
import Derived.Test.YtpphpnnehljekaaDoorNum16
import Derived.Test.YtpphpnnehljekaaDoorNum32
import Derived.Deep.DeepCutAuto
namespace Go.Proofs.YtpphpnnehljekaaDoor.TupLay
open Go.RowKit Own TupMath TupMath2 Bytes TupLib
set_option linter.unusedVariables false
set_option maxRecDepth 100000

def b32 (n : Nat) : List Nat := [n / 16777216, n / 65536 % 256, n / 256 % 256, n % 256]
def b16 (n : Nat) : List Nat := [n / 256, n % 256]
/-- one number in a slice that a region holds, laid -/
theorem layB32 {n : Nat} {v : Value} {w : World} (h : Num.HoldK .u32 [n] v w) (hn : n ≤ 4294967295) : Calls Tryd.prog 25 #[v] w fun e w' => e = .returned (.string (ofB (b32 n))) ∧ Below w.heap.size w w' :=
  Num.layH32 h (by simp) (by simp) (by intro x hx; simp at hx; omega)
theorem layB16 {n : Nat} {v : Value} {w : World} (h : Num.HoldK .u16 [n] v w) (hn : n ≤ 65535) : Calls Tryd.prog 21 #[v] w fun e w' => e = .returned (.string (ofB (b16 n))) ∧ Below w.heap.size w w' :=
  Num.layH16 h (by simp) (by simp) (by intro x hx; simp at hx; omega)
end Go.Proofs.YtpphpnnehljekaaDoor.TupLay
