/-
  Laws for a proof of package pkt: 1 texts in one.
-/
import Derived.Test.YtpmnmnflaijaaaaGreatQOptTurn10
import Derived.Test.YtpmnmnflaijaaaaGreatQPktDecC1
import Derived.Test.YtpmnmnflaijaaaaGreatQPkt163
import Derived.Test.YtpmnmnflaijaaaaGreatQPktHeadsB2
import Derived.Test.YtpmnmnflaijaaaaGreatQOptDec1
namespace Go.Proofs.YtpmnmnflaijaaaaGreat.PktDecR
open Go.Proofs.YtpmnmnflaijaaaaGreat.Own
open Go.RowKit TupMath SumMath Litb Calm Rel RelT RelK IpMath IpRef OptMath OptRef OptPlc OptSame Boxes OptMay PktMath PktVal PktSmall PktCom IpHead IpDec TcpMath TcpRef TcpDec OptTake5 OptTk PktDecC Pkt16
open Cells (CellsAt Apart)
set_option linter.unusedVariables false
set_option linter.unusedSimpArgs false
set_option maxRecDepth 100000
attribute [local go_sem] Oper.semAt_some
theorem hdsE_zero {S : ByteArray} (g : PktHeads.hdsE S = 0) : err (bz S) = 0 ∧ (rd (bz S)).proto = 6 ∧ terr (rd (bz S)).src (rd (bz S)).dst (bz (ld S)) = 0 := by
 unfold PktHeads.hdsE at g
 by_cases c1 : err (bz S) ≠ 0
 · rw [if_pos c1] at g; exact absurd g c1
 rw [if_neg c1] at g
 by_cases c2 : (rd (bz S)).proto ≠ 6
 · rw [if_pos c2] at g; cases g
 rw [if_neg c2] at g
 exact ⟨Decidable.not_not.1 c1, Decidable.not_not.1 c2, g⟩
theorem dec8_hds {S : ByteArray} (g : PktHeads.hdsE S ≠ 0) : dec8 S = (PktHeads.hdsE S, zeroS) := by
 unfold PktHeads.hdsE at g ⊢
 by_cases c1 : err (bz S) ≠ 0
 · rw [if_pos c1]; exact dec8_ip c1
 rw [if_neg c1] at g ⊢
 by_cases c2 : (rd (bz S)).proto ≠ 6
 · rw [if_pos c2]; exact dec8_proto (Decidable.not_not.1 c1) c2
 rw [if_neg c2] at g ⊢
 exact dec8_tcp (Decidable.not_not.1 c1) (Decidable.not_not.1 c2) g
end Go.Proofs.YtpmnmnflaijaaaaGreat.PktDecR
