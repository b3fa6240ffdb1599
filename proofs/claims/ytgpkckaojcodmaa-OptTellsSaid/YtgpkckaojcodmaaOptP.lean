/-
  The program's own calls of layer 7.
-/
import Derived.Test.YtgpkckaojcodmaaOptPU
namespace Go.Proofs.Ytgpkckaojcodmaa.OptP
open Go.RowKit OptTake5 TupMath SumMath Litb Calm IpMath OptMath OptRef OptPlc OptSame OptMay OptTk OptDec OptTurn
set_option linter.unusedVariables false

theorem mayP (o : Opn) (A : Option Addr) (c : Nat) (w : World) (hbk : BlkR w A o.blocks) (k : o.ok) :
    Calls Try.prog 13 #[ov o A c] w fun e w' => e = .returned (.bool (mayO o)) ∧ Below w.heap.size w w' := OptPE.mayP o A c w hbk k
theorem noneP (w : World) : Calls Try.prog 17 #[] w fun e w' => e = .returned (ov none0 none 0) ∧ Below w.heap.size w w' := OptPT.noneP w
theorem encP7 (o : Opn) (A : Option Addr) (c : Nat) (w : World) (hbk : BlkR w A o.blocks) (k : o.ok) :
    Calls Try.prog 9 #[ov o A c] w fun e w' => e = .returned (encV7 o) ∧ Below w.heap.size w w' := OptPE.encP7 o A c w hbk k
theorem turnP7 (s : ByteArray) (bl v e : Nat) (w : World) (hs : s.size ≤ 1000000) (hb : bl ≤ 4294967295) (hv : v ≤ 4294967295) (he : e ≤ 4294967295) :
    Calls Try.prog 19 #[.string s, .int .u32 (bl : Int), .int .u32 (v : Int), .int .u32 (e : Int)] w fun r w' => r = .returned (turnV bl v e (bz s)) ∧ Below w.heap.size w w' := OptPU.turnP7 s bl v e w hs hb hv he
theorem decP7 (s : ByteArray) (w : World) (hs : s.size ≤ 1000000) : Calls Try.prog 11 #[.string s] w (DecOut (bz s) w) := OptPD.decP7 s w hs
theorem sameP (o p : Opn) (Ao : Option Addr) (co : Nat) (Ap : Option Addr) (cp : Nat) (w : World) (ho : BlkR w Ao o.blocks) (hp : BlkR w Ap p.blocks) (lo : o.blocks.length ≤ 1000000) (lp : p.blocks.length ≤ 1000000) :
    Calls Try.prog 15 #[ov o Ao co, ov p Ap cp] w fun e w' => e = .returned (.bool (decide (o = p))) ∧ Below w.heap.size w w' := OptPS.sameP o p Ao co Ap cp w ho hp lo lp
end Go.Proofs.Ytgpkckaojcodmaa.OptP
