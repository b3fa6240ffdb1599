/-
  An address read from its six bytes.
-/
import Derived.Test.YtpphpnnehljekaaDoorTupLay
import Derived.Test.YtpphpnnehljekaaDoorNumA16
import Derived.Test.YtpphpnnehljekaaDoorNumA32
namespace Go.Proofs.YtpphpnnehljekaaDoor.TupTake
open Go.RowKit Own TupMath TupMath2 Bytes TupLib TupLay
set_option linter.unusedVariables false
set_option maxRecDepth 100000

theorem take32 (s : ByteArray) (y0 y1 y2 y3 : Nat) (w : World) (h4 : 4 ≤ s.size) (hs : s.size ≤ 1000000) (e0 : (bz s)[0]? = some y0) (e1 : (bz s)[1]? = some y1) (e2 : (bz s)[2]? = some y2) (e3 : (bz s)[3]? = some y3) :
    Calls Tryd.prog 23 #[.string s, .int .i64 0] w fun e w' => e = .returned (.int .u32 ((y0 * 16777216 + y1 * 65536 + y2 * 256 + y3 : Nat) : Int)) ∧ Below w.heap.size w w' :=
  Num.at32 s 0 y0 y1 y2 y3 w h4 hs e0 e1 e2 e3
theorem take16 (s : ByteArray) (y4 y5 : Nat) (w : World) (h6 : 6 ≤ s.size) (hs : s.size ≤ 1000000) (e0 : (bz s)[4]? = some y4) (e1 : (bz s)[5]? = some y5) :
    Calls Tryd.prog 24 #[.string s, .int .i64 4] w fun e w' => e = .returned (.int .u16 ((y4 * 256 + y5 : Nat) : Int)) ∧ Below w.heap.size w w' :=
  Num.at16 s 4 y4 y5 w h6 hs e0 e1
end Go.Proofs.YtpphpnnehljekaaDoor.TupTake
