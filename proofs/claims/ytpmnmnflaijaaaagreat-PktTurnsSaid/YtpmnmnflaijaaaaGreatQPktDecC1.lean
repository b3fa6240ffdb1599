/-
  Laws for a proof of package pkt: 1 texts in one.
-/
import Derived.Test.YtpmnmnflaijaaaaGreatQOptTurn10
import Derived.Test.YtpmnmnflaijaaaaGreatQOptFew9
import Derived.Test.YtpmnmnflaijaaaaGreatQIpDec1
import Derived.Test.YtpmnmnflaijaaaaGreatQTcpDec1
namespace Go.Proofs.YtpmnmnflaijaaaaGreat.PktDecC
open Go.RowKit TupMath SumMath IpMath IpHead IpRef IpDec TcpMath TcpRef TcpDec OptMath OptSame OptTake5 OptTk PktMath PktVal
set_option linter.unusedVariables false
def DecOut8 (S : ByteArray) (w : World) (e : Ending) (w' : World) : Prop :=
 (∃ A c, e = .returned (.tuple #[sv (dec8 S).2 A c, .int .i64 ((dec8 S).1 : Int)]) ∧ Row (fun b => w.heap.size ≤ b) w' A (dec8 S).2.opts.blocks) ∧ Below w.heap.size w w'
theorem ipV (S : ByteArray) : ∃ (h : Hd) (l : ByteArray) (n : Nat), decV S = .tuple #[hv h, .string l, .int .i64 (n : Int)] ∧ (n ≠ 0 → h = zero ∧ l = ⟨#[]⟩) ∧ n = err (bz S) ∧ (n = 0 → h = rd (bz S) ∧ l = ld S) := by
 by_cases c : err (bz S) = 0
 · exact ⟨rd (bz S), ld S, 0, if_pos c, fun h => absurd rfl h, c.symm, fun _ => ⟨rfl, rfl⟩⟩
 · exact ⟨zero, ⟨#[]⟩, err (bz S), if_neg c, fun _ => ⟨rfl, rfl⟩, rfl, fun h => absurd h c⟩
theorem tcpV (a b : Nat) (s : ByteArray) : ∃ (t : Th) (d : ByteArray) (n : Nat), decV6 a b s = .tuple #[tv t, .string d, .int .i64 (n : Int)] ∧ (n ≠ 0 → t = zeroT ∧ d = ⟨#[]⟩) ∧ n = terr a b (bz s) ∧ (n = 0 → t = trd s ∧ d = s.extract (hl (bz s)) s.size) := by
 by_cases c : terr a b (bz s) = 0
 · exact ⟨trd s, _, 0, if_pos c, fun h => absurd rfl h, c.symm, fun _ => ⟨rfl, rfl⟩⟩
 · exact ⟨zeroT, ⟨#[]⟩, terr a b (bz s), if_neg c, fun _ => ⟨rfl, rfl⟩, rfl, fun h => absurd h c⟩
theorem trd_opts (s : ByteArray) : (trd s).opts.size ≤ s.size := by
 show (s.extract _ _).size ≤ s.size
 rw [ByteArray.size_extract]
 omega
theorem ld_size (s : ByteArray) : (ld s).size ≤ s.size := by
 show (s.extract _ _).size ≤ s.size
 rw [ByteArray.size_extract]
 omega
theorem ext_le (s : ByteArray) (a b : Nat) : (s.extract a b).size ≤ s.size := by
 rw [ByteArray.size_extract]
 omega
theorem dec8_ip {S : ByteArray} (h : err (bz S) ≠ 0) : dec8 S = (err (bz S), zeroS) := if_pos h
theorem dec8_proto {S : ByteArray} (h : err (bz S) = 0) (h2 : (rd (bz S)).proto ≠ 6) : dec8 S = (80, zeroS) := by
 unfold dec8; rw [if_neg (fun q => q h), if_pos h2]
theorem dec8_tcp {S : ByteArray} (h : err (bz S) = 0) (h2 : (rd (bz S)).proto = 6) (h3 : terr (rd (bz S)).src (rd (bz S)).dst (bz (ld S)) ≠ 0) : dec8 S = (terr (rd (bz S)).src (rd (bz S)).dst (bz (ld S)), zeroS) := by
 unfold dec8; rw [if_neg (fun q => q h), if_neg (fun q => q h2), if_pos h3]
theorem dec8_opt {S : ByteArray} (h : err (bz S) = 0) (h2 : (rd (bz S)).proto = 6) (h3 : terr (rd (bz S)).src (rd (bz S)).dst (bz (ld S)) = 0) (h4 : (dec7 (bz (trd (ld S)).opts)).1 ≠ 0) : dec8 S = ((dec7 (bz (trd (ld S)).opts)).1, zeroS) := by
 unfold dec8; rw [if_neg (fun q => q h), if_neg (fun q => q h2), if_neg (fun q => q h3), if_pos h4]
theorem dec8_flags {S : ByteArray} (h : err (bz S) = 0) (h2 : (rd (bz S)).proto = 6) (h3 : terr (rd (bz S)).src (rd (bz S)).dst (bz (ld S)) = 0) (h4 : (dec7 (bz (trd (ld S)).opts)).1 = 0) (h5 : flg (trd (ld S)).flags = false) : dec8 S = (81, zeroS) := by
 unfold dec8; rw [if_neg (fun q => q h), if_neg (fun q => q h2), if_neg (fun q => q h3), if_neg (fun q => q h4), if_pos h5]
theorem dec8_long {S : ByteArray} (h : err (bz S) = 0) (h2 : (rd (bz S)).proto = 6) (h3 : terr (rd (bz S)).src (rd (bz S)).dst (bz (ld S)) = 0) (h4 : (dec7 (bz (trd (ld S)).opts)).1 = 0) (h5 : flg (trd (ld S)).flags = true) (h6 : 1460 < (dt S).size) : dec8 S = (4, zeroS) := by
 unfold dec8; rw [if_neg (fun q => q h), if_neg (fun q => q h2), if_neg (fun q => q h3), if_neg (fun q => q h4), if_neg (by rw [h5]; decide), if_pos h6]
theorem dec8_ok {S : ByteArray} (h : err (bz S) = 0) (h2 : (rd (bz S)).proto = 6) (h3 : terr (rd (bz S)).src (rd (bz S)).dst (bz (ld S)) = 0) (h4 : (dec7 (bz (trd (ld S)).opts)).1 = 0) (h5 : flg (trd (ld S)).flags = true) (h6 : ¬ 1460 < (dt S).size) : dec8 S = (0, sgOf (rd (bz S)) (trd (ld S)) (dec7 (bz (trd (ld S)).opts)).2 (dt S)) := by
 unfold dec8; rw [if_neg (fun q => q h), if_neg (fun q => q h2), if_neg (fun q => q h3), if_neg (fun q => q h4), if_neg (by rw [h5]; decide), if_neg h6]
end Go.Proofs.YtpmnmnflaijaaaaGreat.PktDecC
