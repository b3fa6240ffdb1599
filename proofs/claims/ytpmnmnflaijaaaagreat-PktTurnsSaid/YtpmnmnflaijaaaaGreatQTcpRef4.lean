/-
  Laws for a proof of package pkt: 4 texts in one.
-/
import Derived.Test.YtpmnmnflaijaaaaGreatQLitb1
import Derived.Test.YtpmnmnflaijaaaaGreatQTcpMath5
import Derived.Test.YtpmnmnflaijaaaaGreatQCalm1
import Derived.Test.YtpmnmnflaijaaaaGreatQRelG2
import Derived.Test.YtpmnmnflaijaaaaGreatQSumPlainT5
import Derived.Deep.LoopGhost
import Derived.Lib.Hide
namespace Go.Proofs.YtpmnmnflaijaaaaGreat.IpRef
open Go.RowKit TupMath SumMath IpMath Litb Calm
set_option linter.unusedVariables false
set_option maxRecDepth 100000
theorem w2_le (n : Nat) (h : n ≤ 65535) : ∀ x ∈ w2 n, x ≤ 255 := by intro x hx; simp [w2] at hx; omega
theorem w4_le (n : Nat) (h : n ≤ 4294967295) : ∀ x ∈ w4 n, x ≤ 255 := by intro x hx; simp [w4] at hx; omega
theorem ofB_app (a b : List Nat) : ofB a ++ ofB b = ofB (a ++ b) := by
 apply ByteArray.ext
 rw [ByteArray.data_append]
 simp [ofB]
theorem w4_two (n : Nat) : w2 (n / 65536) ++ w2 (n % 65536) = w4 n := by
 have a : n / 65536 / 256 = n / 16777216 := by omega
 have b : n % 65536 / 256 = n / 256 % 256 := by omega
 have c : n % 65536 % 256 = n % 256 := by omega
 simp only [w2, w4, a, b, c]
 rfl
set_option maxHeartbeats 4000000 in
theorem wordR (n : Nat) (w : World) (hn : n ≤ 65535) : Calls Tryz.prog 30 #[.int .u16 (n : Int)] w fun e w' => e = .returned (.string (ofB (w2 n))) ∧ Below w.heap.size w w' := by
 have hcv := lit2_back Tryz.prog 50 9 5 Tryz.underlying50 Tryz.underlying5 Tryz.underlying9 (n / 256) (n % 256) (by omega) (by omega) ((n : Int) / 256) ((n : Int) % 256) (by omega) (by omega) w 5
 go_enter Tryz.func30, Tryz.ntmps30
 go_wp2
 go_ret
 exact ⟨rfl, st_alloc (Below.refl _ _) _⟩
set_option maxHeartbeats 4000000 in
theorem fourR (n : Nat) (w : World) (hn : n ≤ 4294967295) : Calls Tryz.prog 59 #[.int .u32 (n : Int)] w fun e w' => e = .returned (.string (ofB (w4 n))) ∧ Below w.heap.size w w' := by
 have e1 : IntKind.u16.wrap ((n : Int) / 65536) = ((n / 65536 : Nat) : Int) := by rw [IntKind.wrap_u16]; omega
 have e2 : IntKind.u16.wrap (n : Int) = ((n % 65536 : Nat) : Int) := by rw [IntKind.wrap_u16]; omega
 have hsz : (ofB (w2 (n / 65536))).size + (ofB (w2 (n % 65536))).size ≤ 9223372036854775807 := by rw [ofB_size, ofB_size]; simp [w2]
 go_enter Tryz.func59, Tryz.ntmps59
 go_wp2_with fail
 refine (wordR (n / 65536) _ (by omega)).mono ?_
 rintro e w1 ⟨rfl, hb1⟩
 go_wp2_with fail
 refine (wordR (n % 65536) _ (by omega)).mono ?_
 rintro e w2' ⟨rfl, hb2⟩
 go_wp2_with fail
 go_ret
 refine ⟨?_, st_call hb1 hb2⟩
 rw [ofB_app, w4_two]
 rfl
set_option maxHeartbeats 4000000 in
theorem numR (s : ByteArray) (w : World) (hs : s.size ≤ 4) : Calls Tryz.prog 29 #[.string s] w fun e w' => e = .returned (.int .u32 ((v256 (bz s) : Nat) : Int)) ∧ w' = w := by
 have HLe := Lib.hid (bz_le s)
 go_enter Tryz.func29, Tryz.ntmps29
 go_wp2
 go_loopw [3, 4] (fun x i wr => ∃ k : Nat, i = .int .i64 (k : Int) ∧ k ≤ s.size ∧ x = .int .u32 ((v256 ((bz s).take k) : Nat) : Int) ∧ wr = w) (fun _ i _ => s.size - (intOf i).toNat)
 case atStart => exact ⟨0, rfl, by omega, rfl, rfl⟩
 case round =>
   obtain ⟨k, rfl, hk, rfl, rfl⟩ := hrel
   by_cases hlt : k < s.size
   · have ak := bz_at s k hlt
     obtain ⟨x, hx⟩ : ∃ x, s[k].toNat = x := ⟨_, rfl⟩
     rw [hx] at ak
     have qx : x ≤ 255 := HLe.out _ (List.mem_of_getElem? ak)
     have hs1 := take_snoc ak
     have hlt2 := v256_lt ((bz s).take k) (fun z hz => HLe.out z (List.mem_of_mem_take hz))
     have hlk : ((bz s).take k).length = k := by rw [List.length_take, bz_len]; omega
     rw [hlk] at hlt2
     have hpow : 256 ^ k ≤ 256 ^ 3 := Nat.pow_le_pow_right (by decide) (by omega)
     have e3 : (256 : Nat) ^ 3 = 16777216 := by decide
     have HS := Lib.hid hs1
     obtain ⟨v, hv⟩ : ∃ v, v256 ((bz s).take k) = v := ⟨_, rfl⟩
     rw [hv] at hlt2 ⊢
     have hv2 : v ≤ 16777215 := by omega
     have HV := Lib.hid hv
     have hlti : (k : Int) < (s.size : Int) := by omega
     clear hs1 hlt2 hlk hpow hv ak e3
     go_wp2
     go_roundw
     case rel => exact ⟨k + 1, by go_num, by omega, by rw [HS.out, v256_snoc, HV.out]; congr 1; omega, by trivial⟩
     case measure => simp only [intOf]; omega
   · have hlti : ¬ (k : Int) < (s.size : Int) := by omega
     have HALL := Lib.hid (show (bz s).take k = bz s from List.take_of_length_le (by rw [bz_len]; omega))
     go_wp2
     go_ret
     exact ⟨by rw [HALL.out]; rfl, rfl⟩
end Go.Proofs.YtpmnmnflaijaaaaGreat.IpRef
namespace Go.Proofs.YtpmnmnflaijaaaaGreat.IpHead
open Go.RowKit TupMath SumMath IpMath Litb Calm Rel IpRef
set_option linter.unusedVariables false
set_option maxRecDepth 100000
abbrev hv (h : Hd) : Value := .agg #[.int .u32 (h.src : Int), .int .u32 (h.dst : Int), .int .u8 (h.proto : Int), .int .u8 (h.ttl : Int), .int .u8 (h.tos : Int), .int .u16 (h.id : Int), .bool h.df]
def Hold (L : List Nat) (v : Value) (w : World) : Prop := ∃ b, v = .slice (some ⟨b, 0, none⟩) L.length L.length ∧ b < w.heap.size ∧ ∀ (j : Nat) (x : Nat), L[j]? = some x → w.cell? ⟨b, j, none⟩ = some (.int .u8 (x : Int))
theorem Hold.more {L : List Nat} {v : Value} {w w' : World} (h : Hold L v w) (hb : Below w.heap.size w w') : Hold L v w' := by
 obtain ⟨b, e, hlt, hc⟩ := h
 exact ⟨b, e, Nat.lt_of_lt_of_le hlt hb.size, fun j x hx => (hb.cell (p := ⟨b, j, none⟩) hlt).trans (hc j x hx)⟩
theorem Hold.new (w : World) (L : List Nat) (T : TypeId) : Hold L (.slice (some ⟨w.heap.size, 0, none⟩) L.length L.length) (w.alloc (.cells (L.map fun x : Nat => Value.int .u8 (x : Int)).toArray T)) :=
 ⟨w.heap.size, rfl, by simp, fun j x hx => (World.cell?_alloc_mark w _ T (0, 0) j).trans (by simp [hx])⟩
attribute [local go_sem] relUpon
theorem app_size {a b : List Nat} (h : a.length + b.length ≤ 9223372036854775807) : (ofB a).size + (ofB b).size ≤ 9223372036854775807 := by rw [ofB_size, ofB_size]; exact h
end Go.Proofs.YtpmnmnflaijaaaaGreat.IpHead
namespace Go.Proofs.YtpmnmnflaijaaaaGreat.IpEnc
open Go.RowKit TupMath SumMath IpMath Litb Calm Rel IpRef IpHead
set_option linter.unusedVariables false
set_option maxRecDepth 100000
theorem ofB_bz (s : ByteArray) : ofB (bz s) = s := bz_inj (bz_ofB (bz_le s))
def encV (h : Hd) (l : ByteArray) : Value := if 20 + l.size ≤ 65535 then .tuple #[.string (ofB (pkt h (bz l))), .int .i64 0] else .tuple #[.string ⟨#[]⟩, .int .i64 4]
end Go.Proofs.YtpmnmnflaijaaaaGreat.IpEnc
namespace Go.Proofs.YtpmnmnflaijaaaaGreat.TcpRef
open Go.RowKit TupMath SumMath Litb Calm Rel IpMath IpRef TcpMath
set_option linter.unusedVariables false
set_option maxRecDepth 100000
abbrev tv (h : Th) : Value := .agg #[.int .u16 (h.src : Int), .int .u16 (h.dst : Int), .int .u32 (h.seq : Int), .int .u32 (h.ack : Int), .int .u8 (h.flags : Int), .int .u16 (h.win : Int), .int .u16 (h.urg : Int), .string h.opts]
theorem ofB_bz (s : ByteArray) : ofB (bz s) = s := bz_inj (bz_ofB (bz_le s))
theorem app_size {a b : List Nat} (h : a.length + b.length ≤ 9223372036854775807) : (ofB a).size + (ofB b).size ≤ 9223372036854775807 := by rw [ofB_size, ofB_size]; exact h
set_option maxHeartbeats 4000000 in
theorem sum6R (src dst : Nat) (s : ByteArray) (w : World) (hs : src ≤ 4294967295) (hd : dst ≤ 4294967295) (hn : s.size ≤ 65535) : Calls Tryz.prog 92 #[.int .u32 (src : Int), .int .u32 (dst : Int), .string s] w fun e w' => e = .returned (.int .u16 ((tsum src dst (bz s) : Nat) : Int)) ∧ Below w.heap.size w w' := by
 have e16 : IntKind.u16.wrap (s.size : Int) = (s.size : Int) := by rw [IntKind.wrap_u16]; omega
 have hval : ofB (w4 src) ++ ofB (w4 dst) ++ ⟨#[0, 6]⟩ ++ ofB (w2 s.size) ++ s = ofB (ps src dst s.size ++ bz s) := by
   have e06 : (⟨#[0, 6]⟩ : ByteArray) = ofB [0, 6] := rfl
   rw [e06, ofB_app (w4 src) (w4 dst), ofB_app (w4 src ++ w4 dst) [0, 6], ofB_app (w4 src ++ w4 dst ++ [0, 6]) (w2 s.size), ← ofB_app _ (bz s), ofB_bz]
   rfl
 have hle : ∀ x ∈ ps src dst s.size ++ bz s, x ≤ 255 := by
   intro x hx
   rcases List.mem_append.1 hx with hx | hx
   · simp only [ps, w2, w4, List.cons_append, List.nil_append, List.mem_cons, List.not_mem_nil, or_false] at hx
     omega
   · exact bz_le s x hx
 have hsum := fun W => SumPlain.ofR_any (ofB (ps src dst s.size ++ bz s)) W (by rw [ofB_size, List.length_append, ps_len, bz_len]; omega)
 have e2 : SumPlain.bz (ofB (ps src dst s.size ++ bz s)) = ps src dst s.size ++ bz s := bz_ofB hle
 have e3 : cs (ps src dst s.size ++ bz s) = tsum src dst (bz s) := by unfold tsum; rw [bz_len]
 rw [e2, e3, ← hval] at hsum
 have HSUM := Lib.hid hsum
 clear hsum e2 e3 hle hval
 have y1 : (ofB (w4 src)).size = 4 := ofB_size _
 have y2 : (ofB (w4 dst)).size = 4 := ofB_size _
 have y3 : (ofB (w2 s.size)).size = 2 := ofB_size _
 have Y := Lib.hid (show (ofB (w4 src)).size = 4 ∧ (ofB (w4 dst)).size = 4 ∧ (ofB (w2 s.size)).size = 2 from ⟨y1, y2, y3⟩)
 have z1 : (ofB (w4 src)).size + (ofB (w4 dst)).size ≤ 9223372036854775807 := by omega
 have z2 : (ofB (w4 src)).size + (ofB (w4 dst)).size + 2 ≤ 9223372036854775807 := by omega
 have z3 : (ofB (w4 src)).size + (ofB (w4 dst)).size + 2 + (ofB (w2 s.size)).size ≤ 9223372036854775807 := by omega
 have z4 : (ofB (w4 src)).size + (ofB (w4 dst)).size + 2 + (ofB (w2 s.size)).size + s.size ≤ 9223372036854775807 := by omega
 clear y1 y2 y3
 go_enter Tryz.func92, Tryz.ntmps92
 go_wp2_with fail
 refine (fourR src _ hs).mono ?_
 rintro e wA ⟨rfl, hb1⟩
 have B1 := Lib.hid hb1
 clear hb1
 go_wp2_with fail
 refine (fourR dst _ hd).mono ?_
 rintro e wB ⟨rfl, hb2⟩
 have B2 := Lib.hid (st_call B1.out hb2)
 clear hb2
 go_wp2_with fail
 refine (wordR s.size _ hn).mono ?_
 rintro e wC ⟨rfl, hb3⟩
 have B3 := Lib.hid (st_call B2.out hb3)
 clear hb3
 go_wp2_with fail
 refine (HSUM.out _).mono ?_
 rintro e wD ⟨rfl, rfl⟩
 go_wp2_with fail
 go_ret
 exact ⟨rfl, B3.out⟩
attribute [local go_sem] relUpon
end Go.Proofs.YtpmnmnflaijaaaaGreat.TcpRef
