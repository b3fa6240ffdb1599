/-
  The document's own answers of layer 5.
-/
import Derived.Test.YtgpkckaojcodmaaLitb
import Derived.Test.YtgpkckaojcodmaaIpMath
import Derived.Deep.LoopGhost
import Derived.Lib.Hide
import Derived.Test.YtgpkckaojcodmaaCalm
import Derived.Test.YtgpkckaojcodmaaRel
namespace Go.Proofs.Ytgpkckaojcodmaa.IpRef
open Go.RowKit TupMath SumMath IpMath Litb Calm
set_option linter.unusedVariables false
set_option maxRecDepth 100000

theorem w2_le (n : Nat) (h : n ≤ 65535) : ∀ x ∈ w2 n, x ≤ 255 := by intro x hx; simp [w2] at hx; omega
theorem w4_le (n : Nat) (h : n ≤ 4294967295) : ∀ x ∈ w4 n, x ≤ 255 := by intro x hx; simp [w4] at hx; omega
theorem ofB_app (a b : List Nat) : ofB a ++ ofB b = ofB (a ++ b) := by
  apply ByteArray.ext
  rw [ByteArray.data_append]
  simp [ofB]

theorem w4_two (n : Nat) : w2 (n / 65536) ++ w2 (n % 65536) = w4 n := by
  have a : n / 65536 / 256 = n / 16777216 := by omega
  have b : n % 65536 / 256 = n / 256 % 256 := by omega
  have c : n % 65536 % 256 = n % 256 := by omega
  simp only [w2, w4, a, b, c]
  rfl

set_option maxHeartbeats 4000000 in
theorem wordR (n : Nat) (w : World) (hn : n ≤ 65535) : Calls Try.prog 34 #[.int .u16 (n : Int)] w fun e w' => e = .returned (.string (ofB (w2 n))) ∧ Below w.heap.size w w' := by
  have hcv := lit2_back Try.prog 46 9 5 Try.underlying46 Try.underlying5 Try.underlying9 (n / 256) (n % 256) (by omega) (by omega) ((n : Int) / 256) ((n : Int) % 256) (by omega) (by omega) w 5
  go_enter Try.func34, Try.ntmps34
  go_wp2
  go_ret
  exact ⟨rfl, st_alloc (Below.refl _ _) _⟩
set_option maxHeartbeats 4000000 in
theorem fourR (n : Nat) (w : World) (hn : n ≤ 4294967295) : Calls Try.prog 35 #[.int .u32 (n : Int)] w fun e w' => e = .returned (.string (ofB (w4 n))) ∧ Below w.heap.size w w' := by
  have e1 : IntKind.u16.wrap ((n : Int) / 65536) = ((n / 65536 : Nat) : Int) := by rw [IntKind.wrap_u16]; omega
  have e2 : IntKind.u16.wrap (n : Int) = ((n % 65536 : Nat) : Int) := by rw [IntKind.wrap_u16]; omega
  have hsz : (ofB (w2 (n / 65536))).size + (ofB (w2 (n % 65536))).size ≤ 9223372036854775807 := by rw [ofB_size, ofB_size]; simp [w2]
  go_enter Try.func35, Try.ntmps35
  go_wp2_with fail
  refine (wordR (n / 65536) _ (by omega)).mono ?_
  rintro e w1 ⟨rfl, hb1⟩
  go_wp2_with fail
  refine (wordR (n % 65536) _ (by omega)).mono ?_
  rintro e w2' ⟨rfl, hb2⟩
  go_wp2_with fail
  go_ret
  refine ⟨?_, st_call hb1 hb2⟩
  rw [ofB_app, w4_two]
  rfl

set_option maxHeartbeats 4000000 in
theorem numR (s : ByteArray) (w : World) (hs : s.size ≤ 4) : Calls Try.prog 43 #[.string s] w fun e w' => e = .returned (.int .u32 ((v256 (bz s) : Nat) : Int)) ∧ w' = w := by
  have HLe := Lib.hid (bz_le s)
  go_enter Try.func43, Try.ntmps43
  go_wp2
  go_loopw [3, 4] (fun x i wr => ∃ k : Nat, i = .int .i64 (k : Int) ∧ k ≤ s.size ∧ x = .int .u32 ((v256 ((bz s).take k) : Nat) : Int) ∧ wr = w) (fun _ i _ => s.size - (intOf i).toNat)
  case atStart => exact ⟨0, rfl, by omega, rfl, rfl⟩
  case round =>
    obtain ⟨k, rfl, hk, rfl, rfl⟩ := hrel
    by_cases hlt : k < s.size
    · have ak := bz_at s k hlt
      obtain ⟨x, hx⟩ : ∃ x, s[k].toNat = x := ⟨_, rfl⟩
      rw [hx] at ak
      have qx : x ≤ 255 := HLe.out _ (List.mem_of_getElem? ak)
      have hs1 := take_snoc ak
      have hlt2 := v256_lt ((bz s).take k) (fun z hz => HLe.out z (List.mem_of_mem_take hz))
      have hlk : ((bz s).take k).length = k := by rw [List.length_take, bz_len]; omega
      rw [hlk] at hlt2
      have hpow : 256 ^ k ≤ 256 ^ 3 := Nat.pow_le_pow_right (by decide) (by omega)
      have e3 : (256 : Nat) ^ 3 = 16777216 := by decide
      have HS := Lib.hid hs1
      obtain ⟨v, hv⟩ : ∃ v, v256 ((bz s).take k) = v := ⟨_, rfl⟩
      rw [hv] at hlt2 ⊢
      have hv2 : v ≤ 16777215 := by omega
      have HV := Lib.hid hv
      have hlti : (k : Int) < (s.size : Int) := by omega
      clear hs1 hlt2 hlk hpow hv ak e3
      go_wp2
      go_roundw
      case rel => exact ⟨k + 1, by go_num, by omega, by rw [HS.out, v256_snoc, HV.out]; congr 1; omega, by trivial⟩
      case measure => simp only [intOf]; omega
    · have hlti : ¬ (k : Int) < (s.size : Int) := by omega
      have HALL := Lib.hid (show (bz s).take k = bz s from List.take_of_length_le (by rw [bz_len]; omega))
      go_wp2
      go_ret
      exact ⟨by rw [HALL.out]; rfl, rfl⟩
end Go.Proofs.Ytgpkckaojcodmaa.IpRef
