/-
  Package number: numbers of 16 bits read from bytes.
-/
import Derived.Test.YtgpkckaojcodmaaNum16
namespace Go.Proofs.Ytgpkckaojcodmaa.Num
open Go.RowKit Own TupMath IpMath Litb Bytes Rel
set_option linter.unusedVariables false
set_option maxRecDepth 100000

set_option maxHeartbeats 16000000 in
theorem at16 (s : ByteArray) (i y0 y1 : Nat) (w : World) (h : i + 2 ≤ s.size) (hs : s.size ≤ 1000000) (e0 : (bz s)[i + 0]? = some y0) (e1 : (bz s)[i + 1]? = some y1) :
    Calls Try.prog 39 #[.string s, .int .i64 (i : Int)] w fun e w' => e = .returned (.int .u16 ((y0 * 256 + y1 : Nat) : Int)) ∧ Below w.heap.size w w' := by
  have q0 : y0 ≤ 255 := bz_le s _ (List.mem_of_getElem? e0)
  have z0 : s[i + 0].toNat = y0 := by have a := bz_at s (i + 0) (by omega); rw [a] at e0; exact Option.some.inj e0
  have q1 : y1 ≤ 255 := bz_le s _ (List.mem_of_getElem? e1)
  have z1 : s[i + 1].toNat = y1 := by have a := bz_at s (i + 1) (by omega); rw [a] at e1; exact Option.some.inj e1
  have z00 : s[i].toNat = y0 := z0
  clear e0 e1 z0
  have hneg : ¬ (i : Int) < 0 := by omega
  have hgt : ¬ (s.size : Int) - 2 < (i : Int) := by omega
  go_enter Try.func39, Try.ntmps39
  go_wp2_with (go_at_call 49; refine (width16 _).mono ?_; rintro e w' ⟨rfl, hw⟩; rw [hw])
  clear hneg hgt
  go_loopw [5, 19] (fun n i wr => ∃ k : Nat, i = .int .i64 (k : Int) ∧ k ≤ 2 ∧ n = .int .u16 (((if k = 0 then 0 else if k = 1 then y0 * 256 else y0 * 256 + y1 : Nat)) : Int) ∧ Below w.heap.size w wr) (fun _ i _ => 2 - (intOf i).toNat)
  case atStart => exact ⟨0, rfl, by omega, rfl, Below.refl _ _⟩
  case round =>
    obtain ⟨k, rfl, hk, rfl, hB⟩ := hrel
    have HB := Lib.hid hB
    clear hB
    have o1 : bits .or .u16 (0) ((y0 : Int) * 256) = (y0 : Int) * 256 := by
      have h := u16_or_nat (0) (y0 * 256) (by omega) (by omega)
      rw [Nat.zero_or] at h
      simpa using h
    have o2 : bits .or .u16 ((y0 : Int) * 256) ((y1 : Int)) = (y0 : Int) * 256 + (y1 : Int) := by
      have h := u16_or_nat (y0 * 256) (y1) (by omega) (by omega)
      have e := or_add (y0) (y1) 8 (by omega)
      rw [show 2 ^ 8 * (y0) = y0 * 256 by omega] at e
      rw [e] at h
      simpa using h
    by_cases c0 : k = 0
    · subst c0
      go_wp2
      go_quiet ((go_at_call 50; exact Calls.quiet_of_same (place16_0 _)))
      go_wp2
      go_roundw
      case rel => exact ⟨1, by go_num, by omega, by simp, below_drewN HB.out _⟩
      case measure => simp [intOf]
    by_cases c1 : k = 1
    · subst c1
      go_wp2
      go_quiet ((go_at_call 50; exact Calls.quiet_of_same (place16_1 _)))
      go_wp2
      go_roundw
      case rel => exact ⟨2, by go_num, by omega, by simp, below_drewN HB.out _⟩
      case measure => simp [intOf]
    obtain rfl : k = 2 := by omega
    go_wp2
    go_ret
    exact ⟨rfl, HB.out⟩
end Go.Proofs.Ytgpkckaojcodmaa.Num
