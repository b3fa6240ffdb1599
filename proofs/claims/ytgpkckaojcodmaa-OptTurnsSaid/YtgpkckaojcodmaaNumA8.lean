/-
  Package number: numbers of 8 bits read from bytes, be they there or not.
-/
import Derived.Test.YtgpkckaojcodmaaNum8
namespace Go.Proofs.Ytgpkckaojcodmaa.Num
open Go.RowKit Own TupMath IpMath Litb Bytes Rel
set_option linter.unusedVariables false
set_option maxRecDepth 100000

set_option maxHeartbeats 16000000 in
theorem at8 (s : ByteArray) (i : Nat) (w : World) (hi : i ≤ 1000000) (hs : s.size ≤ 1000000) :
    Calls Try.prog 38 #[.string s, .int .i64 (i : Int)] w fun e w' => e = .returned (.int .u8 ((at0 (bz s) i : Nat) : Int)) ∧ Below w.heap.size w w' := by
  have hneg : ¬ (i : Int) < 0 := by omega
  by_cases h : i < s.size
  · have z00 := at_byte s i h
    have q0 := at_le s i
    generalize at0 (bz s) i = y0 at z00 q0
    have hgt : ¬ (s.size : Int) - 1 < (i : Int) := by omega
    go_enter Try.func38, Try.ntmps38
    go_wp2_with (go_at_call 47; refine (width8 _).mono ?_; rintro e w' ⟨rfl, hw⟩; rw [hw])
    clear hneg hgt
    go_loopw [5, 19] (fun n i wr => ∃ k : Nat, i = .int .i64 (k : Int) ∧ k ≤ 1 ∧ n = .int .u8 (((if k = 0 then 0 else y0 : Nat)) : Int) ∧ Below w.heap.size w wr) (fun _ i _ => 1 - (intOf i).toNat)
    case atStart => exact ⟨0, rfl, by omega, rfl, Below.refl _ _⟩
    case round =>
      obtain ⟨k, rfl, hk, rfl, hB⟩ := hrel
      have HB := Lib.hid hB
      clear hB
      have o1 : bits .or .u8 (0) ((y0 : Int)) = (y0 : Int) := by
        have h := u8_or_nat (0) (y0) (by omega) (by omega)
        rw [Nat.zero_or] at h
        simpa using h
      by_cases c0 : k = 0
      · subst c0
        go_wp2
        go_quiet ((go_at_call 48; exact Calls.quiet_of_same (place8_0 _)))
        go_wp2
        go_roundw
        case rel => exact ⟨1, by go_num, by omega, by simp, below_drewN HB.out _⟩
        case measure => simp [intOf]
      obtain rfl : k = 1 := by omega
      go_wp2
      go_ret
      exact ⟨rfl, HB.out⟩
  · have e : at0 (bz s) i = 0 := by unfold at0; rw [List.getElem?_eq_none (by rw [bz_len]; omega)]; rfl
    rw [e]
    have hgt : (s.size : Int) - 1 < (i : Int) := by omega
    go_enter Try.func38, Try.ntmps38
    go_wp2_with (go_at_call 47; refine (width8 _).mono ?_; rintro e w' ⟨rfl, hw⟩; rw [hw])
    go_ret
    exact ⟨rfl, Below.refl _ _⟩
end Go.Proofs.Ytgpkckaojcodmaa.Num
