/-
  Package number: numbers of 32 bits read from bytes.
-/
import Derived.Test.YtgpkckaojcodmaaNum32
namespace Go.Proofs.Ytgpkckaojcodmaa.Num
open Go.RowKit Own TupMath IpMath Litb Bytes Rel
set_option linter.unusedVariables false
set_option maxRecDepth 100000

set_option maxHeartbeats 16000000 in
theorem at32 (s : ByteArray) (i y0 y1 y2 y3 : Nat) (w : World) (h : i + 4 ≤ s.size) (hs : s.size ≤ 1000000) (e0 : (bz s)[i + 0]? = some y0) (e1 : (bz s)[i + 1]? = some y1) (e2 : (bz s)[i + 2]? = some y2) (e3 : (bz s)[i + 3]? = some y3) :
    Calls Try.prog 40 #[.string s, .int .i64 (i : Int)] w fun e w' => e = .returned (.int .u32 ((y0 * 16777216 + y1 * 65536 + y2 * 256 + y3 : Nat) : Int)) ∧ Below w.heap.size w w' := by
  have q0 : y0 ≤ 255 := bz_le s _ (List.mem_of_getElem? e0)
  have z0 : s[i + 0].toNat = y0 := by have a := bz_at s (i + 0) (by omega); rw [a] at e0; exact Option.some.inj e0
  have q1 : y1 ≤ 255 := bz_le s _ (List.mem_of_getElem? e1)
  have z1 : s[i + 1].toNat = y1 := by have a := bz_at s (i + 1) (by omega); rw [a] at e1; exact Option.some.inj e1
  have q2 : y2 ≤ 255 := bz_le s _ (List.mem_of_getElem? e2)
  have z2 : s[i + 2].toNat = y2 := by have a := bz_at s (i + 2) (by omega); rw [a] at e2; exact Option.some.inj e2
  have q3 : y3 ≤ 255 := bz_le s _ (List.mem_of_getElem? e3)
  have z3 : s[i + 3].toNat = y3 := by have a := bz_at s (i + 3) (by omega); rw [a] at e3; exact Option.some.inj e3
  have z00 : s[i].toNat = y0 := z0
  clear e0 e1 e2 e3 z0
  have hneg : ¬ (i : Int) < 0 := by omega
  have hgt : ¬ (s.size : Int) - 4 < (i : Int) := by omega
  go_enter Try.func40, Try.ntmps40
  go_wp2_with (go_at_call 51; refine (width32 _).mono ?_; rintro e w' ⟨rfl, hw⟩; rw [hw])
  clear hneg hgt
  go_loopw [5, 19] (fun n i wr => ∃ k : Nat, i = .int .i64 (k : Int) ∧ k ≤ 4 ∧ n = .int .u32 (((if k = 0 then 0 else if k = 1 then y0 * 16777216 else if k = 2 then y0 * 16777216 + y1 * 65536 else if k = 3 then y0 * 16777216 + y1 * 65536 + y2 * 256 else y0 * 16777216 + y1 * 65536 + y2 * 256 + y3 : Nat)) : Int) ∧ Below w.heap.size w wr) (fun _ i _ => 4 - (intOf i).toNat)
  case atStart => exact ⟨0, rfl, by omega, rfl, Below.refl _ _⟩
  case round =>
    obtain ⟨k, rfl, hk, rfl, hB⟩ := hrel
    have HB := Lib.hid hB
    clear hB
    have o1 : bits .or .u32 (0) ((y0 : Int) * 16777216) = (y0 : Int) * 16777216 := by
      have h := u32_or_nat (0) (y0 * 16777216) (by omega) (by omega)
      rw [Nat.zero_or] at h
      simpa using h
    have o2 : bits .or .u32 ((y0 : Int) * 16777216) ((y1 : Int) * 65536) = (y0 : Int) * 16777216 + (y1 : Int) * 65536 := by
      have h := u32_or_nat (y0 * 16777216) (y1 * 65536) (by omega) (by omega)
      have e := or_add (y0) (y1 * 65536) 24 (by omega)
      rw [show 2 ^ 24 * (y0) = y0 * 16777216 by omega] at e
      rw [e] at h
      simpa using h
    have o3 : bits .or .u32 ((y0 : Int) * 16777216 + (y1 : Int) * 65536) ((y2 : Int) * 256) = (y0 : Int) * 16777216 + (y1 : Int) * 65536 + (y2 : Int) * 256 := by
      have h := u32_or_nat (y0 * 16777216 + y1 * 65536) (y2 * 256) (by omega) (by omega)
      have e := or_add (y0 * 256 + y1) (y2 * 256) 16 (by omega)
      rw [show 2 ^ 16 * (y0 * 256 + y1) = y0 * 16777216 + y1 * 65536 by omega] at e
      rw [e] at h
      simpa using h
    have o4 : bits .or .u32 ((y0 : Int) * 16777216 + (y1 : Int) * 65536 + (y2 : Int) * 256) ((y3 : Int)) = (y0 : Int) * 16777216 + (y1 : Int) * 65536 + (y2 : Int) * 256 + (y3 : Int) := by
      have h := u32_or_nat (y0 * 16777216 + y1 * 65536 + y2 * 256) (y3) (by omega) (by omega)
      have e := or_add (y0 * 65536 + y1 * 256 + y2) (y3) 8 (by omega)
      rw [show 2 ^ 8 * (y0 * 65536 + y1 * 256 + y2) = y0 * 16777216 + y1 * 65536 + y2 * 256 by omega] at e
      rw [e] at h
      simpa using h
    by_cases c0 : k = 0
    · subst c0
      go_wp2
      go_quiet ((go_at_call 52; exact Calls.quiet_of_same (place32_0 _)))
      go_wp2
      go_roundw
      case rel => exact ⟨1, by go_num, by omega, by simp, below_drewN HB.out _⟩
      case measure => simp [intOf]
    by_cases c1 : k = 1
    · subst c1
      go_wp2
      go_quiet ((go_at_call 52; exact Calls.quiet_of_same (place32_1 _)))
      go_wp2
      go_roundw
      case rel => exact ⟨2, by go_num, by omega, by simp, below_drewN HB.out _⟩
      case measure => simp [intOf]
    by_cases c2 : k = 2
    · subst c2
      have n1 : 0 ≤ (i : Int) + 2 := by omega
      have n2 : ((i : Int) + 2).toNat = i + 2 := by omega
      have n3 : IntKind.i64.wrap ((i : Int) + 2) = (i : Int) + 2 := IntWalk.i64_in _ (by omega)
      go_wp2
      go_quiet ((go_at_call 52; exact Calls.quiet_of_same (place32_2 _)))
      clear n1 n2 n3
      go_wp2
      go_roundw
      case rel => exact ⟨3, by go_num, by omega, by simp, below_drewN HB.out _⟩
      case measure => simp [intOf]
    by_cases c3 : k = 3
    · subst c3
      have n1 : 0 ≤ (i : Int) + 3 := by omega
      have n2 : ((i : Int) + 3).toNat = i + 3 := by omega
      have n3 : IntKind.i64.wrap ((i : Int) + 3) = (i : Int) + 3 := IntWalk.i64_in _ (by omega)
      go_wp2
      go_quiet ((go_at_call 52; exact Calls.quiet_of_same (place32_3 _)))
      clear n1 n2 n3
      go_wp2
      go_roundw
      case rel => exact ⟨4, by go_num, by omega, by simp, below_drewN HB.out _⟩
      case measure => simp [intOf]
    obtain rfl : k = 4 := by omega
    go_wp2
    go_ret
    exact ⟨rfl, HB.out⟩
end Go.Proofs.Ytgpkckaojcodmaa.Num
