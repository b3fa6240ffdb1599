/-
  Numbers read from bytes.
-/
import Derived.Test.YtckbdfnpeilfiaaDoorTupLay
namespace Go.Proofs.YtckbdfnpeilfiaaDoor.TupTake
open Go.RowKit Own TupMath TupMath2 Bytes TupLib TupLay
set_option linter.unusedVariables false
set_option maxRecDepth 100000

theorem or_add (a b m : Nat) (hb : b < 2 ^ m) : 2 ^ m * a ||| b = 2 ^ m * a + b := (Nat.two_pow_add_eq_or_of_lt hb a).symm

set_option maxHeartbeats 8000000 in
theorem take16 (s : ByteArray) (y0 y1 : Nat) (w : World) (h2 : 2 ≤ s.size) (hs : s.size ≤ 1000000) (e0 : (bz s)[0]? = some y0) (e1 : (bz s)[1]? = some y1) :
    Calls Tryd.prog 25 #[.string s] w fun e w' => e = .returned (.tuple #[.int .u16 ((y0 * 256 + y1 : Nat) : Int), .string (s.extract 2 s.size)]) ∧ Below w.heap.size w w' := by
  have q0 : y0 ≤ 255 := bz_le s _ (List.mem_of_getElem? e0)
  have q1 : y1 ≤ 255 := bz_le s _ (List.mem_of_getElem? e1)
  have a0 := bz_at s 0 (by omega)
  have a1 := bz_at s 1 (by omega)
  have z0 : s[0].toNat = y0 := by rw [a0] at e0; exact Option.some.inj e0
  have z1 : s[1].toNat = y1 := by rw [a1] at e1; exact Option.some.inj e1
  clear e0 e1 a0 a1
  go_enter Tryd.func25, Tryd.ntmps25
  go_wp2_with (go_at_call 37; refine (width16 _).mono ?_; rintro e w' ⟨rfl, hw⟩; rw [hw])
  go_loopw [4, 10] (fun n i wr => ∃ k : Nat, i = .int .i64 (k : Int) ∧ k ≤ 2 ∧ n = .int .u16 (((if k = 0 then 0 else if k = 1 then y0 * 256 else y0 * 256 + y1 : Nat)) : Int) ∧ Below w.heap.size w wr) (fun _ i _ => 2 - (intOf i).toNat)
  case atStart => exact ⟨0, rfl, by omega, rfl, Below.refl _ _⟩
  case round =>
    obtain ⟨k, rfl, hk, rfl, hB⟩ := hrel
    have HB := Lib.hid hB
    clear hB
    have o1 : bits .or .u16 0 ((y0 : Int) * 256) = (y0 : Int) * 256 := by
      have h := u16_or_nat 0 (y0 * 256) (by omega) (by omega)
      rw [Nat.zero_or] at h
      simpa using h
    have o2 : bits .or .u16 ((y0 : Int) * 256) (y1 : Int) = (y0 : Int) * 256 + (y1 : Int) := by
      have h := u16_or_nat (y0 * 256) y1 (by omega) (by omega)
      have e := or_add y0 y1 8 (by omega)
      rw [show 2 ^ 8 * y0 = y0 * 256 by omega] at e
      rw [e] at h
      simpa using h
    by_cases c0 : k = 0
    · subst c0
      go_wp2
      go_roundw
      case rel => exact ⟨1, by go_num, by omega, by simp, HB.out⟩
      case measure => simp [intOf]
    by_cases c1 : k = 1
    · subst c1
      go_wp2
      go_roundw
      case rel => exact ⟨2, by go_num, by omega, by simp, HB.out⟩
      case measure => simp [intOf]
    obtain rfl : k = 2 := by omega
    go_wp2
    go_quiet (fail)
    go_wp2
    go_ret2
    exact ⟨rfl, below_drewN HB.out _⟩

set_option maxHeartbeats 8000000 in
theorem take32 (s : ByteArray) (y0 y1 y2 y3 : Nat) (w : World) (h4 : 4 ≤ s.size) (hs : s.size ≤ 1000000) (e0 : (bz s)[0]? = some y0) (e1 : (bz s)[1]? = some y1) (e2 : (bz s)[2]? = some y2) (e3 : (bz s)[3]? = some y3) :
    Calls Tryd.prog 24 #[.string s] w fun e w' => e = .returned (.tuple #[.int .u32 ((y0 * 16777216 + y1 * 65536 + y2 * 256 + y3 : Nat) : Int), .string (s.extract 4 s.size)]) ∧ Below w.heap.size w w' := by
  have q0 : y0 ≤ 255 := bz_le s _ (List.mem_of_getElem? e0)
  have q1 : y1 ≤ 255 := bz_le s _ (List.mem_of_getElem? e1)
  have q2 : y2 ≤ 255 := bz_le s _ (List.mem_of_getElem? e2)
  have q3 : y3 ≤ 255 := bz_le s _ (List.mem_of_getElem? e3)
  have a0 := bz_at s 0 (by omega)
  have a1 := bz_at s 1 (by omega)
  have a2 := bz_at s 2 (by omega)
  have a3 := bz_at s 3 (by omega)
  have z0 : s[0].toNat = y0 := by rw [a0] at e0; exact Option.some.inj e0
  have z1 : s[1].toNat = y1 := by rw [a1] at e1; exact Option.some.inj e1
  have z2 : s[2].toNat = y2 := by rw [a2] at e2; exact Option.some.inj e2
  have z3 : s[3].toNat = y3 := by rw [a3] at e3; exact Option.some.inj e3
  clear e0 e1 e2 e3 a0 a1 a2 a3
  go_enter Tryd.func24, Tryd.ntmps24
  go_wp2_with (go_at_call 38; refine (width32 _).mono ?_; rintro e w' ⟨rfl, hw⟩; rw [hw])
  go_loopw [4, 10] (fun n i wr => ∃ k : Nat, i = .int .i64 (k : Int) ∧ k ≤ 4 ∧ n = .int .u32 (((if k = 0 then 0 else if k = 1 then y0 * 16777216 else if k = 2 then y0 * 16777216 + y1 * 65536 else if k = 3 then y0 * 16777216 + y1 * 65536 + y2 * 256 else y0 * 16777216 + y1 * 65536 + y2 * 256 + y3 : Nat)) : Int) ∧ Below w.heap.size w wr) (fun _ i _ => 4 - (intOf i).toNat)
  case atStart => exact ⟨0, rfl, by omega, rfl, Below.refl _ _⟩
  case round =>
    obtain ⟨k, rfl, hk, rfl, hB⟩ := hrel
    have HB := Lib.hid hB
    clear hB
    have o1 : bits .or .u32 0 ((y0 : Int) * 16777216) = (y0 : Int) * 16777216 := by
      have h := u32_or_nat 0 (y0 * 16777216) (by omega) (by omega)
      rw [Nat.zero_or] at h
      simpa using h
    have o2 : bits .or .u32 ((y0 : Int) * 16777216) ((y1 : Int) * 65536) = (y0 : Int) * 16777216 + (y1 : Int) * 65536 := by
      have h := u32_or_nat (y0 * 16777216) (y1 * 65536) (by omega) (by omega)
      have e := or_add y0 (y1 * 65536) 24 (by omega)
      rw [show 2 ^ 24 * y0 = y0 * 16777216 by omega] at e
      rw [e] at h
      simpa using h
    have o3 : bits .or .u32 ((y0 : Int) * 16777216 + (y1 : Int) * 65536) ((y2 : Int) * 256) = (y0 : Int) * 16777216 + (y1 : Int) * 65536 + (y2 : Int) * 256 := by
      have h := u32_or_nat (y0 * 16777216 + y1 * 65536) (y2 * 256) (by omega) (by omega)
      have e := or_add (y0 * 256 + y1) (y2 * 256) 16 (by omega)
      rw [show 2 ^ 16 * (y0 * 256 + y1) = y0 * 16777216 + y1 * 65536 by omega] at e
      rw [e] at h
      simpa using h
    have o4 : bits .or .u32 ((y0 : Int) * 16777216 + (y1 : Int) * 65536 + (y2 : Int) * 256) (y3 : Int) = (y0 : Int) * 16777216 + (y1 : Int) * 65536 + (y2 : Int) * 256 + (y3 : Int) := by
      have h := u32_or_nat (y0 * 16777216 + y1 * 65536 + y2 * 256) y3 (by omega) (by omega)
      have e := or_add (y0 * 65536 + y1 * 256 + y2) y3 8 (by omega)
      rw [show 2 ^ 8 * (y0 * 65536 + y1 * 256 + y2) = y0 * 16777216 + y1 * 65536 + y2 * 256 by omega] at e
      rw [e] at h
      simpa using h
    by_cases c0 : k = 0
    · subst c0
      go_wp2
      go_roundw
      case rel => exact ⟨1, by go_num, by omega, by simp, HB.out⟩
      case measure => simp [intOf]
    by_cases c1 : k = 1
    · subst c1
      go_wp2
      go_roundw
      case rel => exact ⟨2, by go_num, by omega, by simp, HB.out⟩
      case measure => simp [intOf]
    by_cases c2 : k = 2
    · subst c2
      go_wp2
      go_roundw
      case rel => exact ⟨3, by go_num, by omega, by simp, HB.out⟩
      case measure => simp [intOf]
    by_cases c3 : k = 3
    · subst c3
      go_wp2
      go_roundw
      case rel => exact ⟨4, by go_num, by omega, by simp, HB.out⟩
      case measure => simp [intOf]
    obtain rfl : k = 4 := by omega
    go_wp2
    go_quiet (fail)
    go_wp2
    go_ret2
    exact ⟨rfl, below_drewN HB.out _⟩
end Go.Proofs.YtckbdfnpeilfiaaDoor.TupTake
