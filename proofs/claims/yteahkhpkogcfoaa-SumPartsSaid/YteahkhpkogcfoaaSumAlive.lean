/-
  The known answers of the statements of layer 3 hold.
-/
import Derived.Test.YteahkhpkogcfoaaSumOf
import Derived.Test.YteahkhpkogcfoaaSumTurnsC
import Derived.Deep.RegionHeld3
namespace Go.Proofs.Yteahkhpkogcfoaa.SumAlive
open Go.RowKit Go.Shelf SumMath SumPlain SumWords SumOf SumTurnsC
set_option linter.unusedVariables false

theorem strs0 (W : World) (B : Nat) (A : Option Addr) : StrR W B A 0 [] := ⟨rfl, fun h => absurd h (by omega)⟩
theorem strs1 (W : World) (s : ByteArray) (T : TypeId) : StrR (W.alloc (.cells #[.string s] T)) (W.alloc (.cells #[.string s] T)).heap.size (some ⟨W.heap.size, 0, none⟩) 1 [s] := by
  refine ⟨rfl, fun _ => ⟨W.heap.size, 0, rfl, by simp, fun j hj => ?_⟩⟩
  match j, hj with
  | 0, _ => simp
theorem strs1e (W : World) (s : ByteArray) (T : TypeId) (B : Nat) (hB : W.heap.size = B) : StrR (W.alloc (.cells #[.string s] T)) (W.alloc (.cells #[.string s] T)).heap.size (some ⟨B, 0, none⟩) 1 [s] := by
  subst hB
  exact strs1 W s T
theorem strs2 (W : World) (s t : ByteArray) (T : TypeId) : StrR (W.alloc (.cells #[.string s, .string t] T)) (W.alloc (.cells #[.string s, .string t] T)).heap.size (some ⟨W.heap.size, 0, none⟩) 2 [s, t] := by
  refine ⟨rfl, fun _ => ⟨W.heap.size, 0, rfl, by simp, fun j hj => ?_⟩⟩
  match j, hj with
  | 0, _ => simp
  | 1, _ => simp
theorem strs3 (W : World) (s t u : ByteArray) (T : TypeId) : StrR (W.alloc (.cells #[.string s, .string t, .string u] T)) (W.alloc (.cells #[.string s, .string t, .string u] T)).heap.size (some ⟨W.heap.size, 0, none⟩) 3 [s, t, u] := by
  refine ⟨rfl, fun _ => ⟨W.heap.size, 0, rfl, by simp, fun j hj => ?_⟩⟩
  match j, hj with
  | 0, _ => simp
  | 1, _ => simp
  | 2, _ => simp
theorem strs_more {W W' : World} {A : Option Addr} {n : Nat} {L : List ByteArray} (h : StrR W W.heap.size A n L) (hb : Below W.heap.size W W') : StrR W' W'.heap.size A n L := (h.below hb).mono hb.size
theorem strs_alloc {W : World} {A : Option Addr} {n : Nat} {L : List ByteArray} (h : StrR W W.heap.size A n L) (o : Obj) : StrR (W.alloc o) (W.alloc o).heap.size A n L := strs_more h ((Below.refl _ W).alloc (Nat.le_refl _) o)
theorem strs_drew {W : World} {A : Option Addr} {n : Nat} {L : List ByteArray} (h : StrR W W.heap.size A n L) : StrR W.drew W.drew.heap.size A n L := h

theorem st_alloc {w W : World} (h : Below w.heap.size w W) (o : Obj) : Below w.heap.size w (W.alloc o) := h.alloc h.size o
theorem st_call {w W W' : World} (h : Below w.heap.size w W) (hb : Below W.heap.size W W') : Below w.heap.size w W' := h.trans (hb.mono h.size)
theorem st_drew (w : World) : Below w.heap.size w w.drew := (Below.refl _ w).drew

def s8 : ByteArray := ⟨#[0, 1, 242, 3, 244, 245, 246, 247]⟩

set_option maxRecDepth 100000 in
set_option maxHeartbeats 4000000 in
theorem alive_any (w : World) : Calls Try.prog 7 #[] w fun e w' => e = .returned (.bool true) ∧ Below w.heap.size w w' := by
  go_enter Try.func7, Try.ntmps7
  go_wp2_with fail
  have V1 := Lib.hid (show cs (cat [⟨#[0, 1, 242, 3, 244, 245, 246, 247]⟩]) = 8717 by decide)
  have V2 := Lib.hid (show cs (cat [ByteArray.extract ⟨#[0, 1, 242, 3, 244, 245, 246, 247]⟩ 0 3, ByteArray.extract ⟨#[0, 1, 242, 3, 244, 245, 246, 247]⟩ 3 8]) = 8717 by decide)
  have V3 := Lib.hid (show cs (cat []) = 65535 by decide)
  have V4 := Lib.hid (show cs (cat [⟨#[1]⟩]) = 65279 by decide)
  have V5 := Lib.hid (show cs (cat [⟨#[0, 1, 242, 3, 244, 245, 246, 247]⟩, ⟨#[34, 13]⟩]) = 0 by decide)
  have V6 := Lib.hid (show cs (cat [ByteArray.extract ⟨#[0, 1, 242, 3, 244, 245, 246, 247]⟩ 0 4]) = 3579 by decide)
  have V7 := Lib.hid (show cs (cat [ByteArray.extract ⟨#[0, 1, 242, 3, 244, 245, 246, 247]⟩ 4 8]) = 5138 by decide)
  have V8 := Lib.hid (show tu 56623 21845 12933 = 0 by decide)
  have V9 := Lib.hid (show jo 3579 5138 = 8717 by decide)
  have VA := Lib.hid (show tus 8717 ((bz ⟨#[0, 1]⟩).take (min (ByteArray.size ⟨#[0, 1]⟩) (ByteArray.size ⟨#[0, 2]⟩))) ((bz ⟨#[0, 2]⟩).take (min (ByteArray.size ⟨#[0, 1]⟩) (ByteArray.size ⟨#[0, 2]⟩))) ((min (ByteArray.size ⟨#[0, 1]⟩) (ByteArray.size ⟨#[0, 2]⟩) + 1) / 2) = 8716 by decide)
  go_region_held3 (fun W => Below w.heap.size w W) (first | assumption | exact st_drew _ | exact st_alloc (by assumption) _ | exact st_call (by assumption) hb)
    (first
      | (go_at_call 8; refine (of_any _ _ _ _ _ (by first | exact strs1 _ _ _ | exact strs2 _ _ _ _ | exact strs0 _ _ _ | exact strs1e _ _ _ _ (World.size_alloc _ _) | exact strs_alloc (strs1 _ _ _) _ | exact strs_more (strs1 _ _ _) hb | exact strs_more (strs1e _ _ _ _ (World.size_alloc _ _)) hb | exact strs_more (strs_alloc (strs1 _ _ _) _) hb) (by omega) (by decide)).mono ?_; rintro e w' ⟨rfl, hb⟩; first | rw [V1.out] | rw [V2.out] | rw [V3.out] | rw [V4.out] | rw [V6.out] | rw [V7.out])
      | (go_at_call 10; refine (right_any _ _ _ _ _ (by first | exact strs1 _ _ _ | exact strs2 _ _ _ _) (by omega) (by decide)).mono ?_; rintro e w' ⟨rfl, hb⟩; first | rw [V1.out] | rw [V5.out])
      | (go_at_call 13; refine (turn_any 56623 21845 12933 _ (by omega) (by omega) (by omega)).mono ?_; rintro e w' ⟨rfl, rfl⟩; rw [V8.out])
      | (go_at_call 11; refine (join_any 3579 5138 _ (by omega) (by omega)).mono ?_; rintro e w' ⟨rfl, rfl⟩; rw [V9.out])
      | (go_at_call 15; refine (turns_any 8717 ⟨#[0, 1]⟩ ⟨#[0, 2]⟩ _ (by omega) (by decide) (by decide)).mono ?_; rintro e w' ⟨rfl, hb⟩; rw [VA.out]))
  all_goals
    go_wp2
    go_ret
    exact ⟨rfl, by assumption⟩
end Go.Proofs.Yteahkhpkogcfoaa.SumAlive
