/-
  Numbers laid into bytes, and read from them.
-/
import Derived.Test.YtckbdfnpeilfiaaDoorTupLib
import Derived.Deep.DeepCutAuto
namespace Go.Proofs.YtckbdfnpeilfiaaDoor.TupLay
open Go.RowKit Own TupMath TupMath2 Bytes TupLib
set_option linter.unusedVariables false
set_option maxRecDepth 100000

/-- a slice of bytes handed back, that the call owns -/
def LayOut (base : Nat) (L : List Nat) (w : World) (e : Ending) (w' : World) : Prop := (∃ A c, e = .returned (.slice A L.length c) ∧ Own8 w' base (.slice A L.length c) L) ∧ Below base w w'
def b32 (n : Nat) : List Nat := [n / 16777216, n / 65536 % 256, n / 256 % 256, n % 256]
def b16 (n : Nat) : List Nat := [n / 256, n % 256]

set_option maxHeartbeats 4000000 in
theorem lay8 (base : Nat) (A : Option Addr) (c : Nat) (L : List Nat) (n : Nat) (w : World) (hn : n ≤ 255) (hown : Own8 w base (.slice A L.length c) L) (hb : base ≤ w.heap.size) (hL : L.length ≤ 1000) :
    Calls Tryd.prog 20 #[.slice A L.length c, .int .u8 (n : Int)] w (LayOut base (L ++ [n]) w) := by
  go_enter Tryd.func20, Tryd.ntmps20
  go_wp2_with (go_at_call 36; refine (width8 _).mono ?_; rintro e w' ⟨rfl, hw⟩; rw [hw])
  go_loopw [0, 7] (fun v i wr => ∃ (k : Nat) (A : Option Addr) (c : Nat) (M : List Nat), i = .int .i64 (k : Int) ∧ v = .slice A M.length c ∧ M = L ++ [n].take k ∧ k ≤ 1 ∧ Own8 wr base (.slice A M.length c) M ∧ Below base w wr ∧ base ≤ wr.heap.size) (fun _ i _ => 1 - (intOf i).toNat)
  case atStart => exact ⟨0, A, c, L, rfl, rfl, by simp, by omega, hown, Below.refl _ _, hb⟩
  case round =>
    obtain ⟨k, A, c, M, rfl, rfl, hM, hk, hO, hB, hs⟩ := hrel
    have HM := Lib.hid hM
    have HB := Lib.hid hB
    have HO := Lib.hid hO
    have hMl : M.length ≤ 2000 := by rw [hM]; simp; omega
    clear hM hB hO hown
    by_cases h1 : k < 1
    · obtain rfl : k = 0 := by omega
      go_wp2_with (first | (go_at_call 36; refine (width8 _).mono ?_; rintro e w' ⟨rfl, hw⟩; rw [hw]) | (at_builtin; refine stop_here ?_))
      refine stop_go (app8 _ rfl _ _ rfl base _ M rfl HO.out n _ rfl _ rfl rfl hs (by omega) ?_)
      intro A' c' w' hO' hB'
      go_wp2
      go_roundw
      case rel =>
        refine ⟨1, A', c', M ++ [n], by go_num, by simp, by rw [HM.out]; simp, by omega, by simpa using hO', HB.out.trans hB', Nat.le_trans hs hB'.size⟩
      case measure => simp [intOf]
    · obtain rfl : k = 1 := by omega
      go_wp2
      go_ret
      have e : M = L ++ [n] := by rw [HM.out]; simp
      subst e
      exact ⟨⟨A, c, rfl, HO.out⟩, HB.out⟩

set_option maxHeartbeats 8000000 in
theorem lay16 (base : Nat) (A : Option Addr) (c : Nat) (L : List Nat) (n : Nat) (w : World) (hn : n ≤ 65535) (hown : Own8 w base (.slice A L.length c) L) (hb : base ≤ w.heap.size) (hL : L.length ≤ 1000) :
    Calls Tryd.prog 22 #[.slice A L.length c, .int .u16 (n : Int)] w (LayOut base (L ++ b16 n) w) := by
  go_enter Tryd.func22, Tryd.ntmps22
  go_wp2_with (go_at_call 37; refine (width16 _).mono ?_; rintro e w' ⟨rfl, hw⟩; rw [hw])
  go_loopw [0, 7] (fun v i wr => ∃ (k : Nat) (A : Option Addr) (c : Nat) (M : List Nat), i = .int .i64 (k : Int) ∧ v = .slice A M.length c ∧ M = L ++ (b16 n).take k ∧ k ≤ 2 ∧ Own8 wr base (.slice A M.length c) M ∧ Below base w wr ∧ base ≤ wr.heap.size) (fun _ i _ => 2 - (intOf i).toNat)
  case atStart => exact ⟨0, A, c, L, rfl, rfl, by simp, by omega, hown, Below.refl _ _, hb⟩
  case round =>
    obtain ⟨k, A, c, M, rfl, rfl, hM, hk, hO, hB, hs⟩ := hrel
    have HM := Lib.hid hM
    have HB := Lib.hid hB
    have HO := Lib.hid hO
    have hMl : M.length ≤ 2000 := by rw [hM]; simp [b16]; omega
    clear hM hB hO hown
    by_cases c0 : k = 0
    · subst c0
      go_wp2_with (first | (go_at_call 37; refine (width16 _).mono ?_; rintro e w' ⟨rfl, hw⟩; rw [hw]) | (at_builtin; refine stop_here ?_))
      refine stop_go (app8 _ rfl _ _ rfl base _ M rfl HO.out (n / 256) _ (by omega) _ rfl rfl hs (by omega) ?_)
      intro A' c' w' hO' hB'
      go_wp2
      go_roundw
      case rel =>
        exact ⟨1, A', c', M ++ [n / 256], by go_num, by simp, by rw [HM.out]; simp [b16], by omega, by simpa using hO', HB.out.trans hB', Nat.le_trans hs hB'.size⟩
      case measure => simp [intOf]
    by_cases c1 : k = 1
    · subst c1
      go_wp2_with (first | (go_at_call 37; refine (width16 _).mono ?_; rintro e w' ⟨rfl, hw⟩; rw [hw]) | (at_builtin; refine stop_here ?_))
      refine stop_go (app8 _ rfl _ _ rfl base _ M rfl HO.out (n % 256) _ (by omega) _ rfl rfl hs (by omega) ?_)
      intro A' c' w' hO' hB'
      go_wp2
      go_roundw
      case rel =>
        exact ⟨2, A', c', M ++ [n % 256], by go_num, by simp, by rw [HM.out]; simp [b16], by omega, by simpa using hO', HB.out.trans hB', Nat.le_trans hs hB'.size⟩
      case measure => simp [intOf]
    obtain rfl : k = 2 := by omega
    go_wp2
    go_ret
    have e : M = L ++ b16 n := by rw [HM.out]; simp [b16]
    subst e
    exact ⟨⟨A, c, rfl, HO.out⟩, HB.out⟩

set_option maxHeartbeats 8000000 in
theorem lay32 (base : Nat) (A : Option Addr) (c : Nat) (L : List Nat) (n : Nat) (w : World) (hn : n ≤ 4294967295) (hown : Own8 w base (.slice A L.length c) L) (hb : base ≤ w.heap.size) (hL : L.length ≤ 1000) :
    Calls Tryd.prog 26 #[.slice A L.length c, .int .u32 (n : Int)] w (LayOut base (L ++ b32 n) w) := by
  go_enter Tryd.func26, Tryd.ntmps26
  go_wp2_with (go_at_call 38; refine (width32 _).mono ?_; rintro e w' ⟨rfl, hw⟩; rw [hw])
  go_loopw [0, 7] (fun v i wr => ∃ (k : Nat) (A : Option Addr) (c : Nat) (M : List Nat), i = .int .i64 (k : Int) ∧ v = .slice A M.length c ∧ M = L ++ (b32 n).take k ∧ k ≤ 4 ∧ Own8 wr base (.slice A M.length c) M ∧ Below base w wr ∧ base ≤ wr.heap.size) (fun _ i _ => 4 - (intOf i).toNat)
  case atStart => exact ⟨0, A, c, L, rfl, rfl, by simp, by omega, hown, Below.refl _ _, hb⟩
  case round =>
    obtain ⟨k, A, c, M, rfl, rfl, hM, hk, hO, hB, hs⟩ := hrel
    have HM := Lib.hid hM
    have HB := Lib.hid hB
    have HO := Lib.hid hO
    have hMl : M.length ≤ 2000 := by rw [hM]; simp [b32]; omega
    clear hM hB hO hown
    by_cases c0 : k = 0
    · subst c0
      go_wp2_with (first | (go_at_call 38; refine (width32 _).mono ?_; rintro e w' ⟨rfl, hw⟩; rw [hw]) | (at_builtin; refine stop_here ?_))
      refine stop_go (app8 _ rfl _ _ rfl base _ M rfl HO.out (n / 16777216) _ (by omega) _ rfl rfl hs (by omega) ?_)
      intro A' c' w' hO' hB'
      go_wp2
      go_roundw
      case rel =>
        exact ⟨1, A', c', M ++ [n / 16777216], by go_num, by simp, by rw [HM.out]; simp [b32], by omega, by simpa using hO', HB.out.trans hB', Nat.le_trans hs hB'.size⟩
      case measure => simp [intOf]
    by_cases c1 : k = 1
    · subst c1
      go_wp2_with (first | (go_at_call 38; refine (width32 _).mono ?_; rintro e w' ⟨rfl, hw⟩; rw [hw]) | (at_builtin; refine stop_here ?_))
      refine stop_go (app8 _ rfl _ _ rfl base _ M rfl HO.out (n / 65536 % 256) _ (by omega) _ rfl rfl hs (by omega) ?_)
      intro A' c' w' hO' hB'
      go_wp2
      go_roundw
      case rel =>
        exact ⟨2, A', c', M ++ [n / 65536 % 256], by go_num, by simp, by rw [HM.out]; simp [b32], by omega, by simpa using hO', HB.out.trans hB', Nat.le_trans hs hB'.size⟩
      case measure => simp [intOf]
    by_cases c2 : k = 2
    · subst c2
      go_wp2_with (first | (go_at_call 38; refine (width32 _).mono ?_; rintro e w' ⟨rfl, hw⟩; rw [hw]) | (at_builtin; refine stop_here ?_))
      refine stop_go (app8 _ rfl _ _ rfl base _ M rfl HO.out (n / 256 % 256) _ (by omega) _ rfl rfl hs (by omega) ?_)
      intro A' c' w' hO' hB'
      go_wp2
      go_roundw
      case rel =>
        exact ⟨3, A', c', M ++ [n / 256 % 256], by go_num, by simp, by rw [HM.out]; simp [b32], by omega, by simpa using hO', HB.out.trans hB', Nat.le_trans hs hB'.size⟩
      case measure => simp [intOf]
    by_cases c3 : k = 3
    · subst c3
      go_wp2_with (first | (go_at_call 38; refine (width32 _).mono ?_; rintro e w' ⟨rfl, hw⟩; rw [hw]) | (at_builtin; refine stop_here ?_))
      refine stop_go (app8 _ rfl _ _ rfl base _ M rfl HO.out (n % 256) _ (by omega) _ rfl rfl hs (by omega) ?_)
      intro A' c' w' hO' hB'
      go_wp2
      go_roundw
      case rel =>
        exact ⟨4, A', c', M ++ [n % 256], by go_num, by simp, by rw [HM.out]; simp [b32], by omega, by simpa using hO', HB.out.trans hB', Nat.le_trans hs hB'.size⟩
      case measure => simp [intOf]
    obtain rfl : k = 4 := by omega
    go_wp2
    go_ret
    have e : M = L ++ b32 n := by rw [HM.out]; simp [b32]
    subst e
    exact ⟨⟨A, c, rfl, HO.out⟩, HB.out⟩
end Go.Proofs.YtckbdfnpeilfiaaDoor.TupLay
