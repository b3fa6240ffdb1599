/-
  The program's order of addresses, and of pairs.
-/
import Derived.Test.YtpphpnnehljekaaDoorTupRead
import Derived.Deep.RegionHeld3
import Derived.Deep.LoopGhost
namespace Go.Proofs.YtpphpnnehljekaaDoor.TupOrd
open Go.RowKit Own TupMath TupMath2 Bytes TupLib TupLay TupRef TupRef2 TupRef3
set_option linter.unusedVariables false
set_option maxRecDepth 100000

theorem nan32 (x : Int) (w : World) : Calls Tryd.prog 55 #[.int .u32 x] w fun e w' => e = .returned (.bool false) ∧ w' = w := by
  go_enter Tryd.func55, Tryd.ntmps55
  go_wp2
  go_ret
  simp
theorem nan16 (x : Int) (w : World) : Calls Tryd.prog 56 #[.int .u16 x] w fun e w' => e = .returned (.bool false) ∧ w' = w := by
  go_enter Tryd.func56, Tryd.ntmps56
  go_wp2
  go_ret
  simp
/-- which of two numbers is less -/
def cmpI (x y : Nat) : Int := if x < y then -1 else if y < x then 1 else 0
theorem cmp32 (x y : Nat) (w : World) : Calls Tryd.prog 43 #[.int .u32 (x : Int), .int .u32 (y : Int)] w fun e w' => e = .returned (.int .i64 (cmpI x y)) ∧ w' = w := by
  unfold cmpI
  by_cases c1 : x < y
  · rw [if_pos c1]
    have c1i : (x : Int) < (y : Int) := by omega
    go_enter Tryd.func43, Tryd.ntmps43
    go_wp2_with (go_at_call 55; refine (nan32 _ _).mono ?_; rintro e w' ⟨rfl, hw⟩; rw [hw])
    go_ret
    exact ⟨rfl, rfl⟩
  · rw [if_neg c1]
    have c1i : ¬ (x : Int) < (y : Int) := by omega
    by_cases c2 : y < x
    · rw [if_pos c2]
      have c2i : (y : Int) < (x : Int) := by omega
      go_enter Tryd.func43, Tryd.ntmps43
      go_wp2_with (go_at_call 55; refine (nan32 _ _).mono ?_; rintro e w' ⟨rfl, hw⟩; rw [hw])
      go_ret
      exact ⟨rfl, rfl⟩
    · rw [if_neg c2]
      have c2i : ¬ (y : Int) < (x : Int) := by omega
      go_enter Tryd.func43, Tryd.ntmps43
      go_wp2_with (go_at_call 55; refine (nan32 _ _).mono ?_; rintro e w' ⟨rfl, hw⟩; rw [hw])
      go_ret
      exact ⟨rfl, rfl⟩
theorem cmp16 (x y : Nat) (w : World) : Calls Tryd.prog 44 #[.int .u16 (x : Int), .int .u16 (y : Int)] w fun e w' => e = .returned (.int .i64 (cmpI x y)) ∧ w' = w := by
  unfold cmpI
  by_cases c1 : x < y
  · rw [if_pos c1]
    have c1i : (x : Int) < (y : Int) := by omega
    go_enter Tryd.func44, Tryd.ntmps44
    go_wp2_with (go_at_call 56; refine (nan16 _ _).mono ?_; rintro e w' ⟨rfl, hw⟩; rw [hw])
    go_ret
    exact ⟨rfl, rfl⟩
  · rw [if_neg c1]
    have c1i : ¬ (x : Int) < (y : Int) := by omega
    by_cases c2 : y < x
    · rw [if_pos c2]
      have c2i : (y : Int) < (x : Int) := by omega
      go_enter Tryd.func44, Tryd.ntmps44
      go_wp2_with (go_at_call 56; refine (nan16 _ _).mono ?_; rintro e w' ⟨rfl, hw⟩; rw [hw])
      go_ret
      exact ⟨rfl, rfl⟩
    · rw [if_neg c2]
      have c2i : ¬ (y : Int) < (x : Int) := by omega
      go_enter Tryd.func44, Tryd.ntmps44
      go_wp2_with (go_at_call 56; refine (nan16 _ _).mono ?_; rintro e w' ⟨rfl, hw⟩; rw [hw])
      go_ret
      exact ⟨rfl, rfl⟩
/-- the first that is not nought -/
def orI (x y : Int) : Int := if x ≠ 0 then x else y
theorem or_any (b : Nat) (x y : Int) (w : World) (c0 : w.cell? ⟨b, 0, none⟩ = some (.int .i64 x)) (c1 : w.cell? ⟨b, 1, none⟩ = some (.int .i64 y)) :
    Calls Tryd.prog 30 #[.slice (some ⟨b, 0, none⟩) 2 2] w fun e w' => e = .returned (.int .i64 (orI x y)) ∧ w' = w := by
  unfold orI
  by_cases hx : x = 0
  · subst hx
    rw [if_neg (by simp)]
    by_cases hy : y = 0
    · subst hy
      go_enter Tryd.func30, Tryd.ntmps30
      go_wp2
      go_loopw [8] (fun i wr => ∃ k : Nat, i = .int .i64 (k : Int) ∧ k ≤ 2 ∧ wr = w) (fun i _ => 2 - (intOf i).toNat)
      case atStart => exact ⟨0, rfl, by omega, rfl⟩
      case round =>
        obtain ⟨k, rfl, hk, rfl⟩ := hrel
        by_cases k0 : k = 0
        · subst k0
          go_wp2
          go_roundw
          case rel => exact ⟨1, by go_num, by omega, by trivial⟩
          case measure => simp [intOf]
        by_cases k1 : k = 1
        · subst k1
          go_wp2
          go_roundw
          case rel => exact ⟨2, by go_num, by omega, by trivial⟩
          case measure => simp [intOf]
        obtain rfl : k = 2 := by omega
        go_wp2
        go_ret
        exact ⟨rfl, rfl⟩
    · go_enter Tryd.func30, Tryd.ntmps30
      go_wp2
      go_loopw [8] (fun i wr => ∃ k : Nat, i = .int .i64 (k : Int) ∧ k ≤ 1 ∧ wr = w) (fun i _ => 2 - (intOf i).toNat)
      case atStart => exact ⟨0, rfl, by omega, rfl⟩
      case round =>
        obtain ⟨k, rfl, hk, rfl⟩ := hrel
        by_cases k0 : k = 0
        · subst k0
          go_wp2
          go_roundw
          case rel => exact ⟨1, by go_num, by omega, by trivial⟩
          case measure => simp [intOf]
        obtain rfl : k = 1 := by omega
        go_wp2
        go_ret
        exact ⟨rfl, rfl⟩
  · rw [if_pos hx]
    go_enter Tryd.func30, Tryd.ntmps30
    go_wp2
    go_loopw [8] (fun i wr => i = .int .i64 0 ∧ wr = w) (fun i _ => 2 - (intOf i).toNat)
    case atStart => exact ⟨rfl, rfl⟩
    case round =>
      obtain ⟨rfl, rfl⟩ := hrel
      go_wp2
      go_ret
      exact ⟨rfl, rfl⟩
/-- what two boxes hold, in whatever world behind them -/
abbrev Box2 (w : World) (x0 x1 y0 y1 : Value) (W : World) : Prop :=
  W.cell? ⟨w.heap.size, 0, none⟩ = some x0 ∧ W.cell? ⟨w.heap.size, 1, none⟩ = some x1 ∧ W.cell? ⟨w.heap.size + 1, 0, none⟩ = some y0 ∧ W.cell? ⟨w.heap.size + 1, 1, none⟩ = some y1 ∧ Below w.heap.size w W ∧ w.heap.size + 2 ≤ W.heap.size
theorem box2_more {w : World} {x0 x1 y0 y1 : Value} {W W' : World} (h : Box2 w x0 x1 y0 y1 W) (hb : Below W.heap.size W W') : Box2 w x0 x1 y0 y1 W' := by
  obtain ⟨a, b, c, d, e, f⟩ := h
  exact ⟨(hb.cell (p := ⟨w.heap.size, 0, none⟩) (by show w.heap.size < _; omega)).trans a, (hb.cell (p := ⟨w.heap.size, 1, none⟩) (by show w.heap.size < _; omega)).trans b, (hb.cell (p := ⟨w.heap.size + 1, 0, none⟩) (by show w.heap.size + 1 < _; omega)).trans c, (hb.cell (p := ⟨w.heap.size + 1, 1, none⟩) (by show w.heap.size + 1 < _; omega)).trans d, st_call e hb, Nat.le_trans f hb.size⟩
theorem box2_start (w : World) (x0 x1 y0 y1 : Value) (T T' : TypeId) : Box2 w x0 x1 y0 y1 ((w.alloc (.cells #[x0, x1] T)).alloc (.cells #[y0, y1] T')) := by
  obtain ⟨a, b⟩ := two_blocks w #[x0, x1] #[y0, y1] T T' w.heap.size 0 rfl
  obtain ⟨c, d⟩ := two_blocks w #[x0, x1] #[y0, y1] T T' w.heap.size 1 rfl
  exact ⟨a, c, b, d, st_alloc (st_alloc (Below.refl _ _) _) _, by simp⟩
theorem box2_alloc {w : World} {x0 x1 y0 y1 : Value} {W : World} (h : Box2 w x0 x1 y0 y1 W) (o : Obj) : Box2 w x0 x1 y0 y1 (W.alloc o) := box2_more h ((Below.refl _ W).alloc (Nat.le_refl _) o)
theorem box2_drew {w : World} {x0 x1 y0 y1 : Value} {W : World} (h : Box2 w x0 x1 y0 y1 W) : Box2 w x0 x1 y0 y1 W.drew := box2_more h (Below.refl _ _).drew
theorem box2_below {w : World} {x0 x1 y0 y1 : Value} {W : World} (h : Box2 w x0 x1 y0 y1 W) : Below w.heap.size w W := h.2.2.2.2.1
/-- two numbers just laid -/
theorem two_new (W : World) (x y : Value) (T : TypeId) : (W.alloc (.cells #[x, y] T)).cell? ⟨W.heap.size, 0, none⟩ = some x ∧ (W.alloc (.cells #[x, y] T)).cell? ⟨W.heap.size, 1, none⟩ = some y := by
  refine ⟨(World.cell?_alloc_mark W #[x, y] T (0, 0) 0).trans rfl, (World.cell?_alloc_mark W #[x, y] T (0, 0) 1).trans rfl⟩

theorem two_newe (W : World) (x y : Value) (T : TypeId) (B : Nat) (hB : W.heap.size = B) : (W.alloc (.cells #[x, y] T)).cell? ⟨B, 0, none⟩ = some x ∧ (W.alloc (.cells #[x, y] T)).cell? ⟨B, 1, none⟩ = some y := by
  subst hB
  exact two_new W x y T

set_option maxHeartbeats 8000000 in
theorem order_any (a b c d : Nat) (w : World) : Calls Tryd.prog 31 #[.agg #[.int .u32 (a : Int), .int .u16 (b : Int)], .agg #[.int .u32 (c : Int), .int .u16 (d : Int)]] w fun e w' =>
    e = .returned (.int .i64 (orI (cmpI a c) (cmpI b d))) ∧ Below w.heap.size w w' := by
  go_enter Tryd.func31, Tryd.ntmps31
  have hst := box2_start w (.int .u32 (a : Int)) (.int .u16 (b : Int)) (.int .u32 (c : Int)) (.int .u16 (d : Int)) 25 25
  go_wp2_with fail
  go_region_held3 (fun W => Box2 w (.int .u32 (a : Int)) (.int .u16 (b : Int)) (.int .u32 (c : Int)) (.int .u16 (d : Int)) W) (first | assumption | exact box2_start _ _ _ _ _ _ _ | exact box2_alloc (by assumption) _ | exact box2_drew (by assumption))
    (first
      | (go_at_call 43; refine (cmp32 _ _ _).mono ?_; rintro e w' ⟨rfl, rfl⟩)
      | (go_at_call 44; refine (cmp16 _ _ _).mono ?_; rintro e w' ⟨rfl, rfl⟩)
      | (go_at_call 30; refine (or_any _ _ _ _ (by first | exact (two_new _ _ _ _).1 | exact (two_newe _ _ _ _ _ (by simp)).1) (by first | exact (two_new _ _ _ _).2 | exact (two_newe _ _ _ _ _ (by simp)).2)).mono ?_; rintro e w' ⟨rfl, rfl⟩))
  all_goals
    go_wp2
    go_ret
    exact ⟨rfl, box2_below (by assumption)⟩

/-- The same of pairs: boxes of four cells. -/
abbrev Box4 (w : World) (x0 x1 x2 x3 y0 y1 y2 y3 : Value) (W : World) : Prop :=
  (W.cell? ⟨w.heap.size, 0, none⟩ = some x0 ∧ W.cell? ⟨w.heap.size, 1, none⟩ = some x1 ∧ W.cell? ⟨w.heap.size, 2, none⟩ = some x2 ∧ W.cell? ⟨w.heap.size, 3, none⟩ = some x3) ∧
  (W.cell? ⟨w.heap.size + 1, 0, none⟩ = some y0 ∧ W.cell? ⟨w.heap.size + 1, 1, none⟩ = some y1 ∧ W.cell? ⟨w.heap.size + 1, 2, none⟩ = some y2 ∧ W.cell? ⟨w.heap.size + 1, 3, none⟩ = some y3) ∧ Below w.heap.size w W ∧ w.heap.size + 2 ≤ W.heap.size
theorem box4_more {w : World} {x0 x1 x2 x3 y0 y1 y2 y3 : Value} {W W' : World} (h : Box4 w x0 x1 x2 x3 y0 y1 y2 y3 W) (hb : Below W.heap.size W W') : Box4 w x0 x1 x2 x3 y0 y1 y2 y3 W' := by
  obtain ⟨⟨a0, a1, a2, a3⟩, ⟨b0, b1, b2, b3⟩, e, f⟩ := h
  have k0 : ∀ j, W'.cell? ⟨w.heap.size, j, none⟩ = W.cell? ⟨w.heap.size, j, none⟩ := fun j => hb.cell (p := ⟨w.heap.size, j, none⟩) (by show w.heap.size < _; omega)
  have k1 : ∀ j, W'.cell? ⟨w.heap.size + 1, j, none⟩ = W.cell? ⟨w.heap.size + 1, j, none⟩ := fun j => hb.cell (p := ⟨w.heap.size + 1, j, none⟩) (by show w.heap.size + 1 < _; omega)
  exact ⟨⟨(k0 _).trans a0, (k0 _).trans a1, (k0 _).trans a2, (k0 _).trans a3⟩, ⟨(k1 _).trans b0, (k1 _).trans b1, (k1 _).trans b2, (k1 _).trans b3⟩, st_call e hb, Nat.le_trans f hb.size⟩
theorem box4_start (w : World) (x0 x1 x2 x3 y0 y1 y2 y3 : Value) (T T' : TypeId) : Box4 w x0 x1 x2 x3 y0 y1 y2 y3 ((w.alloc (.cells #[x0, x1, x2, x3] T)).alloc (.cells #[y0, y1, y2, y3] T')) := by
  have h := fun j => two_blocks w #[x0, x1, x2, x3] #[y0, y1, y2, y3] T T' w.heap.size j rfl
  exact ⟨⟨(h 0).1, (h 1).1, (h 2).1, (h 3).1⟩, ⟨(h 0).2, (h 1).2, (h 2).2, (h 3).2⟩, st_alloc (st_alloc (Below.refl _ _) _) _, by simp⟩
theorem box4_alloc {w : World} {x0 x1 x2 x3 y0 y1 y2 y3 : Value} {W : World} (h : Box4 w x0 x1 x2 x3 y0 y1 y2 y3 W) (o : Obj) : Box4 w x0 x1 x2 x3 y0 y1 y2 y3 (W.alloc o) := box4_more h ((Below.refl _ W).alloc (Nat.le_refl _) o)
theorem box4_drew {w : World} {x0 x1 x2 x3 y0 y1 y2 y3 : Value} {W : World} (h : Box4 w x0 x1 x2 x3 y0 y1 y2 y3 W) : Box4 w x0 x1 x2 x3 y0 y1 y2 y3 W.drew := box4_more h (Below.refl _ _).drew
theorem box4_below {w : World} {x0 x1 x2 x3 y0 y1 y2 y3 : Value} {W : World} (h : Box4 w x0 x1 x2 x3 y0 y1 y2 y3 W) : Below w.heap.size w W := h.2.2.1

set_option maxHeartbeats 8000000 in
theorem cmpP_any (a b c d p q r s : Nat) (w : World) : Calls Tryd.prog 14 #[.agg #[.int .u32 (a : Int), .int .u16 (b : Int), .int .u32 (c : Int), .int .u16 (d : Int)], .agg #[.int .u32 (p : Int), .int .u16 (q : Int), .int .u32 (r : Int), .int .u16 (s : Int)]] w fun e w' =>
    e = .returned (.int .i64 (orI (orI (cmpI a p) (cmpI b q)) (orI (cmpI c r) (cmpI d s)))) ∧ Below w.heap.size w w' := by
  go_enter Tryd.func14, Tryd.ntmps14
  have hst := box4_start w (.int .u32 (a : Int)) (.int .u16 (b : Int)) (.int .u32 (c : Int)) (.int .u16 (d : Int)) (.int .u32 (p : Int)) (.int .u16 (q : Int)) (.int .u32 (r : Int)) (.int .u16 (s : Int)) 27 27
  go_wp2_with fail
  go_region_held3 (fun W => Box4 w (.int .u32 (a : Int)) (.int .u16 (b : Int)) (.int .u32 (c : Int)) (.int .u16 (d : Int)) (.int .u32 (p : Int)) (.int .u16 (q : Int)) (.int .u32 (r : Int)) (.int .u16 (s : Int)) W) (first | assumption | exact box4_more (by assumption) hb | exact box4_alloc (by assumption) _ | exact box4_drew (by assumption))
    (first
      | (go_at_call 31; refine (order_any _ _ _ _ _).mono ?_; rintro e w' ⟨rfl, hb⟩)
      | (go_at_call 30; refine (or_any _ _ _ _ (by first | exact (two_new _ _ _ _).1 | exact (two_newe _ _ _ _ _ (by simp)).1) (by first | exact (two_new _ _ _ _).2 | exact (two_newe _ _ _ _ _ (by simp)).2)).mono ?_; rintro e w' ⟨rfl, rfl⟩))
  all_goals
    go_wp2
    go_ret
    exact ⟨rfl, box4_below (by assumption)⟩

/-- the same as the document's order -/
theorem ord_cmpL (a b c d p q r s : Nat) : orI (orI (cmpI a p) (cmpI b q)) (orI (cmpI c r) (cmpI d s)) = cmpL [a, b, c, d] [p, q, r, s] := by
  simp only [cmpL, cmpI, orI]
  repeat' split
  all_goals first | rfl | omega
end Go.Proofs.YtpphpnnehljekaaDoor.TupOrd
