/-
  The known answers of the statements of layer 2 hold.
-/
import Derived.Test.YtpglooaebndbiaaSpanAt3
import Derived.Test.YtpglooaebndbiaaSpanRef3
import Derived.Test.YtpglooaebndbiaaSpanRefSet
namespace Go.Proofs.Ytpglooaebndbiaa.SpanAlive
open Go.Shelf Go.RowKit SpanLay SpanPlain SpanPlain2 SpanSet SpanSet2 SpanCalls SpanAt SpanAt2 SpanAt3 SpanAdd SpanCut SpanRef SpanRef3 SpanRefSet

theorem long_any (A : Option Addr) (n c : Nat) (w : World) : Calls Try.prog 23 #[.slice A n c] w fun e w' => e = .returned (.bool (decide (300 < n))) ∧ w = w' := by
  go_enter Try.func23, Try.ntmps23
  go_wp2
  go_ret
  exact ⟨ret_bool (by simp; omega), rfl⟩
theorem lit1 (W : World) (p q : Int) (T : TypeId) : SpR (W.alloc (.cells #[.int .u64 p, .int .u64 q] T)) (W.alloc (.cells #[.int .u64 p, .int .u64 q] T)).heap.size (some ⟨W.heap.size, 0, none⟩) 1 [(p, q)] := by
  refine ⟨rfl, fun _ => ⟨W.heap.size, 0, rfl, by simp, fun j hj => ?_⟩⟩
  match j, hj with
  | 0, _ => exact ⟨by simp, by simp⟩
theorem lit2 (W : World) (p q r s : Int) (T : TypeId) : SpR (W.alloc (.cells #[.int .u64 p, .int .u64 q, .int .u64 r, .int .u64 s] T)) (W.alloc (.cells #[.int .u64 p, .int .u64 q, .int .u64 r, .int .u64 s] T)).heap.size (some ⟨W.heap.size, 0, none⟩) 2 [(p, q), (r, s)] := by
  refine ⟨rfl, fun _ => ⟨W.heap.size, 0, rfl, by simp, fun j hj => ?_⟩⟩
  match j, hj with
  | 0, _ => exact ⟨by simp, by simp⟩
  | 1, _ => exact ⟨by simp, by simp⟩

theorem at_k {w2 wk : World} {A : Option Addr} {n : Nat} {L : List (Int × Int)} (h : SpR w2 w2.heap.size A n L) (hb : Below w2.heap.size w2 wk) : SpR wk wk.heap.size A n L := (h.below hb).mono hb.size

theorem lit2' (W : World) (p q r s : Int) (T : TypeId) (B : Nat) (hB : W.heap.size = B) : SpR (W.alloc (.cells #[.int .u64 p, .int .u64 q, .int .u64 r, .int .u64 s] T)) (W.alloc (.cells #[.int .u64 p, .int .u64 q, .int .u64 r, .int .u64 s] T)).heap.size (some ⟨B, 0, none⟩) 2 [(p, q), (r, s)] := by
  subst hB
  exact lit2 W p q r s T

def l0 : List (Int × Int) := [(2, 4), (6, 8)]
theorem k1 {er : Int} {K' : List (Int × Int)} (h : SetIs l0 4 6 (addI l0 4 6) er K') : er = 0 ∧ K' = [(2, 8)] := by
  rw [← made_add] at h
  exact ⟨h.1.trans (by decide), h.2.trans (by decide)⟩
theorem k2 {er : Int} {K' : List (Int × Int)} (h : SetIs [(2, 8)] 3 5 (cutI [(2, 8)] 3 5) er K') : er = 0 ∧ K' = [(2, 3), (5, 8)] := by
  rw [← made_cut] at h
  exact ⟨h.1.trans (by decide), h.2.trans (by decide)⟩
theorem k3 {er : Int} {K' : List (Int × Int)} (h : SetIs [(2, 2)] 0 0 (addI [(2, 2)] 0 0) er K') : er = 8 := by
  rw [← made_add] at h
  exact h.1.trans (by decide)
theorem k4 {er : Int} {K' : List (Int × Int)} (h : SetIs l0 1 0 (cutI l0 1 0) er K') : er = 2 := by
  rw [← made_cut] at h
  exact h.1.trans (by decide)

set_option maxRecDepth 100000 in
set_option maxHeartbeats 4000000 in
theorem alive_any (w : World) : Calls Try.prog 24 #[] w fun e w' => e = .returned (.bool true) ∧ Below w.heap.size w w' := by
  have s1 : sameB [(2, 8)] [(2, 8)] = true := by decide
  have s2 : sameB [(2, 3), (5, 8)] [(2, 3), (5, 8)] = true := by decide
  have g1 : gapI l0 2 = 4 := by decide
  have g2 : gapI l0 0 = 0 := by decide
  have a1 : (mayB l0 && atB l0 7) = true := by decide
  have a2 : (mayB l0 && atB l0 8) = false := by decide
  have c1 : coversB l0 6 8 = true := by decide
  have n1 : lenI l0 = 4 := by decide
  have m1 : mayB l0 = true := by decide
  have qS1 := Lib.hid s1
  have qS2 := Lib.hid s2
  have qG1 := Lib.hid g1
  have qG2 := Lib.hid g2
  have qA1 := Lib.hid a1
  have qA2 := Lib.hid a2
  have qC1 := Lib.hid c1
  have qN1 := Lib.hid n1
  have qM1 := Lib.hid m1
  clear s1 s2 g1 g2 a1 a2 c1 n1 m1
  have hl0 : SpR (w.alloc (.cells #[.int .u64 2, .int .u64 4, .int .u64 6, .int .u64 8] 35)) (w.alloc (.cells #[.int .u64 2, .int .u64 4, .int .u64 6, .int .u64 8] 35)).heap.size (some ⟨w.heap.size, 0, none⟩) 2 l0 := lit2 w 2 4 6 8 _
  have HL := Lib.hid hl0
  clear hl0
  go_enter Try.func24, Try.ntmps24
  go_wp2_with fail
  refine (add_any _ 2 2 l0 4 6 _ (by exact HL.out) (by omega)).mono ?_
  rintro e w1 ⟨A1, n1, c1, er1, K1, rfl, hs1, hr1, hb1⟩
  obtain ⟨rfl, rfl⟩ := k1 hs1
  have R1 := Lib.hid hr1
  have B1 := Lib.hid hb1
  clear hs1 hr1 hb1
  go_wp2_with fail
  refine (cut_any A1 n1 c1 _ 3 5 _ (by exact R1.out) (by have := R1.out.len; simp at this; omega)).mono ?_
  rintro e w2 ⟨A2, n2, c2, er2, K2, rfl, hs2, hr2, hb2⟩
  obtain ⟨rfl, rfl⟩ := k2 hs2
  have R2 := Lib.hid hr2
  have B2 := Lib.hid hb2
  clear hs2 hr2 hb2
  go_wp2_with fail
  refine (add_any _ 1 1 [(2, 2)] 0 0 _ (by exact lit1 w2 2 2 _) (by omega)).mono ?_
  rintro e w3 ⟨A3, n3, c3, er3, K3, rfl, hs3, _, hb3⟩
  obtain rfl := k3 hs3
  have B3 := Lib.hid (((Below.refl _ w2).alloc (Nat.le_refl _) _).trans (hb3.mono (by simp)))
  clear hs3 hb3
  go_wp2_with fail
  have L3 := Lib.hid (HL.out.below (B1.out.trans ((B2.out.mono B1.out.size).trans (B3.out.mono (Nat.le_trans B1.out.size B2.out.size)))))
  refine (cut_any _ 2 2 l0 1 0 _ (by exact L3.out.mono (Nat.le_trans B1.out.size (Nat.le_trans B2.out.size B3.out.size))) (by omega)).mono ?_
  rintro e w4 ⟨A4, n4, c4, er4, K4, rfl, hs4, _, hb4⟩
  obtain rfl := k4 hs4
  have B4 := Lib.hid (B3.out.trans (hb4.mono B3.out.size))
  have XL := Lib.hid ((HL.out.below (B1.out.trans (B2.out.mono B1.out.size))).mono (Nat.le_trans B1.out.size B2.out.size))
  have X1 := Lib.hid (at_k R1.out B2.out)
  have X2 := R2
  have z1 : n1 = 1 := by have := R1.out.len; simpa using this
  have z2 : n2 = 2 := by have := R2.out.len; simpa using this
  subst z1 z2
  clear hs4 hb4 R1 R2 L3 HL
  go_wp2_with fail
  refine (same_ref _ 1 _ [(2, 8)] _ 1 1 [(2, 8)] _ (by exact at_k X1.out (B4.out.alloc B4.out.size _)) (by exact lit1 w4 2 8 _) (by omega) (by omega)).mono ?_
  rintro e w5 ⟨he, q5, rfl⟩
  rw [qS1.out] at he
  subst he
  have B5 := Lib.hid (below_drewN (B4.out.alloc B4.out.size (.cells #[.int .u64 2, .int .u64 8] 35)) q5)
  go_wp2_with fail
  refine (same_ref _ 2 _ [(2, 3), (5, 8)] _ 2 2 [(2, 3), (5, 8)] _ (by exact at_k X2.out (B5.out.alloc B5.out.size _)) (by exact lit2' _ 2 3 5 8 _ _ (by simp)) (by omega) (by omega)).mono ?_
  rintro e w6 ⟨he, q6, rfl⟩
  rw [qS2.out] at he
  subst he
  have B6 := Lib.hid (below_drewN (B5.out.alloc B5.out.size (.cells #[.int .u64 2, .int .u64 3, .int .u64 5, .int .u64 8] 35)) q6)
  go_wp2_with fail
  refine (gap_any _ 2 2 l0 2 _ (by exact at_k XL.out B6.out) (by omega)).mono ?_
  rintro e w7 ⟨he, hb7⟩
  rw [qG1.out] at he
  subst he
  have B7 := Lib.hid (B6.out.trans (hb7.mono B6.out.size))
  clear hb7
  go_wp2_with fail
  refine (gap_any _ 2 2 l0 0 _ (by exact at_k XL.out B7.out) (by omega)).mono ?_
  rintro e w8 ⟨he, hb8⟩
  rw [qG2.out] at he
  subst he
  have B8 := Lib.hid (B7.out.trans (hb8.mono B7.out.size))
  clear hb8
  go_wp2_with fail
  refine (has_any _ 2 2 l0 7 _ (by exact at_k XL.out B8.out) (by omega)).mono ?_
  rintro e w9 ⟨he, hb9⟩
  rw [qA1.out] at he
  subst he
  have B9 := Lib.hid (B8.out.trans (hb9.mono B8.out.size))
  clear hb9
  go_wp2_with fail
  refine (has_any _ 2 2 l0 8 _ (by exact at_k XL.out B9.out) (by omega)).mono ?_
  rintro e w10 ⟨he, hb10⟩
  rw [qA2.out] at he
  subst he
  have B10 := Lib.hid (B9.out.trans (hb10.mono B9.out.size))
  clear hb10
  go_wp2_with fail
  refine (covers_any _ 2 2 l0 6 8 _ (by exact at_k XL.out B10.out) (by omega)).mono ?_
  rintro e w11 ⟨he, hb11⟩
  rw [qC1.out] at he
  subst he
  have B11 := Lib.hid (B10.out.trans (hb11.mono B10.out.size))
  clear hb11
  go_wp2_with fail
  refine (len_any _ 2 2 l0 _ (by exact at_k XL.out B11.out) (by omega)).mono ?_
  rintro e w12 ⟨he, hb12⟩
  rw [qN1.out] at he
  subst he
  have B12 := Lib.hid (B11.out.trans (hb12.mono B11.out.size))
  clear hb12
  go_wp2_with fail
  refine (may_any _ 2 2 l0 _ (by exact at_k XL.out B12.out) (by omega)).mono ?_
  rintro e w13 ⟨he, hb13⟩
  rw [qM1.out] at he
  subst he
  have B13 := Lib.hid (B12.out.trans (hb13.mono B12.out.size))
  clear hb13
  go_wp2_with fail
  go_ret
  exact ⟨rfl, ((((Below.refl _ w).alloc (Nat.le_refl _) _).trans (B1.out.mono (by simp))).trans (B2.out.mono (by have := B1.out.size; simp at this; omega))).trans (B13.out.mono (by have := B1.out.size; have := B2.out.size; simp at *; omega))⟩
end Go.Proofs.Ytpglooaebndbiaa.SpanAlive
