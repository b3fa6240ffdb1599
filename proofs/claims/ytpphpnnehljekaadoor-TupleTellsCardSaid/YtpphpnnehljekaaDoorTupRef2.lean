/-
  The document's own answers of layer 4: which pair comes first; which address a text is.
-/
import Derived.Test.YtpphpnnehljekaaDoorTupRef
namespace Go.Proofs.YtpphpnnehljekaaDoor.TupRef2
open Go.RowKit TupMath TupRef
set_option linter.unusedVariables false

theorem two_blocks (w2 : World) (C D : Array Value) (T T' : TypeId) (B j : Nat) (hB : w2.heap.size = B) : ((w2.alloc (.cells C T)).alloc (.cells D T')).cell? ⟨B, j, none⟩ = C[j]? ∧ ((w2.alloc (.cells C T)).alloc (.cells D T')).cell? ⟨B + 1, j, none⟩ = D[j]? := by
  subst hB
  refine ⟨(World.cell?_alloc_lt _ _ _ (by simp)).trans (World.cell?_alloc_mark w2 C T (0, 0) j), ?_⟩
  have h := World.cell?_alloc_mark (w2.alloc (.cells C T)) D T' (0, 0) j
  rw [World.size_alloc] at h
  exact h
theorem below_dr {n : Nat} {A W : World} (h : Below n A W) (q : Nat) : Below n A (W.drewN q) := h.trans ⟨rfl, rfl, rfl, Nat.le_refl _, fun _ _ => rfl⟩

set_option maxRecDepth 100000 in
set_option maxHeartbeats 4000000 in
theorem compareR_any (a b c d p q r s : Nat) (w : World) (ha : a ≤ 4294967295) (hb : b ≤ 65535) (hc : c ≤ 4294967295) (hd : d ≤ 65535) (hp : p ≤ 4294967295) (hq : q ≤ 65535) (hr : r ≤ 4294967295) (hs : s ≤ 65535) :
    Calls Tryd.prog 15 #[.agg #[.int .u32 (a : Int), .int .u16 (b : Int), .int .u32 (c : Int), .int .u16 (d : Int)], .agg #[.int .u32 (p : Int), .int .u16 (q : Int), .int .u32 (r : Int), .int .u16 (s : Int)]] w fun e w' =>
      e = .returned (.int .i64 (cmpL [a, b, c, d] [p, q, r, s])) ∧ Below w.heap.size w w' := by
  obtain ⟨X, hX⟩ : ∃ X, [a, b, c, d] = X := ⟨_, rfl⟩
  obtain ⟨Y, hY⟩ : ∃ Y, [p, q, r, s] = Y := ⟨_, rfl⟩
  rw [hX, hY]
  have HX := Lib.hid hX
  have HY := Lib.hid hY
  have HLX := Lib.hid (show X.length = 4 by rw [← hX]; rfl)
  have HLY := Lib.hid (show Y.length = 4 by rw [← hY]; rfl)
  clear hX hY
  go_enter Tryd.func15, Tryd.ntmps15
  go_wp2_with fail
  obtain ⟨B, hB⟩ : ∃ B, w.heap.size + 1 + 1 = B := ⟨_, rfl⟩
  simp only [hB]
  go_loopw [7] (fun i wr => ∃ k : Nat, k ≤ 4 ∧ i = .int .i64 (k : Int) ∧ cmpL (X.drop k) (Y.drop k) = cmpL X Y ∧ (∀ j, j < 4 → ∃ x y : Nat, X[j]? = some x ∧ Y[j]? = some y ∧ wr.cell? ⟨B, j, none⟩ = some (.int .u64 (x : Int)) ∧ wr.cell? ⟨B + 1, j, none⟩ = some (.int .u64 (y : Int))) ∧ Below w.heap.size w wr)
    (fun i _ => 4 - (intOf i).toNat)
  case atStart =>
    refine ⟨0, by omega, rfl, rfl, ?_, st_alloc (st_alloc (st_alloc (st_alloc (Below.refl _ _) _) _) _) _⟩
    subst hB
    rw [← HX.out, ← HY.out]
    intro j hj
    obtain ⟨e1, e2⟩ := two_blocks ((w.alloc (.cells #[.int .u32 (a : Int), .int .u16 (b : Int), .int .u32 (c : Int), .int .u16 (d : Int)] 27)).alloc (.cells #[.int .u32 (p : Int), .int .u16 (q : Int), .int .u32 (r : Int), .int .u16 (s : Int)] 27)) #[.int .u64 (a : Int), .int .u64 (b : Int), .int .u64 (c : Int), .int .u64 (d : Int)] #[.int .u64 (p : Int), .int .u64 (q : Int), .int .u64 (r : Int), .int .u64 (s : Int)] 49 49 (w.heap.size + 1 + 1) j (by simp)
    match j, hj with
    | 0, _ => exact ⟨a, p, rfl, rfl, e1, e2⟩
    | 1, _ => exact ⟨b, q, rfl, rfl, e1, e2⟩
    | 2, _ => exact ⟨c, r, rfl, rfl, e1, e2⟩
    | 3, _ => exact ⟨d, s, rfl, rfl, e1, e2⟩
  case round =>
    obtain ⟨k, hk, rfl, hcm, hce, hBw⟩ := hrel
    have HC := Lib.hid hcm
    have HE := Lib.hid hce
    have HB := Lib.hid hBw
    clear hcm hce hBw
    by_cases h4 : k < 4
    · obtain ⟨x, y, hx, hy, cx, cy⟩ := HE.out k h4
      have hst := cmpL_drop X Y k x y hx hy
      rw [HC.out] at hst
      have HST := Lib.hid hst
      clear hx hy hst
      by_cases c1 : x < y
      · have c1i : (x : Int) < (y : Int) := by omega
        go_wp2
        go_quiet (fail)
        go_wp2
        go_ret
        exact ⟨by rw [HST.out, if_pos c1]; rfl, below_dr HB.out _⟩
      · by_cases c2 : y < x
        · have c1i : ¬ (x : Int) < (y : Int) := by omega
          have c2i : (y : Int) < (x : Int) := by omega
          go_wp2
          go_quiet (fail)
          go_wp2
          go_quiet (fail)
          go_wp2
          go_ret
          exact ⟨by rw [HST.out, if_neg c1, if_pos c2]; rfl, below_dr (below_dr HB.out _) _⟩
        · have c1i : ¬ (x : Int) < (y : Int) := by omega
          have c2i : ¬ (y : Int) < (x : Int) := by omega
          go_wp2
          go_quiet (fail)
          go_wp2
          go_quiet (fail)
          go_wp2
          go_roundw
          case rel => exact ⟨k + 1, by omega, by go_num, by rw [HST.out, if_neg c1, if_neg c2], (fun j hj => HE.out j hj), below_dr HB.out _⟩
          case measure => simp only [intOf]; omega
    · have h4' : ¬ (k : Int) < 4 := by omega
      have hz := cmpL_nil X Y k (by rw [HLX.out]; omega)
      rw [HC.out] at hz
      have HZ := Lib.hid hz
      clear hz
      go_wp2
      go_ret
      exact ⟨by rw [HZ.out]; rfl, HB.out⟩
end Go.Proofs.YtpphpnnehljekaaDoor.TupRef2
