/-
  Package number: numbers of 16 bits laid into bytes.
-/
import Derived.Test.YtgpkckaojcodmaaNum
namespace Go.Proofs.Ytgpkckaojcodmaa.Num
open Go.RowKit Own TupMath IpMath Litb Bytes Rel
set_option linter.unusedVariables false
set_option maxRecDepth 100000

theorem width16 (w : World) : Calls Try.prog 49 #[] w fun e w' => e = .returned (.int .i64 2) ∧ w' = w := by
  have c := len32_any 65535 w (by decide) (by decide)
  rw [bl16] at c
  go_enter Try.func49, Try.ntmps49
  go_wp2_with (go_at_call 53; refine c.mono ?_; rintro e w' ⟨rfl, hw⟩; rw [hw])
  go_ret
  exact ⟨rfl, rfl⟩
theorem place16_0 (w : World) : Calls Try.prog 50 #[.int .i64 0] w fun e w' => e = .returned (.int .i64 8) ∧ w' = w := by
  go_enter Try.func50, Try.ntmps50
  go_wp2_with (go_at_call 49; refine (width16 _).mono ?_; rintro e w' ⟨rfl, hw⟩; rw [hw])
  go_ret
  exact ⟨rfl, rfl⟩
theorem place16_1 (w : World) : Calls Try.prog 50 #[.int .i64 1] w fun e w' => e = .returned (.int .i64 0) ∧ w' = w := by
  go_enter Try.func50, Try.ntmps50
  go_wp2_with (go_at_call 49; refine (width16 _).mono ?_; rintro e w' ⟨rfl, hw⟩; rw [hw])
  go_ret
  exact ⟨rfl, rfl⟩

set_option maxHeartbeats 16000000 in
theorem lay16 (b c : Nat) (L : List Nat) (w : World) (hb : b < w.heap.size) (hc : ∀ (j x : Nat), L[j]? = some x → w.cell? ⟨b, j, none⟩ = some (.int .u16 (x : Int))) (h0 : 0 < L.length) (h1 : L.length ≤ 100) (hx : ∀ x ∈ L, x ≤ 65535) :
    Calls Try.prog 46 #[.slice (some ⟨b, 0, none⟩) L.length c] w fun e w' => e = .returned (.string (ofB (w2s L))) ∧ Below w.heap.size w w' := by
  have HC := Lib.hid hc
  have HX := Lib.hid hx
  have HLT := Lib.hid hb
  clear hc hx hb
  go_enter Try.func46, Try.ntmps46
  go_wp2
  go_loopw [3, 9] (fun v i wr => ∃ (k : Nat) (A : Option Addr) (c : Nat) (M : List Nat), i = .int .i64 (k : Int) ∧ v = .slice A M.length c ∧ M = w2s (L.take k) ∧ k ≤ L.length ∧ Own8 wr w.heap.size (.slice A M.length c) M ∧ Below w.heap.size w wr) (fun _ i _ => L.length - (intOf i).toNat)
  case atStart => exact ⟨0, none, 0, [], rfl, rfl, rfl, by omega, own8_nil _ _, Below.refl _ _⟩
  case round =>
    obtain ⟨k, A, c, M, rfl, rfl, hM, hk, hO, hB⟩ := hrel
    have HM := Lib.hid hM
    have hMl : M.length ≤ 400 := by rw [hM, w2s_len, List.length_take]; omega
    have HB := Lib.hid hB
    have HO := Lib.hid hO
    clear hM hB hO
    by_cases hlt : k < L.length
    · obtain ⟨x, hxk⟩ : ∃ x, L[k]? = some x := ⟨_, List.getElem?_eq_getElem hlt⟩
      have hx1 : x ≤ 65535 := HX.out x (List.mem_of_getElem? hxk)
      have d0 := (HB.out.cell (p := ⟨b, k, none⟩) HLT.out).trans (HC.out k x hxk)
      have d1 : wr.cell? ⟨b, 0 + k, none⟩ = some (.int .u16 (x : Int)) := by rw [Nat.zero_add]; exact d0
      have HS := Lib.hid (w2s_snoc hxk)
      clear hxk
      go_wp2_with (go_at_call 49; refine (width16 _).mono ?_; rintro e w' ⟨rfl, hw⟩; rw [hw])
      obtain ⟨wo, rfl⟩ : ∃ wo : World, wo = wr := ⟨_, rfl⟩
      clear d0 d1
      go_loopw [3, 14] (fun v i wr => ∃ (j : Nat) (A : Option Addr) (c : Nat) (N : List Nat), i = .int .i64 (j : Int) ∧ v = .slice A N.length c ∧ N = M ++ (w2 x).take j ∧ j ≤ 2 ∧ Own8 wr w.heap.size (.slice A N.length c) N ∧ Below w.heap.size w wr) (fun _ i _ => 2 - (intOf i).toNat)
      case atStart => exact ⟨0, A, c, M, rfl, rfl, by simp, by omega, HO.out, HB.out⟩
      case round =>
        obtain ⟨j, A, c, N, rfl, rfl, hN, hj, hO, hB⟩ := hrel
        have HN := Lib.hid hN
        have hNl : N.length ≤ 500 := by rw [hN, List.length_append, List.length_take]; omega
        have HB2 := Lib.hid hB
        have HO2 := Lib.hid hO
        have hs := hB.size
        clear hN hB hO
        by_cases c0 : j = 0
        · subst c0
          go_wp2_with (first | (go_at_call 50; refine (place16_0 _).mono ?_; rintro e w' ⟨rfl, hw⟩; rw [hw]) | (at_builtin; refine stop_here ?_))
          refine stop_go (app8 _ rfl _ _ rfl w.heap.size _ N rfl HO2.out (x / 256) _ (by omega) _ rfl rfl hs (by omega) ?_)
          intro A' c' w' hO' hB'
          go_wp2
          go_roundw
          case rel => exact ⟨1, A', c', N ++ [x / 256], by go_num, by simp, by rw [HN.out]; simp [w2], by omega, by simpa using hO', HB2.out.trans hB'⟩
          case measure => simp [intOf]
        by_cases c1 : j = 1
        · subst c1
          go_wp2_with (first | (go_at_call 50; refine (place16_1 _).mono ?_; rintro e w' ⟨rfl, hw⟩; rw [hw]) | (at_builtin; refine stop_here ?_))
          refine stop_go (app8 _ rfl _ _ rfl w.heap.size _ N rfl HO2.out (x % 256) _ (by omega) _ rfl rfl hs (by omega) ?_)
          intro A' c' w' hO' hB'
          go_wp2
          go_roundw
          case rel => exact ⟨2, A', c', N ++ [x % 256], by go_num, by simp, by rw [HN.out]; simp [w2], by omega, by simpa using hO', HB2.out.trans hB'⟩
          case measure => simp [intOf]
        obtain rfl : j = 2 := by omega
        have e : N = w2s (L.take (k + 1)) := by rw [HN.out, HS.out, HM.out]; simp [w2]
        have HE := Lib.hid e
        clear e
        go_wp2
        go_roundw
        case rel => exact ⟨k + 1, A, c, N, by go_num, rfl, HE.out, by omega, HO2.out, HB2.out⟩
        case measure => simp [intOf]; omega
    · obtain rfl : k = L.length := by omega
      have e : M = w2s L := by rw [HM.out, List.take_of_length_le (Nat.le_refl _)]
      subst e
      have hcv := str8 HO.out rfl (by first | exact h0 | (rw [w2s_len]; omega)) (w2s_le HX.out)
      go_wp2
      go_ret
      exact ⟨rfl, HB.out⟩
theorem layH16 {L : List Nat} {v : Value} {w : World} (h : HoldK .u16 L v w) (h0 : 0 < L.length) (h1 : L.length ≤ 100) (hx : ∀ x ∈ L, x ≤ 65535) : Calls Try.prog 46 #[v] w fun e w' => e = .returned (.string (ofB (w2s L))) ∧ Below w.heap.size w w' := by
  obtain ⟨b, rfl, hb, hc⟩ := h
  exact lay16 b L.length L w hb hc h0 h1 hx
end Go.Proofs.Ytgpkckaojcodmaa.Num
