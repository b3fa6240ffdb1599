/-
  Package number: numbers of 32 bits laid into bytes.
-/
import Derived.Test.YtgpkckaojcodmaaNum
namespace Go.Proofs.Ytgpkckaojcodmaa.Num
open Go.RowKit Own TupMath IpMath Litb Bytes Rel
set_option linter.unusedVariables false
set_option maxRecDepth 100000

theorem width32 (w : World) : Calls Try.prog 51 #[] w fun e w' => e = .returned (.int .i64 4) ∧ w' = w := by
  have c := len32_any 4294967295 w (by decide) (by decide)
  rw [bl32] at c
  go_enter Try.func51, Try.ntmps51
  go_wp2_with (go_at_call 53; refine c.mono ?_; rintro e w' ⟨rfl, hw⟩; rw [hw])
  go_ret
  exact ⟨rfl, rfl⟩
theorem place32_0 (w : World) : Calls Try.prog 52 #[.int .i64 0] w fun e w' => e = .returned (.int .i64 24) ∧ w' = w := by
  go_enter Try.func52, Try.ntmps52
  go_wp2_with (go_at_call 51; refine (width32 _).mono ?_; rintro e w' ⟨rfl, hw⟩; rw [hw])
  go_ret
  exact ⟨rfl, rfl⟩
theorem place32_1 (w : World) : Calls Try.prog 52 #[.int .i64 1] w fun e w' => e = .returned (.int .i64 16) ∧ w' = w := by
  go_enter Try.func52, Try.ntmps52
  go_wp2_with (go_at_call 51; refine (width32 _).mono ?_; rintro e w' ⟨rfl, hw⟩; rw [hw])
  go_ret
  exact ⟨rfl, rfl⟩
theorem place32_2 (w : World) : Calls Try.prog 52 #[.int .i64 2] w fun e w' => e = .returned (.int .i64 8) ∧ w' = w := by
  go_enter Try.func52, Try.ntmps52
  go_wp2_with (go_at_call 51; refine (width32 _).mono ?_; rintro e w' ⟨rfl, hw⟩; rw [hw])
  go_ret
  exact ⟨rfl, rfl⟩
theorem place32_3 (w : World) : Calls Try.prog 52 #[.int .i64 3] w fun e w' => e = .returned (.int .i64 0) ∧ w' = w := by
  go_enter Try.func52, Try.ntmps52
  go_wp2_with (go_at_call 51; refine (width32 _).mono ?_; rintro e w' ⟨rfl, hw⟩; rw [hw])
  go_ret
  exact ⟨rfl, rfl⟩

set_option maxHeartbeats 16000000 in
theorem lay32 (b c : Nat) (L : List Nat) (w : World) (hb : b < w.heap.size) (hc : ∀ (j x : Nat), L[j]? = some x → w.cell? ⟨b, j, none⟩ = some (.int .u32 (x : Int))) (h0 : 0 < L.length) (h1 : L.length ≤ 100) (hx : ∀ x ∈ L, x ≤ 4294967295) :
    Calls Try.prog 44 #[.slice (some ⟨b, 0, none⟩) L.length c] w fun e w' => e = .returned (.string (ofB (w4s L))) ∧ Below w.heap.size w w' := by
  have HC := Lib.hid hc
  have HX := Lib.hid hx
  have HLT := Lib.hid hb
  clear hc hx hb
  go_enter Try.func44, Try.ntmps44
  go_wp2
  go_loopw [3, 9] (fun v i wr => ∃ (k : Nat) (A : Option Addr) (c : Nat) (M : List Nat), i = .int .i64 (k : Int) ∧ v = .slice A M.length c ∧ M = w4s (L.take k) ∧ k ≤ L.length ∧ Own8 wr w.heap.size (.slice A M.length c) M ∧ Below w.heap.size w wr) (fun _ i _ => L.length - (intOf i).toNat)
  case atStart => exact ⟨0, none, 0, [], rfl, rfl, rfl, by omega, own8_nil _ _, Below.refl _ _⟩
  case round =>
    obtain ⟨k, A, c, M, rfl, rfl, hM, hk, hO, hB⟩ := hrel
    have HM := Lib.hid hM
    have hMl : M.length ≤ 400 := by rw [hM, w4s_len, List.length_take]; omega
    have HB := Lib.hid hB
    have HO := Lib.hid hO
    clear hM hB hO
    by_cases hlt : k < L.length
    · obtain ⟨x, hxk⟩ : ∃ x, L[k]? = some x := ⟨_, List.getElem?_eq_getElem hlt⟩
      have hx1 : x ≤ 4294967295 := HX.out x (List.mem_of_getElem? hxk)
      have d0 := (HB.out.cell (p := ⟨b, k, none⟩) HLT.out).trans (HC.out k x hxk)
      have d1 : wr.cell? ⟨b, 0 + k, none⟩ = some (.int .u32 (x : Int)) := by rw [Nat.zero_add]; exact d0
      have HS := Lib.hid (w4s_snoc hxk)
      clear hxk
      go_wp2_with (go_at_call 51; refine (width32 _).mono ?_; rintro e w' ⟨rfl, hw⟩; rw [hw])
      obtain ⟨wo, rfl⟩ : ∃ wo : World, wo = wr := ⟨_, rfl⟩
      clear d0 d1
      go_loopw [3, 14] (fun v i wr => ∃ (j : Nat) (A : Option Addr) (c : Nat) (N : List Nat), i = .int .i64 (j : Int) ∧ v = .slice A N.length c ∧ N = M ++ (w4 x).take j ∧ j ≤ 4 ∧ Own8 wr w.heap.size (.slice A N.length c) N ∧ Below w.heap.size w wr) (fun _ i _ => 4 - (intOf i).toNat)
      case atStart => exact ⟨0, A, c, M, rfl, rfl, by simp, by omega, HO.out, HB.out⟩
      case round =>
        obtain ⟨j, A, c, N, rfl, rfl, hN, hj, hO, hB⟩ := hrel
        have HN := Lib.hid hN
        have hNl : N.length ≤ 500 := by rw [hN, List.length_append, List.length_take]; omega
        have HB2 := Lib.hid hB
        have HO2 := Lib.hid hO
        have hs := hB.size
        clear hN hB hO
        by_cases c0 : j = 0
        · subst c0
          go_wp2_with (first | (go_at_call 52; refine (place32_0 _).mono ?_; rintro e w' ⟨rfl, hw⟩; rw [hw]) | (at_builtin; refine stop_here ?_))
          refine stop_go (app8 _ rfl _ _ rfl w.heap.size _ N rfl HO2.out (x / 16777216) _ (by omega) _ rfl rfl hs (by omega) ?_)
          intro A' c' w' hO' hB'
          go_wp2
          go_roundw
          case rel => exact ⟨1, A', c', N ++ [x / 16777216], by go_num, by simp, by rw [HN.out]; simp [w4], by omega, by simpa using hO', HB2.out.trans hB'⟩
          case measure => simp [intOf]
        by_cases c1 : j = 1
        · subst c1
          go_wp2_with (first | (go_at_call 52; refine (place32_1 _).mono ?_; rintro e w' ⟨rfl, hw⟩; rw [hw]) | (at_builtin; refine stop_here ?_))
          refine stop_go (app8 _ rfl _ _ rfl w.heap.size _ N rfl HO2.out (x / 65536 % 256) _ (by omega) _ rfl rfl hs (by omega) ?_)
          intro A' c' w' hO' hB'
          go_wp2
          go_roundw
          case rel => exact ⟨2, A', c', N ++ [x / 65536 % 256], by go_num, by simp, by rw [HN.out]; simp [w4], by omega, by simpa using hO', HB2.out.trans hB'⟩
          case measure => simp [intOf]
        by_cases c2 : j = 2
        · subst c2
          go_wp2_with (first | (go_at_call 52; refine (place32_2 _).mono ?_; rintro e w' ⟨rfl, hw⟩; rw [hw]) | (at_builtin; refine stop_here ?_))
          refine stop_go (app8 _ rfl _ _ rfl w.heap.size _ N rfl HO2.out (x / 256 % 256) _ (by omega) _ rfl rfl hs (by omega) ?_)
          intro A' c' w' hO' hB'
          go_wp2
          go_roundw
          case rel => exact ⟨3, A', c', N ++ [x / 256 % 256], by go_num, by simp, by rw [HN.out]; simp [w4], by omega, by simpa using hO', HB2.out.trans hB'⟩
          case measure => simp [intOf]
        by_cases c3 : j = 3
        · subst c3
          go_wp2_with (first | (go_at_call 52; refine (place32_3 _).mono ?_; rintro e w' ⟨rfl, hw⟩; rw [hw]) | (at_builtin; refine stop_here ?_))
          refine stop_go (app8 _ rfl _ _ rfl w.heap.size _ N rfl HO2.out (x % 256) _ (by omega) _ rfl rfl hs (by omega) ?_)
          intro A' c' w' hO' hB'
          go_wp2
          go_roundw
          case rel => exact ⟨4, A', c', N ++ [x % 256], by go_num, by simp, by rw [HN.out]; simp [w4], by omega, by simpa using hO', HB2.out.trans hB'⟩
          case measure => simp [intOf]
        obtain rfl : j = 4 := by omega
        have e : N = w4s (L.take (k + 1)) := by rw [HN.out, HS.out, HM.out]; simp [w4]
        have HE := Lib.hid e
        clear e
        go_wp2
        go_roundw
        case rel => exact ⟨k + 1, A, c, N, by go_num, rfl, HE.out, by omega, HO2.out, HB2.out⟩
        case measure => simp [intOf]; omega
    · obtain rfl : k = L.length := by omega
      have e : M = w4s L := by rw [HM.out, List.take_of_length_le (Nat.le_refl _)]
      subst e
      have hcv := str8 HO.out rfl (by first | exact h0 | (rw [w4s_len]; omega)) (w4s_le HX.out)
      go_wp2
      go_ret
      exact ⟨rfl, HB.out⟩
theorem layH32 {L : List Nat} {v : Value} {w : World} (h : HoldK .u32 L v w) (h0 : 0 < L.length) (h1 : L.length ≤ 100) (hx : ∀ x ∈ L, x ≤ 4294967295) : Calls Try.prog 44 #[v] w fun e w' => e = .returned (.string (ofB (w4s L))) ∧ Below w.heap.size w w' := by
  obtain ⟨b, rfl, hb, hc⟩ := h
  exact lay32 b L.length L w hb hc h0 h1 hx
end Go.Proofs.Ytgpkckaojcodmaa.Num
