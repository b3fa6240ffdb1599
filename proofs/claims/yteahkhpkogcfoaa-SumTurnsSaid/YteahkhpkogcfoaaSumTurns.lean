/-
  Proved: the statement 'Rows.SumTurnsSaid': for every input the Go function transomlaw03.SumTurns returns true, and each argument reads behind the call as it read before. Conditions: none of our own; those of the given row.
-/
import Derived.Test.YteahkhpkogcfoaaRows
import Derived.Test.YteahkhpkogcfoaaSumAlive
import Derived.Test.YteahkhpkogcfoaaSumMath2
import Derived.Test.YteahkhpkogcfoaaSumCells
import Derived.Deep.DeepCutAuto
import Derived.Deep.RegionHeld3
import Derived.Laws.IdiomStrings
import Derived.BigQuiet
import Derived.Deep.QuietTactic
import Derived.WalkKit
import Derived.ProofKit
import Derived.OpenShut
import Derived.ShutString
import Derived.ChangeOld
import Derived.Below
namespace Go.Proofs.Yteahkhpkogcfoaa.sumTurns
open Go.ChangeShapes Go.WideShapes Go.ChangeAt Go.RowKit
open Go.ChangeMaps (open_string shut_string)
open SumMath SumPlain SumWords SumOf SumTurnsC SumAlive SumMath2
set_option linter.unusedVariables false

theorem own : ownKnob Try.prog.godebug = none := by kernel_rfl
theorem laidOut : laidOutB Try.prog = true := by kernel_rfl

theorem below_dr2 {n : Nat} {A W : World} (h : Below n A W) (q : Nat) : Below n A (W.drewN q) := h.trans ⟨rfl, rfl, rfl, Nat.le_refl _, fun _ _ => rfl⟩
theorem bz_append (s t : ByteArray) : bz (s ++ t) = bz s ++ bz t := by
  unfold bz
  rw [ByteArray.data_append, Array.toList_append, List.map_append]
theorem sz1 {s : ByteArray} (h : s.size ≤ 100000000) : ∀ z ∈ [s], z.size ≤ 100000000 := by
  intro z hz; simp at hz; rw [hz]; exact h
theorem split3 (l : List Nat) (k n : Nat) : l = l.take k ++ ((l.drop k).take n ++ l.drop (k + n)) := by
  have e : l.drop (k + n) = (l.drop k).drop n := by rw [List.drop_drop]
  rw [e, List.take_append_drop, List.take_append_drop]
theorem wAt_take (l : List Nat) (k i : Nat) (h : i + 2 ≤ k) : wAt (l.take k) i = wAt l i := by
  unfold wAt
  rw [List.getElem?_take_of_lt (by omega), List.getElem?_take_of_lt (by omega)]
theorem wAt_drop' (l : List Nat) (k i : Nat) (h : k ≤ i) : wAt (l.drop k) (i - k) = wAt l i := by
  unfold wAt
  rw [List.getElem?_drop, List.getElem?_drop]
  have e1 : k + (i - k) = i := by omega
  have e2 : k + (i - k + 1) = i + 1 := by omega
  rw [e1, e2]
theorem pos_left (l : List Nat) (k r i : Nat) (hk : k % 2 = 0) (hi : i % 2 = 0) (hl : i < l.length) (hik : i < k) (hw : 0 < wAt l i) : 0 < wsum (l.take k) + r := by
  have := wsum_pos (l := l.take k) hi (by simp; omega) (by rw [wAt_take l k i (by omega)]; exact hw)
  omega
theorem pos_right (l : List Nat) (k r i : Nat) (hk : k % 2 = 0) (hi : i % 2 = 0) (hl : i < l.length) (hik : k ≤ i) (hw : 0 < wAt l i) : 0 < r + wsum (l.drop k) := by
  have := wsum_pos (l := l.drop k) (i := i - k) (by omega) (by simp; omega) (by rw [wAt_drop' l k i hik]; exact hw)
  omega
/-- a value's cells, by a name that is laid open only where the value is known -/
def cellsOf (v : Value) : Array Value := v.cells
theorem cells_of (v : Value) : v.cells = cellsOf v := rfl
theorem cells_str (s : ByteArray) : cellsOf (.string s) = #[Value.string s] := rfl
theorem cells_int (k : IntKind) (n : Int) : cellsOf (.int k n) = #[Value.int k n] := rfl
attribute [local go_sem ↓] cells_of
attribute [local go_sem] cells_str cells_int
theorem or_word (u v : Nat) (hu : u ≤ 255) (hv : v ≤ 255) : bits BinOp.or IntKind.u16 ((u : Int) * 256) (v : Int) = ((u * 256 + v : Nat) : Int) := by
  have e : (u : Int) * 256 = ((u * 256 : Nat) : Int) := by omega
  rw [e, or16w u v hu hv]

/-! The walk: the Go text returns true, and writes nothing that was there. -/
set_option maxRecDepth 100000 in
set_option maxHeartbeats 8000000 in
theorem walk (a0 : ByteArray) (a1 : Int) (a2 : ByteArray) (w : World) (w0 : a0.size ≤ maxLen) (w1 : (Lit.int .u16 a1).wf = true) (w2 : a2.size ≤ maxLen) :
    Calls Try.prog 5 #[.string a0, .int .u16 a1, .string a2] w fun e w' => e = .returned (.bool true) ∧ Below w.heap.size w w' := by
  unfold maxLen at w0 w2
  have ⟨b1, b1'⟩ := bounds_u16 w1
  obtain ⟨at_, rfl⟩ := Int.eq_ofNat_of_zero_le b1
  clear w1 b1
  by_cases hbig : 2048 < a0.size
  · go_enter Try.func5, Try.ntmps5
    go_wp2_with fail
    refine (alive_any _).mono ?_
    rintro e w' ⟨rfl, hb⟩
    have HB := Lib.hid hb
    clear hb
    go_wp2_with fail
    go_ret
    exact ⟨rfl, HB.out⟩
  · by_cases hbig2 : 2048 < a2.size
    · go_enter Try.func5, Try.ntmps5
      go_wp2_with fail
      refine (alive_any _).mono ?_
      rintro e w' ⟨rfl, hb⟩
      have HB := Lib.hid hb
      clear hb
      go_wp2_with fail
      go_ret
      exact ⟨rfl, HB.out⟩
    · go_enter Try.func5, Try.ntmps5
      go_upto_region 3 with (fail)
      go_cut [0] (fun s wx => ∃ (S : ByteArray) (h : Nat), s = .string S ∧ S.size = 2 * h ∧ h ≤ 1024 ∧ w = wx)
      case first =>
        go_wp2_with fail
        go_meet
        exact ⟨_, a0.size / 2, rfl, by rw [ByteArray.size_extract]; omega, by omega, rfl⟩
      case rest =>
        obtain ⟨S, h, rfl, hS, hh, rfl⟩ := hcut
        have HS := Lib.hid hS
        clear hS hbig
        obtain ⟨O, hO⟩ : ∃ O, a2 = O := ⟨_, rfl⟩
        subst hO
        go_upto_region 4 with (fail)
        go_cut [7] (fun v wx => ∃ k : Nat, v = .int .i64 (2 * (k : Int)) ∧ k ≤ h ∧ w = wx)
        case first =>
          have e1 : ((S.size : Int) / 2) = (h : Int) := by have := HS.out; omega
          have e3 : (h : Int) + 1 ≠ 0 := by omega
          go_wp2_with fail
          go_meet
          have e2 := Nat.mod_lt at_ (show 0 < h + 1 by omega)
          refine ⟨at_ % (h + 1), ?_, by omega, rfl⟩
          have e4 : (h : Int) + 1 = ((h + 1 : Nat) : Int) := by omega
          rw [e4, ← Int.natCast_emod]
          generalize at_ % (h + 1) = r at e2 ⊢
          congr 1
          unfold wrap64
          omega
        case rest =>
          obtain ⟨k, rfl, hk, rfl⟩ := hcut
          go_upto_region 5 with (fail)
          go_cut [8] (fun v wx => ∃ m : Nat, v = .int .i64 (2 * (m : Int)) ∧ k + m ≤ h ∧ 2 * m ≤ a2.size ∧ w = wx)
          case first =>
            have hs2 := HS.out
            by_cases hmn : S.size - 2 * k ≤ a2.size
            · have q1 : (S.size : Int) - 2 * (k : Int) ≤ (a2.size : Int) := by omega
              have q2 : wrap64 ((S.size : Int) - 2 * (k : Int)) = (S.size : Int) - 2 * (k : Int) := by unfold wrap64; omega
              clear hs2
              go_wp2_with fail
              go_meet
              refine ⟨h - k, ?_, by omega, by have := HS.out; omega, rfl⟩
              have := HS.out
              congr 1
              first | omega | (rw [Int.tdiv_eq_ediv_of_nonneg (by omega)]; unfold wrap64; omega) | (unfold wrap64; omega)
            · have q1 : ¬ (S.size : Int) - 2 * (k : Int) ≤ (a2.size : Int) := by omega
              have q3 : (a2.size : Int) ≤ (S.size : Int) - 2 * (k : Int) := by omega
              have q2 : wrap64 ((S.size : Int) - 2 * (k : Int)) = (S.size : Int) - 2 * (k : Int) := by unfold wrap64; omega
              clear hs2
              go_wp2_with fail
              go_meet
              refine ⟨a2.size / 2, ?_, by have := HS.out; omega, by omega, rfl⟩
              have := HS.out
              congr 1
              first | omega | (rw [Int.tdiv_eq_ediv_of_nonneg (by omega)]; unfold wrap64; omega) | (unfold wrap64; omega)
          case rest =>
            obtain ⟨m, rfl, hm1, hm2, rfl⟩ := hcut
            have i1 : (0 : Int) ≤ 2 * (k : Int) := by omega
            have i2 : (2 * (k : Int)).toNat = 2 * k := by omega
            have i3 : 2 * (k : Int) ≤ (S.size : Int) := by have := HS.out; omega
            have i4 : (0 : Int) ≤ 2 * (m : Int) := by omega
            have i5 : (2 * (m : Int)).toNat = 2 * m := by omega
            have i6 : 2 * (m : Int) ≤ (a2.size : Int) := by omega
            have i7 : (0 : Int) ≤ 2 * (k : Int) + 2 * (m : Int) := by omega
            have i8 : (2 * (k : Int) + 2 * (m : Int)).toNat = 2 * k + 2 * m := by omega
            have i9 : 2 * (k : Int) + 2 * (m : Int) ≤ (S.size : Int) := by have := HS.out; omega
            go_upto_region 6 with (fail)
            go_cut [9] (fun v wx => ∃ T : ByteArray, v = .string T ∧ bz T = (bz S).take (2 * k) ++ ((bz a2).take (2 * m) ++ (bz S).drop (2 * k + 2 * m)) ∧ T.size = S.size ∧ ∃ q, wx = w.drewN q)
            case first =>
              obtain ⟨S1, hS1⟩ : ∃ S1, S.extract 0 (2 * k) = S1 := ⟨_, rfl⟩
              obtain ⟨S2, hS2⟩ : ∃ S2, a2.extract 0 (2 * m) = S2 := ⟨_, rfl⟩
              obtain ⟨S3, hS3⟩ : ∃ S3, S.extract (2 * k + 2 * m) S.size = S3 := ⟨_, rfl⟩
              have z1 : S1.size = 2 * k := by rw [← hS1, ByteArray.size_extract]; have := HS.out; omega
              have z2 : S2.size = 2 * m := by rw [← hS2, ByteArray.size_extract]; omega
              have z3 : S3.size = S.size - (2 * k + 2 * m) := by rw [← hS3, ByteArray.size_extract]; omega
              have hsum1 : S1.size + S2.size ≤ 9223372036854775807 := by omega
              have hsum2 : S1.size + S2.size + S3.size ≤ 9223372036854775807 := by have := HS.out; omega
              have Z1 := Lib.hid z1
              have Z2 := Lib.hid z2
              have Z3 := Lib.hid z3
              have F1 := Lib.hid (show bz S1 = (bz S).take (2 * k) by rw [← hS1, bz_extract S 0 (2 * k) (by have := HS.out; omega)]; rfl)
              have F2 := Lib.hid (show bz S2 = (bz a2).take (2 * m) by rw [← hS2, bz_extract a2 0 (2 * m) hm2]; rfl)
              have F3 := Lib.hid (show bz S3 = (bz S).drop (2 * k + 2 * m) by rw [← hS3, bz_extract S _ S.size (Nat.le_refl _), List.take_of_length_le (by rw [bz_len]; exact Nat.le_refl _)])
              clear z1 z2 z3
              go_quiet (fail)
              go_wp2
              go_meet
              refine ⟨S1 ++ S2 ++ S3, rfl, by rw [bz_append, bz_append, F1.out, F2.out, F3.out, List.append_assoc], by rw [ByteArray.size_append, ByteArray.size_append, Z1.out, Z2.out, Z3.out]; have := HS.out; omega, _, rfl⟩
            case rest =>
              obtain ⟨T, rfl, hT, hTs, q, rfl⟩ := hcut
              have HT := Lib.hid hT
              have HTs := Lib.hid hTs
              obtain ⟨wr0, hwr0⟩ : ∃ wr0, w.drewN q = wr0 := ⟨_, rfl⟩
              rw [hwr0]
              have HW0 := Lib.hid (show Below w.heap.size w wr0 by rw [← hwr0]; exact below_dr2 (Below.refl _ _) q)
              clear hT hTs hwr0
              go_wp2_with fail
              go_loopw [10, 11] (fun sv i wr => ∃ (j : Nat) (b : Bool), j ≤ h ∧ i = .int .i64 (2 * (j : Int)) ∧ sv = .bool b ∧ (b = true → 0 < wsum ((bz S).take (2 * k)) + wsum ((bz S).drop (2 * k + 2 * m))) ∧ ∃ q, wr = wr0.drewN q)
                (fun _ i _ => 2 * h + 2 - (intOf i).toNat)
              case atStart => exact ⟨0, false, Nat.zero_le _, rfl, rfl, (fun e => by cases e), 0, rfl⟩
              case round =>
                obtain ⟨j, b, hj, rfl, rfl, hb, hq⟩ := hrel
                have HBB := Lib.hid hb
                have HQ := Lib.hid hq
                clear hb hq
                by_cases hlt : j < h
                · have j1 : (0 : Int) ≤ 2 * (j : Int) := by omega
                  have j2 : (2 * (j : Int)).toNat = 2 * j := by omega
                  have j3 : 2 * (j : Int) < (S.size : Int) := by have := HS.out; omega
                  have j4 : (0 : Int) ≤ 2 * (j : Int) + 1 := by omega
                  have j5 : (2 * (j : Int) + 1).toNat = 2 * j + 1 := by omega
                  have j6 : 2 * (j : Int) + 1 < (S.size : Int) := by have := HS.out; omega
                  have j7 : 2 * j < S.size := by have := HS.out; omega
                  have j8 : 2 * j + 1 < S.size := by have := HS.out; omega
                  have hp1 := byte_le S[2 * j]
                  have hq1 := byte_le S[2 * j + 1]
                  have hwat := wAt_two S (2 * j) j8
                  obtain ⟨p, hp⟩ : ∃ p, S[2 * j].toNat = p := ⟨_, rfl⟩
                  obtain ⟨q, hq⟩ : ∃ q, S[2 * j + 1].toNat = q := ⟨_, rfl⟩
                  rw [hp] at hp1 hwat
                  rw [hq] at hq1 hwat
                  have HWAT := Lib.hid hwat
                  clear hwat
                  go_upto_region 11 with (fail)
                  go_cut [12] (fun v wx => v = .int .i64 ((p * 256 + q : Nat) : Int) ∧ ∃ d, wx = wr.drewN d)
                  case first =>
                    go_quiet (fail)
                    go_wp2
                    go_meet
                    exact ⟨rfl, _, rfl⟩
                  case rest =>
                    obtain ⟨rfl, d, rfl⟩ := hcut
                    obtain ⟨wv, hwv⟩ : ∃ wv, p * 256 + q = wv := ⟨_, rfl⟩
                    rw [hwv]
                    have HWV := Lib.hid (show wAt (bz S) (2 * j) = wv by rw [HWAT.out, hwv])
                    clear hp hq hwv
                    have HQ2 := Lib.hid (drew_more HQ.out d)
                    rcases b with _ | _
                    · by_cases c1 : j < k
                      · have d1 : 2 * (j : Int) < 2 * (k : Int) := by omega
                        by_cases z0 : wv = 0
                        · subst z0
                          go_wp2_with fail
                          go_roundw
                          case rel => exact ⟨j + 1, false, by omega, by go_num, rfl, (fun e => by cases e), HQ2.out⟩
                          case measure => simp only [intOf]; omega
                        · have d3 : ((wv : Int) != 0) = true := by simp; omega
                          by_cases z1 : wv = 65535
                          · subst z1
                            go_wp2_with fail
                            go_roundw
                            case rel => exact ⟨j + 1, false, by omega, by go_num, rfl, (fun e => by cases e), HQ2.out⟩
                            case measure => simp only [intOf]; omega
                          · have d4 : ((wv : Int) != 65535) = true := by simp; omega
                            go_wp2_with fail
                            go_roundw
                            case rel => exact ⟨j + 1, true, by omega, by go_num, rfl, (fun _ => pos_left _ _ _ (2 * j) (by omega) (by omega) (by rw [bz_len]; omega) (by omega) (by rw [HWV.out]; omega)), HQ2.out⟩
                            case measure => simp only [intOf]; omega
                      · have d1 : ¬ 2 * (j : Int) < 2 * (k : Int) := by omega
                        by_cases c2 : k + m ≤ j
                        · have d2 : 2 * (k : Int) + 2 * (m : Int) ≤ 2 * (j : Int) := by omega
                          by_cases z0 : wv = 0
                          · subst z0
                            go_wp2_with fail
                            go_roundw
                            case rel => exact ⟨j + 1, false, by omega, by go_num, rfl, (fun e => by cases e), HQ2.out⟩
                            case measure => simp only [intOf]; omega
                          · have d3 : ((wv : Int) != 0) = true := by simp; omega
                            by_cases z1 : wv = 65535
                            · subst z1
                              go_wp2_with fail
                              go_roundw
                              case rel => exact ⟨j + 1, false, by omega, by go_num, rfl, (fun e => by cases e), HQ2.out⟩
                              case measure => simp only [intOf]; omega
                            · have d4 : ((wv : Int) != 65535) = true := by simp; omega
                              go_wp2_with fail
                              go_roundw
                              case rel => exact ⟨j + 1, true, by omega, by go_num, rfl, (fun _ => pos_right _ _ _ (2 * j) (by omega) (by omega) (by rw [bz_len]; omega) (by omega) (by rw [HWV.out]; omega)), HQ2.out⟩
                              case measure => simp only [intOf]; omega
                        · have d2 : ¬ 2 * (k : Int) + 2 * (m : Int) ≤ 2 * (j : Int) := by omega
                          go_wp2_with fail
                          go_roundw
                          case rel => exact ⟨j + 1, false, by omega, by go_num, rfl, (fun e => by cases e), HQ2.out⟩
                          case measure => simp only [intOf]; omega
                    · go_wp2_with fail
                      go_roundw
                      case rel => exact ⟨j + 1, true, by omega, by go_num, rfl, (fun _ => HBB.out rfl), HQ2.out⟩
                      case measure => simp only [intOf]; omega
                · have HBW : Hid (Below w.heap.size w wr) := by
                    obtain ⟨q, hq⟩ := HQ.out
                    rw [hq]
                    exact below_dr2 HW0.out q
                  have hj3 : ¬ 2 * (j : Int) < (S.size : Int) := by have := HS.out; omega
                  rcases b with _ | _
                  · go_wp2_with fail
                    refine (alive_any _).mono ?_
                    rintro e w' ⟨rfl, hb⟩
                    have HB := Lib.hid (st_call HBW.out hb)
                    clear hb
                    go_wp2_with fail
                    go_ret
                    exact ⟨rfl, HB.out⟩
                  · have HPOS := Lib.hid (HBB.out rfl)
                    obtain ⟨X1, hX1⟩ : ∃ X1, S.extract (2 * k) (2 * k + 2 * m) = X1 := ⟨_, rfl⟩
                    obtain ⟨X2, hX2⟩ : ∃ X2, a2.extract 0 (2 * m) = X2 := ⟨_, rfl⟩
                    have z1 : X1.size = 2 * m := by rw [← hX1, ByteArray.size_extract]; have := HS.out; omega
                    have z2 : X2.size = 2 * m := by rw [← hX2, ByteArray.size_extract]; omega
                    have F1 : bz X1 = ((bz S).drop (2 * k)).take (2 * m) := by
                      rw [← hX1, bz_extract S (2 * k) (2 * k + 2 * m) (by have := HS.out; omega), List.drop_take]
                      congr 1
                      omega
                    have F2 : bz X2 = (bz a2).take (2 * m) := by rw [← hX2, bz_extract a2 0 (2 * m) hm2]; rfl
                    obtain ⟨cS, hcS⟩ : ∃ cS, cs (cat [S]) = cS := ⟨_, rfl⟩
                    obtain ⟨cT, hcT⟩ : ∃ cT, cs (cat [T]) = cT := ⟨_, rfl⟩
                    have eS : cat [S] = bz S := by simp [cat]
                    have eT : cat [T] = bz T := by simp [cat]
                    have hcSle : cS ≤ 65535 := by rw [← hcS]; exact cs_le _
                    have hcS' : cs (bz S) = cS := by rw [← eS]; exact hcS
                    have hcT' : cs (bz T) = cT := by rw [← eT]; exact hcT
                    have TU : Hid (∀ W : World, Calls Try.prog 15 #[.int .u16 (cS : Int), .string X1, .string X2] W fun e w' => e = .returned (.int .u16 (cT : Int)) ∧ Below W.heap.size W w') := Lib.hid (fun W => by
                      have h1 := turns_any cS X1 X2 W hcSle (by omega) (by omega)
                      have hmin : min X1.size X2.size = 2 * m := by omega
                      have hl1 : (bz X1).length = 2 * m := by rw [bz_len]; exact z1
                      have hl2 : (bz X2).length = 2 * m := by rw [bz_len]; exact z2
                      rw [hmin, List.take_of_length_le (by omega), List.take_of_length_le (by omega)] at h1
                      have h2 := turned_own (p := (bz S).take (2 * k)) (q := (bz S).drop (2 * k + 2 * m)) (x := bz X1) (y := bz X2) (by rw [List.length_take, bz_len]; have := HS.out; omega) (by omega) (by omega) (bz_le X1) HPOS.out
                      rw [hl1, F1, ← split3 (bz S) (2 * k) (2 * m), hcS', F2, ← HT.out, hcT', ← F1, ← F2] at h2
                      rw [h2] at h1
                      exact h1)
                    have V1 := Lib.hid hcS
                    have V2 := Lib.hid hcT
                    have HZS := Lib.hid (show S.size ≤ 100000000 by have := HS.out; omega)
                    have HZT := Lib.hid (show T.size ≤ 100000000 by have := HS.out; have := HTs.out; omega)
                    have HX1 := Lib.hid hX1
                    have HX2 := Lib.hid hX2
                    have i10 : 2 * (k : Int) ≤ 2 * (k : Int) + 2 * (m : Int) := by omega
                    have i11 : IntKind.i64.wrap (2 * (k : Int) + 2 * (m : Int)) = 2 * (k : Int) + 2 * (m : Int) := IntWalk.i64_in _ ⟨by omega, by omega⟩
                    have HCS := Lib.hid hcS'
                    clear z1 z2 F1 F2 eS eT hcS hcT hcS' hcT'
                    go_upto_region 15 with (fail)
                    clear hj3
                    go_cut [118] (fun v wx => v = .bool false ∧ Below w.heap.size w wx)
                    case first =>
                      go_region_held3 (fun W => Below w.heap.size w W) (first | assumption | exact (HBW.out).drew | exact st_alloc (by assumption) _ | exact st_call (by assumption) hb) (first
                          | (go_at_call 8; refine (of_any _ _ _ _ _ (by first | exact strs1 _ _ _ | exact strs1e _ _ _ _ (World.size_alloc _ _) | exact strs_alloc (strs1 _ _ _) _ | exact strs_more (strs1 _ _ _) hb | exact strs_more (strs1e _ _ _ _ (World.size_alloc _ _)) hb | exact strs_more (strs_drew (strs1e _ _ _ _ (World.size_alloc _ _))) hb | exact strs_more (strs_drew (strs_alloc (strs1 _ _ _) _)) hb | exact strs_more (strs_alloc (strs1 _ _ _) _) hb | exact strs_more (strs_more (strs1 _ _ _) hc) hb | exact strs_more (strs_more (strs1e _ _ _ _ (World.size_alloc _ _)) hc) hb | exact strs_more (strs_more (strs_drew (strs1e _ _ _ _ (World.size_alloc _ _))) hc) hb | exact strs_more (strs_more (strs_drew (strs_alloc (strs1 _ _ _) _)) hc) hb) (by omega) (by first | exact sz1 HZS.out | exact sz1 HZT.out)).mono ?_; rintro e w' ⟨rfl, hb⟩; have hc := hb; first | rw [V1.out] | rw [V2.out])
                          | (go_at_call 15; refine (TU.out _).mono ?_; rintro e w' ⟨rfl, hb⟩))
                      all_goals
                        go_wp2
                        go_meet
                        exact ⟨rfl, by assumption⟩
                    case rest =>
                      obtain ⟨rfl, hbw⟩ := hcut
                      have HB1 := Lib.hid hbw
                      clear hbw hX1 hX2 TU HX1 HX2 V2 HZT i10
                      by_cases hm0 : m = 0
                      · subst hm0
                        go_wp2_with fail
                        refine (alive_any _).mono ?_
                        rintro e w' ⟨rfl, hb⟩
                        have HB := Lib.hid (st_call HB1.out hb)
                        clear hb
                        go_wp2_with fail
                        go_ret
                        exact ⟨rfl, HB.out⟩
                      · have k2 : 2 ≤ 2 * (m : Int) := by omega
                        have k4 : (0 : Int) ≤ 2 * (k : Int) + 1 := by omega
                        have k5 : (2 * (k : Int) + 1).toNat = 2 * k + 1 := by omega
                        have k3 : 2 * (k : Int) < (S.size : Int) := by have := HS.out; omega
                        have k6 : 2 * (k : Int) + 1 < (S.size : Int) := by have := HS.out; omega
                        have k7 : 2 * k < S.size := by have := HS.out; omega
                        have k8 : 2 * k + 1 < S.size := by have := HS.out; omega
                        have l1 : (0 : Int) < (a2.size : Int) := by omega
                        have l2 : (1 : Int) < (a2.size : Int) := by omega
                        have l3 : 0 < a2.size := by omega
                        have l4 : 1 < a2.size := by omega
                        have l5 : (2 : Int) ≤ (a2.size : Int) := by omega
                        have hu1 := byte_le S[2 * k]
                        have hv1 := byte_le S[2 * k + 1]
                        have hx1 := byte_le a2[0]
                        have hy1 := byte_le a2[1]
                        have gu := bz_at S (2 * k) k7
                        have gv := bz_at S (2 * k + 1) k8
                        have gx := bz_at a2 0 l3
                        have gy := bz_at a2 1 l4
                        obtain ⟨u, hu⟩ : ∃ u, S[2 * k].toNat = u := ⟨_, rfl⟩
                        obtain ⟨v, hv⟩ : ∃ v, S[2 * k + 1].toNat = v := ⟨_, rfl⟩
                        obtain ⟨x, hx⟩ : ∃ x, a2[0].toNat = x := ⟨_, rfl⟩
                        obtain ⟨y, hy⟩ : ∃ y, a2[1].toNat = y := ⟨_, rfl⟩
                        rw [hu] at hu1 gu
                        rw [hv] at hv1 gv
                        rw [hx] at hx1 gx
                        rw [hy] at hy1 gy
                        have GU := Lib.hid gu
                        have GV := Lib.hid gv
                        have GX := Lib.hid gx
                        have GY := Lib.hid gy
                        clear gu gv gx gy
                        go_upto_region 18 with (fail)
                        go_cut [13] (fun t wx => t = .int .u16 ((u * 256 + v : Nat) : Int) ∧ ∃ d, wx = wc.drewN d)
                        case first =>
                          go_quiet (fail)
                          go_wp2
                          go_meet
                          exact ⟨by rw [or_word u v hu1 hv1], _, rfl⟩
                        case rest =>
                          obtain ⟨rfl, d1, rfl⟩ := hcut
                          have HB2 := Lib.hid (below_dr2 HB1.out d1)
                          obtain ⟨w3, hw3⟩ : ∃ w3, wc.drewN d1 = w3 := ⟨_, rfl⟩
                          rw [hw3] at HB2 ⊢
                          clear hw3
                          obtain ⟨ws, hws⟩ : ∃ ws, u * 256 + v = ws := ⟨_, rfl⟩
                          rw [hws]
                          have HWS := Lib.hid hws
                          clear hws hu hv
                          go_upto_region 19 with (fail)
                          go_cut [14] (fun t wx => t = .int .u16 ((x * 256 + y : Nat) : Int) ∧ ∃ d, wx = w3.drewN d)
                          case first =>
                            go_quiet (fail)
                            go_wp2
                            go_meet
                            exact ⟨by rw [or_word x y hx1 hy1], _, rfl⟩
                          case rest =>
                            obtain ⟨rfl, d2, rfl⟩ := hcut
                            have HB3 := Lib.hid (below_dr2 HB2.out d2)
                            obtain ⟨w4, hw4⟩ : ∃ w4, w3.drewN d2 = w4 := ⟨_, rfl⟩
                            rw [hw4] at HB3 ⊢
                            clear hw4
                            obtain ⟨wn, hwn⟩ : ∃ wn, x * 256 + y = wn := ⟨_, rfl⟩
                            rw [hwn]
                            have HWN := Lib.hid hwn
                            clear hwn hx hy
                            have n1 : (0 : Int) ≤ 2 * (k : Int) + 2 := by omega
                            have n2 : (2 * (k : Int) + 2).toNat = 2 * k + 2 := by omega
                            have n3 : 2 * (k : Int) + 2 ≤ (S.size : Int) := by have := HS.out; omega
                            have n4 : 2 * k + 2 ≤ S.size := by have := HS.out; omega
                            obtain ⟨S1, hS1⟩ : ∃ S1, S.extract 0 (2 * k) = S1 := ⟨_, rfl⟩
                            obtain ⟨S2, hS2⟩ : ∃ S2, a2.extract 0 2 = S2 := ⟨_, rfl⟩
                            obtain ⟨S3, hS3⟩ : ∃ S3, S.extract (2 * k + 2) S.size = S3 := ⟨_, rfl⟩
                            have z1 : S1.size = 2 * k := by rw [← hS1, ByteArray.size_extract]; have := HS.out; omega
                            have z2 : S2.size = 2 := by rw [← hS2, ByteArray.size_extract]; omega
                            have z3 : S3.size = S.size - (2 * k + 2) := by rw [← hS3, ByteArray.size_extract]; omega
                            have hsum1 : S1.size + S2.size ≤ 9223372036854775807 := by omega
                            have hsum2 : S1.size + S2.size + S3.size ≤ 9223372036854775807 := by have := HS.out; omega
                            have F1 := Lib.hid (show bz S1 = (bz S).take (2 * k) by rw [← hS1, bz_extract S 0 (2 * k) (by have := HS.out; omega)]; rfl)
                            have F2 := Lib.hid (show bz S2 = [x, y] by
                              rw [← hS2, bz_extract a2 0 2 (by omega), List.drop_zero]
                              have hl : 2 ≤ (bz a2).length := by rw [bz_len]; omega
                              have e0 := GX.out
                              have e1 := GY.out
                              generalize bz a2 = l at hl e0 e1
                              match l, hl with
                              | p :: q :: r, _ => simp at e0 e1; subst e0 e1; rfl)
                            have F3 := Lib.hid (show bz S3 = (bz S).drop (2 * k + 2) by rw [← hS3, bz_extract S _ S.size (Nat.le_refl _), List.take_of_length_le (by rw [bz_len]; exact Nat.le_refl _)])
                            have Z1 := Lib.hid z1
                            have Z2 := Lib.hid z2
                            have Z3 := Lib.hid z3
                            clear z1 z2 z3
                            go_upto_region 20 with (fail)
                            go_cut [15] (fun t wx => t = .string (S1 ++ S2 ++ S3) ∧ ∃ d, wx = w4.drewN d)
                            case first =>
                              go_quiet (fail)
                              go_wp2
                              go_meet
                              exact ⟨rfl, _, rfl⟩
                            case rest =>
                              obtain ⟨rfl, d3, rfl⟩ := hcut
                              have HB4 := Lib.hid (below_dr2 HB3.out d3)
                              obtain ⟨w5, hw5⟩ : ∃ w5, w4.drewN d3 = w5 := ⟨_, rfl⟩
                              rw [hw5] at HB4 ⊢
                              clear hw5 hS1 hS2 hS3
                              obtain ⟨U, hU⟩ : ∃ U, S1 ++ S2 ++ S3 = U := ⟨_, rfl⟩
                              have hbU : bz U = (bz S).take (2 * k) ++ (x :: y :: (bz S).drop (2 * k + 2)) := by
                                rw [← hU, bz_append, bz_append, F1.out, F2.out, F3.out, List.append_assoc]
                                rfl
                              have hUs : U.size ≤ 100000000 := by
                                rw [← hU, ByteArray.size_append, ByteArray.size_append, Z1.out, Z2.out, Z3.out]
                                have := HS.out
                                omega
                              rw [hU]
                              obtain ⟨cU, hcU⟩ : ∃ cU, cs (cat [U]) = cU := ⟨_, rfl⟩
                              have hbS : bz S = (bz S).take (2 * k) ++ (u :: v :: (bz S).drop (2 * k + 2)) := by
                                have hl : 2 * k + 1 < (bz S).length := by rw [bz_len]; exact k8
                                have e0 := GU.out
                                have e1 := GV.out
                                rw [List.getElem?_eq_getElem (by omega)] at e0
                                rw [List.getElem?_eq_getElem hl] at e1
                                injection e0 with e0
                                injection e1 with e1
                                rw [← e0, ← e1, ← List.drop_eq_getElem_cons hl, ← List.drop_eq_getElem_cons (by omega), List.take_append_drop]
                              have htu : tu cS ws wn = cU := by
                                have hpos : 0 < wsum ((bz S).take (2 * k)) + wsum ((bz S).drop (2 * k + 2)) := by
                                  have h1 := HPOS.out
                                  have h2 := wsum_append (((bz S).drop (2 * k + 2)).take (2 * m - 2)) (((bz S).drop (2 * k + 2)).drop (2 * m - 2)) (by
                                    rw [List.length_take, List.length_drop, bz_len]
                                    have := HS.out
                                    omega)
                                  rw [List.take_append_drop, List.drop_drop] at h2
                                  have e3 : 2 * k + 2 + (2 * m - 2) = 2 * k + 2 * m := by omega
                                  rw [e3] at h2
                                  omega
                                have h3 := turned_one (p := (bz S).take (2 * k)) (q := (bz S).drop (2 * k + 2)) (u := u) (v := v) (a := x) (b := y) (by rw [List.length_take, bz_len]; have := HS.out; omega) hu1 hv1 hpos
                                rw [← hbS, ← hbU, HCS.out, HWS.out, HWN.out] at h3
                                rw [h3, ← hcU]
                                simp [cat]
                              have TN := Lib.hid (fun W => turn_any cS ws wn W hcSle (by have := HWS.out; omega) (by have := HWN.out; omega))
                              rw [htu] at TN
                              have V3 := Lib.hid hcU
                              have HZU := Lib.hid hUs
                              clear hbU hUs hU hcU hbS htu
                              go_wp2_with fail
                              refine (of_any _ _ _ _ _ (strs1 _ S _) (by omega) (sz1 HZS.out)).mono ?_
                              rintro e w6 ⟨rfl, hb6⟩
                              rw [V1.out]
                              have HB5 := Lib.hid (st_call (st_alloc HB4.out _) hb6)
                              clear hb6
                              go_wp2_with fail
                              refine (TN.out _).mono ?_
                              rintro e w' ⟨rfl, rfl⟩
                              go_wp2_with fail
                              refine (of_any _ _ _ _ _ (strs1 _ U _) (by omega) (sz1 HZU.out)).mono ?_
                              rintro e w7 ⟨rfl, hb7⟩
                              rw [V3.out]
                              have HB6 := Lib.hid (st_call (st_alloc HB5.out _) hb7)
                              clear hb7
                              go_wp2_with fail
                              refine (alive_any _).mono ?_
                              rintro e w8 ⟨rfl, hb8⟩
                              have HB7 := Lib.hid (st_call HB6.out hb8)
                              clear hb8
                              go_wp2_with fail
                              go_ret
                              exact ⟨rfl, HB7.out⟩

/-! The row's step, after the guide's own way. -/
set_option maxRecDepth 100000 in
theorem lifted (os : Os) (started : os.Started) (H : Type) (enc : TypeId × Value → H) :
    ReturnsInHanded {} Try.checked os 5 .any (Rows.sumTurnsSpec.pre6 enc Try.prog Try.f5 Rows.sumTurnsRow.domain false) (Rows.sumTurnsSpec.post enc Try.prog Try.f5 false true false false) := by
  refine returnsInHanded_of_change (C := Try.checked) own started (by kernel_rfl) Try.func5
    (ChangeSpec.witness6 (enc := enc) (C := Try.checked) false ⟨#[], #[.string ByteArray.empty, .int .u16 0, .string ByteArray.empty], []⟩ 8 (by kernel_rfl) (by kernel_rfl) (by kernel_rfl) (by kernel_rfl)) ?_
  intro W base args ds gs before hval0 hW hcnd _
  have hval : ∀ (j : Nat) t v, Try.f5.params[j]? = some t → args[j]? = some v → Value.okWide Try.prog W .any base t v := hval0
  have hW' := hW
  obtain ⟨p, q, hA0, hV, rfl, hfz, hnd⟩ := hW
  have hA : DataW.TrodAll enc Try.prog W 0 (fun _ => true) true Try.f5.params.toList args.toList ds p := hA0
  rw [Try.params5] at hA hval
  obtain ⟨v0, vs0, d0, ds0, p0, q0, hargs, rfl, rfl, h0, r0⟩ := trodAll_cons hA
  obtain ⟨v1, vs1, d1, ds1, p1, q1, rfl, rfl, rfl, h1, r1⟩ := trodAll_cons r0
  obtain ⟨v2, vs2, d2, ds2, p2, q2, rfl, rfl, rfl, h2, r2⟩ := trodAll_cons r1
  obtain ⟨rfl, rfl, rfl⟩ := trodAll_nil r2
  obtain rfl : args = #[v0, v1, v2] := by cases args; simp_all
  obtain ⟨rfl, rfl⟩ := trodVars_none hV
  have k0 := h0
  have lt0 : ∀ x ∈ p0, x.block < W.heap.size := by obtain ⟨m, hm⟩ := k0; exact DataW.trod_lt m _ _ _ hm
  obtain ⟨a0, rfl, _, _, w0⟩ := open_string Try.underlying9 (hval 0 9 v0 rfl rfl) h0
  have k1 := h1
  have lt1 : ∀ x ∈ p1, x.block < W.heap.size := by obtain ⟨m, hm⟩ := k1; exact DataW.trod_lt m _ _ _ hm
  obtain ⟨a1, rfl, _, _, w1⟩ := open_int Try.underlying23 (hval 1 23 v1 rfl rfl) h1
  have k2 := h2
  have lt2 : ∀ x ∈ p2, x.block < W.heap.size := by obtain ⟨m, hm⟩ := k2; exact DataW.trod_lt m _ _ _ hm
  obtain ⟨a2, rfl, _, _, w2⟩ := open_string Try.underlying9 (hval 2 9 v2 rfl rfl) h2
  clear hA0 hval0
  refine (walk a0 a1 a2 W w0 w1 w2).mono fun e W' ⟨he, bel⟩ => ?_
  subst he
  exact ⟨_, rfl, _, _, _, [], _, [], hW', trodAll_mk1 (shut_bool Try.underlying4 _), (trodAll_cons_mk (Below.trod laidOut (by kernel_rfl) (of_decide_eq_true (by kernel_rfl)) k0 bel lt0) (trodAll_cons_mk (Below.trod laidOut (by kernel_rfl) (of_decide_eq_true (by kernel_rfl)) k1 bel lt1) (trodAll_cons_mk (Below.trod laidOut (by kernel_rfl) (of_decide_eq_true (by kernel_rfl)) k2 bel lt2) trodAll_mk0))), rfl, bel.frame _, fun h => by cases h⟩

theorem over : Rows.sumTurnsRow.holds Try.pinned (OpenSpec.ofChange Rows.sumTurnsSpec) :=
  OpenClaim.holds_of_wide 5 Try.f5 rfl rfl rfl rfl rfl rfl rfl ⟨rfl, rfl, rfl, rfl, rfl⟩ rfl rfl rfl rfl rfl (by kernel_rfl) Try.func5 (by kernel_rfl)
    (of_decide_eq_true (by kernel_rfl)) (by unfold Func.isWrapper; first | (rw [if_pos (by decide +kernel)]; kernel_rfl) | (rw [if_neg (by decide +kernel)]; exact ⟨rfl, rfl⟩))
    (fun os started H enc _ => lifted os started H enc)

/-- The statement. -/
theorem proved : Rows.SumTurnsSaid := over
#print axioms proved
end Go.Proofs.Yteahkhpkogcfoaa.sumTurns
