/-
  Laws for a proof of package pkt: 7 texts in one.
-/
import Derived.Test.YtpmnmnflaijaaaaGreatQNumShelf1
import Derived.Test.YtpmnmnflaijaaaaGreatQOwn1
import Derived.Test.YtpmnmnflaijaaaaGreatQBytes1
import Derived.Test.YtpmnmnflaijaaaaGreatQTcpMath5
import Derived.Test.YtpmnmnflaijaaaaGreatQLitb1
import Derived.Test.YtpmnmnflaijaaaaGreatQRelG2
import Derived.Deep.DeepCutAuto
import Derived.Laws.BitsAllLaws
import Derived.Lib.Hide
import Derived.BigGuard
import Derived.BigCall
namespace Go.Proofs.YtpmnmnflaijaaaaGreat.Num
open Go.RowKit Own TupMath IpMath Litb Bytes Rel
set_option linter.unusedVariables false
set_option maxRecDepth 100000
theorem len32_any (x : Int) (w : World) (h0 : 0 ≤ x) (h1 : x ≤ 4294967295) : Calls Tryz.prog 107 #[.int .u32 x] w fun e w' => e = .returned (.int .i64 (Lib.bitLen x.toNat)) ∧ w' = w :=
 Any.bits_Len32 Tryz.layLen32 x w h0 h1
theorem bl8 : Lib.bitLen (Int.toNat 255) = 8 := by decide
theorem bl16 : Lib.bitLen (Int.toNat 65535) = 16 := by decide
theorem bl32 : Lib.bitLen (Int.toNat 4294967295) = 32 := by decide
def w2s (L : List Nat) : List Nat := L.flatMap w2
def w4s (L : List Nat) : List Nat := L.flatMap w4
def w1s (L : List Nat) : List Nat := L
theorem below_drewN {n : Nat} {w W : World} (h : Below n w W) (q : Nat) : Below n w (W.drewN q) := h.trans ⟨rfl, rfl, rfl, Nat.le_refl _, fun _ _ => rfl⟩
theorem or_add (a b m : Nat) (hb : b < 2 ^ m) : 2 ^ m * a ||| b = 2 ^ m * a + b := (Nat.two_pow_add_eq_or_of_lt hb a).symm
theorem w1s_snoc {L : List Nat} {k x : Nat} (h : L[k]? = some x) : w1s (L.take (k + 1)) = w1s (L.take k) ++ [x] := take_snoc h
theorem w2s_snoc {L : List Nat} {k x : Nat} (h : L[k]? = some x) : w2s (L.take (k + 1)) = w2s (L.take k) ++ w2 x := by unfold w2s; rw [take_snoc h, List.flatMap_append]; simp
theorem w4s_snoc {L : List Nat} {k x : Nat} (h : L[k]? = some x) : w4s (L.take (k + 1)) = w4s (L.take k) ++ w4 x := by unfold w4s; rw [take_snoc h, List.flatMap_append]; simp
theorem w1s_len (L : List Nat) : (w1s L).length = 1 * L.length := by unfold w1s; omega
theorem w2s_len (L : List Nat) : (w2s L).length = 2 * L.length := by
 unfold w2s
 induction L with
 | nil => rfl
 | cons a l ih => rw [List.flatMap_cons, List.length_append, ih]; simp [w2]; omega
theorem w4s_len (L : List Nat) : (w4s L).length = 4 * L.length := by
 unfold w4s
 induction L with
 | nil => rfl
 | cons a l ih => rw [List.flatMap_cons, List.length_append, ih]; simp [w4]; omega
theorem w1s_le {L : List Nat} (h : ∀ x ∈ L, x ≤ 255) : ∀ x ∈ w1s L, x ≤ 255 := h
theorem w2s_le {L : List Nat} (h : ∀ x ∈ L, x ≤ 65535) : ∀ x ∈ w2s L, x ≤ 255 := by
 intro x hx
 obtain ⟨y, hy, hx⟩ := List.mem_flatMap.1 hx
 have := h y hy
 simp [w2] at hx
 omega
theorem w4s_le {L : List Nat} (h : ∀ x ∈ L, x ≤ 4294967295) : ∀ x ∈ w4s L, x ≤ 255 := by
 intro x hx
 obtain ⟨y, hy, hx⟩ := List.mem_flatMap.1 hx
 have := h y hy
 simp [w4] at hx
 omega
end Go.Proofs.YtpmnmnflaijaaaaGreat.Num
namespace Go.Proofs.YtpmnmnflaijaaaaGreat.Num
open Go.RowKit Own TupMath IpMath Litb Bytes Rel
set_option linter.unusedVariables false
set_option maxRecDepth 100000
theorem width8 (w : World) : Calls Tryz.prog 87 #[] w fun e w' => e = .returned (.int .i64 1) ∧ w' = w := by
 have c := len32_any 255 w (by decide) (by decide)
 rw [bl8] at c
 go_enter Tryz.func87, Tryz.ntmps87
 go_wp2_with (go_at_call 107; refine c.mono ?_; rintro e w' ⟨rfl, hw⟩; rw [hw])
 go_ret
 exact ⟨rfl, rfl⟩
theorem place8_0 (w : World) : Calls Tryz.prog 88 #[.int .i64 0] w fun e w' => e = .returned (.int .i64 0) ∧ w' = w := by
 go_enter Tryz.func88, Tryz.ntmps88
 go_wp2_with (go_at_call 87; refine (width8 _).mono ?_; rintro e w' ⟨rfl, hw⟩; rw [hw])
 go_ret
 exact ⟨rfl, rfl⟩
set_option maxHeartbeats 16000000 in
theorem lay8 (b c : Nat) (L : List Nat) (w : World) (hb : b < w.heap.size) (hc : ∀ (j x : Nat), L[j]? = some x → w.cell? ⟨b, j, none⟩ = some (.int .u8 (x : Int))) (h0 : 0 < L.length) (h1 : L.length ≤ 100) (hx : ∀ x ∈ L, x ≤ 255) :
   Calls Tryz.prog 52 #[.slice (some ⟨b, 0, none⟩) L.length c] w fun e w' => e = .returned (.string (ofB (w1s L))) ∧ Below w.heap.size w w' := by
 have HC := Lib.hid hc
 have HX := Lib.hid hx
 have HLT := Lib.hid hb
 clear hc hx hb
 go_enter Tryz.func52, Tryz.ntmps52
 go_wp2
 go_loopw [3, 9] (fun v i wr => ∃ (k : Nat) (A : Option Addr) (c : Nat) (M : List Nat), i = .int .i64 (k : Int) ∧ v = .slice A M.length c ∧ M = w1s (L.take k) ∧ k ≤ L.length ∧ Own8 wr w.heap.size (.slice A M.length c) M ∧ Below w.heap.size w wr) (fun _ i _ => L.length - (intOf i).toNat)
 case atStart => exact ⟨0, none, 0, [], rfl, rfl, rfl, by omega, own8_nil _ _, Below.refl _ _⟩
 case round =>
   obtain ⟨k, A, c, M, rfl, rfl, hM, hk, hO, hB⟩ := hrel
   have HM := Lib.hid hM
   have hMl : M.length ≤ 400 := by rw [hM, w1s_len, List.length_take]; omega
   have HB := Lib.hid hB
   have HO := Lib.hid hO
   clear hM hB hO
   by_cases hlt : k < L.length
   · obtain ⟨x, hxk⟩ : ∃ x, L[k]? = some x := ⟨_, List.getElem?_eq_getElem hlt⟩
     have hx1 : x ≤ 255 := HX.out x (List.mem_of_getElem? hxk)
     have d0 := (HB.out.cell (p := ⟨b, k, none⟩) HLT.out).trans (HC.out k x hxk)
     have d1 : wr.cell? ⟨b, 0 + k, none⟩ = some (.int .u8 (x : Int)) := by rw [Nat.zero_add]; exact d0
     have HS := Lib.hid (w1s_snoc hxk)
     clear hxk
     go_wp2_with (go_at_call 87; refine (width8 _).mono ?_; rintro e w' ⟨rfl, hw⟩; rw [hw])
     obtain ⟨wo, rfl⟩ : ∃ wo : World, wo = wr := ⟨_, rfl⟩
     clear d0 d1
     go_loopw [3, 14] (fun v i wr => ∃ (j : Nat) (A : Option Addr) (c : Nat) (N : List Nat), i = .int .i64 (j : Int) ∧ v = .slice A N.length c ∧ N = M ++ ([x]).take j ∧ j ≤ 1 ∧ Own8 wr w.heap.size (.slice A N.length c) N ∧ Below w.heap.size w wr) (fun _ i _ => 1 - (intOf i).toNat)
     case atStart => exact ⟨0, A, c, M, rfl, rfl, by simp, by omega, HO.out, HB.out⟩
     case round =>
       obtain ⟨j, A, c, N, rfl, rfl, hN, hj, hO, hB⟩ := hrel
       have HN := Lib.hid hN
       have hNl : N.length ≤ 500 := by rw [hN, List.length_append, List.length_take]; omega
       have HB2 := Lib.hid hB
       have HO2 := Lib.hid hO
       have hs := hB.size
       clear hN hB hO
       by_cases c0 : j = 0
       · subst c0
         go_wp2_with (first | (go_at_call 88; refine (place8_0 _).mono ?_; rintro e w' ⟨rfl, hw⟩; rw [hw]) | (at_builtin; refine stop_here ?_))
         refine stop_go (app8 _ rfl _ _ rfl w.heap.size _ N rfl HO2.out (x) _ (by omega) _ rfl rfl hs (by omega) ?_)
         intro A' c' w' hO' hB'
         go_wp2
         go_roundw
         case rel => exact ⟨1, A', c', N ++ [x], by go_num, by simp, by rw [HN.out]; simp, by omega, by simpa using hO', HB2.out.trans hB'⟩
         case measure => simp [intOf]
       obtain rfl : j = 1 := by omega
       have e : N = w1s (L.take (k + 1)) := by rw [HN.out, HS.out, HM.out]; simp
       have HE := Lib.hid e
       clear e
       go_wp2
       go_roundw
       case rel => exact ⟨k + 1, A, c, N, by go_num, rfl, HE.out, by omega, HO2.out, HB2.out⟩
       case measure => simp [intOf]; omega
   · obtain rfl : k = L.length := by omega
     have e : M = w1s L := by rw [HM.out, List.take_of_length_le (Nat.le_refl _)]
     subst e
     have hcv := str8 HO.out rfl (by first | exact h0 | (rw [w1s_len]; omega)) (w1s_le HX.out)
     go_wp2
     go_ret
     exact ⟨rfl, HB.out⟩
theorem layH8 {L : List Nat} {v : Value} {w : World} (h : HoldK .u8 L v w) (h0 : 0 < L.length) (h1 : L.length ≤ 100) (hx : ∀ x ∈ L, x ≤ 255) : Calls Tryz.prog 52 #[v] w fun e w' => e = .returned (.string (ofB L)) ∧ Below w.heap.size w w' := by
 obtain ⟨b, rfl, hb, hc⟩ := h
 exact lay8 b L.length L w hb hc h0 h1 hx
end Go.Proofs.YtpmnmnflaijaaaaGreat.Num
namespace Go.Proofs.YtpmnmnflaijaaaaGreat.Num
open Go.RowKit Own TupMath IpMath Litb Bytes Rel
set_option linter.unusedVariables false
set_option maxRecDepth 100000
set_option maxHeartbeats 16000000 in
theorem at8 (s : ByteArray) (i : Nat) (w : World) (hi : i ≤ 1000000) (hs : s.size ≤ 1000000) :
   Calls Tryz.prog 106 #[.string s, .int .i64 (i : Int)] w fun e w' => e = .returned (.int .u8 ((at0 (bz s) i : Nat) : Int)) ∧ Below w.heap.size w w' := by
 have hneg : ¬ (i : Int) < 0 := by omega
 by_cases h : i < s.size
 · have z00 := at_byte s i h
   have q0 := at_le s i
   generalize at0 (bz s) i = y0 at z00 q0
   have hgt : ¬ (s.size : Int) - 1 < (i : Int) := by omega
   go_enter Tryz.func106, Tryz.ntmps106
   go_wp2_with (go_at_call 87; refine (width8 _).mono ?_; rintro e w' ⟨rfl, hw⟩; rw [hw])
   clear hneg hgt
   go_loopw [5, 19] (fun n i wr => ∃ k : Nat, i = .int .i64 (k : Int) ∧ k ≤ 1 ∧ n = .int .u8 (((if k = 0 then 0 else y0 : Nat)) : Int) ∧ Below w.heap.size w wr) (fun _ i _ => 1 - (intOf i).toNat)
   case atStart => exact ⟨0, rfl, by omega, rfl, Below.refl _ _⟩
   case round =>
     obtain ⟨k, rfl, hk, rfl, hB⟩ := hrel
     have HB := Lib.hid hB
     clear hB
     have o1 : bits .or .u8 (0) ((y0 : Int)) = (y0 : Int) := by
       have h := u8_or_nat (0) (y0) (by omega) (by omega)
       rw [Nat.zero_or] at h
       simpa using h
     by_cases c0 : k = 0
     · subst c0
       go_wp2
       go_quiet ((go_at_call 88; exact Calls.quiet_of_same (place8_0 _)))
       go_wp2
       go_roundw
       case rel => exact ⟨1, by go_num, by omega, by simp, below_drewN HB.out _⟩
       case measure => simp [intOf]
     obtain rfl : k = 1 := by omega
     go_wp2
     go_ret
     exact ⟨rfl, HB.out⟩
 · have e : at0 (bz s) i = 0 := by unfold at0; rw [List.getElem?_eq_none (by rw [bz_len]; omega)]; rfl
   rw [e]
   have hgt : (s.size : Int) - 1 < (i : Int) := by omega
   go_enter Tryz.func106, Tryz.ntmps106
   go_wp2_with (go_at_call 87; refine (width8 _).mono ?_; rintro e w' ⟨rfl, hw⟩; rw [hw])
   go_ret
   exact ⟨rfl, Below.refl _ _⟩
end Go.Proofs.YtpmnmnflaijaaaaGreat.Num
namespace Go.Proofs.YtpmnmnflaijaaaaGreat.Num
open Go.RowKit Own TupMath IpMath Litb Bytes Rel
set_option linter.unusedVariables false
set_option maxRecDepth 100000
theorem width16 (w : World) : Calls Tryz.prog 81 #[] w fun e w' => e = .returned (.int .i64 2) ∧ w' = w := by
 have c := len32_any 65535 w (by decide) (by decide)
 rw [bl16] at c
 go_enter Tryz.func81, Tryz.ntmps81
 go_wp2_with (go_at_call 107; refine c.mono ?_; rintro e w' ⟨rfl, hw⟩; rw [hw])
 go_ret
 exact ⟨rfl, rfl⟩
theorem place16_0 (w : World) : Calls Tryz.prog 82 #[.int .i64 0] w fun e w' => e = .returned (.int .i64 8) ∧ w' = w := by
 go_enter Tryz.func82, Tryz.ntmps82
 go_wp2_with (go_at_call 81; refine (width16 _).mono ?_; rintro e w' ⟨rfl, hw⟩; rw [hw])
 go_ret
 exact ⟨rfl, rfl⟩
theorem place16_1 (w : World) : Calls Tryz.prog 82 #[.int .i64 1] w fun e w' => e = .returned (.int .i64 0) ∧ w' = w := by
 go_enter Tryz.func82, Tryz.ntmps82
 go_wp2_with (go_at_call 81; refine (width16 _).mono ?_; rintro e w' ⟨rfl, hw⟩; rw [hw])
 go_ret
 exact ⟨rfl, rfl⟩
set_option maxHeartbeats 16000000 in
theorem lay16 (b c : Nat) (L : List Nat) (w : World) (hb : b < w.heap.size) (hc : ∀ (j x : Nat), L[j]? = some x → w.cell? ⟨b, j, none⟩ = some (.int .u16 (x : Int))) (h0 : 0 < L.length) (h1 : L.length ≤ 100) (hx : ∀ x ∈ L, x ≤ 65535) :
   Calls Tryz.prog 49 #[.slice (some ⟨b, 0, none⟩) L.length c] w fun e w' => e = .returned (.string (ofB (w2s L))) ∧ Below w.heap.size w w' := by
 have HC := Lib.hid hc
 have HX := Lib.hid hx
 have HLT := Lib.hid hb
 clear hc hx hb
 go_enter Tryz.func49, Tryz.ntmps49
 go_wp2
 go_loopw [3, 9] (fun v i wr => ∃ (k : Nat) (A : Option Addr) (c : Nat) (M : List Nat), i = .int .i64 (k : Int) ∧ v = .slice A M.length c ∧ M = w2s (L.take k) ∧ k ≤ L.length ∧ Own8 wr w.heap.size (.slice A M.length c) M ∧ Below w.heap.size w wr) (fun _ i _ => L.length - (intOf i).toNat)
 case atStart => exact ⟨0, none, 0, [], rfl, rfl, rfl, by omega, own8_nil _ _, Below.refl _ _⟩
 case round =>
   obtain ⟨k, A, c, M, rfl, rfl, hM, hk, hO, hB⟩ := hrel
   have HM := Lib.hid hM
   have hMl : M.length ≤ 400 := by rw [hM, w2s_len, List.length_take]; omega
   have HB := Lib.hid hB
   have HO := Lib.hid hO
   clear hM hB hO
   by_cases hlt : k < L.length
   · obtain ⟨x, hxk⟩ : ∃ x, L[k]? = some x := ⟨_, List.getElem?_eq_getElem hlt⟩
     have hx1 : x ≤ 65535 := HX.out x (List.mem_of_getElem? hxk)
     have d0 := (HB.out.cell (p := ⟨b, k, none⟩) HLT.out).trans (HC.out k x hxk)
     have d1 : wr.cell? ⟨b, 0 + k, none⟩ = some (.int .u16 (x : Int)) := by rw [Nat.zero_add]; exact d0
     have HS := Lib.hid (w2s_snoc hxk)
     clear hxk
     go_wp2_with (go_at_call 81; refine (width16 _).mono ?_; rintro e w' ⟨rfl, hw⟩; rw [hw])
     obtain ⟨wo, rfl⟩ : ∃ wo : World, wo = wr := ⟨_, rfl⟩
     clear d0 d1
     go_loopw [3, 14] (fun v i wr => ∃ (j : Nat) (A : Option Addr) (c : Nat) (N : List Nat), i = .int .i64 (j : Int) ∧ v = .slice A N.length c ∧ N = M ++ (w2 x).take j ∧ j ≤ 2 ∧ Own8 wr w.heap.size (.slice A N.length c) N ∧ Below w.heap.size w wr) (fun _ i _ => 2 - (intOf i).toNat)
     case atStart => exact ⟨0, A, c, M, rfl, rfl, by simp, by omega, HO.out, HB.out⟩
     case round =>
       obtain ⟨j, A, c, N, rfl, rfl, hN, hj, hO, hB⟩ := hrel
       have HN := Lib.hid hN
       have hNl : N.length ≤ 500 := by rw [hN, List.length_append, List.length_take]; omega
       have HB2 := Lib.hid hB
       have HO2 := Lib.hid hO
       have hs := hB.size
       clear hN hB hO
       by_cases c0 : j = 0
       · subst c0
         go_wp2_with (first | (go_at_call 82; refine (place16_0 _).mono ?_; rintro e w' ⟨rfl, hw⟩; rw [hw]) | (at_builtin; refine stop_here ?_))
         refine stop_go (app8 _ rfl _ _ rfl w.heap.size _ N rfl HO2.out (x / 256) _ (by omega) _ rfl rfl hs (by omega) ?_)
         intro A' c' w' hO' hB'
         go_wp2
         go_roundw
         case rel => exact ⟨1, A', c', N ++ [x / 256], by go_num, by simp, by rw [HN.out]; simp [w2], by omega, by simpa using hO', HB2.out.trans hB'⟩
         case measure => simp [intOf]
       by_cases c1 : j = 1
       · subst c1
         go_wp2_with (first | (go_at_call 82; refine (place16_1 _).mono ?_; rintro e w' ⟨rfl, hw⟩; rw [hw]) | (at_builtin; refine stop_here ?_))
         refine stop_go (app8 _ rfl _ _ rfl w.heap.size _ N rfl HO2.out (x % 256) _ (by omega) _ rfl rfl hs (by omega) ?_)
         intro A' c' w' hO' hB'
         go_wp2
         go_roundw
         case rel => exact ⟨2, A', c', N ++ [x % 256], by go_num, by simp, by rw [HN.out]; simp [w2], by omega, by simpa using hO', HB2.out.trans hB'⟩
         case measure => simp [intOf]
       obtain rfl : j = 2 := by omega
       have e : N = w2s (L.take (k + 1)) := by rw [HN.out, HS.out, HM.out]; simp [w2]
       have HE := Lib.hid e
       clear e
       go_wp2
       go_roundw
       case rel => exact ⟨k + 1, A, c, N, by go_num, rfl, HE.out, by omega, HO2.out, HB2.out⟩
       case measure => simp [intOf]; omega
   · obtain rfl : k = L.length := by omega
     have e : M = w2s L := by rw [HM.out, List.take_of_length_le (Nat.le_refl _)]
     subst e
     have hcv := str8 HO.out rfl (by first | exact h0 | (rw [w2s_len]; omega)) (w2s_le HX.out)
     go_wp2
     go_ret
     exact ⟨rfl, HB.out⟩
theorem layH16 {L : List Nat} {v : Value} {w : World} (h : HoldK .u16 L v w) (h0 : 0 < L.length) (h1 : L.length ≤ 100) (hx : ∀ x ∈ L, x ≤ 65535) : Calls Tryz.prog 49 #[v] w fun e w' => e = .returned (.string (ofB (w2s L))) ∧ Below w.heap.size w w' := by
 obtain ⟨b, rfl, hb, hc⟩ := h
 exact lay16 b L.length L w hb hc h0 h1 hx
end Go.Proofs.YtpmnmnflaijaaaaGreat.Num
namespace Go.Proofs.YtpmnmnflaijaaaaGreat.Num
open Go.RowKit Own TupMath IpMath Litb Bytes Rel
set_option linter.unusedVariables false
set_option maxRecDepth 100000
set_option maxHeartbeats 16000000 in
theorem at16 (s : ByteArray) (i y0 y1 : Nat) (w : World) (h : i + 2 ≤ s.size) (hs : s.size ≤ 1000000) (e0 : (bz s)[i + 0]? = some y0) (e1 : (bz s)[i + 1]? = some y1) :
   Calls Tryz.prog 48 #[.string s, .int .i64 (i : Int)] w fun e w' => e = .returned (.int .u16 ((y0 * 256 + y1 : Nat) : Int)) ∧ Below w.heap.size w w' := by
 have q0 : y0 ≤ 255 := bz_le s _ (List.mem_of_getElem? e0)
 have z0 : s[i + 0].toNat = y0 := by have a := bz_at s (i + 0) (by omega); rw [a] at e0; exact Option.some.inj e0
 have q1 : y1 ≤ 255 := bz_le s _ (List.mem_of_getElem? e1)
 have z1 : s[i + 1].toNat = y1 := by have a := bz_at s (i + 1) (by omega); rw [a] at e1; exact Option.some.inj e1
 have z00 : s[i].toNat = y0 := z0
 clear e0 e1 z0
 have hneg : ¬ (i : Int) < 0 := by omega
 have hgt : ¬ (s.size : Int) - 2 < (i : Int) := by omega
 go_enter Tryz.func48, Tryz.ntmps48
 go_wp2_with (go_at_call 81; refine (width16 _).mono ?_; rintro e w' ⟨rfl, hw⟩; rw [hw])
 clear hneg hgt
 go_loopw [5, 19] (fun n i wr => ∃ k : Nat, i = .int .i64 (k : Int) ∧ k ≤ 2 ∧ n = .int .u16 (((if k = 0 then 0 else if k = 1 then y0 * 256 else y0 * 256 + y1 : Nat)) : Int) ∧ Below w.heap.size w wr) (fun _ i _ => 2 - (intOf i).toNat)
 case atStart => exact ⟨0, rfl, by omega, rfl, Below.refl _ _⟩
 case round =>
   obtain ⟨k, rfl, hk, rfl, hB⟩ := hrel
   have HB := Lib.hid hB
   clear hB
   have o1 : bits .or .u16 (0) ((y0 : Int) * 256) = (y0 : Int) * 256 := by
     have h := u16_or_nat (0) (y0 * 256) (by omega) (by omega)
     rw [Nat.zero_or] at h
     simpa using h
   have o2 : bits .or .u16 ((y0 : Int) * 256) ((y1 : Int)) = (y0 : Int) * 256 + (y1 : Int) := by
     have h := u16_or_nat (y0 * 256) (y1) (by omega) (by omega)
     have e := or_add (y0) (y1) 8 (by omega)
     rw [show 2 ^ 8 * (y0) = y0 * 256 by omega] at e
     rw [e] at h
     simpa using h
   by_cases c0 : k = 0
   · subst c0
     go_wp2
     go_quiet ((go_at_call 82; exact Calls.quiet_of_same (place16_0 _)))
     go_wp2
     go_roundw
     case rel => exact ⟨1, by go_num, by omega, by simp, below_drewN HB.out _⟩
     case measure => simp [intOf]
   by_cases c1 : k = 1
   · subst c1
     go_wp2
     go_quiet ((go_at_call 82; exact Calls.quiet_of_same (place16_1 _)))
     go_wp2
     go_roundw
     case rel => exact ⟨2, by go_num, by omega, by simp, below_drewN HB.out _⟩
     case measure => simp [intOf]
   obtain rfl : k = 2 := by omega
   go_wp2
   go_ret
   exact ⟨rfl, HB.out⟩
end Go.Proofs.YtpmnmnflaijaaaaGreat.Num
namespace Go.Proofs.YtpmnmnflaijaaaaGreat.Num
open Go.RowKit Own TupMath IpMath Litb Bytes Rel
set_option linter.unusedVariables false
set_option maxRecDepth 100000
theorem width32 (w : World) : Calls Tryz.prog 85 #[] w fun e w' => e = .returned (.int .i64 4) ∧ w' = w := by
 have c := len32_any 4294967295 w (by decide) (by decide)
 rw [bl32] at c
 go_enter Tryz.func85, Tryz.ntmps85
 go_wp2_with (go_at_call 107; refine c.mono ?_; rintro e w' ⟨rfl, hw⟩; rw [hw])
 go_ret
 exact ⟨rfl, rfl⟩
theorem place32_0 (w : World) : Calls Tryz.prog 86 #[.int .i64 0] w fun e w' => e = .returned (.int .i64 24) ∧ w' = w := by
 go_enter Tryz.func86, Tryz.ntmps86
 go_wp2_with (go_at_call 85; refine (width32 _).mono ?_; rintro e w' ⟨rfl, hw⟩; rw [hw])
 go_ret
 exact ⟨rfl, rfl⟩
theorem place32_1 (w : World) : Calls Tryz.prog 86 #[.int .i64 1] w fun e w' => e = .returned (.int .i64 16) ∧ w' = w := by
 go_enter Tryz.func86, Tryz.ntmps86
 go_wp2_with (go_at_call 85; refine (width32 _).mono ?_; rintro e w' ⟨rfl, hw⟩; rw [hw])
 go_ret
 exact ⟨rfl, rfl⟩
theorem place32_2 (w : World) : Calls Tryz.prog 86 #[.int .i64 2] w fun e w' => e = .returned (.int .i64 8) ∧ w' = w := by
 go_enter Tryz.func86, Tryz.ntmps86
 go_wp2_with (go_at_call 85; refine (width32 _).mono ?_; rintro e w' ⟨rfl, hw⟩; rw [hw])
 go_ret
 exact ⟨rfl, rfl⟩
theorem place32_3 (w : World) : Calls Tryz.prog 86 #[.int .i64 3] w fun e w' => e = .returned (.int .i64 0) ∧ w' = w := by
 go_enter Tryz.func86, Tryz.ntmps86
 go_wp2_with (go_at_call 85; refine (width32 _).mono ?_; rintro e w' ⟨rfl, hw⟩; rw [hw])
 go_ret
 exact ⟨rfl, rfl⟩
set_option maxHeartbeats 16000000 in
theorem lay32 (b c : Nat) (L : List Nat) (w : World) (hb : b < w.heap.size) (hc : ∀ (j x : Nat), L[j]? = some x → w.cell? ⟨b, j, none⟩ = some (.int .u32 (x : Int))) (h0 : 0 < L.length) (h1 : L.length ≤ 100) (hx : ∀ x ∈ L, x ≤ 4294967295) :
   Calls Tryz.prog 51 #[.slice (some ⟨b, 0, none⟩) L.length c] w fun e w' => e = .returned (.string (ofB (w4s L))) ∧ Below w.heap.size w w' := by
 have HC := Lib.hid hc
 have HX := Lib.hid hx
 have HLT := Lib.hid hb
 clear hc hx hb
 go_enter Tryz.func51, Tryz.ntmps51
 go_wp2
 go_loopw [3, 9] (fun v i wr => ∃ (k : Nat) (A : Option Addr) (c : Nat) (M : List Nat), i = .int .i64 (k : Int) ∧ v = .slice A M.length c ∧ M = w4s (L.take k) ∧ k ≤ L.length ∧ Own8 wr w.heap.size (.slice A M.length c) M ∧ Below w.heap.size w wr) (fun _ i _ => L.length - (intOf i).toNat)
 case atStart => exact ⟨0, none, 0, [], rfl, rfl, rfl, by omega, own8_nil _ _, Below.refl _ _⟩
 case round =>
   obtain ⟨k, A, c, M, rfl, rfl, hM, hk, hO, hB⟩ := hrel
   have HM := Lib.hid hM
   have hMl : M.length ≤ 400 := by rw [hM, w4s_len, List.length_take]; omega
   have HB := Lib.hid hB
   have HO := Lib.hid hO
   clear hM hB hO
   by_cases hlt : k < L.length
   · obtain ⟨x, hxk⟩ : ∃ x, L[k]? = some x := ⟨_, List.getElem?_eq_getElem hlt⟩
     have hx1 : x ≤ 4294967295 := HX.out x (List.mem_of_getElem? hxk)
     have d0 := (HB.out.cell (p := ⟨b, k, none⟩) HLT.out).trans (HC.out k x hxk)
     have d1 : wr.cell? ⟨b, 0 + k, none⟩ = some (.int .u32 (x : Int)) := by rw [Nat.zero_add]; exact d0
     have HS := Lib.hid (w4s_snoc hxk)
     clear hxk
     go_wp2_with (go_at_call 85; refine (width32 _).mono ?_; rintro e w' ⟨rfl, hw⟩; rw [hw])
     obtain ⟨wo, rfl⟩ : ∃ wo : World, wo = wr := ⟨_, rfl⟩
     clear d0 d1
     go_loopw [3, 14] (fun v i wr => ∃ (j : Nat) (A : Option Addr) (c : Nat) (N : List Nat), i = .int .i64 (j : Int) ∧ v = .slice A N.length c ∧ N = M ++ (w4 x).take j ∧ j ≤ 4 ∧ Own8 wr w.heap.size (.slice A N.length c) N ∧ Below w.heap.size w wr) (fun _ i _ => 4 - (intOf i).toNat)
     case atStart => exact ⟨0, A, c, M, rfl, rfl, by simp, by omega, HO.out, HB.out⟩
     case round =>
       obtain ⟨j, A, c, N, rfl, rfl, hN, hj, hO, hB⟩ := hrel
       have HN := Lib.hid hN
       have hNl : N.length ≤ 500 := by rw [hN, List.length_append, List.length_take]; omega
       have HB2 := Lib.hid hB
       have HO2 := Lib.hid hO
       have hs := hB.size
       clear hN hB hO
       by_cases c0 : j = 0
       · subst c0
         go_wp2_with (first | (go_at_call 86; refine (place32_0 _).mono ?_; rintro e w' ⟨rfl, hw⟩; rw [hw]) | (at_builtin; refine stop_here ?_))
         refine stop_go (app8 _ rfl _ _ rfl w.heap.size _ N rfl HO2.out (x / 16777216) _ (by omega) _ rfl rfl hs (by omega) ?_)
         intro A' c' w' hO' hB'
         go_wp2
         go_roundw
         case rel => exact ⟨1, A', c', N ++ [x / 16777216], by go_num, by simp, by rw [HN.out]; simp [w4], by omega, by simpa using hO', HB2.out.trans hB'⟩
         case measure => simp [intOf]
       by_cases c1 : j = 1
       · subst c1
         go_wp2_with (first | (go_at_call 86; refine (place32_1 _).mono ?_; rintro e w' ⟨rfl, hw⟩; rw [hw]) | (at_builtin; refine stop_here ?_))
         refine stop_go (app8 _ rfl _ _ rfl w.heap.size _ N rfl HO2.out (x / 65536 % 256) _ (by omega) _ rfl rfl hs (by omega) ?_)
         intro A' c' w' hO' hB'
         go_wp2
         go_roundw
         case rel => exact ⟨2, A', c', N ++ [x / 65536 % 256], by go_num, by simp, by rw [HN.out]; simp [w4], by omega, by simpa using hO', HB2.out.trans hB'⟩
         case measure => simp [intOf]
       by_cases c2 : j = 2
       · subst c2
         go_wp2_with (first | (go_at_call 86; refine (place32_2 _).mono ?_; rintro e w' ⟨rfl, hw⟩; rw [hw]) | (at_builtin; refine stop_here ?_))
         refine stop_go (app8 _ rfl _ _ rfl w.heap.size _ N rfl HO2.out (x / 256 % 256) _ (by omega) _ rfl rfl hs (by omega) ?_)
         intro A' c' w' hO' hB'
         go_wp2
         go_roundw
         case rel => exact ⟨3, A', c', N ++ [x / 256 % 256], by go_num, by simp, by rw [HN.out]; simp [w4], by omega, by simpa using hO', HB2.out.trans hB'⟩
         case measure => simp [intOf]
       by_cases c3 : j = 3
       · subst c3
         go_wp2_with (first | (go_at_call 86; refine (place32_3 _).mono ?_; rintro e w' ⟨rfl, hw⟩; rw [hw]) | (at_builtin; refine stop_here ?_))
         refine stop_go (app8 _ rfl _ _ rfl w.heap.size _ N rfl HO2.out (x % 256) _ (by omega) _ rfl rfl hs (by omega) ?_)
         intro A' c' w' hO' hB'
         go_wp2
         go_roundw
         case rel => exact ⟨4, A', c', N ++ [x % 256], by go_num, by simp, by rw [HN.out]; simp [w4], by omega, by simpa using hO', HB2.out.trans hB'⟩
         case measure => simp [intOf]
       obtain rfl : j = 4 := by omega
       have e : N = w4s (L.take (k + 1)) := by rw [HN.out, HS.out, HM.out]; simp [w4]
       have HE := Lib.hid e
       clear e
       go_wp2
       go_roundw
       case rel => exact ⟨k + 1, A, c, N, by go_num, rfl, HE.out, by omega, HO2.out, HB2.out⟩
       case measure => simp [intOf]; omega
   · obtain rfl : k = L.length := by omega
     have e : M = w4s L := by rw [HM.out, List.take_of_length_le (Nat.le_refl _)]
     subst e
     have hcv := str8 HO.out rfl (by first | exact h0 | (rw [w4s_len]; omega)) (w4s_le HX.out)
     go_wp2
     go_ret
     exact ⟨rfl, HB.out⟩
theorem layH32 {L : List Nat} {v : Value} {w : World} (h : HoldK .u32 L v w) (h0 : 0 < L.length) (h1 : L.length ≤ 100) (hx : ∀ x ∈ L, x ≤ 4294967295) : Calls Tryz.prog 51 #[v] w fun e w' => e = .returned (.string (ofB (w4s L))) ∧ Below w.heap.size w w' := by
 obtain ⟨b, rfl, hb, hc⟩ := h
 exact lay32 b L.length L w hb hc h0 h1 hx
end Go.Proofs.YtpmnmnflaijaaaaGreat.Num
namespace Go.Proofs.YtpmnmnflaijaaaaGreat.Num
open Go.RowKit Own TupMath IpMath Litb Bytes Rel
set_option linter.unusedVariables false
set_option maxRecDepth 100000
set_option maxHeartbeats 16000000 in
theorem at32 (s : ByteArray) (i y0 y1 y2 y3 : Nat) (w : World) (h : i + 4 ≤ s.size) (hs : s.size ≤ 1000000) (e0 : (bz s)[i + 0]? = some y0) (e1 : (bz s)[i + 1]? = some y1) (e2 : (bz s)[i + 2]? = some y2) (e3 : (bz s)[i + 3]? = some y3) :
   Calls Tryz.prog 80 #[.string s, .int .i64 (i : Int)] w fun e w' => e = .returned (.int .u32 ((y0 * 16777216 + y1 * 65536 + y2 * 256 + y3 : Nat) : Int)) ∧ Below w.heap.size w w' := by
 have q0 : y0 ≤ 255 := bz_le s _ (List.mem_of_getElem? e0)
 have z0 : s[i + 0].toNat = y0 := by have a := bz_at s (i + 0) (by omega); rw [a] at e0; exact Option.some.inj e0
 have q1 : y1 ≤ 255 := bz_le s _ (List.mem_of_getElem? e1)
 have z1 : s[i + 1].toNat = y1 := by have a := bz_at s (i + 1) (by omega); rw [a] at e1; exact Option.some.inj e1
 have q2 : y2 ≤ 255 := bz_le s _ (List.mem_of_getElem? e2)
 have z2 : s[i + 2].toNat = y2 := by have a := bz_at s (i + 2) (by omega); rw [a] at e2; exact Option.some.inj e2
 have q3 : y3 ≤ 255 := bz_le s _ (List.mem_of_getElem? e3)
 have z3 : s[i + 3].toNat = y3 := by have a := bz_at s (i + 3) (by omega); rw [a] at e3; exact Option.some.inj e3
 have z00 : s[i].toNat = y0 := z0
 clear e0 e1 e2 e3 z0
 have hneg : ¬ (i : Int) < 0 := by omega
 have hgt : ¬ (s.size : Int) - 4 < (i : Int) := by omega
 go_enter Tryz.func80, Tryz.ntmps80
 go_wp2_with (go_at_call 85; refine (width32 _).mono ?_; rintro e w' ⟨rfl, hw⟩; rw [hw])
 clear hneg hgt
 go_loopw [5, 19] (fun n i wr => ∃ k : Nat, i = .int .i64 (k : Int) ∧ k ≤ 4 ∧ n = .int .u32 (((if k = 0 then 0 else if k = 1 then y0 * 16777216 else if k = 2 then y0 * 16777216 + y1 * 65536 else if k = 3 then y0 * 16777216 + y1 * 65536 + y2 * 256 else y0 * 16777216 + y1 * 65536 + y2 * 256 + y3 : Nat)) : Int) ∧ Below w.heap.size w wr) (fun _ i _ => 4 - (intOf i).toNat)
 case atStart => exact ⟨0, rfl, by omega, rfl, Below.refl _ _⟩
 case round =>
   obtain ⟨k, rfl, hk, rfl, hB⟩ := hrel
   have HB := Lib.hid hB
   clear hB
   have o1 : bits .or .u32 (0) ((y0 : Int) * 16777216) = (y0 : Int) * 16777216 := by
     have h := u32_or_nat (0) (y0 * 16777216) (by omega) (by omega)
     rw [Nat.zero_or] at h
     simpa using h
   have o2 : bits .or .u32 ((y0 : Int) * 16777216) ((y1 : Int) * 65536) = (y0 : Int) * 16777216 + (y1 : Int) * 65536 := by
     have h := u32_or_nat (y0 * 16777216) (y1 * 65536) (by omega) (by omega)
     have e := or_add (y0) (y1 * 65536) 24 (by omega)
     rw [show 2 ^ 24 * (y0) = y0 * 16777216 by omega] at e
     rw [e] at h
     simpa using h
   have o3 : bits .or .u32 ((y0 : Int) * 16777216 + (y1 : Int) * 65536) ((y2 : Int) * 256) = (y0 : Int) * 16777216 + (y1 : Int) * 65536 + (y2 : Int) * 256 := by
     have h := u32_or_nat (y0 * 16777216 + y1 * 65536) (y2 * 256) (by omega) (by omega)
     have e := or_add (y0 * 256 + y1) (y2 * 256) 16 (by omega)
     rw [show 2 ^ 16 * (y0 * 256 + y1) = y0 * 16777216 + y1 * 65536 by omega] at e
     rw [e] at h
     simpa using h
   have o4 : bits .or .u32 ((y0 : Int) * 16777216 + (y1 : Int) * 65536 + (y2 : Int) * 256) ((y3 : Int)) = (y0 : Int) * 16777216 + (y1 : Int) * 65536 + (y2 : Int) * 256 + (y3 : Int) := by
     have h := u32_or_nat (y0 * 16777216 + y1 * 65536 + y2 * 256) (y3) (by omega) (by omega)
     have e := or_add (y0 * 65536 + y1 * 256 + y2) (y3) 8 (by omega)
     rw [show 2 ^ 8 * (y0 * 65536 + y1 * 256 + y2) = y0 * 16777216 + y1 * 65536 + y2 * 256 by omega] at e
     rw [e] at h
     simpa using h
   by_cases c0 : k = 0
   · subst c0
     go_wp2
     go_quiet ((go_at_call 86; exact Calls.quiet_of_same (place32_0 _)))
     go_wp2
     go_roundw
     case rel => exact ⟨1, by go_num, by omega, by simp, below_drewN HB.out _⟩
     case measure => simp [intOf]
   by_cases c1 : k = 1
   · subst c1
     go_wp2
     go_quiet ((go_at_call 86; exact Calls.quiet_of_same (place32_1 _)))
     go_wp2
     go_roundw
     case rel => exact ⟨2, by go_num, by omega, by simp, below_drewN HB.out _⟩
     case measure => simp [intOf]
   by_cases c2 : k = 2
   · subst c2
     have n1 : 0 ≤ (i : Int) + 2 := by omega
     have n2 : ((i : Int) + 2).toNat = i + 2 := by omega
     have n3 : IntKind.i64.wrap ((i : Int) + 2) = (i : Int) + 2 := IntWalk.i64_in _ (by omega)
     go_wp2
     go_quiet ((go_at_call 86; exact Calls.quiet_of_same (place32_2 _)))
     clear n1 n2 n3
     go_wp2
     go_roundw
     case rel => exact ⟨3, by go_num, by omega, by simp, below_drewN HB.out _⟩
     case measure => simp [intOf]
   by_cases c3 : k = 3
   · subst c3
     have n1 : 0 ≤ (i : Int) + 3 := by omega
     have n2 : ((i : Int) + 3).toNat = i + 3 := by omega
     have n3 : IntKind.i64.wrap ((i : Int) + 3) = (i : Int) + 3 := IntWalk.i64_in _ (by omega)
     go_wp2
     go_quiet ((go_at_call 86; exact Calls.quiet_of_same (place32_3 _)))
     clear n1 n2 n3
     go_wp2
     go_roundw
     case rel => exact ⟨4, by go_num, by omega, by simp, below_drewN HB.out _⟩
     case measure => simp [intOf]
   obtain rfl : k = 4 := by omega
   go_wp2
   go_ret
   exact ⟨rfl, HB.out⟩
end Go.Proofs.YtpmnmnflaijaaaaGreat.Num
