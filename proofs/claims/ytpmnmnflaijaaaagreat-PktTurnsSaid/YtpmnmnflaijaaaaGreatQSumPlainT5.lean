/-
  Laws for a proof of package pkt: 5 texts in one.
-/
import Derived.Test.YtpmnmnflaijaaaaGreatQTcpMath5
import Derived.WalkKit
import Derived.ProofKit
import Derived.IntWalk
import Derived.Deep.LoopGhost
import Derived.BigQuiet
import Derived.Deep.QuietTactic
import Derived.Deep.RegionWith
import Derived.Lib.Hide
import Derived.Laws.BitsAllLaws
import Derived.Test.YtpmnmnflaijaaaaGreatChecked
namespace Go.Proofs.YtpmnmnflaijaaaaGreat.SumPlain
open Go.RowKit SumMath
set_option linter.unusedVariables false
set_option maxRecDepth 100000
theorem ret_bool {a b : Bool} (h : a = b) : Ending.returned (.bool a) = .returned (.bool b) := by rw [h]
theorem ret_int {k : IntKind} {a b : Int} (h : a = b) : Ending.returned (.int k a) = .returned (.int k b) := by rw [h]
theorem wrap16 (n : Int) : IntKind.u16.wrap n = n % 65536 := rfl
theorem wrap64u (n : Int) : IntKind.u64.wrap n = n % 18446744073709551616 := rfl
theorem xor16 (a : Nat) (ha : a ≤ 65535) : bits .xor .u16 IntKind.u16.max (a : Int) = ((65535 - a : Nat) : Int) := by
 show IntKind.u16.wrap ((BitVec.ofInt 16 (65535 : Int) ^^^ BitVec.ofInt 16 (a : Int)).toNat : Int) = _
 have h : BitVec.ofInt 16 (65535 : Int) = BitVec.allOnes 16 := by decide
 rw [h, BitVec.allOnes_xor, BitVec.toNat_not, ofInt_u16 a (by omega), IntKind.wrap_u16]
 omega
theorem or_add (h l : Nat) (hl : l ≤ 255) : h * 256 ||| l = h * 256 + l := by
 have e : h * 256 = h <<< 8 := by rw [Nat.shiftLeft_eq]
 rw [e, ← Nat.shiftLeft_add_eq_or_of_lt (by omega : l < 2 ^ 8)]
theorem or16w (h l : Nat) (hh : h ≤ 255) (hl : l ≤ 255) : bits .or .u16 ((h * 256 : Nat) : Int) (l : Int) = ((h * 256 + l : Nat) : Int) := by
 rw [u16_or_nat _ _ (by omega) (by omega), or_add h l hl]
theorem shl16 (h : Nat) (hh : h ≤ 255) : IntKind.u16.wrap (IntKind.u16.wrap (h : Int) * 256) = ((h * 256 : Nat) : Int) := by
 simp only [wrap16]; omega
theorem low16 (l : Nat) (hl : l ≤ 255) : IntKind.u16.wrap (l : Int) = (l : Int) := by
 simp only [wrap16]; omega
def bz (s : ByteArray) : List Nat := s.data.toList.map UInt8.toNat
theorem bz_len (s : ByteArray) : (bz s).length = s.size := by
 unfold bz; rw [List.length_map, Array.length_toList]; rfl
theorem bz_le (s : ByteArray) : ∀ x ∈ bz s, x ≤ 255 := by
 intro x hx
 unfold bz at hx
 obtain ⟨y, _, rfl⟩ := List.mem_map.1 hx
 have := y.toNat_lt
 omega
theorem bz_at (s : ByteArray) (i : Nat) (h : i < s.size) : (bz s)[i]? = some s[i].toNat := by
 unfold bz
 rw [List.getElem?_map, Array.getElem?_toList, Array.getElem?_eq_getElem h]
 rfl
theorem bz_none (s : ByteArray) (i : Nat) (h : s.size ≤ i) : (bz s)[i]? = none := List.getElem?_eq_none (by rw [bz_len]; exact h)
theorem wAt_two (s : ByteArray) (i : Nat) (h : i + 1 < s.size) : wAt (bz s) i = s[i].toNat * 256 + s[i + 1].toNat := by
 unfold wAt; rw [bz_at s i (by omega), bz_at s (i + 1) h]; simp only [Option.getD_some]
theorem wAt_one (s : ByteArray) (i : Nat) (h : i < s.size) (h' : s.size ≤ i + 1) : wAt (bz s) i = s[i].toNat * 256 := by
 unfold wAt; rw [bz_at s i h, bz_none s (i + 1) h']; simp only [Option.getD_some, Option.getD_none, Nat.add_zero]
theorem byte_le (x : UInt8) : x.toNat ≤ 255 := by have := x.toNat_lt; omega
set_option maxHeartbeats 1000000 in
theorem onesR_any (a : Nat) (w : World) (ha : a ≤ 9223372036854775807) : Calls Tryz.prog 95 #[.int .u64 (a : Int)] w fun e w' => e = .returned (.int .u64 ((ones a : Nat) : Int)) ∧ w = w' := by
 go_enter Tryz.func95, Tryz.ntmps95
 go_wp2
 go_loop [0] (fun i => ∃ k : Nat, k ≤ 9223372036854775807 ∧ i = .int .u64 (k : Int) ∧ ones k = ones a) (fun i => (intOf i).toNat)
 case atStart => exact ⟨a, ha, rfl, rfl⟩
 case round =>
   obtain ⟨k, hk, rfl, ho⟩ := hrel
   have HO := Lib.hid ho
   clear ho
   go_wp2
   · have hkk : 65535 < k := by have : (65535 : Int) < k := by assumption
                                omega
     go_round
     case rel => exact ⟨k % 65536 + k / 65536, by omega, by congr 1, by rw [ones_fold hkk, HO.out]⟩
     case measure => simp only [intOf]; omega
   · go_ret
     have hkk : k ≤ 65535 := by have : (k : Int) ≤ 65535 := by assumption
                                omega
     exact ⟨ret_int (by rw [← HO.out, ones_small hkk]), rfl⟩
set_option maxHeartbeats 1000000 in
theorem wordR_any (s : ByteArray) (i : Nat) (w : World) (hi : i < s.size) (hs : s.size ≤ 9223372036854775807) : Calls Tryz.prog 61 #[.string s, .int .i64 (i : Int)] w fun e w' => e = .returned (.int .u64 ((wAt (bz s) i : Nat) : Int)) ∧ w = w' := by
 by_cases h : i + 1 < s.size
 · rw [wAt_two s i h]
   go_enter Tryz.func61, Tryz.ntmps61
   go_wp2
   go_ret
   have h1 := byte_le s[i]
   have h2 := byte_le s[i + 1]
   exact ⟨ret_int (by simp only [wrap64u]; omega), rfl⟩
 · rw [wAt_one s i hi (by omega)]
   go_enter Tryz.func61, Tryz.ntmps61
   go_wp2
   go_ret
   have h1 := byte_le s[i]
   exact ⟨ret_int (by simp only [wrap64u]; omega), rfl⟩
theorem wsum_le : ∀ (l : List Nat), (∀ x ∈ l, x ≤ 255) → wsum l ≤ 65535 * l.length
 | [], _ => by simp [wsum]
 | [x], h => by have := h x (by simp); simp [wsum]; omega
 | x :: y :: r, h => by
   have h1 := h x (by simp)
   have h2 := h y (by simp)
   have ih := wsum_le r fun z hz => h z (by simp [hz])
   simp only [wsum, List.length_cons]
   omega
set_option maxHeartbeats 1000000 in
theorem ofR_any (s : ByteArray) (w : World) (hs : s.size ≤ 1000000) : Calls Tryz.prog 91 #[.string s] w fun e w' => e = .returned (.int .u16 ((cs (bz s) : Nat) : Int)) ∧ w = w' := by
 have hle := wsum_le (bz s) (bz_le s)
 have HL := Lib.hid hle
 clear hle
 have HZ := Lib.hid (bz_len s)
 have H1 := Lib.hid (ones_le (wsum (bz s)))
 go_enter Tryz.func91, Tryz.ntmps91
 go_wp2
 go_loop [3, 4] (fun x i => ∃ k m : Nat, i = .int .i64 (k : Int) ∧ x = .int .u64 (m : Int) ∧ m + wsum ((bz s).drop k) = wsum (bz s) ∧ k ≤ s.size + 1) (fun x i => s.size + 2 - (intOf i).toNat)
 case atStart => exact ⟨0, 0, rfl, rfl, by simp, by omega⟩
 case round =>
   obtain ⟨k, m, rfl, rfl, he, hk⟩ := hrel
   have HE := Lib.hid he
   clear he
   by_cases hlt : k < s.size
   · have hd := wsum_drop (bz s) k (by rw [HZ.out]; exact hlt)
     have HD := Lib.hid hd
     clear hd
     have hb : m + wAt (bz s) k ≤ 100000000000 := by have := HE.out; have := HD.out; have := HL.out; have := HZ.out; omega
     generalize hwa : wAt (bz s) k = wa at hb
     have HW := Lib.hid hwa
     clear hwa
     go_wp2_with fail
     refine (wordR_any s k _ hlt (by omega)).mono ?_
     rintro e w' ⟨rfl, rfl⟩
     rw [HW.out]
     go_wp2_with fail
     go_round
     case rel => exact ⟨k + 2, m + wa, by go_num, by go_num, by have := HE.out; have := HD.out; have := HW.out; omega, by omega⟩
     case measure => simp only [intOf]; omega
   · have hz : m = wsum (bz s) := by have := HE.out; rw [List.drop_of_length_le (by rw [HZ.out]; omega)] at this; simpa [wsum] using this
     have hmb : m ≤ 100000000000 := by have := HL.out; have := HZ.out; omega
     have HM := Lib.hid hz
     clear hz
     go_wp2_with fail
     refine (onesR_any m _ (by omega)).mono ?_
     rintro e w' ⟨rfl, rfl⟩
     rw [HM.out]
     go_wp2_with fail
     go_ret
     exact ⟨ret_int (by have := H1.out; simp only [wrap16, wrap64u, cs]; omega), rfl⟩
end Go.Proofs.YtpmnmnflaijaaaaGreat.SumPlain
namespace Go.Proofs.YtpmnmnflaijaaaaGreat.SumPlain
open Go.RowKit SumMath
set_option linter.unusedVariables false
set_option maxRecDepth 100000
set_option maxHeartbeats 1000000 in
theorem plus_any (a b : Nat) (w : World) (ha : a ≤ 65535) (hb : b ≤ 65535) : Calls Tryz.prog 98 #[.int .u16 (a : Int), .int .u16 (b : Int)] w fun e w' => e = .returned (.int .u16 ((ones (a + b) : Nat) : Int)) ∧ w = w' := by
 rw [← pl_ones ha hb]
 go_enter Tryz.func98, Tryz.ntmps98
 go_wp2
 go_ret
 exact ⟨ret_int (by simp only [wrap16]; unfold pl; omega), rfl⟩
end Go.Proofs.YtpmnmnflaijaaaaGreat.SumPlain
namespace Go.Proofs.YtpmnmnflaijaaaaGreat.SumPlain
open Go.RowKit SumMath
set_option linter.unusedVariables false
theorem bz_extract (s : ByteArray) (a b : Nat) (hb : b ≤ s.size) : bz (s.extract a b) = ((bz s).take b).drop a := by
 unfold bz
 rw [ByteArray.data_extract, Array.toList_extract]
 simp [List.extract, List.map_take, List.map_drop, List.drop_take]
theorem ext_size (s : ByteArray) (n : Nat) (h : n ≤ s.size) : (s.extract 0 n).size = n := by rw [ByteArray.size_extract]; omega
theorem drew_more {w wr : World} (h : ∃ q, wr = w.drewN q) (n : Nat) : ∃ q, wr.drewN n = w.drewN q := by
 obtain ⟨q, rfl⟩ := h
 exact ⟨q + n, World.drewN_drewN _ _ _⟩
theorem ext_all (s : ByteArray) : s.extract 0 s.size = s := by simp
theorem bz_ext0 (s : ByteArray) (n : Nat) (h : n ≤ s.size) : bz (s.extract 0 n) = (bz s).take n := by rw [bz_extract s 0 n h]; rfl
end Go.Proofs.YtpmnmnflaijaaaaGreat.SumPlain
namespace Go.Proofs.YtpmnmnflaijaaaaGreat.SumPlain
open Go.RowKit SumMath
set_option linter.unusedVariables false
set_option maxRecDepth 100000
set_option maxHeartbeats 1000000 in
theorem turn_any (s a b : Nat) (w : World) (hs : s ≤ 65535) (ha : a ≤ 65535) (hb : b ≤ 65535) : Calls Tryz.prog 84 #[.int .u16 (s : Int), .int .u16 (a : Int), .int .u16 (b : Int)] w fun e w' => e = .returned (.int .u16 ((tu s a b : Nat) : Int)) ∧ w = w' := by
 go_enter Tryz.func84, Tryz.ntmps84
 go_wp2_with fail
 rw [xor16 s hs, xor16 a ha]
 refine (plus_any (65535 - s) (65535 - a) _ (by omega) (by omega)).mono ?_
 rintro e w' ⟨rfl, rfl⟩
 go_wp2_with fail
 refine (plus_any _ b _ (ones_le _) hb).mono ?_
 rintro e w' ⟨rfl, rfl⟩
 go_wp2_with fail
 go_ret
 exact ⟨ret_int (by rw [xor16 _ (ones_le _), ones_add]; rfl), rfl⟩
set_option maxHeartbeats 1000000 in
theorem word_any (s : ByteArray) (w : World) (hi : 0 < s.size) (hs : s.size ≤ 9223372036854775807) : Calls Tryz.prog 109 #[.string s] w fun e w' => e = .returned (.int .u16 ((wAt (bz s) 0 : Nat) : Int)) ∧ w = w' := by
 by_cases h : 1 < s.size
 · rw [wAt_two s 0 h]
   go_enter Tryz.func109, Tryz.ntmps109
   go_wp2
   go_ret
   exact ⟨ret_int (by rw [shl16 _ (byte_le _), low16 _ (byte_le _), or16w _ _ (byte_le _) (byte_le _)]), rfl⟩
 · rw [wAt_one s 0 hi (by omega)]
   go_enter Tryz.func109, Tryz.ntmps109
   go_wp2
   go_ret
   exact ⟨ret_int (by rw [shl16 _ (byte_le _)]), rfl⟩
end Go.Proofs.YtpmnmnflaijaaaaGreat.SumPlain
namespace Go.Proofs.YtpmnmnflaijaaaaGreat.SumPlain
open Go.RowKit SumMath
set_option linter.unusedVariables false
set_option maxRecDepth 100000
set_option maxHeartbeats 1000000 in
theorem turnR_any (s a b : Nat) (w : World) (hs : s ≤ 65535) (ha : a ≤ 65535) (hb : b ≤ 65535) : Calls Tryz.prog 60 #[.int .u16 (s : Int), .int .u16 (a : Int), .int .u16 (b : Int)] w fun e w' => e = .returned (.int .u16 ((tu s a b : Nat) : Int)) ∧ w = w' := by
 have e1 : (131070 : Int) - s - a + b = (((65535 - s) + (65535 - a) + b : Nat) : Int) := by omega
 have HE := Lib.hid e1
 clear e1
 have h1 := ones_le ((65535 - s) + (65535 - a) + b)
 have H1 := Lib.hid h1
 go_enter Tryz.func60, Tryz.ntmps60
 go_wp2_with fail
 rw [HE.out]
 refine (onesR_any _ _ (by omega)).mono ?_
 rintro e w' ⟨rfl, rfl⟩
 go_wp2_with fail
 go_ret
 exact ⟨ret_int (by simp only [tu]; omega), rfl⟩
set_option maxHeartbeats 2000000 in
theorem turnsR_le (s : Nat) (x y : ByteArray) (n : Nat) (w : World) (hs : s ≤ 65535) (hx : x.size ≤ 1000000) (hy : y.size ≤ 1000000) (hc : x.size ≤ y.size) (hn : n = x.size) :
   Calls Tryz.prog 28 #[.int .u16 (s : Int), .string x, .string y] w fun e w' => e = .returned (.int .u16 ((tus s ((bz x).take n) ((bz y).take n) ((n + 1) / 2) : Nat) : Int)) ∧ ∃ q, w' = w.drewN q := by
 obtain ⟨X, hX⟩ : ∃ X, (bz x).take n = X := ⟨_, rfl⟩
 obtain ⟨Y, hY⟩ : ∃ Y, (bz y).take n = Y := ⟨_, rfl⟩
 have HW := Lib.hid (fun (i : Nat) (w : World) (hi : i < n) => (show Calls Tryz.prog 61 #[.string (x.extract 0 n), .int .i64 (i : Int)] w fun e w' => e = .returned (.int .u64 ((wAt X i : Nat) : Int)) ∧ w = w' by
   have h1 := wordR_any (x.extract 0 n) i w (by rw [ext_size _ _ (by omega)]; exact hi) (by rw [ext_size _ _ (by omega)]; omega)
   rw [bz_ext0 _ _ (by omega), hX] at h1
   exact h1))
 have HV := Lib.hid (fun (i : Nat) (w : World) (hi : i < n) => (show Calls Tryz.prog 61 #[.string (y.extract 0 n), .int .i64 (i : Int)] w fun e w' => e = .returned (.int .u64 ((wAt Y i : Nat) : Int)) ∧ w = w' by
   have h1 := wordR_any (y.extract 0 n) i w (by rw [ext_size _ _ (by omega)]; exact hi) (by rw [ext_size _ _ (by omega)]; omega)
   rw [bz_ext0 _ _ (by omega), hY] at h1
   exact h1))
 have HXl := Lib.hid (fun i => wAt_le (l := X) (fun z hz => bz_le x z (by rw [← hX] at hz; exact List.mem_of_mem_take hz)) i)
 have HYl := Lib.hid (fun i => wAt_le (l := Y) (fun z hz => bz_le y z (by rw [← hY] at hz; exact List.mem_of_mem_take hz)) i)
 rw [hX, hY]
 clear hX hY
 subst hn
 go_enter Tryz.func28, Tryz.ntmps28
 go_wp2_with fail
 go_loopw [0, 8] (fun t i wr => ∃ k v : Nat, i = .int .i64 (2 * (k : Int)) ∧ t = .int .u16 (v : Int) ∧ v = tus s X Y k ∧ v ≤ 65535 ∧ 2 * k ≤ x.size + 1 ∧ ∃ q, wr = w.drewN q) (fun t i _ => x.size + 2 - (intOf i).toNat)
 case atStart => exact ⟨0, s, rfl, rfl, rfl, hs, by omega, 0, rfl⟩
 case round =>
   obtain ⟨k, v, rfl, rfl, hv, hvl, hk, hq⟩ := hrel
   have HVV := Lib.hid hv
   have HQ := Lib.hid hq
   clear hv hq
   by_cases hlt : 2 * k < x.size
   · have cW := fun W => HW.out (2 * k) W hlt
     have cV := fun W => HV.out (2 * k) W hlt
     have ec : ((2 * k : Nat) : Int) = 2 * (k : Int) := by omega
     rw [ec] at cW cV
     rw [show x.extract 0 x.size = x from ext_all x] at cW
     clear ec
     have lW := HXl.out (2 * k)
     have lV := HYl.out (2 * k)
     have ht : tus s X Y (k + 1) = tu (tus s X Y k) (wAt X (2 * k)) (wAt Y (2 * k)) := rfl
     rw [← HVV.out] at ht
     have HT := Lib.hid ht
     clear ht
     generalize hwa : wAt X (2 * k) = wa at cW lW
     generalize hwb : wAt Y (2 * k) = wb at cV lV
     have HA := Lib.hid hwa
     have HB := Lib.hid hwb
     have CW := Lib.hid cW
     have CV := Lib.hid cV
     obtain ⟨tv, htv⟩ : ∃ tv, tu v wa wb = tv := ⟨_, rfl⟩
     have CT : Hid (∀ W : World, Calls Tryz.prog 60 #[.int .u16 (v : Int), .int .u16 (wa : Int), .int .u16 (wb : Int)] W fun e w' => e = .returned (.int .u16 (tv : Int)) ∧ W = w') := Lib.hid (fun W => by
       rw [← htv]
       exact turnR_any v wa wb W hvl lW lV)
     have HTV := Lib.hid htv
     have HTL := Lib.hid (show tv ≤ 65535 by rw [← htv]; exact tu_le _ _ _)
     clear htv
     clear hwa hwb cW cV
     go_wp2_with fail
     go_quiet (first | (go_at_call_of 61 (Value.string x); exact Calls.quiet_of_same ((CW.out _).mono fun e w' h => ⟨h.1, h.2.symm⟩)) | (go_at_call_of 61 (Value.string (y.extract 0 x.size)); exact Calls.quiet_of_same ((CV.out _).mono fun e w' h => ⟨h.1, h.2.symm⟩)) | (go_at_call 60; exact Calls.quiet_of_same ((CT.out _).mono fun e w' h => ⟨h.1, h.2.symm⟩)))
     go_wp2_with fail
     go_roundw
     case rel => exact ⟨k + 1, tv, by go_num, rfl, by rw [HT.out, HA.out, HB.out, HTV.out], HTL.out, by omega, drew_more HQ.out nq⟩
     case measure => simp only [intOf]; omega
   · have hk2 : k = (x.size + 1) / 2 := by omega
     have HK := Lib.hid hk2
     clear hk2
     go_wp2_with fail
     go_ret
     exact ⟨ret_int (by rw [HVV.out, HK.out]), HQ.out⟩
set_option maxHeartbeats 2000000 in
theorem turnsR_ge (s : Nat) (x y : ByteArray) (n : Nat) (w : World) (hs : s ≤ 65535) (hx : x.size ≤ 1000000) (hy : y.size ≤ 1000000) (hc : y.size < x.size) (hn : n = y.size) :
   Calls Tryz.prog 28 #[.int .u16 (s : Int), .string x, .string y] w fun e w' => e = .returned (.int .u16 ((tus s ((bz x).take n) ((bz y).take n) ((n + 1) / 2) : Nat) : Int)) ∧ ∃ q, w' = w.drewN q := by
 obtain ⟨X, hX⟩ : ∃ X, (bz x).take n = X := ⟨_, rfl⟩
 obtain ⟨Y, hY⟩ : ∃ Y, (bz y).take n = Y := ⟨_, rfl⟩
 have HW := Lib.hid (fun (i : Nat) (w : World) (hi : i < n) => (show Calls Tryz.prog 61 #[.string (x.extract 0 n), .int .i64 (i : Int)] w fun e w' => e = .returned (.int .u64 ((wAt X i : Nat) : Int)) ∧ w = w' by
   have h1 := wordR_any (x.extract 0 n) i w (by rw [ext_size _ _ (by omega)]; exact hi) (by rw [ext_size _ _ (by omega)]; omega)
   rw [bz_ext0 _ _ (by omega), hX] at h1
   exact h1))
 have HV := Lib.hid (fun (i : Nat) (w : World) (hi : i < n) => (show Calls Tryz.prog 61 #[.string (y.extract 0 n), .int .i64 (i : Int)] w fun e w' => e = .returned (.int .u64 ((wAt Y i : Nat) : Int)) ∧ w = w' by
   have h1 := wordR_any (y.extract 0 n) i w (by rw [ext_size _ _ (by omega)]; exact hi) (by rw [ext_size _ _ (by omega)]; omega)
   rw [bz_ext0 _ _ (by omega), hY] at h1
   exact h1))
 have HXl := Lib.hid (fun i => wAt_le (l := X) (fun z hz => bz_le x z (by rw [← hX] at hz; exact List.mem_of_mem_take hz)) i)
 have HYl := Lib.hid (fun i => wAt_le (l := Y) (fun z hz => bz_le y z (by rw [← hY] at hz; exact List.mem_of_mem_take hz)) i)
 rw [hX, hY]
 clear hX hY
 subst hn
 have hc2 : y.size ≤ x.size := by omega
 go_enter Tryz.func28, Tryz.ntmps28
 go_wp2_with fail
 go_loopw [0, 8] (fun t i wr => ∃ k v : Nat, i = .int .i64 (2 * (k : Int)) ∧ t = .int .u16 (v : Int) ∧ v = tus s X Y k ∧ v ≤ 65535 ∧ 2 * k ≤ y.size + 1 ∧ ∃ q, wr = w.drewN q) (fun t i _ => y.size + 2 - (intOf i).toNat)
 case atStart => exact ⟨0, s, rfl, rfl, rfl, hs, by omega, 0, rfl⟩
 case round =>
   obtain ⟨k, v, rfl, rfl, hv, hvl, hk, hq⟩ := hrel
   have HVV := Lib.hid hv
   have HQ := Lib.hid hq
   clear hv hq
   by_cases hlt : 2 * k < y.size
   · have cW := fun W => HW.out (2 * k) W hlt
     have cV := fun W => HV.out (2 * k) W hlt
     have ec : ((2 * k : Nat) : Int) = 2 * (k : Int) := by omega
     rw [ec] at cW cV
     rw [show y.extract 0 y.size = y from ext_all y] at cV
     clear ec
     have lW := HXl.out (2 * k)
     have lV := HYl.out (2 * k)
     have ht : tus s X Y (k + 1) = tu (tus s X Y k) (wAt X (2 * k)) (wAt Y (2 * k)) := rfl
     rw [← HVV.out] at ht
     have HT := Lib.hid ht
     clear ht
     generalize hwa : wAt X (2 * k) = wa at cW lW
     generalize hwb : wAt Y (2 * k) = wb at cV lV
     have HA := Lib.hid hwa
     have HB := Lib.hid hwb
     have CW := Lib.hid cW
     have CV := Lib.hid cV
     obtain ⟨tv, htv⟩ : ∃ tv, tu v wa wb = tv := ⟨_, rfl⟩
     have CT : Hid (∀ W : World, Calls Tryz.prog 60 #[.int .u16 (v : Int), .int .u16 (wa : Int), .int .u16 (wb : Int)] W fun e w' => e = .returned (.int .u16 (tv : Int)) ∧ W = w') := Lib.hid (fun W => by
       rw [← htv]
       exact turnR_any v wa wb W hvl lW lV)
     have HTV := Lib.hid htv
     have HTL := Lib.hid (show tv ≤ 65535 by rw [← htv]; exact tu_le _ _ _)
     clear htv
     clear hwa hwb cW cV
     go_wp2_with fail
     go_quiet (first | (go_at_call_of 61 (Value.string (x.extract 0 y.size)); exact Calls.quiet_of_same ((CW.out _).mono fun e w' h => ⟨h.1, h.2.symm⟩)) | (go_at_call_of 61 (Value.string y); exact Calls.quiet_of_same ((CV.out _).mono fun e w' h => ⟨h.1, h.2.symm⟩)) | (go_at_call 60; exact Calls.quiet_of_same ((CT.out _).mono fun e w' h => ⟨h.1, h.2.symm⟩)))
     go_wp2_with fail
     go_roundw
     case rel => exact ⟨k + 1, tv, by go_num, rfl, by rw [HT.out, HA.out, HB.out, HTV.out], HTL.out, by omega, drew_more HQ.out nq⟩
     case measure => simp only [intOf]; omega
   · have hk2 : k = (y.size + 1) / 2 := by omega
     have HK := Lib.hid hk2
     clear hk2
     go_wp2_with fail
     go_ret
     exact ⟨ret_int (by rw [HVV.out, HK.out]), HQ.out⟩
theorem turnsR_any (s : Nat) (x y : ByteArray) (w : World) (hs : s ≤ 65535) (hx : x.size ≤ 1000000) (hy : y.size ≤ 1000000) :
   Calls Tryz.prog 28 #[.int .u16 (s : Int), .string x, .string y] w fun e w' => e = .returned (.int .u16 ((tus s ((bz x).take (min x.size y.size)) ((bz y).take (min x.size y.size)) ((min x.size y.size + 1) / 2) : Nat) : Int)) ∧ ∃ q, w' = w.drewN q := by
 rcases Nat.lt_or_ge y.size x.size with h | h
 rotate_left
 · exact turnsR_le s x y _ w hs hx hy h (by omega)
 · exact turnsR_ge s x y _ w hs hx hy h (by omega)
end Go.Proofs.YtpmnmnflaijaaaaGreat.SumPlain
