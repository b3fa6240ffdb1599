/-
  What the document's own answers of layer 1 come to, and that the statements' known answers hold.
-/
import Derived.Test.YtjjdjocjimnofaaSeqCalls
import Derived.Outline
namespace Go.Proofs.Ytjjdjocjimnofaa.SeqRef
open Go.RowKit SeqPlain SeqCalls

theorem way_any (a b : Int) (ha : 0 ≤ a) (ha' : a ≤ 4294967295) (hb : 0 ≤ b) (hb' : b ≤ 4294967295) (w : World) :
    Calls Try.prog 19 #[.int .u32 a, .int .u32 b] w fun e w' => e = .returned (.int .i64 ((b - a) % 4294967296)) ∧ w = w' := by
  go_enter Try.func19, Try.ntmps19
  go_wp2_with fail
  go_ret
  exact ⟨ret_int (by omega), rfl⟩

theorem less_ref (a b : Int) (ha : 0 ≤ a) (ha' : a ≤ 4294967295) (hb : 0 ≤ b) (hb' : b ≤ 4294967295) (w : World) :
    Calls Try.prog 8 #[.int .u32 a, .int .u32 b] w fun e w' => e = .returned (.bool (lessB a b)) ∧ w = w' := by
  go_enter Try.func8, Try.ntmps8
  go_wp2_with (go_at_call 19; refine (way_any _ _ (by omega) (by omega) (by omega) (by omega) _).mono ?_; rintro e w' ⟨rfl, rfl⟩)
  all_goals
    go_ret
    exact ⟨ret_bool (lessB_mk (by simp; try omega)), rfl⟩

theorem sub_ref (a b : Int) (ha : 0 ≤ a) (ha' : a ≤ 4294967295) (hb : 0 ≤ b) (hb' : b ≤ 4294967295) (w : World) :
    Calls Try.prog 10 #[.int .u32 a, .int .u32 b] w fun e w' => e = .returned (.int .i64 (subI a b)) ∧ w = w' := by
  go_enter Try.func10, Try.ntmps10
  go_wp2_with (go_at_call 19; refine (way_any _ _ (by omega) (by omega) (by omega) (by omega) _).mono ?_; rintro e w' ⟨rfl, rfl⟩)
  all_goals
    go_ret
    exact ⟨ret_int (by unfold subI; split <;> omega), rfl⟩

theorem in_ref (a b n : Int) (ha : 0 ≤ a) (ha' : a ≤ 4294967295) (hb : 0 ≤ b) (hb' : b ≤ 4294967295) (hn : 0 ≤ n) (hn' : n ≤ 4294967295) (w : World) :
    Calls Try.prog 12 #[.int .u32 a, .int .u32 b, .int .u32 n] w fun e w' => e = .returned (.bool (decide ((a - b) % 4294967296 < n))) ∧ w = w' := by
  go_enter Try.func12, Try.ntmps12
  go_wp2_with (go_at_call 19; refine (way_any _ _ (by omega) (by omega) (by omega) (by omega) _).mono ?_; rintro e w' ⟨rfl, rfl⟩)
  go_ret
  exact ⟨rfl, rfl⟩

theorem max_ref (a b : Int) (ha : 0 ≤ a) (ha' : a ≤ 4294967295) (hb : 0 ≤ b) (hb' : b ≤ 4294967295) (w : World) :
    Calls Try.prog 14 #[.int .u32 a, .int .u32 b] w fun e w' => e = .returned (.int .u32 (if lessB a b then b else a)) ∧ w = w' := by
  go_enter Try.func14, Try.ntmps14
  go_wp2_with (go_at_call 8; refine (less_ref _ _ (by omega) (by omega) (by omega) (by omega) _).mono ?_; rintro e w' ⟨rfl, rfl⟩)
  all_goals (go_ret; exact ⟨rfl, rfl⟩)

theorem away_any (a b : Int) (ha : 0 ≤ a) (ha' : a ≤ 18446744073709551615) (hb : 0 ≤ b) (hb' : b ≤ 18446744073709551615) (w : World) :
    Calls Try.prog 21 #[.int .u64 a, .int .u64 b] w fun e w' => e = .returned (.int .u64 (apartI a b)) ∧ w = w' := by
  go_enter Try.func21, Try.ntmps21
  go_wp2_with fail
  all_goals
    go_ret
    exact ⟨ret_int (by unfold apartI; split <;> omega), rfl⟩

theorem lift_ref (p s : Int) (hp : 0 ≤ p) (hp' : p ≤ 18446744073709551615) (hs : 0 ≤ s) (hs' : s ≤ 4294967295) (w : World) :
    Calls Try.prog 17 #[.int .u64 p, .int .u32 s] w fun e w' => e = .returned (.int .u64 (liftI p s)) ∧ w = w' := by
  obtain ⟨hi, hhi⟩ : ∃ hi, IntKind.u64.wrap (p / 4294967296 * 4294967296 + s + 4294967296) = hi := ⟨_, rfl⟩
  have ehi : hi = (p / 4294967296 * 4294967296 + s + 4294967296) % 18446744073709551616 := hhi.symm
  have i0 : 0 ≤ hi := by omega
  have i1 : hi ≤ 18446744073709551615 := by omega
  by_cases ht : p < 18446744069414584320
  · obtain rfl : hi = p / 4294967296 * 4294967296 + s + 4294967296 := by omega
    clear hhi ehi
    have H := Lib.hid (lift_tests p s hp hs hs')
    go_enter Try.func17, Try.ntmps17
    go_wp2_with (go_at_call 21; refine (away_any _ _ (by omega) (by omega) (by omega) (by omega) _).mono ?_; rintro e w' ⟨rfl, rfl⟩)
    all_goals
      have hh := H.out
      go_ret
      exact ⟨ret_int (by unfold liftI; repeat' split; all_goals omega), rfl⟩
  · have hq : p / 4294967296 * 4294967296 = 18446744069414584320 := by omega
    have hlt : hi < p / 4294967296 * 4294967296 + s := by omega
    have H := Lib.hid (lift_tests p s hp hs hs')
    clear ehi hq
    go_enter Try.func17, Try.ntmps17
    go_wp2_with (go_at_call 21; refine (away_any _ _ (by omega) (by omega) (by omega) (by omega) _).mono ?_; rintro e w' ⟨rfl, rfl⟩)
    all_goals
      have hh := H.out
      go_ret
      exact ⟨ret_int (by unfold liftI; repeat' split; all_goals omega), rfl⟩

theorem alive_any (w : World) :
    Calls Try.prog 15 #[] w fun e w' => e = .returned (.bool true) ∧ w = w' := by
  have h1 : lessB 4294967295 0 = true := by decide
  have h2 : lessB 0 2147483648 = false := by decide
  have h3 : lessB 2147483648 0 = false := by decide
  have h4 : subI 1 3 = -2 := by decide
  have h5 : subI 2147483648 0 = -2147483648 := by decide
  have h6 : liftI 4294967290 5 = 4294967301 := by decide
  have h7 : liftI 3 4294967295 = 4294967295 := by decide
  go_enter Try.func15, Try.ntmps15
  go_wp2_with (first
    | (go_at_call 7; refine (less_any _ _ _).mono ?_; rintro e w' ⟨rfl, rfl⟩)
    | (go_at_call 9; refine (sub_any _ _ _).mono ?_; rintro e w' ⟨rfl, rfl⟩)
    | (go_at_call 11; refine (in_any _ _ _ _).mono ?_; rintro e w' ⟨rfl, rfl⟩)
    | (go_at_call 13; refine (max_any _ _ _).mono ?_; rintro e w' ⟨rfl, rfl⟩)
    | (go_at_call 16; refine (lift_any _ _ (by omega) (by omega) (by omega) (by omega) _).mono ?_; rintro e w' ⟨rfl, rfl⟩))
  go_ret
  exact ⟨rfl, rfl⟩
end Go.Proofs.Ytjjdjocjimnofaa.SeqRef
