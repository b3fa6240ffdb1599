/-
  What each function of package seq answers, as a contract over the loaded program.
-/
import Derived.Test.YtjjdjocjimnofaaChecked
import Derived.WalkKit
import Derived.ProofKit
import Derived.Deep.QuietTactic
import Derived.BigQuiet
import Derived.Lib.Hide
import Derived.Test.YtjjdjocjimnofaaSeqPlain
namespace Go.Proofs.Ytjjdjocjimnofaa.SeqCalls
open Go.RowKit SeqPlain

theorem ret_bool {a b : Bool} (h : a = b) : Ending.returned (.bool a) = .returned (.bool b) := by rw [h]
theorem ret_int {k : IntKind} {a b : Int} (h : a = b) : Ending.returned (.int k a) = .returned (.int k b) := by rw [h]
theorem half_eq : bits .xor .u32 IntKind.u32.max (bits .xor .u32 IntKind.u32.max 0 / 2) = 2147483648 := by decide

theorem ahead_any (a b : Int) (w : World) :
    Calls Try.prog 18 #[.int .u32 a, .int .u32 b] w fun e w' => e = .returned (.bool (lessB a b)) ∧ w = w' := by
  have hx := half_eq
  go_enter Try.func18, Try.ntmps18
  go_wp2_with fail
  · go_ret
    exact ⟨ret_bool (lessB_mk (by simp; omega)), rfl⟩
  · go_ret
    exact ⟨ret_bool (lessB_mk (by simp; omega)), rfl⟩

theorem less_any (a b : Int) (w : World) :
    Calls Try.prog 7 #[.int .u32 a, .int .u32 b] w fun e w' => e = .returned (.bool (lessB a b)) ∧ w = w' := by
  go_enter Try.func7, Try.ntmps7
  go_wp2_with (go_at_call 18; refine (ahead_any _ _ _).mono ?_; rintro e w' ⟨rfl, rfl⟩)
  go_ret
  exact ⟨rfl, rfl⟩

theorem sub_any (a b : Int) (w : World) :
    Calls Try.prog 9 #[.int .u32 a, .int .u32 b] w fun e w' => e = .returned (.int .i64 (subI a b)) ∧ w = w' := by
  go_enter Try.func9, Try.ntmps9
  go_wp2_with fail
  go_ret
  exact ⟨ret_int (subI_wrap a b), rfl⟩

theorem in_any (a b n : Int) (w : World) :
    Calls Try.prog 11 #[.int .u32 a, .int .u32 b, .int .u32 n] w fun e w' => e = .returned (.bool (decide ((a - b) % 4294967296 < n))) ∧ w = w' := by
  go_enter Try.func11, Try.ntmps11
  go_wp2_with fail
  go_ret
  exact ⟨rfl, rfl⟩

theorem max_any (a b : Int) (w : World) :
    Calls Try.prog 13 #[.int .u32 a, .int .u32 b] w fun e w' => e = .returned (.int .u32 (if lessB a b then b else a)) ∧ w = w' := by
  go_enter Try.func13, Try.ntmps13
  go_wp2_with (go_at_call 7; refine (less_any _ _ _).mono ?_; rintro e w' ⟨rfl, rfl⟩)
  all_goals (go_ret; exact ⟨rfl, rfl⟩)

theorem apart_any (a b : Int) (ha : 0 ≤ a) (ha' : a ≤ 18446744073709551615) (hb : 0 ≤ b) (hb' : b ≤ 18446744073709551615) (w : World) :
    Calls Try.prog 20 #[.int .u64 a, .int .u64 b] w fun e w' => e = .returned (.int .u64 (apartI a b)) ∧ w = w' := by
  rcases Int.lt_trichotomy a b with h | h | h
  · go_enter Try.func20, Try.ntmps20
    go_wp2_with fail
    go_ret
    exact ⟨ret_int (apartI_le (by omega)).symm, rfl⟩
  · subst h
    go_enter Try.func20, Try.ntmps20
    go_wp2_with fail
    go_ret
    exact ⟨ret_int (by rw [apartI_le (Int.le_refl _)]; omega), rfl⟩
  · go_enter Try.func20, Try.ntmps20
    go_wp2_with fail
    go_ret
    exact ⟨ret_int (apartI_ge (by omega)).symm, rfl⟩

theorem lift_any (p s : Int) (hp : 0 ≤ p) (hp' : p ≤ 18446744073709551615) (hs : 0 ≤ s) (hs' : s ≤ 4294967295) (w : World) :
    Calls Try.prog 16 #[.int .u64 p, .int .u32 s] w fun e w' => e = .returned (.int .u64 (liftI p s)) ∧ w = w' := by
  obtain ⟨lo, hlo⟩ : ∃ lo, IntKind.u64.wrap (p - p % 4294967296 + s - 4294967296) = lo := ⟨_, rfl⟩
  obtain ⟨hi, hhi⟩ : ∃ hi, IntKind.u64.wrap (p - p % 4294967296 + s + 4294967296) = hi := ⟨_, rfl⟩
  have elo : lo = (p - p % 4294967296 + s - 4294967296) % 18446744073709551616 := hlo.symm
  have ehi : hi = (p - p % 4294967296 + s + 4294967296) % 18446744073709551616 := hhi.symm
  have l0 : 0 ≤ lo := by omega
  have l1 : lo ≤ 18446744073709551615 := by omega
  have i0 : 0 ≤ hi := by omega
  have i1 : hi ≤ 18446744073709551615 := by omega
  have H := Lib.hid (lift_pick p s lo hi hp hp' hs hs' elo ehi)
  clear elo ehi
  go_enter Try.func16, Try.ntmps16
  go_wp2_with (go_at_call 20; refine (apart_any _ _ (by omega) (by omega) (by omega) (by omega) _).mono ?_; rintro e w' ⟨rfl, rfl⟩)
  · go_ret
    exact ⟨ret_int (H.out.1 (by assumption)), rfl⟩
  · go_ret
    exact ⟨ret_int (H.out.2.1 (by assumption) (by assumption)), rfl⟩
  · go_ret
    exact ⟨ret_int (H.out.2.2 (by assumption) (by assumption)), rfl⟩
end Go.Proofs.Ytjjdjocjimnofaa.SeqCalls
