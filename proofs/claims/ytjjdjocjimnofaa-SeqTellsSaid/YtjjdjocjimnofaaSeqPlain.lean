/-
  Plain mathematics of numbers that go around at 2^32: no Go in sight.
-/
import GoSem.Claim
import Derived.RowKit
namespace Go.Proofs.Ytjjdjocjimnofaa.SeqPlain
set_option linter.unusedVariables false
open Go.RowKit (wrap32 wrap64)

def lessB (a b : Int) : Bool := decide (0 < (b - a) % 4294967296 ∧ (b - a) % 4294967296 < 2147483648)
theorem lessB_mk {a b : Int} {x : Bool} (h : x = true ↔ (0 < (b - a) % 4294967296 ∧ (b - a) % 4294967296 < 2147483648)) : x = lessB a b := by
  unfold lessB; rw [Bool.eq_iff_iff]; simp [h]
theorem lessB_iff (a b : Int) : lessB a b = true ↔ (0 < (b - a) % 4294967296 ∧ (b - a) % 4294967296 < 2147483648) := by
  unfold lessB; simp

/-- the way from b to a, counted downwards from 2^31 on -/
def subI (a b : Int) : Int := if (a - b) % 4294967296 < 2147483648 then (a - b) % 4294967296 else (a - b) % 4294967296 - 4294967296
theorem subI_wrap (a b : Int) : wrap64 (wrap32 ((a - b) % 4294967296)) = subI a b := by
  unfold subI wrap64 wrap32; split <;> omega
theorem subI_bd (a b : Int) : -2147483648 ≤ subI a b ∧ subI a b ≤ 2147483647 := by
  unfold subI; split <;> omega

def apartI (a b : Int) : Int := if a ≤ b then b - a else a - b
theorem apartI_le {a b : Int} (h : a ≤ b) : apartI a b = b - a := by unfold apartI; rw [if_pos h]
theorem apartI_ge {a b : Int} (h : b < a) : apartI a b = a - b := by unfold apartI; rw [if_neg (by omega)]
theorem apartI_bd (a b : Int) (ha : 0 ≤ a) (ha' : a ≤ 18446744073709551615) (hb : 0 ≤ b) (hb' : b ≤ 18446744073709551615) : 0 ≤ apartI a b ∧ apartI a b ≤ 18446744073709551615 := by
  unfold apartI; split <;> omega

/-- the number nearest to p that is s modulo 2^32 -/
def liftI (p s : Int) : Int :=
  if 4294967296 ≤ p ∧ 2147483648 < s - p % 4294967296 then p - p % 4294967296 + s - 4294967296
  else if p < 18446744069414584320 ∧ 2147483648 ≤ p % 4294967296 - s then p - p % 4294967296 + s + 4294967296
  else p - p % 4294967296 + s
theorem liftI_bd (p s : Int) (hp : 0 ≤ p) (hp' : p ≤ 18446744073709551615) (hs : 0 ≤ s) (hs' : s ≤ 4294967295) : 0 ≤ liftI p s ∧ liftI p s ≤ 18446744073709551615 := by
  unfold liftI; split
  · omega
  · split <;> omega
theorem liftI_low (p s : Int) (h1 : 4294967296 ≤ p) (h2 : 2147483648 < s - p % 4294967296) : liftI p s = p - p % 4294967296 + s - 4294967296 := by
  unfold liftI; rw [if_pos ⟨h1, h2⟩]
theorem liftI_high (p s : Int) (h1 : p < 18446744069414584320) (h2 : 2147483648 ≤ p % 4294967296 - s) : liftI p s = p - p % 4294967296 + s + 4294967296 := by
  unfold liftI; rw [if_neg (by omega), if_pos ⟨h1, h2⟩]
theorem liftI_mid (p s : Int) (h1 : ¬ (4294967296 ≤ p ∧ 2147483648 < s - p % 4294967296)) (h2 : ¬ (p < 18446744069414584320 ∧ 2147483648 ≤ p % 4294967296 - s)) : liftI p s = p - p % 4294967296 + s := by
  unfold liftI; rw [if_neg h1, if_neg h2]
theorem liftI_mod (p s : Int) (hs : 0 ≤ s) (hs' : s ≤ 4294967295) : liftI p s % 4294967296 = s := by
  unfold liftI; split
  · omega
  · split <;> omega
theorem liftI_finds (p q : Int) (hp : 0 ≤ p) (hp' : p ≤ 18446744073709551615) (hq : 0 ≤ q) (hq' : q ≤ 18446744073709551615) (h : p - q < 2147483648) (h' : q - p < 2147483648) : liftI q (p % 4294967296) = p := by
  unfold liftI; split
  · omega
  · split <;> omega
/-- what the code does, by three candidates that go around at 2^64 -/
theorem lift_pick (p s lo hi : Int) (hp : 0 ≤ p) (hp' : p ≤ 18446744073709551615) (hs : 0 ≤ s) (hs' : s ≤ 4294967295)
    (hlo : lo = (p - p % 4294967296 + s - 4294967296) % 18446744073709551616) (hhi : hi = (p - p % 4294967296 + s + 4294967296) % 18446744073709551616) :
    (apartI lo p < apartI (p - p % 4294967296 + s) p → lo = liftI p s) ∧
    (apartI (p - p % 4294967296 + s) p ≤ apartI lo p → apartI hi p ≤ apartI (p - p % 4294967296 + s) p → hi = liftI p s) ∧
    (apartI (p - p % 4294967296 + s) p ≤ apartI lo p → apartI (p - p % 4294967296 + s) p < apartI hi p → p - p % 4294967296 + s = liftI p s) := by
  unfold apartI liftI
  refine ⟨?_, ?_, ?_⟩ <;> (repeat' split) <;> omega
theorem lift_tests (p s : Int) (hp : 0 ≤ p) (hs : 0 ≤ s) (hs' : s ≤ 4294967295) :
    (4294967296 ≤ p / 4294967296 * 4294967296 + s → (apartI (p / 4294967296 * 4294967296 + s - 4294967296) p < apartI (p / 4294967296 * 4294967296 + s) p ↔ 2147483648 < s - p % 4294967296)) ∧
    (apartI (p / 4294967296 * 4294967296 + s + 4294967296) p ≤ apartI (p / 4294967296 * 4294967296 + s) p ↔ 2147483648 ≤ p % 4294967296 - s) ∧
    (2147483648 < s - p % 4294967296 → apartI (p / 4294967296 * 4294967296 + s - 4294967296) p < apartI (p / 4294967296 * 4294967296 + s + 4294967296) p) := by
  unfold apartI
  refine ⟨?_, ?_, ?_⟩ <;> (repeat' split) <;> omega
end Go.Proofs.Ytjjdjocjimnofaa.SeqPlain
