/-
  Package number: numbers laid into bytes, and read from them.
-/
import Derived.Test.YtgpkckaojcodmaaNumShelf
import Derived.Test.YtgpkckaojcodmaaOwn
import Derived.Test.YtgpkckaojcodmaaBytes
import Derived.Test.YtgpkckaojcodmaaTupMath
import Derived.Test.YtgpkckaojcodmaaIpMath
import Derived.Test.YtgpkckaojcodmaaLitb
import Derived.Test.YtgpkckaojcodmaaRel
import Derived.Deep.DeepCutAuto
import Derived.Laws.BitsAllLaws
import Derived.Lib.Hide
import Derived.BigGuard
import Derived.BigCall
namespace Go.Proofs.Ytgpkckaojcodmaa.Num
open Go.RowKit Own TupMath IpMath Litb Bytes Rel
set_option linter.unusedVariables false
set_option maxRecDepth 100000

theorem len32_any (x : Int) (w : World) (h0 : 0 ≤ x) (h1 : x ≤ 4294967295) : Calls Try.prog 53 #[.int .u32 x] w fun e w' => e = .returned (.int .i64 (Lib.bitLen x.toNat)) ∧ w' = w :=
  Any.bits_Len32 Try.layLen32 x w h0 h1
theorem bl8 : Lib.bitLen (Int.toNat 255) = 8 := by decide
theorem bl16 : Lib.bitLen (Int.toNat 65535) = 16 := by decide
theorem bl32 : Lib.bitLen (Int.toNat 4294967295) = 32 := by decide
/-- numbers in two bytes, in four, one behind the other -/
def w2s (L : List Nat) : List Nat := L.flatMap w2
def w4s (L : List Nat) : List Nat := L.flatMap w4
def w1s (L : List Nat) : List Nat := L
theorem below_drewN {n : Nat} {w W : World} (h : Below n w W) (q : Nat) : Below n w (W.drewN q) := h.trans ⟨rfl, rfl, rfl, Nat.le_refl _, fun _ _ => rfl⟩
theorem or_add (a b m : Nat) (hb : b < 2 ^ m) : 2 ^ m * a ||| b = 2 ^ m * a + b := (Nat.two_pow_add_eq_or_of_lt hb a).symm
theorem w1s_snoc {L : List Nat} {k x : Nat} (h : L[k]? = some x) : w1s (L.take (k + 1)) = w1s (L.take k) ++ [x] := take_snoc h
theorem w2s_snoc {L : List Nat} {k x : Nat} (h : L[k]? = some x) : w2s (L.take (k + 1)) = w2s (L.take k) ++ w2 x := by unfold w2s; rw [take_snoc h, List.flatMap_append]; simp
theorem w4s_snoc {L : List Nat} {k x : Nat} (h : L[k]? = some x) : w4s (L.take (k + 1)) = w4s (L.take k) ++ w4 x := by unfold w4s; rw [take_snoc h, List.flatMap_append]; simp
theorem w1s_len (L : List Nat) : (w1s L).length = 1 * L.length := by unfold w1s; omega
theorem w2s_len (L : List Nat) : (w2s L).length = 2 * L.length := by
  unfold w2s
  induction L with
  | nil => rfl
  | cons a l ih => rw [List.flatMap_cons, List.length_append, ih]; simp [w2]; omega
theorem w4s_len (L : List Nat) : (w4s L).length = 4 * L.length := by
  unfold w4s
  induction L with
  | nil => rfl
  | cons a l ih => rw [List.flatMap_cons, List.length_append, ih]; simp [w4]; omega
theorem w1s_le {L : List Nat} (h : ∀ x ∈ L, x ≤ 255) : ∀ x ∈ w1s L, x ≤ 255 := h
theorem w2s_le {L : List Nat} (h : ∀ x ∈ L, x ≤ 65535) : ∀ x ∈ w2s L, x ≤ 255 := by
  intro x hx
  obtain ⟨y, hy, hx⟩ := List.mem_flatMap.1 hx
  have := h y hy
  simp [w2] at hx
  omega
theorem w4s_le {L : List Nat} (h : ∀ x ∈ L, x ≤ 4294967295) : ∀ x ∈ w4s L, x ≤ 255 := by
  intro x hx
  obtain ⟨y, hy, hx⟩ := List.mem_flatMap.1 hx
  have := h y hy
  simp [w4] at hx
  omega

end Go.Proofs.Ytgpkckaojcodmaa.Num
