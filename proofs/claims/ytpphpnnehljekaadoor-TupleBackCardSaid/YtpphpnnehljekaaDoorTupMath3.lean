/-
  The order of pairs is the order of their bytes.
-/
import Derived.Test.YtpphpnnehljekaaDoorTupF
namespace Go.Proofs.YtpphpnnehljekaaDoor.TupMath3
open TupMath TupMath2 TupLay TupText TupF TupLib
set_option linter.unusedVariables false

/-- rows of bytes, by the first that differs -/
def lessN : List Nat → List Nat → Bool
  | _, [] => false
  | [], _ :: _ => true
  | x :: l, y :: m => decide (x < y) || (x == y && lessN l m)
theorem less_nb : ∀ a b : List UInt8, Op.bytesLess a b = lessN (nb a) (nb b)
  | _, [] => by cases ‹List UInt8› <;> rfl
  | [], _ :: _ => rfl
  | x :: l, y :: m => by
    show (decide (x < y) || (x == y && Op.bytesLess l m)) = (decide (x.toNat < y.toNat) || (x.toNat == y.toNat && lessN (nb l) (nb m)))
    rw [less_nb l m]
    have h1 : decide (x < y) = decide (x.toNat < y.toNat) := decide_eq_decide.2 UInt8.lt_iff_toNat_lt
    have h2 : (x == y) = (x.toNat == y.toNat) := by
      by_cases h : x = y
      · subst h; simp
      · rw [beq_eq_false_iff_ne.2 h, beq_eq_false_iff_ne.2 (fun e => h (UInt8.toNat_inj.1 e))]
    rw [h1, h2]
theorem lessN_app : ∀ (u u' v v' : List Nat), u.length = u'.length → lessN (u ++ v) (u' ++ v') = (lessN u u' || (u == u' && lessN v v'))
  | [], [], v, v', _ => by simp [lessN]
  | x :: u, y :: u', v, v', h => by
    have ih := lessN_app u u' v v' (by simpa using h)
    simp only [List.cons_append, lessN, ih]
    by_cases hxy : x = y
    · subst hxy; simp
    · have : (x == y) = false := beq_eq_false_iff_ne.2 hxy
      have h2 : (x :: u == y :: u') = false := beq_eq_false_iff_ne.2 (fun e => hxy (by injection e))
      rw [this, h2]
      simp
theorem less32 (a p : Nat) : lessN (b32 a) (b32 p) = decide (a < p) ∨ ¬ (a ≤ 4294967295 ∧ p ≤ 4294967295) := by
  by_cases h : a ≤ 4294967295 ∧ p ≤ 4294967295
  · refine .inl ?_
    rw [Bool.eq_iff_iff]
    simp only [b32, lessN, Bool.or_eq_true, decide_eq_true_eq, Bool.and_eq_true, beq_iff_eq, Bool.false_eq_true, and_false, or_false]
    omega
  · exact .inr h
theorem less16 (a p : Nat) : lessN (b16 a) (b16 p) = decide (a < p) ∨ ¬ (a ≤ 65535 ∧ p ≤ 65535) := by
  by_cases h : a ≤ 65535 ∧ p ≤ 65535
  · refine .inl ?_
    rw [Bool.eq_iff_iff]
    simp only [b16, lessN, Bool.or_eq_true, decide_eq_true_eq, Bool.and_eq_true, beq_iff_eq, Bool.false_eq_true, and_false, or_false]
    omega
  · exact .inr h
theorem eq32 (a p : Nat) : (b32 a == b32 p) = decide (a = p) := by
  rw [Bool.eq_iff_iff]
  simp only [b32, beq_iff_eq, List.cons.injEq, and_true, decide_eq_true_eq]
  omega
theorem eq16 (a p : Nat) : (b16 a == b16 p) = decide (a = p) := by
  rw [Bool.eq_iff_iff]
  simp only [b16, beq_iff_eq, List.cons.injEq, and_true, decide_eq_true_eq]
  omega
/-- a pair's bytes -/
def b12 (a b c d : Nat) : List Nat := b32 a ++ (b16 b ++ (b32 c ++ b16 d))
theorem less12 (a b c d p q r s : Nat) (ha : a ≤ 4294967295) (hb : b ≤ 65535) (hc : c ≤ 4294967295) (hd : d ≤ 65535) (hp : p ≤ 4294967295) (hq : q ≤ 65535) (hr : r ≤ 4294967295) (hs : s ≤ 65535) :
    lessN (b12 a b c d) (b12 p q r s) = decide (cmpL [a, b, c, d] [p, q, r, s] = -1) := by
  unfold b12
  rw [lessN_app (b32 a) (b32 p) _ _ rfl, lessN_app (b16 b) (b16 q) _ _ rfl, lessN_app (b32 c) (b32 r) _ _ rfl, (less32 a p).resolve_right (by omega), (less16 b q).resolve_right (by omega), (less32 c r).resolve_right (by omega), (less16 d s).resolve_right (by omega), eq32, eq16, eq32]
  simp only [cmpL]
  repeat' split
  all_goals
    rw [Bool.eq_iff_iff]
    simp only [Bool.or_eq_true, decide_eq_true_eq, Bool.and_eq_true, iff_true]
    omega
theorem cmp_neg (a b c d p q r s : Nat) : cmpL [p, q, r, s] [a, b, c, d] = - cmpL [a, b, c, d] [p, q, r, s] := by
  simp only [cmpL]
  repeat' split
  all_goals omega
theorem cmp_eq (a b c d p q r s : Nat) : cmpL [a, b, c, d] [p, q, r, s] = 0 ↔ (a = p ∧ b = q ∧ c = r ∧ d = s) := by
  simp only [cmpL]
  repeat' split
  all_goals omega
theorem cmp_three (a b c d p q r s : Nat) : cmpL [a, b, c, d] [p, q, r, s] = -1 ∨ cmpL [a, b, c, d] [p, q, r, s] = 0 ∨ cmpL [a, b, c, d] [p, q, r, s] = 1 := by
  simp only [cmpL]
  repeat' split
  all_goals omega
/-- the order of two pairs' bytes -/
theorem order_three (a b c d p q r s : Nat) (ha : a ≤ 4294967295) (hb : b ≤ 65535) (hc : c ≤ 4294967295) (hd : d ≤ 65535) (hp : p ≤ 4294967295) (hq : q ≤ 65535) (hr : r ≤ 4294967295) (hs : s ≤ 65535) (x y : ByteArray) (hx : bz x = b12 a b c d) (hy : bz y = b12 p q r s) :
    (cmpL [a, b, c, d] [p, q, r, s] = -1 ∧ cmpL [p, q, r, s] [a, b, c, d] = 1 ∧ Op.bytesLess x.toList y.toList = true ∧ (x.toList == y.toList) = false) ∨
    (cmpL [a, b, c, d] [p, q, r, s] = 0 ∧ cmpL [p, q, r, s] [a, b, c, d] = 0 ∧ Op.bytesLess x.toList y.toList = false ∧ (x.toList == y.toList) = true) ∨
    (cmpL [a, b, c, d] [p, q, r, s] = 1 ∧ cmpL [p, q, r, s] [a, b, c, d] = -1 ∧ Op.bytesLess x.toList y.toList = false ∧ (x.toList == y.toList) = false) := by
  have hl : Op.bytesLess x.toList y.toList = decide (cmpL [a, b, c, d] [p, q, r, s] = -1) := by
    rw [less_nb, ByteArray.toList_eq, ByteArray.toList_eq, ← bz_nb, ← bz_nb, hx, hy]
    exact less12 a b c d p q r s ha hb hc hd hp hq hr hs
  have he : (x.toList == y.toList) = decide (cmpL [a, b, c, d] [p, q, r, s] = 0) := by
    rw [Bool.eq_iff_iff, decide_eq_true_eq, cmp_eq, beq_iff_eq, ByteArray.toList_eq, ByteArray.toList_eq]
    constructor
    · intro h
      have h2 : b12 a b c d = b12 p q r s := by rw [← hx, ← hy, bz_nb, bz_nb, h]
      simp only [b12, b32, b16, List.cons_append, List.nil_append, List.cons.injEq, and_true] at h2
      omega
    · rintro ⟨rfl, rfl, rfl, rfl⟩
      exact nb_inj (by rw [← bz_nb, ← bz_nb, hx, hy])
  rw [hl, he, cmp_neg a b c d p q r s]
  rcases cmp_three a b c d p q r s with h | h | h <;> rw [h] <;> simp
/-- texts, and bytes, of addresses -/
theorem tx_same (a b p q : Nat) (ha : a ≤ 4294967295) (hb : b ≤ 65535) (hp : p ≤ 4294967295) (hq : q ≤ 65535) (h : tx a b = tx p q) : a = p ∧ b = q := by
  have h1 : txt a b = txt p q := by rw [← bz_tx, ← bz_tx, h]
  have h2 := TupRef3.par_txt a b ha hb
  rw [h1, TupRef3.par_txt p q hp hq] at h2
  injection h2 with h2
  injection h2 with e1 e2
  exact ⟨e1.symm, e2.symm⟩
theorem by_same (a b p q : Nat) (ha : a ≤ 4294967295) (hb : b ≤ 65535) (hp : p ≤ 4294967295) (hq : q ≤ 65535) (h : by6 a b = by6 p q) : a = p ∧ b = q := by
  have h1 : b32 a ++ b16 b = b32 p ++ b16 q := by rw [← bz_by6 a b ha hb, ← bz_by6 p q hp hq, h]
  simp only [b32, b16, List.cons_append, List.nil_append, List.cons.injEq, and_true] at h1
  omega
end Go.Proofs.YtpphpnnehljekaaDoor.TupMath3
