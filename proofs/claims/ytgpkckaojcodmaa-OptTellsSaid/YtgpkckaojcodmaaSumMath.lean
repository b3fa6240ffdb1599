/-
  Plain mathematics of sums by ones' complement and of the words of a row of bytes: no Go in sight.
-/
import GoSem.Claim
import Derived.RowKit
namespace Go.Proofs.Ytgpkckaojcodmaa.SumMath
set_option linter.unusedVariables false

/-- the sum by ones' complement, folded -/
def ones (x : Nat) : Nat := if x = 0 then 0 else (x - 1) % 65535 + 1
theorem ones_le (x : Nat) : ones x ≤ 65535 := by unfold ones; split <;> omega
theorem ones_pos {x : Nat} (h : 0 < x) : 0 < ones x := by unfold ones; split <;> omega
theorem ones_small {x : Nat} (h : x ≤ 65535) : ones x = x := by unfold ones; split <;> omega
theorem ones_fold {x : Nat} (h : 65535 < x) : ones (x % 65536 + x / 65536) = ones x := by unfold ones; split <;> split <;> omega
theorem ones_add (x y : Nat) : ones (ones x + y) = ones (x + y) := by
  have e : ones x + y = 0 ↔ x + y = 0 := by unfold ones; split <;> omega
  by_cases h : x + y = 0
  · rw [h, e.2 h]
  · have h' : ¬ (ones x + y = 0) := fun k => h (e.1 k)
    have e2 : (ones x + y - 1) % 65535 = (x + y - 1) % 65535 := by
      unfold ones at h' ⊢
      split <;> split at h' <;> omega
    unfold ones at e2 h' ⊢
    rw [if_neg h', if_neg h, e2]
theorem ones_add' (x y : Nat) : ones (x + ones y) = ones (x + y) := by rw [Nat.add_comm, ones_add, Nat.add_comm]
theorem ones_zero_iff (x : Nat) : ones x = 0 ↔ x = 0 := by unfold ones; split <;> omega
theorem ones_eq_iff {x y : Nat} (hx : 0 < x) (hy : 0 < y) : ones x = ones y ↔ x % 65535 = y % 65535 := by unfold ones; rw [if_neg (by omega), if_neg (by omega)]; omega
/-- one carry around -/
def pl (a b : Nat) : Nat := (a + b) % 65536 + (a + b) / 65536
theorem pl_ones {a b : Nat} (ha : a ≤ 65535) (hb : b ≤ 65535) : pl a b = ones (a + b) := by unfold pl ones; split <;> omega
def jo (a b : Nat) : Nat := 65535 - ones ((65535 - a) + (65535 - b))
def tu (s w n : Nat) : Nat := 65535 - ones ((65535 - s) + (65535 - w) + n)
theorem jo_le (a b : Nat) : jo a b ≤ 65535 := by unfold jo; omega
theorem tu_le (s w n : Nat) : tu s w n ≤ 65535 := by unfold tu; omega
theorem tu_pl {s w n : Nat} (hn : n ≤ 65535) : 65535 - pl (pl (65535 - s) (65535 - w)) n = tu s w n := by
  unfold tu
  rw [pl_ones (a := 65535 - s) (by omega) (by omega), pl_ones (ones_le _) hn, ones_add]
theorem tu_step {x w n : Nat} (hx : 0 < x) (hw : w ≤ 65535) : tu (65535 - ones (x + w)) w n = 65535 - ones (x + n) := by
  have h1 := ones_le (x + w)
  have e : 65535 - (65535 - ones (x + w)) = ones (x + w) := by omega
  unfold tu
  rw [e, Nat.add_assoc, ones_add]
  unfold ones
  rw [if_neg (by omega), if_neg (by omega)]
  omega

/-- the words' sum of a row of bytes -/
def wsum : List Nat → Nat
  | [] => 0
  | [a] => a * 256
  | a :: b :: r => a * 256 + b + wsum r
def cs (l : List Nat) : Nat := 65535 - ones (wsum l)
theorem cs_le (l : List Nat) : cs l ≤ 65535 := by unfold cs; omega

theorem wsum_append : ∀ (a b : List Nat), a.length % 2 = 0 → wsum (a ++ b) = wsum a + wsum b
  | [], b, _ => by simp [wsum]
  | [x], b, h => by simp at h
  | x :: y :: r, b, h => by
    have ih := wsum_append r b (by simp at h; omega)
    simp only [List.cons_append, wsum, ih]
    omega
theorem wsum_zero : ∀ (a : List Nat), a.length % 2 = 1 → wsum (a ++ [0]) = wsum a
  | [], h => by simp at h
  | [x], _ => by simp [wsum]
  | x :: y :: r, h => by
    have ih := wsum_zero r (by simp at h; omega)
    simp only [List.cons_append, wsum, ih]

/-- the words, as an iterator tells them: those told, and the high byte that waits -/
def stp : List Nat × Option Nat → Nat → List Nat × Option Nat
  | (ws, none), x => (ws, some x)
  | (ws, some y), x => (ws ++ [y * 256 + x], none)
def st (l : List Nat) : List Nat × Option Nat := l.foldl stp ([], none)
def fin : List Nat × Option Nat → List Nat
  | (ws, none) => ws
  | (ws, some y) => ws ++ [y * 256]
def wl (l : List Nat) : List Nat := fin (st l)
theorem st_nil : st [] = ([], none) := rfl
theorem st_snoc (l : List Nat) (x : Nat) : st (l ++ [x]) = stp (st l) x := by simp [st]
theorem fold_sum : ∀ (l ws : List Nat), (fin (l.foldl stp (ws, none))).sum = ws.sum + wsum l
  | [], ws => by simp [fin, wsum]
  | [x], ws => by simp [fin, wsum, stp]
  | x :: y :: r, ws => by
    have ih := fold_sum r (ws ++ [x * 256 + y])
    simp only [List.foldl_cons, stp, ih, List.sum_append, List.sum_cons, List.sum_nil, wsum]
    omega
theorem wl_sum (l : List Nat) : (wl l).sum = wsum l := by
  have := fold_sum l []
  simpa [wl, st] using this
theorem stp_len : ∀ (l : List Nat) (p : List Nat × Option Nat), (l.foldl stp p).1.length ≤ p.1.length + l.length
  | [], p => by simp
  | x :: l, (ws, none) => by
    have ih := stp_len l (stp (ws, none) x)
    simp only [List.foldl_cons, stp, List.length_cons] at ih ⊢
    omega
  | x :: l, (ws, some y) => by
    have ih := stp_len l (stp (ws, some y) x)
    simp only [List.foldl_cons, stp, List.length_cons, List.length_append, List.length_nil] at ih ⊢
    omega
theorem st_len (l : List Nat) : (st l).1.length ≤ l.length := by
  have := stp_len l ([], none)
  simpa [st] using this

/-- sums of words by carries -/
def fo (ws : List Nat) : Nat := ws.foldl (fun t w => ones (t + w)) 0
theorem fo_nil : fo [] = 0 := rfl
theorem fo_snoc (ws : List Nat) (w : Nat) : fo (ws ++ [w]) = ones (fo ws + w) := by simp [fo]
theorem foldl_ones : ∀ (ws : List Nat) (t : Nat), t ≤ 65535 → ws.foldl (fun t w => ones (t + w)) t = ones (t + ws.sum)
  | [], t, h => by simp [ones_small h]
  | w :: ws, t, h => by
    rw [List.foldl_cons, foldl_ones ws _ (ones_le _), ones_add, List.sum_cons, Nat.add_assoc]
theorem fo_sum (ws : List Nat) : fo ws = ones ws.sum := by unfold fo; rw [foldl_ones ws 0 (by omega)]; simp
theorem fo_le (ws : List Nat) : fo ws ≤ 65535 := by rw [fo_sum]; exact ones_le _

/-- the word at a place -/
def wAt (l : List Nat) (i : Nat) : Nat := l[i]?.getD 0 * 256 + l[i + 1]?.getD 0
theorem wsum_drop (l : List Nat) (i : Nat) (h : i < l.length) : wsum (l.drop i) = wAt l i + wsum (l.drop (i + 2)) := by
  rcases Nat.lt_or_ge (i + 1) l.length with h2 | h2
  · rw [List.drop_eq_getElem_cons h, List.drop_eq_getElem_cons h2]
    simp [wAt, wsum, h, h2]
  · rw [List.drop_eq_getElem_cons h, List.drop_of_length_le (l := l) (i := i + 1) (by omega), List.drop_of_length_le (l := l) (i := i + 2) (by omega)]
    simp [wAt, wsum, h, List.getElem?_eq_none h2]
theorem wsum_take (l : List Nat) (i : Nat) (hi : i % 2 = 0) (h : i + 2 ≤ l.length) : wsum (l.take (i + 2)) = wsum (l.take i) + wAt l i := by
  have e1 := wsum_append (l.take (i + 2)) (l.drop (i + 2)) (by simp; omega)
  have e2 := wsum_append (l.take i) (l.drop i) (by simp; omega)
  have e3 := wsum_drop l i (by omega)
  rw [List.take_append_drop] at e1 e2
  omega
theorem wAt_le {l : List Nat} (hl : ∀ x ∈ l, x ≤ 255) (i : Nat) : wAt l i ≤ 65535 := by
  have key : ∀ j : Nat, l[j]?.getD 0 ≤ 255 := by
    intro j
    rcases Nat.lt_or_ge j l.length with h | h
    · rw [List.getElem?_eq_getElem h]; exact hl _ (List.getElem_mem h)
    · rw [List.getElem?_eq_none h]; simp
  have := key i
  have := key (i + 1)
  unfold wAt
  omega

/-- turned along with words -/
def tus (s : Nat) (a b : List Nat) : Nat → Nat
  | 0 => s
  | k + 1 => tu (tus s a b k) (wAt a (2 * k)) (wAt b (2 * k))
theorem tus_le (s : Nat) (hs : s ≤ 65535) (a b : List Nat) (k : Nat) : tus s a b k ≤ 65535 := by
  cases k with
  | zero => exact hs
  | succ k => exact tu_le _ _ _
theorem tus_even (r : Nat) (hr : 0 < r) (a b : List Nat) (hl : a.length = b.length) (ha : ∀ x ∈ a, x ≤ 255) :
    ∀ k, 2 * k ≤ a.length → tus (65535 - ones (r + wsum a)) a b k = 65535 - ones (r + wsum (b.take (2 * k)) + wsum (a.drop (2 * k)))
  | 0, _ => by simp [tus, wsum]
  | k + 1, h => by
    have ih := tus_even r hr a b hl ha k (by omega)
    have e1 := wsum_drop a (2 * k) (by omega)
    have e2 := wsum_take b (2 * k) (by omega) (by omega)
    rw [tus, ih, e1]
    have e3 : r + wsum (b.take (2 * k)) + (wAt a (2 * k) + wsum (a.drop (2 * k + 2))) = (r + wsum (b.take (2 * k)) + wsum (a.drop (2 * k + 2))) + wAt a (2 * k) := by omega
    rw [e3, tu_step (by omega) (wAt_le ha _)]
    have e4 : 2 * (k + 1) = 2 * k + 2 := by omega
    rw [e4, e2]
    congr 2
    omega
theorem tus_all (r : Nat) (hr : 0 < r) (a b : List Nat) (hl : a.length = b.length) (he : a.length % 2 = 0) (ha : ∀ x ∈ a, x ≤ 255) :
    tus (65535 - ones (r + wsum a)) a b ((a.length + 1) / 2) = 65535 - ones (r + wsum b) := by
  have h := tus_even r hr a b hl ha ((a.length + 1) / 2) (by omega)
  have e : 2 * ((a.length + 1) / 2) = a.length := by omega
  rw [e] at h
  rw [h, hl, List.take_length, ← hl, List.drop_length]
  simp [wsum]
end Go.Proofs.Ytgpkckaojcodmaa.SumMath
