/-
  Plain mathematics of addresses' texts and bytes: no Go in sight.
-/
import GoSem.Claim
import Derived.RowKit
namespace Go.Proofs.Ytgpkckaojcodmaa.TupMath
set_option linter.unusedVariables false

/-- a number in tens, as bytes -/
def dec (n : Nat) : List Nat := if h : n ≤ 9 then [48 + n] else dec (n / 10) ++ [48 + n % 10]
termination_by n
decreasing_by omega
theorem dec_small {n : Nat} (h : n ≤ 9) : dec n = [48 + n] := by rw [dec, dif_pos h]
theorem dec_big {n : Nat} (h : ¬ n ≤ 9) : dec n = dec (n / 10) ++ [48 + n % 10] := by rw [dec, dif_neg h]

/-- the bytes of a string, as numbers -/
def bz (s : ByteArray) : List Nat := s.data.toList.map UInt8.toNat
theorem bz_len (s : ByteArray) : (bz s).length = s.size := by
  unfold bz; rw [List.length_map, Array.length_toList]; rfl
theorem bz_le (s : ByteArray) : ∀ x ∈ bz s, x ≤ 255 := by
  intro x hx
  unfold bz at hx
  obtain ⟨y, _, rfl⟩ := List.mem_map.1 hx
  have := y.toNat_lt
  omega
theorem bz_at (s : ByteArray) (i : Nat) (h : i < s.size) : (bz s)[i]? = some s[i].toNat := by
  unfold bz
  rw [List.getElem?_map, Array.getElem?_toList, Array.getElem?_eq_getElem h]
  rfl
theorem bz_append (s t : ByteArray) : bz (s ++ t) = bz s ++ bz t := by
  unfold bz
  rw [ByteArray.data_append, Array.toList_append, List.map_append]
theorem bz_inj {s t : ByteArray} (h : bz s = bz t) : s = t := by
  obtain ⟨⟨l⟩⟩ := s
  obtain ⟨⟨m⟩⟩ := t
  unfold bz at h
  simp only at h
  have hl : l = m := by
    have inj : ∀ x y : UInt8, x.toNat = y.toNat → x = y := fun x y e => UInt8.toNat_inj.1 e
    exact (List.map_inj_right inj).1 h
  rw [hl]
theorem bz_extract (s : ByteArray) (a b : Nat) (hb : b ≤ s.size) : bz (s.extract a b) = ((bz s).take b).drop a := by
  unfold bz
  rw [ByteArray.data_extract, Array.toList_extract]
  simp [List.extract, List.map_take, List.map_drop, List.drop_take]
/-- a string of given bytes -/
def ofB (l : List Nat) : ByteArray := ⟨(l.map UInt8.ofNat).toArray⟩
theorem bz_ofB {l : List Nat} (h : ∀ x ∈ l, x ≤ 255) : bz (ofB l) = l := by
  unfold bz ofB
  simp only [List.map_map]
  conv => rhs; rw [← List.map_id l]
  apply List.map_congr_left
  intro x hx
  have := h x hx
  simp
  omega
theorem ofB_size (l : List Nat) : (ofB l).size = l.length := by
  unfold ofB
  show ((l.map UInt8.ofNat).toArray).size = _
  simp
theorem dec_le (n : Nat) : ∀ x ∈ dec n, x ≤ 57 := by
  induction n using Nat.strongRecOn with
  | _ n ih =>
    intro x hx
    by_cases h : n ≤ 9
    · rw [dec_small h] at hx; simp at hx; omega
    · rw [dec_big h] at hx
      rcases List.mem_append.1 hx with hx | hx
      · exact ih (n / 10) (by omega) x hx
      · simp at hx; omega
theorem dec_ge (n : Nat) : ∀ x ∈ dec n, 48 ≤ x := by
  induction n using Nat.strongRecOn with
  | _ n ih =>
    intro x hx
    by_cases h : n ≤ 9
    · rw [dec_small h] at hx; simp at hx; omega
    · rw [dec_big h] at hx
      rcases List.mem_append.1 hx with hx | hx
      · exact ih (n / 10) (by omega) x hx
      · simp at hx; omega
theorem dec_len {n k : Nat} (hk : 0 < k) (h : n < 10 ^ k) : (dec n).length ≤ k := by
  induction k generalizing n with
  | zero => omega
  | succ k ih =>
    by_cases h9 : n ≤ 9
    · rw [dec_small h9]; simp
    · rw [dec_big h9, List.length_append]
      by_cases hk0 : k = 0
      · subst hk0; omega
      · have := ih (n := n / 10) (by omega) (by rw [Nat.pow_succ] at h; omega)
        simp only [List.length_cons, List.length_nil]
        omega
/-- the value of digits -/
def val (l : List Nat) : Nat := l.foldl (fun t d => 10 * t + (d - 48)) 0
theorem val_snoc (l : List Nat) (d : Nat) : val (l ++ [d]) = 10 * val l + (d - 48) := by simp [val]
theorem val_dec (n : Nat) : val (dec n) = n := by
  induction n using Nat.strongRecOn with
  | _ n ih =>
    by_cases h : n ≤ 9
    · rw [dec_small h]; simp [val]
    · rw [dec_big h, val_snoc, ih (n / 10) (by omega)]; omega
theorem dec_inj {m n : Nat} (h : dec m = dec n) : m = n := by rw [← val_dec m, ← val_dec n, h]
/-- two rows of numbers, by the first that differs -/
def cmpL : List Nat → List Nat → Int
  | x :: l, y :: m => if x < y then -1 else if y < x then 1 else cmpL l m
  | _, _ => 0
theorem cmpL_drop (X Y : List Nat) (k x y : Nat) (hx : X[k]? = some x) (hy : Y[k]? = some y) : cmpL (X.drop k) (Y.drop k) = if x < y then -1 else if y < x then 1 else cmpL (X.drop (k + 1)) (Y.drop (k + 1)) := by
  obtain ⟨h1, e1⟩ := List.getElem?_eq_some_iff.1 hx
  obtain ⟨h2, e2⟩ := List.getElem?_eq_some_iff.1 hy
  rw [List.drop_eq_getElem_cons h1, List.drop_eq_getElem_cons h2, e1, e2, cmpL]
theorem cmpL_nil (X Y : List Nat) (k : Nat) (h : X.length ≤ k) : cmpL (X.drop k) (Y.drop k) = 0 := by
  rw [List.drop_of_length_le h, cmpL]
  intro x l y m e
  simp at e
/-- an address's text -/
def oct (ip i : Nat) : Nat := ip / 256 ^ i % 256
def txt4 (ip : Nat) : List Nat := dec (ip / 16777216) ++ [46] ++ dec (ip / 65536 % 256) ++ [46] ++ dec (ip / 256 % 256) ++ [46] ++ dec (ip % 256)
def txt (ip po : Nat) : List Nat := txt4 ip ++ [58] ++ dec po
/-- the digits ahead, at most so many -/
def pre : Nat → List Nat → List Nat
  | 0, _ => []
  | _ + 1, [] => []
  | f + 1, x :: l => if 48 ≤ x ∧ x ≤ 57 then x :: pre f l else []
theorem pre_eq : ∀ (k f : Nat) (l : List Nat), k ≤ f → k ≤ l.length → (∀ x ∈ l.take k, 48 ≤ x ∧ x ≤ 57) → (k = l.length ∨ k = f ∨ ∃ x, l[k]? = some x ∧ ¬ (48 ≤ x ∧ x ≤ 57)) → pre f l = l.take k
  | 0, 0, l, _, _, _, _ => by simp [pre]
  | 0, f + 1, [], _, _, _, _ => by simp [pre]
  | 0, f + 1, x :: l, _, _, _, h => by
    rcases h with h | h | ⟨y, hy, hd⟩
    · simp at h
    · omega
    · simp at hy; subst hy; simp [pre, hd]
  | k + 1, 0, l, h, _, _, _ => by omega
  | k + 1, f + 1, [], _, h, _, _ => by simp at h
  | k + 1, f + 1, x :: l, h1, h2, h3, h4 => by
    have hx := h3 x (by simp)
    have ih := pre_eq k f l (by omega) (by simpa using h2) (fun z hz => h3 z (by simp [hz])) (by
      rcases h4 with h | h | ⟨y, hy, hd⟩
      · exact .inl (by simpa using h)
      · exact .inr (.inl (by omega))
      · exact .inr (.inr ⟨y, by simpa using hy, hd⟩))
    simp [pre, hx, ih]
theorem val_lt (l : List Nat) (h : ∀ x ∈ l, 48 ≤ x ∧ x ≤ 57) : val l < 10 ^ l.length := by
  have key : ∀ (l : List Nat) (t k : Nat), (∀ x ∈ l, 48 ≤ x ∧ x ≤ 57) → t < 10 ^ k → l.foldl (fun t d => 10 * t + (d - 48)) t < 10 ^ (k + l.length) := by
    intro l
    induction l with
    | nil => intro t k _ h; simpa using h
    | cons x l ih =>
      intro t k hl ht
      have hx := hl x (by simp)
      have := ih (10 * t + (x - 48)) (k + 1) (fun z hz => hl z (by simp [hz])) (by rw [Nat.pow_succ]; omega)
      rw [List.foldl_cons, List.length_cons]
      have e : k + (l.length + 1) = k + 1 + l.length := by omega
      rw [e]
      exact this
  have := key l 0 0 h (by decide)
  simpa [val] using this
/-- bytes, the high one first, as a number -/
def v256 (l : List Nat) : Nat := l.foldl (fun t x => t * 256 + x) 0
theorem v256_snoc (l : List Nat) (x : Nat) : v256 (l ++ [x]) = v256 l * 256 + x := by simp [v256]
theorem v256_lt (l : List Nat) (h : ∀ x ∈ l, x ≤ 255) : v256 l < 256 ^ l.length := by
  have key : ∀ (l : List Nat) (t k : Nat), (∀ x ∈ l, x ≤ 255) → t < 256 ^ k → l.foldl (fun t x => t * 256 + x) t < 256 ^ (k + l.length) := by
    intro l
    induction l with
    | nil => intro t k _ h; simpa using h
    | cons x l ih =>
      intro t k hl ht
      have hx := hl x (by simp)
      have := ih (t * 256 + x) (k + 1) (fun z hz => hl z (by simp [hz])) (by rw [Nat.pow_succ]; omega)
      rw [List.foldl_cons, List.length_cons]
      have e : k + (l.length + 1) = k + 1 + l.length := by omega
      rw [e]
      exact this
  have := key l 0 0 h (by decide)
  simpa [v256] using this
theorem take_snoc {l : List Nat} {k x : Nat} (h : l[k]? = some x) : l.take (k + 1) = l.take k ++ [x] := by
  obtain ⟨hk, hx⟩ := List.getElem?_eq_some_iff.1 h
  rw [List.take_succ_eq_append_getElem hk, hx]
end Go.Proofs.Ytgpkckaojcodmaa.TupMath
