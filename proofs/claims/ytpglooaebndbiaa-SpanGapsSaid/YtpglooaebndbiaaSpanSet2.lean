/-
  Lists of spans as sets: the document's own list of pieces is the one that sorting and joining makes.
-/
import Derived.Test.YtpglooaebndbiaaSpanSet
namespace Go.Proofs.Ytpglooaebndbiaa.SpanSet2
open SpanPlain SpanPlain2 SpanSet

theorem insI_cons (a : Int) (N : List Int) (x : Int) : insI (a :: N) x = if a ≤ x then a :: insI N x else x :: a :: N := by
  unfold insI
  split
  · rename_i h
    rw [List.takeWhile_cons_of_pos (by simpa using h), List.dropWhile_cons_of_pos (by simpa using h), List.cons_append]
  · rename_i h
    rw [List.takeWhile_cons_of_neg (by simpa using h), List.dropWhile_cons_of_neg (by simpa using h)]
    rfl
theorem insI_mem : ∀ (N : List Int) (x v : Int), v ∈ insI N x ↔ v = x ∨ v ∈ N
  | [], x, v => by simp [insI]
  | a :: N, x, v => by
    rw [insI_cons]
    split
    · rw [List.mem_cons, insI_mem N x v, List.mem_cons, ← or_assoc, ← or_assoc, or_comm (a := v = a)]
    · simp only [List.mem_cons]
theorem insI_sorted : ∀ {N : List Int} {x : Int}, N.Pairwise (· < ·) → x ∉ N → (insI N x).Pairwise (· < ·)
  | [], x, _, _ => by simp [insI]
  | a :: N, x, h, hx => by
    obtain ⟨h1, h2⟩ := List.pairwise_cons.1 h
    have hxa : x ≠ a := fun e => hx (by rw [e]; exact List.mem_cons_self ..)
    rw [insI_cons]
    split
    · refine List.pairwise_cons.2 ⟨fun b hb => ?_, insI_sorted h2 fun hh => hx (List.mem_cons_of_mem _ hh)⟩
      rcases (insI_mem N x b).1 hb with rfl | hb
      · omega
      · exact h1 b hb
    · refine List.pairwise_cons.2 ⟨fun b hb => ?_, h⟩
      rcases List.mem_cons.1 hb with rfl | hb
      · omega
      · have := h1 b hb; omega
theorem putI_mem (N : List Int) (x v : Int) : v ∈ putI N x ↔ v = x ∨ v ∈ N := by
  unfold putI
  split
  · rename_i h
    exact ⟨.inr, fun hh => by rcases hh with rfl | hh; exact h; exact hh⟩
  · exact insI_mem N x v
theorem putI_sorted {N : List Int} {x : Int} (h : N.Pairwise (· < ·)) : (putI N x).Pairwise (· < ·) := by
  unfold putI
  split
  · exact h
  · rename_i hx
    exact insI_sorted h hx
theorem endsTo_spec (L : List (Int × Int)) : ∀ k, k ≤ L.length → (endsTo L k).Pairwise (· < ·) ∧ ∀ j (hj : j < L.length), j < k → L[j].1 ∈ endsTo L k ∧ L[j].2 ∈ endsTo L k
  | 0, _ => ⟨List.Pairwise.nil, fun _ _ h => absurd h (by omega)⟩
  | k + 1, hk => by
    obtain ⟨h1, h2⟩ := endsTo_spec L k (by omega)
    rw [endsTo_succ (show k < L.length from hk)]
    refine ⟨putI_sorted (putI_sorted h1), fun j hj hjk => ?_⟩
    rcases Nat.lt_or_ge j k with h | h
    · obtain ⟨a1, a2⟩ := h2 j hj h
      exact ⟨(putI_mem _ _ _).2 (.inr ((putI_mem _ _ _).2 (.inr a1))), (putI_mem _ _ _).2 (.inr ((putI_mem _ _ _).2 (.inr a2)))⟩
    · obtain rfl : j = k := by omega
      exact ⟨(putI_mem _ _ _).2 (.inr ((putI_mem _ _ _).2 (.inl rfl))), (putI_mem _ _ _).2 (.inl rfl)⟩
theorem ends_spec (L : List (Int × Int)) (x y : Int) : (endsI L x y).Pairwise (· < ·) ∧ x ∈ endsI L x y ∧ y ∈ endsI L x y ∧ ∀ s ∈ L, s.1 ∈ endsI L x y ∧ s.2 ∈ endsI L x y := by
  obtain ⟨h1, h2⟩ := endsTo_spec L L.length (Nat.le_refl _)
  unfold endsI
  refine ⟨putI_sorted (putI_sorted h1), (putI_mem _ _ _).2 (.inr ((putI_mem _ _ _).2 (.inl rfl))), (putI_mem _ _ _).2 (.inl rfl), fun s hs => ?_⟩
  obtain ⟨j, hj, rfl⟩ := List.mem_iff_getElem.1 hs
  obtain ⟨a1, a2⟩ := h2 j hj hj
  exact ⟨(putI_mem _ _ _).2 (.inr ((putI_mem _ _ _).2 (.inr a1))), (putI_mem _ _ _).2 (.inr ((putI_mem _ _ _).2 (.inr a2)))⟩

theorem step_nil (a b : Int) : step [] a b = [(a, b)] := rfl
theorem step_snoc (M : List (Int × Int)) (s : Int × Int) (a b : Int) : step (M ++ [s]) a b = if s.2 = a then M ++ [(s.1, b)] else M ++ [s] ++ [(a, b)] := by
  unfold step
  simp
theorem step_spec {out : List (Int × Int)} {a b : Int} (hc : Canon out) (hab : a < b) (hl : ∀ s ∈ out, s.2 ≤ a) :
    Canon (step out a b) ∧ (∀ v, hasB (step out a b) v = (hasB out v || inB (a, b) v)) ∧ ∀ s ∈ step out a b, s.2 ≤ b := by
  rcases nil_or_snoc out with rfl | ⟨M, s, rfl⟩
  · rw [step_nil]
    refine ⟨canon_cons.2 ⟨hab, by simp, canon_nil⟩, fun v => by rw [hasB_cons, hasB_nil, Bool.or_false, Bool.false_or], fun s hs => ?_⟩
    rw [List.mem_singleton.1 hs]
    exact Int.le_refl _
  · obtain ⟨h1, h2, h3⟩ := canon_snoc.1 hc
    have hs := hl s (by simp)
    rw [step_snoc]
    split
    · rename_i he
      refine ⟨canon_snoc.2 ⟨h1, h2, by show s.1 < b; omega⟩, fun v => ?_, fun t ht => ?_⟩
      · rw [hasB_snoc, hasB_snoc, Bool.or_assoc]
        congr 1
        rw [Bool.eq_iff_iff, Bool.or_eq_true, inB_iff, inB_iff, inB_iff]
        show s.1 ≤ v ∧ v < b ↔ (s.1 ≤ v ∧ v < s.2) ∨ (a ≤ v ∧ v < b)
        omega
      · rcases List.mem_append.1 ht with h | h
        · have := hl t (List.mem_append_left _ h); omega
        · rw [List.mem_singleton.1 h]; exact Int.le_refl _
    · rename_i he
      refine ⟨canon_snoc.2 ⟨hc, fun t ht => ?_, hab⟩, fun v => hasB_snoc _ _ _, fun t ht => ?_⟩
      · show t.2 < a
        rcases List.mem_append.1 ht with h | h
        · have := h2 t h; have := h3; omega
        · rw [List.mem_singleton.1 h]; omega
      · rcases List.mem_append.1 ht with h | h
        · have := hl t h; omega
        · rw [List.mem_singleton.1 h]; exact Int.le_refl _
theorem madeTo_spec (L : List (Int × Int)) (x y : Int) (add : Bool) {N : List Int} (hN : N.Pairwise (· < ·)) : ∀ k (hk : k < N.length),
    Canon (madeTo L x y add N k) ∧ (∀ s ∈ madeTo L x y add N k, s.2 ≤ N[k]) ∧ ∀ v, hasB (madeTo L x y add N k) v = true ↔ ∃ i, ∃ h : i + 1 < N.length, i < k ∧ N[i] ≤ v ∧ v < N[i + 1] ∧ pieceB L x y add N[i] = true
  | 0, _ => ⟨canon_nil, fun _ h => absurd h List.not_mem_nil, fun v => ⟨fun h => (by cases h), fun ⟨i, _, h, _⟩ => absurd h (by omega)⟩⟩
  | k + 1, hk => by
    obtain ⟨h1, h2, h3⟩ := madeTo_spec L x y add hN k (by omega)
    have hlt := List.pairwise_iff_getElem.1 hN k (k + 1) (by omega) hk (by omega)
    rw [madeTo_succ, getD0 (show k < N.length from by omega), getD0 hk]
    split
    · rename_i hp
      obtain ⟨a1, a2, a3⟩ := step_spec h1 hlt h2
      refine ⟨a1, a3, fun v => ?_⟩
      rw [a2, Bool.or_eq_true, h3, inB_iff]
      constructor
      · rintro (⟨i, hi, h4, h5⟩ | ⟨h4, h5⟩)
        · exact ⟨i, hi, by omega, h5⟩
        · exact ⟨k, hk, by omega, h4, h5, hp⟩
      · rintro ⟨i, hi, h4, h5, h6, h7⟩
        rcases Nat.lt_or_ge i k with h | h
        · exact .inl ⟨i, hi, h, h5, h6, h7⟩
        · obtain rfl : i = k := by omega
          exact .inr ⟨h5, h6⟩
    · rename_i hp
      refine ⟨h1, fun s hs => by have := h2 s hs; omega, fun v => ?_⟩
      rw [h3]
      constructor
      · rintro ⟨i, hi, h4, h5⟩
        exact ⟨i, hi, by omega, h5⟩
      · rintro ⟨i, hi, h4, h5, h6, h7⟩
        rcases Nat.lt_or_ge i k with h | h
        · exact ⟨i, hi, h, h5, h6, h7⟩
        · obtain rfl : i = k := by omega
          exact absurd h7 hp
theorem between {N : List Int} {v : Int} : ∀ d i (h : i + d < N.length), (N[i]'(by omega)) ≤ v → v < N[i + d] → ∃ j, ∃ hj : j + 1 < N.length, N[j] ≤ v ∧ v < N[j + 1]
  | 0, i, h, h1, h2 => by simp only [Nat.add_zero] at h2; omega
  | d + 1, i, h, h1, h2 => by
    rcases Int.lt_or_le v (N[i + 1]'(by omega)) with h3 | h3
    · exact ⟨i, by omega, h1, h3⟩
    · exact between d (i + 1) (by omega) h3 (by simpa [show i + 1 + d = i + (d + 1) from by omega] using h2)
theorem between' {N : List Int} (hN : N.Pairwise (· < ·)) {v e f : Int} (he : e ∈ N) (hf : f ∈ N) (h1 : e ≤ v) (h2 : v < f) : ∃ j, ∃ hj : j + 1 < N.length, N[j] ≤ v ∧ v < N[j + 1] := by
  obtain ⟨i, hi, rfl⟩ := List.mem_iff_getElem.1 he
  obtain ⟨j, hj, rfl⟩ := List.mem_iff_getElem.1 hf
  have hij : i < j := by
    rcases Nat.lt_or_ge i j with h | h
    · exact h
    · rcases Nat.eq_or_lt_of_le h with rfl | h
      · omega
      · have := List.pairwise_iff_getElem.1 hN j i hj hi h
        omega
  exact between (j - i) i (by omega) h1 (by simpa [show i + (j - i) = j from by omega] using h2)
theorem same_side {N : List Int} (hN : N.Pairwise (· < ·)) {i : Nat} (hi : i + 1 < N.length) {v e : Int} (he : e ∈ N) (h1 : N[i] ≤ v) (h2 : v < N[i + 1]) : e ≤ v ↔ e ≤ N[i] := by
  obtain ⟨j, hj, rfl⟩ := List.mem_iff_getElem.1 he
  constructor
  · intro h
    rcases Nat.lt_trichotomy j i with hji | rfl | hji
    · have := List.pairwise_iff_getElem.1 hN j i hj (by omega) hji
      omega
    · exact Int.le_refl _
    · rcases Nat.eq_or_lt_of_le (show i + 1 ≤ j from hji) with rfl | hji
      · omega
      · have := List.pairwise_iff_getElem.1 hN (i + 1) j hi hj hji
        omega
  · intro h; omega
theorem made_has (L : List (Int × Int)) (x y : Int) (add : Bool) : Canon (madeI L x y add) ∧ ∀ v, hasB (madeI L x y add) v = pieceB L x y add v := by
  obtain ⟨hN, hx, hy, hs⟩ := ends_spec L x y
  have hpos : 0 < (endsI L x y).length := List.length_pos_of_mem hx
  obtain ⟨h1, _, h3⟩ := madeTo_spec L x y add hN ((endsI L x y).length - 1) (by omega)
  refine ⟨h1, fun v => ?_⟩
  unfold madeI
  have same : ∀ i (h : i + 1 < (endsI L x y).length), (endsI L x y)[i] ≤ v → v < (endsI L x y)[i + 1] → pieceB L x y add (endsI L x y)[i] = pieceB L x y add v := by
    intro i h a1 a2
    have e1 : ofB x y (endsI L x y)[i] = ofB x y v := by
      have b1 := same_side hN h hx a1 a2
      have b2 := same_side hN h hy a1 a2
      unfold ofB
      rw [Bool.eq_iff_iff]
      simp only [Bool.and_eq_true, decide_eq_true_eq]
      omega
    have e2 : hasB L (endsI L x y)[i] = hasB L v := by
      rw [Bool.eq_iff_iff, hasB_iff, hasB_iff]
      constructor
      · rintro ⟨s, hs', b1, b2⟩
        have c1 := same_side hN h (hs s hs').1 a1 a2
        have c2 := same_side hN h (hs s hs').2 a1 a2
        exact ⟨s, hs', by omega, by omega⟩
      · rintro ⟨s, hs', b1, b2⟩
        have c1 := same_side hN h (hs s hs').1 a1 a2
        have c2 := same_side hN h (hs s hs').2 a1 a2
        exact ⟨s, hs', by omega, by omega⟩
    unfold pieceB
    rw [e1, e2]
  rw [Bool.eq_iff_iff, h3]
  constructor
  · rintro ⟨i, hi, _, a1, a2, a3⟩
    rw [← same i hi a1 a2]
    exact a3
  · intro hp
    have : ∃ j, ∃ hj : j + 1 < (endsI L x y).length, (endsI L x y)[j] ≤ v ∧ v < (endsI L x y)[j + 1] := by
      have hp' := hp
      unfold pieceB at hp'
      rw [Bool.or_eq_true, Bool.and_eq_true, Bool.and_eq_true] at hp'
      rcases hp' with ⟨h, _⟩ | ⟨_, h⟩
      · obtain ⟨s, hs', b1, b2⟩ := hasB_iff.1 h
        exact between' hN (hs s hs').1 (hs s hs').2 b1 b2
      · simp only [ofB, Bool.and_eq_true, decide_eq_true_eq] at h
        exact between' hN hx hy h.1 h.2
    obtain ⟨j, hj, a1, a2⟩ := this
    exact ⟨j, hj, by omega, a1, a2, by rw [same j hj a1 a2]; exact hp⟩

/-! What adding and cutting make. -/
def addI (L : List (Int × Int)) (x y : Int) : List (Int × Int) := normI (L ++ [(x, y)])
def cutParts (L : List (Int × Int)) (x y : Int) : List (Int × Int) := L.flatMap fun s => [(s.1, min s.2 x), (max s.1 y, s.2)]
def cutI (L : List (Int × Int)) (x y : Int) : List (Int × Int) := normI (cutParts L x y)
theorem cutParts_has (x y v : Int) : ∀ L : List (Int × Int), hasB (cutParts L x y) v = (hasB L v && !ofB x y v)
  | [] => rfl
  | s :: L => by
    have ih := cutParts_has x y v L
    unfold cutParts at *
    rw [List.flatMap_cons, hasB_append, ih, hasB_cons, hasB_cons, hasB_cons, hasB_nil, Bool.or_false, Bool.and_or_distrib_right]
    congr 1
    rw [Bool.eq_iff_iff]
    simp only [inB, ofB, Bool.or_eq_true, Bool.and_eq_true, decide_eq_true_eq, Bool.not_eq_true', Bool.and_eq_false_iff, decide_eq_false_iff_not]
    omega
theorem add_has (L : List (Int × Int)) (x y v : Int) : hasB (addI L x y) v = (hasB L v || ofB x y v) := by
  unfold addI
  rw [(norm_spec _).2, hasB_snoc]
  rfl
theorem cut_has (L : List (Int × Int)) (x y v : Int) : hasB (cutI L x y) v = (hasB L v && !ofB x y v) := by
  unfold cutI
  rw [(norm_spec _).2, cutParts_has]
theorem add_canon (L : List (Int × Int)) (x y : Int) : Canon (addI L x y) := (norm_spec _).1
theorem cut_canon (L : List (Int × Int)) (x y : Int) : Canon (cutI L x y) := (norm_spec _).1
theorem made_add (L : List (Int × Int)) (x y : Int) : madeI L x y true = addI L x y :=
  canon_unique (made_has L x y true).1 (add_canon L x y) fun v => by
    rw [(made_has L x y true).2, add_has]
    unfold pieceB
    simp
theorem made_cut (L : List (Int × Int)) (x y : Int) : madeI L x y false = cutI L x y :=
  canon_unique (made_has L x y false).1 (cut_canon L x y) fun v => by
    rw [(made_has L x y false).2, cut_has]
    unfold pieceB
    simp
end Go.Proofs.Ytpglooaebndbiaa.SpanSet2
