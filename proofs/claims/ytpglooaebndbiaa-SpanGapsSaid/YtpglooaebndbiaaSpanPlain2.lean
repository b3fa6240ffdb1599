/-
  Lists of spans as plain mathematics, more: the pieces between places, one step.
-/
import Derived.Test.YtpglooaebndbiaaSpanPlain
namespace Go.Proofs.Ytpglooaebndbiaa.SpanPlain2
open SpanPlain

theorem nil_or_snoc {α : Type} (L : List α) : L = [] ∨ ∃ M s, L = M ++ [s] := by
  rcases List.eq_nil_or_concat L with h | ⟨M, s, h⟩
  · exact .inl h
  · exact .inr ⟨M, s, by rw [h, List.concat_eq_append]⟩
theorem getD0 {N : List Int} {k : Nat} (hk : k < N.length) : N.getD k 0 = N[k] := by simp [List.getD, hk]
theorem made_skip {L : List (Int × Int)} {x y : Int} {add : Bool} {N : List Int} {k : Nat} {a : Int} (hk : k < N.length) (ha : N[k] = a) (h : pieceB L x y add a = false) : madeTo L x y add N (k + 1) = madeTo L x y add N k := by
  rw [madeTo_succ, getD0 hk, ha, h]
  rfl
theorem made_first {L : List (Int × Int)} {x y : Int} {add : Bool} {N : List Int} {k : Nat} {a b : Int} (hk : k + 1 < N.length) (ha : N[k] = a) (hb : N[k + 1] = b) (h : pieceB L x y add a = true) (he : madeTo L x y add N k = []) :
    madeTo L x y add N (k + 1) = madeTo L x y add N k ++ [(a, b)] := by
  rw [madeTo_succ, getD0 (show k < N.length from by omega), getD0 hk, ha, hb, h, he]
  rfl
theorem made_apart {L : List (Int × Int)} {x y : Int} {add : Bool} {N : List Int} {k : Nat} {a b : Int} {M : List (Int × Int)} {s : Int × Int} (hk : k + 1 < N.length) (ha : N[k] = a) (hb : N[k + 1] = b) (h : pieceB L x y add a = true) (he : madeTo L x y add N k = M ++ [s]) (hs : ¬ s.2 = a) :
    madeTo L x y add N (k + 1) = madeTo L x y add N k ++ [(a, b)] := by
  rw [madeTo_succ, getD0 (show k < N.length from by omega), getD0 hk, ha, hb, h, he]
  unfold step
  simp [hs]
theorem made_join {L : List (Int × Int)} {x y : Int} {add : Bool} {N : List Int} {k : Nat} {a b : Int} {M : List (Int × Int)} {s : Int × Int} (hk : k + 1 < N.length) (ha : N[k] = a) (hb : N[k + 1] = b) (h : pieceB L x y add a = true) (he : madeTo L x y add N k = M ++ [s]) (hs : s.2 = a) :
    madeTo L x y add N (k + 1) = M ++ [(s.1, b)] := by
  rw [madeTo_succ, getD0 (show k < N.length from by omega), getD0 hk, ha, hb, h, he]
  unfold step
  simp [hs]
theorem made_end {L : List (Int × Int)} {x y : Int} {add : Bool} {N : List Int} {k : Nat} (hN : endsI L x y = N) (hk : N.length - 1 = k) : madeI L x y add = madeTo L x y add N k := by
  unfold madeI
  rw [hN, hk]

theorem first_hit (L : List (Int × Int)) (x : Int) : (atI L x = none ∧ ∀ j (h : j < L.length), hitB x L[j] = false) ∨ ∃ k, ∃ h : k < L.length, atI L x = some L[k] ∧ hitB x L[k] = true ∧ ∀ j (hj : j < k), hitB x (L[j]'(by omega)) = false := by
  rcases Nat.lt_or_ge (L.findIdx (hitB x)) L.length with h | h
  · have h1 : hitB x L[L.findIdx (hitB x)] = true := List.findIdx_getElem
    have h2 : ∀ j (hj : j < L.findIdx (hitB x)), hitB x (L[j]'(by omega)) = false := fun j hj => by
      have := List.not_of_lt_findIdx hj
      simpa using this
    refine .inr ⟨_, h, ?_, h1, h2⟩
    have h3 : L[L.findIdx (hitB x)].1 ≤ x ∧ x < L[L.findIdx (hitB x)].2 := by simpa [hitB] using h1
    refine atI_hit h ?_ h3.1 h3.2
    unfold hasB
    rw [List.any_eq_false]
    intro s hs
    obtain ⟨j, hj, rfl⟩ := List.mem_iff_getElem.1 hs
    rw [List.length_take] at hj
    have := h2 j (by omega)
    rw [List.getElem_take]
    simpa [hitB] using this
  · have h1 : ∀ s ∈ L, hitB x s = false := fun s hs => by
      have := List.findIdx_eq_length.1 (Nat.le_antisymm List.findIdx_le_length h) s hs
      simpa using this
    refine .inl ⟨?_, fun j hj => h1 _ (List.getElem_mem hj)⟩
    unfold atI
    rw [List.find?_eq_none]
    intro s hs
    simp [h1 s hs]
end Go.Proofs.Ytpglooaebndbiaa.SpanPlain2
