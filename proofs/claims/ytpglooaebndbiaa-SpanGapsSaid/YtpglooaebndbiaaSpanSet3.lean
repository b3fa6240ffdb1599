/-
  Lists of spans as sets: how long they are, what they cover, how many numbers they have.
-/
import Derived.Test.YtpglooaebndbiaaSpanSet2
namespace Go.Proofs.Ytpglooaebndbiaa.SpanSet3
open SpanPlain SpanPlain2 SpanSet SpanSet2

theorem subset_len {α : Type} [DecidableEq α] : ∀ {l m : List α}, l.Nodup → (∀ x ∈ l, x ∈ m) → l.length ≤ m.length
  | [], _, _, _ => Nat.zero_le _
  | a :: l, m, hn, hs => by
    obtain ⟨h1, h2⟩ := List.nodup_cons.1 hn
    have ha : a ∈ m := hs a (List.mem_cons_self ..)
    have h3 : ∀ x ∈ l, x ∈ m.erase a := fun x hx => (List.mem_erase_of_ne (by rintro rfl; exact h1 hx)).2 (hs x (List.mem_cons_of_mem _ hx))
    have h4 := subset_len h2 h3
    have h5 := List.length_erase_of_mem ha
    have h6 := List.length_pos_of_mem ha
    rw [List.length_cons]
    omega

/-- Where a list's spans begin. -/
theorem canon_nodup {L : List (Int × Int)} (h : Canon L) : (L.map (·.1)).Nodup := by
  rw [List.nodup_iff_pairwise_ne, List.pairwise_map]
  exact h.2.imp_of_mem fun ha _ hab => by have := h.1 _ ha; omega
theorem canon_rise {L : List (Int × Int)} (h : Canon L) {s : Int × Int} (hs : s ∈ L) : hasB L s.1 = true ∧ hasB L (s.1 - 1) = false := by
  refine ⟨hasB_iff.2 ⟨s, hs, Int.le_refl _, h.1 s hs⟩, ?_⟩
  rw [← Bool.not_eq_true, hasB_iff]
  rintro ⟨t, ht, h1, h2⟩
  obtain ⟨i, hi, rfl⟩ := List.mem_iff_getElem.1 hs
  obtain ⟨j, hj, rfl⟩ := List.mem_iff_getElem.1 ht
  rcases Nat.lt_trichotomy i j with hij | rfl | hij
  · have := List.pairwise_iff_getElem.1 h.2 i j hi hj hij
    have := h.1 _ hs
    omega
  · omega
  · have := List.pairwise_iff_getElem.1 h.2 j i hj hi hij
    omega
theorem rise_mem {L : List (Int × Int)} {v : Int} (h1 : hasB L v = true) (h2 : hasB L (v - 1) = false) : v ∈ L.map (·.1) := by
  obtain ⟨s, hs, h3, h4⟩ := hasB_iff.1 h1
  refine List.mem_map.2 ⟨s, hs, ?_⟩
  rcases Int.lt_or_le s.1 v with h | h
  · have : hasB L (v - 1) = true := hasB_iff.2 ⟨s, hs, by omega, by omega⟩
    rw [this] at h2
    cases h2
  · exact Int.le_antisymm h3 h
theorem ofB_iff {x y a : Int} : ofB x y a = true ↔ x ≤ a ∧ a < y := by simp [ofB]
theorem add_len (L : List (Int × Int)) (x y : Int) : (addI L x y).length ≤ L.length + 1 := by
  have hc := add_canon L x y
  have : ∀ v ∈ (addI L x y).map (·.1), v ∈ x :: L.map (·.1) := by
    intro v hv
    obtain ⟨s, hs, rfl⟩ := List.mem_map.1 hv
    obtain ⟨h1, h2⟩ := canon_rise hc hs
    rw [add_has, Bool.or_eq_true] at h1
    rw [add_has, Bool.or_eq_false_iff] at h2
    rcases h1 with h1 | h1
    · exact List.mem_cons_of_mem _ (rise_mem h1 h2.1)
    · have h3 := ofB_iff.1 h1
      have h4 : ¬ (x ≤ s.1 - 1 ∧ s.1 - 1 < y) := fun h => by have := ofB_iff.2 h; rw [this] at h2; cases h2.2
      rw [show s.1 = x from by omega]
      exact List.mem_cons_self ..
  have h := subset_len (canon_nodup hc) this
  simpa using h
theorem cut_len (L : List (Int × Int)) (x y : Int) : (cutI L x y).length ≤ L.length + 1 := by
  have hc := cut_canon L x y
  have : ∀ v ∈ (cutI L x y).map (·.1), v ∈ y :: L.map (·.1) := by
    intro v hv
    obtain ⟨s, hs, rfl⟩ := List.mem_map.1 hv
    obtain ⟨h1, h2⟩ := canon_rise hc hs
    rw [cut_has, Bool.and_eq_true, Bool.not_eq_true'] at h1
    rw [cut_has, Bool.and_eq_false_iff, Bool.not_eq_false'] at h2
    rcases h2 with h2 | h2
    · exact List.mem_cons_of_mem _ (rise_mem h1.1 h2)
    · have h3 := ofB_iff.1 h2
      have h4 : ¬ (x ≤ s.1 ∧ s.1 < y) := fun h => by have := ofB_iff.2 h; rw [this] at h1; cases h1.2
      rw [show s.1 = y from by omega]
      exact List.mem_cons_self ..
  have h := subset_len (canon_nodup hc) this
  simpa using h

theorem may_of {L : List (Int × Int)} (h : Canon L) (hl : L.length ≤ 256) : mayB L = true := mayB_iff.2 ⟨hl, h⟩
theorem atB_has (L : List (Int × Int)) (x : Int) : (atI L x).isSome = hasB L x := by
  rcases first_hit L x with ⟨h1, h2⟩ | ⟨k, hk, h1, h2, _⟩
  · rw [h1]
    refine (Bool.eq_false_iff.2 fun h => ?_).symm
    obtain ⟨s, hs, h3, h4⟩ := hasB_iff.1 h
    obtain ⟨j, hj, rfl⟩ := List.mem_iff_getElem.1 hs
    have := h2 j hj
    simp [hitB, h3, h4] at this
  · rw [h1]
    simp only [hitB, Bool.and_eq_true, decide_eq_true_eq] at h2
    exact (hasB_true hk h2.1 h2.2).symm
/-- A gap begins at x just if x is none of the list's. -/
theorem gap_here {L : List (Int × Int)} (hm : mayB L = true) (x : Int) : decide (gapI L x = x) = !hasB L x := by
  rcases first_hit L x with ⟨h1, h2⟩ | ⟨k, hk, h1, h2, h3⟩
  · have hn : hasB L x = false := by rw [← atB_has, h1]; rfl
    rw [gapI_none hm hn, hn]
    simp
  · have hy : hasB L x = true := by rw [← atB_has, h1]; rfl
    simp only [hitB, Bool.and_eq_true, decide_eq_true_eq] at h2
    unfold gapI
    rw [hm, h1, hy]
    simp only [if_true, Option.map_some, Option.getD_some, Bool.not_true, decide_eq_false_iff_not]
    omega

/-- A list that has all numbers of a span covers it. -/
theorem covers_of {L : List (Int × Int)} {x y : Int} (hm : mayB L = true) (hxy : x ≤ y) (h : ∀ v, x ≤ v → v < y → hasB L v = true) : coversB L x y = true := by
  rcases Int.lt_or_le x y with hlt | hge
  · obtain ⟨s, hs, h1, h2⟩ := hasB_iff.1 (h x (Int.le_refl _) hlt)
    obtain ⟨k, hk, rfl⟩ := List.mem_iff_getElem.1 hs
    refine coversB_hit hm hxy hk h1 ?_
    rcases Int.lt_or_le L[k].2 y with h3 | h3
    · have hc := (mayB_iff.1 hm).2
      obtain ⟨t, ht, h4, h5⟩ := hasB_iff.1 (h L[k].2 (by omega) h3)
      obtain ⟨j, hj, rfl⟩ := List.mem_iff_getElem.1 ht
      rcases Nat.lt_trichotomy k j with hij | rfl | hij
      · have := List.pairwise_iff_getElem.1 hc.2 k j hk hj hij
        omega
      · omega
      · have := List.pairwise_iff_getElem.1 hc.2 j k hj hk hij
        have := hc.1 _ hs
        omega
    · exact h3
  · obtain rfl : x = y := by omega
    exact coversB_empty hm

/-! How many numbers: those below n, counted. -/
def cov (n : Int) (L : List (Int × Int)) : Int := (L.map fun s => min n s.2 - min n s.1).sum
theorem cov_cons (n : Int) (s : Int × Int) (L : List (Int × Int)) : cov n (s :: L) = (min n s.2 - min n s.1) + cov n L := by simp [cov]
theorem cov_step (n : Int) : ∀ {L : List (Int × Int)}, Canon L → cov (n + 1) L = cov n L + if hasB L n then 1 else 0
  | [], _ => by simp [cov, hasB_nil]
  | s :: L, h => by
    obtain ⟨h1, h2, h3⟩ := canon_cons.1 h
    rw [cov_cons, cov_cons, cov_step n h3, hasB_cons]
    rcases hi : inB s n with _ | _
    · rw [Bool.false_or]
      have : ¬ (s.1 ≤ n ∧ n < s.2) := fun hh => by have := inB_iff.2 hh; rw [hi] at this; cases this
      omega
    · have hin := inB_iff.1 hi
      rw [show hasB L n = false from by rw [← Bool.not_eq_true]; intro hh; have := canon_tail_low h hh; omega]
      simp
      omega
theorem cov_low {n : Int} : ∀ {L : List (Int × Int)}, (∀ s ∈ L, n ≤ s.1 ∧ n ≤ s.2) → cov n L = 0
  | [], _ => by simp [cov]
  | s :: L, h => by
    have h1 := h s (List.mem_cons_self ..)
    rw [cov_cons, cov_low fun t ht => h t (List.mem_cons_of_mem _ ht)]
    omega
theorem cov_high {n : Int} : ∀ {L : List (Int × Int)}, (∀ s ∈ L, s.1 ≤ n ∧ s.2 ≤ n) → cov n L = sumTo L L.length
  | [], _ => by simp [cov, sumTo]
  | s :: L, h => by
    have h1 := h s (List.mem_cons_self ..)
    rw [cov_cons, cov_high fun t ht => h t (List.mem_cons_of_mem _ ht)]
    unfold sumTo
    simp only [List.take_length, List.map_cons, List.sum_cons]
    omega
theorem bounds_of : ∀ L : List (Int × Int), ∃ lo hi : Int, ∀ s ∈ L, lo ≤ s.1 ∧ lo ≤ s.2 ∧ s.1 ≤ hi ∧ s.2 ≤ hi
  | [] => ⟨0, 0, fun _ h => absurd h List.not_mem_nil⟩
  | s :: L => by
    obtain ⟨lo, hi, h⟩ := bounds_of L
    refine ⟨min lo (min s.1 s.2), max hi (max s.1 s.2), fun t ht => ?_⟩
    rcases List.mem_cons.1 ht with rfl | ht
    · omega
    · have := h t ht; omega
/-- What a span that lies in a list has, and what is left of the list without it. -/
theorem sum_parts {B K : List (Int × Int)} {x y : Int} (hB : Canon B) (hK : Canon K) (hxy : x < y) (h : ∀ v, hasB B v = (hasB K v || ofB x y v)) (hd : ∀ v, hasB K v = true → ofB x y v = false) :
    sumTo B B.length = sumTo K K.length + (y - x) := by
  have hS : Canon [(x, y)] := canon_cons.2 ⟨hxy, by simp, canon_nil⟩
  obtain ⟨lo1, hi1, b1⟩ := bounds_of B
  obtain ⟨lo2, hi2, b2⟩ := bounds_of K
  have key : ∀ d : Nat, cov (min lo1 (min lo2 x) + d) B = cov (min lo1 (min lo2 x) + d) K + cov (min lo1 (min lo2 x) + d) [(x, y)] := by
    intro d
    induction d with
    | zero =>
      rw [cov_low, cov_low, cov_low]
      · omega
      · intro s hs; rw [List.mem_singleton.1 hs]; show _ ≤ x ∧ _ ≤ y; omega
      · intro s hs; have := b2 s hs; omega
      · intro s hs; have := b1 s hs; omega
    | succ d ih =>
      have e : min lo1 (min lo2 x) + ((d + 1 : Nat) : Int) = (min lo1 (min lo2 x) + d) + 1 := by omega
      rw [e]
      generalize min lo1 (min lo2 x) + (d : Int) = m at *
      rw [cov_step m hB, cov_step m hK, cov_step m hS, ih, h m]
      have hs : hasB [(x, y)] m = ofB x y m := by rw [hasB_cons, hasB_nil, Bool.or_false]; rfl
      rw [hs]
      have := hd m
      rcases h1 : hasB K m with _ | _ <;> rcases h2 : ofB x y m with _ | _
      · simp
      · simp; omega
      · simp; omega
      · rw [this h1] at h2; cases h2
  have hk := key (max (max hi1 (max hi2 y)) (min lo1 (min lo2 x)) - min lo1 (min lo2 x)).toNat
  rw [show min lo1 (min lo2 x) + ((max (max hi1 (max hi2 y)) (min lo1 (min lo2 x)) - min lo1 (min lo2 x)).toNat : Int) = max (max hi1 (max hi2 y)) (min lo1 (min lo2 x)) from by omega] at hk
  rw [cov_high, cov_high, cov_high] at hk
  · rw [hk]
    simp [sumTo]
  · intro s hs; rw [List.mem_singleton.1 hs]; show x ≤ _ ∧ y ≤ _; omega
  · intro s hs; have := b2 s hs; omega
  · intro s hs; have := b1 s hs; omega
end Go.Proofs.Ytpglooaebndbiaa.SpanSet3
