/-
  Lists of spans as sets: a list that may be is told by its numbers alone; sorting and joining makes it.
-/
import Derived.Test.YtpglooaebndbiaaSpanPlain2
namespace Go.Proofs.Ytpglooaebndbiaa.SpanSet
open SpanPlain SpanPlain2

def Canon (L : List (Int × Int)) : Prop := (∀ s ∈ L, s.1 < s.2) ∧ L.Pairwise (fun s t => s.2 < t.1)
def inB (s : Int × Int) (x : Int) : Bool := decide (s.1 ≤ x) && decide (x < s.2)
theorem inB_iff {s : Int × Int} {x : Int} : inB s x = true ↔ s.1 ≤ x ∧ x < s.2 := by simp [inB]
theorem hasB_iff {L : List (Int × Int)} {x : Int} : hasB L x = true ↔ ∃ s ∈ L, s.1 ≤ x ∧ x < s.2 := by simp [hasB]
theorem hasB_nil (x : Int) : hasB [] x = false := rfl
theorem hasB_cons (s : Int × Int) (L : List (Int × Int)) (x : Int) : hasB (s :: L) x = (inB s x || hasB L x) := rfl
theorem hasB_append (L K : List (Int × Int)) (x : Int) : hasB (L ++ K) x = (hasB L x || hasB K x) := by unfold hasB; rw [List.any_append]
theorem hasB_snoc (L : List (Int × Int)) (s : Int × Int) (x : Int) : hasB (L ++ [s]) x = (hasB L x || inB s x) := by rw [hasB_append, hasB_cons, hasB_nil, Bool.or_false]
theorem hasB_perm {L K : List (Int × Int)} (h : L.Perm K) (x : Int) : hasB L x = hasB K x := by
  rw [Bool.eq_iff_iff, hasB_iff, hasB_iff]
  exact ⟨fun ⟨s, hs, h1⟩ => ⟨s, h.mem_iff.1 hs, h1⟩, fun ⟨s, hs, h1⟩ => ⟨s, h.mem_iff.2 hs, h1⟩⟩

theorem canon_nil : Canon [] := ⟨fun _ h => absurd h List.not_mem_nil, List.Pairwise.nil⟩
theorem canon_cons {s : Int × Int} {L : List (Int × Int)} : Canon (s :: L) ↔ s.1 < s.2 ∧ (∀ t ∈ L, s.2 < t.1) ∧ Canon L := by
  unfold Canon
  rw [List.pairwise_cons]
  constructor
  · rintro ⟨h1, h2, h3⟩
    exact ⟨h1 s (List.mem_cons_self ..), h2, fun t ht => h1 t (List.mem_cons_of_mem _ ht), h3⟩
  · rintro ⟨h1, h2, h3, h4⟩
    refine ⟨fun t ht => ?_, h2, h4⟩
    rcases List.mem_cons.1 ht with rfl | h
    · exact h1
    · exact h3 t h
theorem canon_snoc {s : Int × Int} {L : List (Int × Int)} : Canon (L ++ [s]) ↔ Canon L ∧ (∀ t ∈ L, t.2 < s.1) ∧ s.1 < s.2 := by
  unfold Canon
  rw [List.pairwise_append]
  constructor
  · rintro ⟨h1, h2, _, h3⟩
    exact ⟨⟨fun t ht => h1 t (List.mem_append_left _ ht), h2⟩, fun t ht => h3 t ht s (List.mem_singleton.2 rfl), h1 s (List.mem_append_right _ (List.mem_singleton.2 rfl))⟩
  · rintro ⟨⟨h1, h2⟩, h3, h4⟩
    refine ⟨fun t ht => ?_, h2, List.pairwise_singleton _ _, fun t ht u hu => ?_⟩
    · rcases List.mem_append.1 ht with h | h
      · exact h1 t h
      · rw [List.mem_singleton.1 h]; exact h4
    · rw [List.mem_singleton.1 hu]; exact h3 t ht
theorem canon_tail_low {s : Int × Int} {L : List (Int × Int)} (h : Canon (s :: L)) {x : Int} (hx : hasB L x = true) : s.2 < x := by
  obtain ⟨t, ht, h1, _⟩ := hasB_iff.1 hx
  have := (canon_cons.1 h).2.1 t ht
  omega
theorem canon_unique : ∀ {L K : List (Int × Int)}, Canon L → Canon K → (∀ x, hasB L x = hasB K x) → L = K
  | [], [], _, _, _ => rfl
  | [], t :: K, _, hK, h => by
    have h1 := (canon_cons.1 hK).1
    have h2 : hasB (t :: K) t.1 = true := hasB_iff.2 ⟨t, List.mem_cons_self .., by omega, h1⟩
    rw [← h] at h2
    cases h2
  | s :: L, [], hL, _, h => by
    have h1 := (canon_cons.1 hL).1
    have h2 : hasB (s :: L) s.1 = true := hasB_iff.2 ⟨s, List.mem_cons_self .., by omega, h1⟩
    rw [h] at h2
    cases h2
  | s :: L, t :: K, hL, hK, h => by
    obtain ⟨s1, s2, hL'⟩ := canon_cons.1 hL
    obtain ⟨t1, t2, hK'⟩ := canon_cons.1 hK
    have low : ∀ {u : Int × Int} {M : List (Int × Int)}, Canon (u :: M) → ∀ x, hasB (u :: M) x = true → u.1 ≤ x := by
      intro u M hM x hx
      rw [hasB_cons, Bool.or_eq_true, inB_iff] at hx
      rcases hx with hx | hx
      · exact hx.1
      · have := canon_tail_low hM hx
        have := (canon_cons.1 hM).1
        omega
    have e1 : s.1 = t.1 := by
      have a1 := low hK s.1 (by rw [← h]; exact hasB_iff.2 ⟨s, List.mem_cons_self .., by omega, s1⟩)
      have a2 := low hL t.1 (by rw [h]; exact hasB_iff.2 ⟨t, List.mem_cons_self .., by omega, t1⟩)
      omega
    have e2 : s.2 = t.2 := by
      have out : ∀ {u : Int × Int} {M : List (Int × Int)}, Canon (u :: M) → hasB (u :: M) u.2 = false := by
        intro u M hM
        rw [← Bool.not_eq_true, hasB_cons, Bool.or_eq_true, inB_iff]
        rintro (hx | hx)
        · omega
        · have := canon_tail_low hM hx
          omega
      have a1 := out hL
      have a2 := out hK
      rcases Int.lt_trichotomy s.2 t.2 with hlt | he | hlt
      · rw [h, hasB_cons, Bool.or_eq_false_iff] at a1
        have : inB t s.2 = true := inB_iff.2 ⟨by omega, hlt⟩
        rw [this] at a1
        cases a1.1
      · exact he
      · rw [← h, hasB_cons, Bool.or_eq_false_iff] at a2
        have : inB s t.2 = true := inB_iff.2 ⟨by omega, hlt⟩
        rw [this] at a2
        cases a2.1
    obtain rfl : s = t := Prod.ext e1 e2
    refine congrArg (s :: ·) (canon_unique hL' hK' fun x => ?_)
    have hx := h x
    rw [hasB_cons, hasB_cons] at hx
    rcases hi : inB s x with _ | _
    · rw [hi, Bool.false_or, Bool.false_or] at hx
      exact hx
    · have := inB_iff.1 hi
      rw [show hasB L x = false from by
        rw [← Bool.not_eq_true]; intro hh; have := canon_tail_low hL hh; omega]
      rw [show hasB K x = false from by
        rw [← Bool.not_eq_true]; intro hh; have := canon_tail_low hK hh; omega]

/-! Which lists may be. -/
theorem okAt_iff {L : List (Int × Int)} {i : Nat} (hi : i < L.length) : okAt L i = true ↔ L[i].1 < L[i].2 ∧ (∀ (h : 0 < i), (L[i - 1]'(by omega)).2 < L[i].1) := by
  unfold okAt
  rw [getD_get hi, getD_get (show i - 1 < L.length from by omega)]
  simp only [Bool.and_eq_true, Bool.or_eq_true, decide_eq_true_eq]
  constructor
  · rintro ⟨h1, h2⟩
    exact ⟨h1, fun h => by rcases h2 with h2 | h2; omega; exact h2⟩
  · rintro ⟨h1, h2⟩
    exact ⟨h1, by rcases Nat.eq_zero_or_pos i with h | h; exact .inl h; exact .inr (h2 h)⟩
theorem okTo_iff {L : List (Int × Int)} : okTo L L.length = true ↔ Canon L := by
  unfold okTo
  rw [List.all_eq_true]
  constructor
  · intro h
    have h' : ∀ i (hi : i < L.length), L[i].1 < L[i].2 ∧ (∀ (h : 0 < i), (L[i - 1]'(by omega)).2 < L[i].1) := fun i hi => (okAt_iff hi).1 (h i (List.mem_range.2 hi))
    refine ⟨fun s hs => ?_, ?_⟩
    · obtain ⟨i, hi, rfl⟩ := List.mem_iff_getElem.1 hs
      exact (h' i hi).1
    · rw [List.pairwise_iff_getElem]
      have key : ∀ d i (hj : i + d + 1 < L.length), (L[i]'(by omega)).2 < (L[i + d + 1]'hj).1 := by
        intro d
        induction d with
        | zero => intro i hj; exact (h' (i + 1) hj).2 (by omega)
        | succ d ih =>
          intro i hj
          have a1 := ih i (by omega)
          have a2 := (h' (i + d + 1) (by omega)).1
          have a3 := (h' (i + (d + 1) + 1) hj).2 (by omega)
          simp only [show i + (d + 1) + 1 - 1 = i + d + 1 from by omega] at a3
          omega
      intro i j hi hj hij
      have := key (j - i - 1) i (by omega)
      simpa [show i + (j - i - 1) + 1 = j from by omega] using this
  · rintro ⟨h1, h2⟩ i hi
    have hi := List.mem_range.1 hi
    rw [okAt_iff hi]
    exact ⟨h1 _ (List.getElem_mem hi), fun h => List.pairwise_iff_getElem.1 h2 (i - 1) i (by omega) hi (by omega)⟩
theorem mayB_iff {L : List (Int × Int)} : mayB L = true ↔ L.length ≤ 256 ∧ Canon L := by
  unfold mayB
  rw [Bool.and_eq_true, decide_eq_true_eq, okTo_iff]
theorem canon_one {L : List (Int × Int)} (h : Canon L) {x : Int} : ∀ s ∈ L, ∀ t ∈ L, hitB x s = true → hitB x t = true → s = t := by
  intro s hs t ht h1 h2
  obtain ⟨i, hi, rfl⟩ := List.mem_iff_getElem.1 hs
  obtain ⟨j, hj, rfl⟩ := List.mem_iff_getElem.1 ht
  simp only [hitB, Bool.and_eq_true, decide_eq_true_eq] at h1 h2
  rcases Nat.lt_trichotomy i j with hij | rfl | hij
  · have := List.pairwise_iff_getElem.1 h.2 i j hi hj hij
    omega
  · rfl
  · have := List.pairwise_iff_getElem.1 h.2 j i hj hi hij
    omega

/-! Sorting and joining. -/
def jstep (out : List (Int × Int)) (x : Int × Int) : List (Int × Int) :=
  match out.getLast? with
  | some s => if s.2 < x.1 then out ++ [x] else out.dropLast ++ [(s.1, max s.2 x.2)]
  | none => out ++ [x]
def joinTo (D : List (Int × Int)) (k : Nat) : List (Int × Int) := (D.take k).foldl jstep []
theorem joinTo_succ {D : List (Int × Int)} {k : Nat} (hk : k < D.length) : joinTo D (k + 1) = jstep (joinTo D k) D[k] := by
  unfold joinTo
  rw [List.take_succ_eq_append_getElem hk, List.foldl_append]
  rfl
theorem jstep_nil (x : Int × Int) : jstep [] x = [x] := rfl
theorem jstep_snoc (M : List (Int × Int)) (s x : Int × Int) : jstep (M ++ [s]) x = if s.2 < x.1 then M ++ [s] ++ [x] else M ++ [(s.1, max s.2 x.2)] := by
  unfold jstep
  simp
theorem jstep_spec {out : List (Int × Int)} {x : Int × Int} (hc : Canon out) (hx : x.1 < x.2) (hl : ∀ s ∈ out, s.1 ≤ x.1) :
    Canon (jstep out x) ∧ (∀ v, hasB (jstep out x) v = (hasB out v || inB x v)) ∧ ∀ s ∈ jstep out x, s.1 ≤ x.1 := by
  rcases nil_or_snoc out with rfl | ⟨M, s, rfl⟩
  · rw [jstep_nil]
    refine ⟨canon_cons.2 ⟨hx, by simp, canon_nil⟩, fun v => by rw [hasB_cons, hasB_nil, Bool.or_false, Bool.false_or], fun s hs => ?_⟩
    rw [List.mem_singleton.1 hs]
    omega
  · obtain ⟨h1, h2, h3⟩ := canon_snoc.1 hc
    have hs := hl s (by simp)
    rw [jstep_snoc]
    split
    · rename_i hlt
      refine ⟨canon_snoc.2 ⟨hc, fun t ht => ?_, hx⟩, fun v => hasB_snoc _ _ _, fun t ht => ?_⟩
      · rcases List.mem_append.1 ht with h | h
        · have := h2 t h; omega
        · rw [List.mem_singleton.1 h]; exact hlt
      · rcases List.mem_append.1 ht with h | h
        · exact hl t h
        · rw [List.mem_singleton.1 h]; omega
    · rename_i hlt
      refine ⟨canon_snoc.2 ⟨h1, h2, ?_⟩, fun v => ?_, fun t ht => ?_⟩
      · show s.1 < max s.2 x.2; omega
      · rw [hasB_snoc, hasB_snoc, Bool.or_assoc]
        congr 1
        rw [Bool.eq_iff_iff, Bool.or_eq_true, inB_iff, inB_iff, inB_iff]
        show s.1 ≤ v ∧ v < max s.2 x.2 ↔ _
        omega
      · rcases List.mem_append.1 ht with h | h
        · exact hl t (List.mem_append_left _ h)
        · rw [List.mem_singleton.1 h]; exact hs
theorem joinTo_spec {D : List (Int × Int)} (hs : D.Pairwise fun s t => s.1 ≤ t.1) (hp : ∀ s ∈ D, s.1 < s.2) : ∀ k, k ≤ D.length →
    Canon (joinTo D k) ∧ (∀ v, hasB (joinTo D k) v = hasB (D.take k) v) ∧ ∀ s ∈ joinTo D k, ∀ j (hj : j < D.length), k ≤ j → s.1 ≤ D[j].1
  | 0, _ => ⟨canon_nil, fun _ => rfl, fun _ h => absurd h List.not_mem_nil⟩
  | k + 1, hk => by
    obtain ⟨h1, h2, h3⟩ := joinTo_spec hs hp k (by omega)
    have hkl : k < D.length := hk
    rw [joinTo_succ hkl]
    obtain ⟨a1, a2, a3⟩ := jstep_spec h1 (hp _ (List.getElem_mem hkl)) (fun s h => h3 s h k hkl (Nat.le_refl _))
    refine ⟨a1, fun v => ?_, fun s h j hj hkj => ?_⟩
    · rw [a2, h2, List.take_succ_eq_append_getElem hkl, hasB_snoc]
    · have := a3 s h
      have := List.pairwise_iff_getElem.1 hs k j hkl hj (by omega)
      omega

/-- The one list that may be (but for its length) with the numbers of these parts. -/
def someI (parts : List (Int × Int)) : List (Int × Int) := parts.filter fun s => decide (s.1 < s.2)
def normI (parts : List (Int × Int)) : List (Int × Int) := (fun D => joinTo D D.length) ((someI parts).mergeSort fun s t => decide (s.1 ≤ t.1))
theorem hasB_some (parts : List (Int × Int)) (v : Int) : hasB (someI parts) v = hasB parts v := by
  rw [Bool.eq_iff_iff, hasB_iff, hasB_iff]
  constructor
  · rintro ⟨s, hs, h⟩
    exact ⟨s, (List.mem_filter.1 hs).1, h⟩
  · rintro ⟨s, hs, h⟩
    exact ⟨s, List.mem_filter.2 ⟨hs, by simp; omega⟩, h⟩
theorem join_any {D parts : List (Int × Int)} (hp : D.Perm (someI parts)) (hs : D.Pairwise fun s t => s.1 ≤ t.1) : Canon (joinTo D D.length) ∧ ∀ v, hasB (joinTo D D.length) v = hasB parts v := by
  obtain ⟨h1, h2, _⟩ := joinTo_spec hs (fun s h => by simpa [someI] using (List.mem_filter.1 (hp.mem_iff.1 h)).2) D.length (Nat.le_refl _)
  refine ⟨h1, fun v => ?_⟩
  rw [h2, List.take_length, hasB_perm hp, hasB_some]
theorem norm_spec (parts : List (Int × Int)) : Canon (normI parts) ∧ ∀ v, hasB (normI parts) v = hasB parts v := by
  refine join_any (List.mergeSort_perm _ _) ?_
  have := List.pairwise_mergeSort (le := fun s t : Int × Int => decide (s.1 ≤ t.1)) (by intro a b c; simp; omega) (by intro a b; simp; omega) (someI parts)
  exact this.imp (by simp)
theorem join_norm {D parts : List (Int × Int)} (hp : D.Perm (someI parts)) (hs : D.Pairwise fun s t => s.1 ≤ t.1) : joinTo D D.length = normI parts := by
  obtain ⟨h1, h2⟩ := join_any hp hs
  obtain ⟨h3, h4⟩ := norm_spec parts
  exact canon_unique h1 h3 fun x => by rw [h2, h4]
end Go.Proofs.Ytpglooaebndbiaa.SpanSet
