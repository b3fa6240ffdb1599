/-
  Options turned where they stand, place by place: plain mathematics (no Go in sight).
-/
import Derived.Test.YtgpkckaojcodmaaOptTk
namespace Go.Proofs.Ytgpkckaojcodmaa.OptTurnM
open Go.RowKit TupMath SumMath IpMath OptMath OptRef OptTk
set_option linter.unusedVariables false

theorem addA_split (A q R : List Nat) (x : Nat) (hq : q.length = 4) : addA (A ++ (q ++ R)) A.length x = A ++ (addw q x ++ R) := by
  unfold addA
  have e1 : (A ++ (q ++ R)).take A.length = A := List.take_left' rfl
  have e2 : (A ++ (q ++ R)).drop A.length = q ++ R := List.drop_left' rfl
  have e3 : (A ++ (q ++ R)).drop (A.length + 4) = R := by
    rw [← List.drop_drop, e2]
    exact List.drop_left' hq
  rw [e1, e2, e3, List.take_left' hq]
theorem addA_at (l : List Nat) (a x i : Nat) (h : i < a) (ha : a ≤ l.length) : at0 (addA l a x) i = at0 l i := by
  unfold addA
  rw [at_app (by rw [List.length_take]; omega), at_take h]
/-- four bytes behind four bytes, each added to -/
def addN (b : Nat) (c : List Nat) (k : Nat) : Nat → List Nat
  | 0 => c
  | t + 1 => addA (addN b c k t) (k + 4 * t) b
theorem addAll_app (x : Nat) : ∀ (t : Nat) (p q : List Nat), p.length = 4 * t → q.length = 4 → addAll x (p ++ q) = addAll x p ++ addw q x
  | 0, p, q, hp, hq => by
    rw [List.eq_nil_of_length_eq_zero (show p.length = 0 by omega)]
    match q, hq with
    | [a, b, c, d], _ => simp [addAll]
  | t + 1, p, q, hp, hq => by
    match p, hp with
    | a :: b :: c :: d :: r, hp =>
      show addw [a, b, c, d] x ++ addAll x (r ++ q) = _
      rw [addAll_app x t r q (by simp at hp; omega) hq]
      show _ = (addw [a, b, c, d] x ++ addAll x r) ++ _
      rw [List.append_assoc]
    | [], hp => simp at hp
    | [_], hp => simp at hp; omega
    | [_, _], hp => simp at hp; omega
    | [_, _, _], hp => simp at hp; omega
theorem addN_split (b : Nat) (A : List Nat) : ∀ (t : Nat) (p R : List Nat), p.length = 4 * t → addN b (A ++ (p ++ R)) A.length t = A ++ (addAll b p ++ R)
  | 0, p, R, hp => by
    rw [List.eq_nil_of_length_eq_zero (show p.length = 0 by omega)]
    rfl
  | t + 1, p, R, hp => by
    obtain ⟨p', q, rfl, hp', hq⟩ : ∃ p' q, p = p' ++ q ∧ p'.length = 4 * t ∧ q.length = 4 := ⟨p.take (4 * t), p.drop (4 * t), (List.take_append_drop _ _).symm, by rw [List.length_take]; omega, by rw [List.length_drop]; omega⟩
    show addA (addN b (A ++ (p' ++ q ++ R)) A.length t) (A.length + 4 * t) b = _
    rw [List.append_assoc p', addN_split b A t p' (q ++ R) hp', addAll_app b t p' q hp' hq]
    have hl : (A ++ addAll b p').length = A.length + 4 * t := by rw [List.length_append, addAll_len b p'.length p' (Nat.le_refl _), hp']
    rw [← hl, ← List.append_assoc A, addA_split (A ++ addAll b p') q R b hq]
    simp only [List.append_assoc]
theorem addN_len (b : Nat) (c : List Nat) (k : Nat) : ∀ t, k + 4 * t ≤ c.length → (addN b c k t).length = c.length
  | 0, _ => rfl
  | t + 1, h => by
    have ih := addN_len b c k t (by omega)
    show (addA (addN b c k t) (k + 4 * t) b).length = _
    rw [addA_len _ _ _ (by omega), ih]
theorem addN_at (b : Nat) (c : List Nat) (k i : Nat) (hi : i < k) : ∀ t, k + 4 * t ≤ c.length → at0 (addN b c k t) i = at0 c i
  | 0, _ => rfl
  | t + 1, h => by
    have ih := addN_at b c k i hi t (by omega)
    show at0 (addA (addN b c k t) (k + 4 * t) b) i = _
    rw [addA_at _ _ _ _ (by omega) (by rw [addN_len b c k t (by omega)]; omega), ih]
/-- an option that stands at a place, turned -/
def updP (b v e : Nat) (c : List Nat) (p : Nat) : List Nat :=
  if at0 c p = 8 then addA (addA c (p + 2) v) (p + 6) e else if at0 c p = 5 then addN b c (p + 2) ((at0 c (p + 1) - 2) / 4) else c
theorem at_mid (A : List Nat) (k n : Nat) (r : List Nat) : at0 (A ++ (k :: n :: r)) A.length = k ∧ at0 (A ++ (k :: n :: r)) (A.length + 1) = n := by
  unfold at0
  constructor
  · rw [List.getElem?_append_right (Nat.le_refl _), Nat.sub_self]; rfl
  · rw [List.getElem?_append_right (by omega), show A.length + 1 - A.length = 1 by omega]; rfl
theorem updP_is (b v e k n : Nat) (A p R : List Nat) (hr : right k n = true) (hp : p.length + 2 = n) : updP b v e (A ++ (k :: n :: (p ++ R))) A.length = A ++ (k :: n :: (tp b v e k p ++ R)) := by
  obtain ⟨h1, h2⟩ := at_mid A k n (p ++ R)
  unfold updP tp
  rw [h1, h2]
  have eA : ∀ X : List Nat, A ++ (k :: n :: X) = (A ++ [k, n]) ++ X := fun X => by simp
  have lA : (A ++ [k, n]).length = A.length + 2 := by simp
  by_cases c8 : k = 8
  · rw [if_pos c8, if_pos c8]
    have hn : n = 10 := by subst c8; simpa [right] using hr
    have h8 : p.length = 8 := by omega
    have ep : p = p.take 4 ++ p.drop 4 := (List.take_append_drop _ _).symm
    have l1 : (p.take 4).length = 4 := by rw [List.length_take]; omega
    have l2 : (p.drop 4).length = 4 := by rw [List.length_drop]; omega
    generalize p.take 4 = q1 at ep l1
    generalize p.drop 4 = q2 at ep l2
    subst ep
    rw [eA, ← lA, List.append_assoc q1, addA_split (A ++ [k, n]) q1 (q2 ++ R) v l1]
    have l3 : ((A ++ [k, n]) ++ addw q1 v).length = A.length + 6 := by rw [List.length_append, lA, addw_len]
    rw [← List.append_assoc (A ++ [k, n]), ← l3, addA_split ((A ++ [k, n]) ++ addw q1 v) q2 R e l2]
    simp only [List.append_assoc, List.cons_append, List.nil_append]
  · rw [if_neg c8, if_neg c8]
    by_cases c5 : k = 5
    · rw [if_pos c5, if_pos c5]
      have hn : p.length = 8 ∨ p.length = 16 ∨ p.length = 24 ∨ p.length = 32 := by subst c5; simp [right] at hr; omega
      rw [eA, ← lA, addN_split b (A ++ [k, n]) ((n - 2) / 4) p R (by omega)]
      simp only [List.append_assoc, List.cons_append, List.nil_append]
    · rw [if_neg c5, if_neg c5]
/-- what stands at a place where an option is -/
theorem drop_opt {l : List Nat} {a : Nat} (hr : a + 1 < l.length ∧ right (at0 l a) (at0 l (a + 1)) = true ∧ a + at0 l (a + 1) ≤ l.length) :
    ∃ p, l.drop a = at0 l a :: at0 l (a + 1) :: (p ++ l.drop (a + at0 l (a + 1))) ∧ p.length + 2 = at0 l (a + 1) := by
  have hn := right_ge hr.2.1
  refine ⟨(l.drop (a + 2)).take (at0 l (a + 1) - 2), ?_, ?_⟩
  · rw [drop_cons (show a < l.length by omega), drop_cons hr.1]
    congr 2
    have e : l.drop (a + at0 l (a + 1)) = (l.drop (a + 2)).drop (at0 l (a + 1) - 2) := by rw [List.drop_drop]; congr 1; omega
    rw [e, List.take_append_drop]
  · rw [List.length_take, List.length_drop]; omega
theorem fold_turnS (b v e : Nat) (l : List Nat) : ∀ (m a : Nat) (met ps A : List Nat), l.length - a ≤ m → plc l a met = some ps → A.length = a →
    ps.foldl (updP b v e) (A ++ l.drop a) = A ++ turnS b v e (l.drop a) := by
  intro m
  induction m with
  | zero =>
    intro a met ps A h he hA
    rw [plc_end (by omega)] at he
    obtain rfl := Option.some.inj he
    rw [List.drop_eq_nil_of_le (by omega), turnS_nil]
    rfl
  | succ m ih =>
    intro a met ps A h he hA
    by_cases ha : a < l.length
    · by_cases h0 : at0 l a = 0
      · rw [plc_zero ha h0] at he
        obtain rfl := Option.some.inj he
        rw [drop_cons ha, h0, turnS_zero]
        rfl
      by_cases h1 : at0 l a = 1
      · rw [plc_one ha h1] at he
        have := ih (a + 1) met ps (A ++ [1]) (by omega) he (by simp [hA])
        rw [drop_cons ha, h1, turnS_one]
        simpa using this
      by_cases hr : a + 1 < l.length ∧ right (at0 l a) (at0 l (a + 1)) = true ∧ a + at0 l (a + 1) ≤ l.length ∧ ¬ (at0 l a ∈ met ∧ known (at0 l a) = true)
      · have hn := right_ge hr.2.1
        rw [plc_ok ha h0 h1 hr] at he
        obtain ⟨qs, hq, rfl⟩ := Option.map_eq_some_iff.1 he
        obtain ⟨p, hd, hp⟩ := drop_opt ⟨hr.1, hr.2.1, hr.2.2.1⟩
        have hr1 := hr.2.1
        rw [hd, turnS_ok b v e _ _ p _ h0 h1 hp, List.foldl_cons]
        generalize hk : at0 l a = k at hr1 hp hq ⊢
        generalize at0 l (a + 1) = n at hr1 hp hq hn ⊢
        rw [← hA, updP_is b v e k n A p _ hr1 hp]
        have tl := tp_len b v e k p (by rw [hp]; exact hr1)
        have := ih (A.length + n) (k :: met) qs (A ++ (k :: n :: tp b v e k p)) (by omega) (by rw [hA]; exact hq) (by simp [tl]; omega)
        simpa using this
      · rw [plc_bad ha h0 h1 hr] at he; cases he
    · rw [plc_end ha] at he
      obtain rfl := Option.some.inj he
      rw [List.drop_eq_nil_of_le (by omega), turnS_nil]
      rfl
/-- what is not turned yet stands as it stood -/
theorem fold_keep (b v e : Nat) (l : List Nat) : ∀ (m a : Nat) (met ps A : List Nat), l.length - a ≤ m → plc l a met = some ps → A.length = a →
    ∀ (j p : Nat), ps[j]? = some p → ((ps.take j).foldl (updP b v e) (A ++ l.drop a)).drop p = l.drop p := by
  intro m
  induction m with
  | zero =>
    intro a met ps A h he hA j p hj
    rw [plc_end (by omega)] at he
    obtain rfl := Option.some.inj he
    simp at hj
  | succ m ih =>
    intro a met ps A h he hA j p hj
    have hin := plc_in l (m + 1) a met ps h he p (List.mem_of_getElem? hj)
    by_cases ha : a < l.length
    · by_cases h0 : at0 l a = 0
      · rw [plc_zero ha h0] at he
        obtain rfl := Option.some.inj he
        simp at hj
      by_cases h1 : at0 l a = 1
      · rw [plc_one ha h1] at he
        have := ih (a + 1) met ps (A ++ [1]) (by omega) he (by simp [hA]) j p hj
        rw [drop_cons ha, h1]
        simpa using this
      by_cases hr : a + 1 < l.length ∧ right (at0 l a) (at0 l (a + 1)) = true ∧ a + at0 l (a + 1) ≤ l.length ∧ ¬ (at0 l a ∈ met ∧ known (at0 l a) = true)
      · have hn := right_ge hr.2.1
        rw [plc_ok ha h0 h1 hr] at he
        obtain ⟨qs, hq, rfl⟩ := Option.map_eq_some_iff.1 he
        cases j with
        | zero =>
          show (A ++ l.drop a).drop p = l.drop p
          rw [List.drop_append, List.drop_eq_nil_of_le (by omega), List.nil_append, List.drop_drop]
          congr 1
          omega
        | succ j =>
          have hj' : qs[j]? = some p := by simpa using hj
          obtain ⟨q, hd, hp⟩ := drop_opt ⟨hr.1, hr.2.1, hr.2.2.1⟩
          have hr1 := hr.2.1
          rw [hd, List.take_succ_cons, List.foldl_cons]
          generalize hk : at0 l a = k at hr1 hp hq ⊢
          generalize at0 l (a + 1) = n at hr1 hp hq hn ⊢
          rw [← hA, updP_is b v e k n A q _ hr1 hp]
          have tl := tp_len b v e k q (by rw [hp]; exact hr1)
          have := ih (A.length + n) (k :: met) qs (A ++ (k :: n :: tp b v e k q)) (by omega) (by rw [hA]; exact hq) (by simp [tl]; omega) j p hj'
          simpa using this
      · rw [plc_bad ha h0 h1 hr] at he; cases he
    · rw [plc_end ha] at he
      obtain rfl := Option.some.inj he
      simp at hj
/-- the first j places turned -/
def turnTo (b v e : Nat) (l ps : List Nat) (j : Nat) : List Nat := (ps.take j).foldl (updP b v e) l
theorem turnTo_zero (b v e : Nat) (l ps : List Nat) : turnTo b v e l ps 0 = l := rfl
theorem turnTo_succ (b v e : Nat) {l ps : List Nat} {j p : Nat} (h : ps[j]? = some p) : turnTo b v e l ps (j + 1) = updP b v e (turnTo b v e l ps j) p := by
  unfold turnTo
  rw [OptSame.take_snocG h, List.foldl_append]
  rfl
theorem turnTo_all (b v e : Nat) {l ps : List Nat} (h : plc l 0 [] = some ps) : turnTo b v e l ps ps.length = turnS b v e l := by
  unfold turnTo
  rw [List.take_of_length_le (Nat.le_refl _)]
  have := fold_turnS b v e l l.length 0 [] ps [] (by omega) h rfl
  rwa [List.nil_append, List.nil_append, List.drop_zero] at this
theorem turnTo_keep (b v e : Nat) {l ps : List Nat} (h : plc l 0 [] = some ps) {j p : Nat} (hj : ps[j]? = some p) : (turnTo b v e l ps j).drop p = l.drop p := by
  have := fold_keep b v e l l.length 0 [] ps [] (by omega) h rfl j p hj
  rwa [List.nil_append, List.drop_zero] at this
theorem at_drop {c l : List Nat} {p i : Nat} (h : c.drop p = l.drop p) (hi : p ≤ i) : at0 c i = at0 l i := by
  have e := congrArg (fun x => x[i - p]?) h
  simp only [List.getElem?_drop] at e
  unfold at0
  rw [show p + (i - p) = i by omega] at e
  rw [e]
end Go.Proofs.Ytgpkckaojcodmaa.OptTurnM
