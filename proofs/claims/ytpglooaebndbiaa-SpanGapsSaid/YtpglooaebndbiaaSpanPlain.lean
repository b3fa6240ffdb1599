/-
  Lists of spans as plain mathematics: which may be, which numbers they have. Nothing of the program is named here.
-/
import Init.Data.List.Lemmas
namespace Go.Proofs.Ytpglooaebndbiaa.SpanPlain

def z0 : Int × Int := (0, 0)
theorem getD_get {L : List (Int × Int)} {k : Nat} (hk : k < L.length) : L.getD k z0 = L[k] := by simp [List.getD, hk]

def hasB (L : List (Int × Int)) (x : Int) : Bool := L.any fun s => decide (s.1 ≤ x) && decide (x < s.2)

theorem hasB_take_succ {L : List (Int × Int)} {x : Int} {k : Nat} (hk : k < L.length) (h : ¬ (L[k].1 ≤ x ∧ x < L[k].2)) (hp : hasB (L.take k) x = false) : hasB (L.take (k + 1)) x = false := by
  unfold hasB at *
  rw [List.take_succ_eq_append_getElem hk, List.any_append, hp]
  simp only [List.any_cons, List.any_nil, Bool.false_or, Bool.or_false]
  simp only [Bool.and_eq_false_iff, decide_eq_false_iff_not]
  omega
theorem hasB_true {L : List (Int × Int)} {x : Int} {k : Nat} (hk : k < L.length) (h1 : L[k].1 ≤ x) (h2 : x < L[k].2) : hasB L x = true := by
  unfold hasB
  exact List.any_eq_true.2 ⟨_, List.getElem_mem hk, by simp [h1, h2]⟩
theorem hasB_whole {L : List (Int × Int)} {x : Int} {k : Nat} (hk : L.length ≤ k) (hp : hasB (L.take k) x = false) : hasB L x = false := by
  rwa [List.take_of_length_le hk] at hp

def okAt (L : List (Int × Int)) (i : Nat) : Bool := decide ((L.getD i z0).1 < (L.getD i z0).2) && (decide (i = 0) || decide ((L.getD (i - 1) z0).2 < (L.getD i z0).1))
def okTo (L : List (Int × Int)) (k : Nat) : Bool := (List.range k).all (okAt L)
def mayB (L : List (Int × Int)) : Bool := decide (L.length ≤ 256) && okTo L L.length

theorem okTo_zero (L : List (Int × Int)) : okTo L 0 = true := rfl
theorem okTo_succ' {L : List (Int × Int)} {k : Nat} (h : okTo L k = true) (h1 : okAt L k = true) : okTo L (k + 1) = true := by
  unfold okTo at *
  rw [List.range_succ, List.all_append, h]
  simp [h1]
theorem okTo_one {L : List (Int × Int)} {p q : Int} (hk : 0 < L.length) (hp : L[0].1 = p) (hq : L[0].2 = q) (h : ¬ q ≤ p) : okTo L 1 = true := by
  refine okTo_succ' (okTo_zero L) ?_
  unfold okAt
  rw [getD_get hk, hp, hq]
  simp; omega
theorem okTo_next {L : List (Int × Int)} {p q r : Int} {m : Nat} (hk : m + 1 < L.length) (hp : L[m + 1].1 = p) (hq : L[m + 1].2 = q) (hr : L[m].2 = r) (h1 : ¬ q ≤ p) (h2 : ¬ p ≤ r) (h : okTo L (m + 1) = true) : okTo L (m + 1 + 1) = true := by
  refine okTo_succ' h ?_
  unfold okAt
  rw [getD_get hk, hp, hq, show m + 1 - 1 = m from rfl, getD_get (show m < L.length from by omega), hr]
  simp; omega
theorem mayB_false {L : List (Int × Int)} {k : Nat} (hk : k < L.length) (h1 : okAt L k = false) : mayB L = false := by
  unfold mayB okTo
  rw [List.all_eq_false.2 ⟨k, List.mem_range.2 hk, by simp [h1]⟩, Bool.and_false]
theorem mayB_empty {L : List (Int × Int)} {p q : Int} {k : Nat} (hk : k < L.length) (hp : L[k].1 = p) (hq : L[k].2 = q) (h : q ≤ p) : mayB L = false := by
  refine mayB_false hk ?_
  unfold okAt
  rw [getD_get hk, hp, hq]
  simp; omega
theorem mayB_touch {L : List (Int × Int)} {p r : Int} {m : Nat} (hk : m + 1 < L.length) (hp : L[m + 1].1 = p) (hr : L[m].2 = r) (h : p ≤ r) : mayB L = false := by
  refine mayB_false hk ?_
  unfold okAt
  rw [getD_get hk, hp, show m + 1 - 1 = m from rfl, getD_get (show m < L.length from by omega), hr]
  simp; omega
theorem mayB_long {L : List (Int × Int)} (h : 256 < L.length) : mayB L = false := by
  unfold mayB
  simp; omega
theorem mayB_all {L : List (Int × Int)} {k : Nat} (hk : L.length = k) (h : ¬ 256 < L.length) (ho : okTo L k = true) : mayB L = true := by
  unfold mayB
  rw [hk, ho]
  simp; omega

def hitB (x : Int) (s : Int × Int) : Bool := decide (s.1 ≤ x) && decide (x < s.2)
def atI (L : List (Int × Int)) (x : Int) : Option (Int × Int) := L.find? (hitB x)
def gapI (L : List (Int × Int)) (x : Int) : Int := if mayB L then ((atI L x).map (·.2)).getD x else 0
def coversB (L : List (Int × Int)) (x y : Int) : Bool := mayB L && decide (x ≤ y) && (decide (x = y) || L.any fun s => decide (s.1 ≤ x) && decide (y ≤ s.2))
theorem atI_hit {L : List (Int × Int)} {x : Int} {k : Nat} (hk : k < L.length) (h : hasB (L.take k) x = false) (h1 : L[k].1 ≤ x) (h2 : x < L[k].2) : atI L x = some L[k] := by
  have e : L = L.take k ++ (L[k] :: L.drop (k + 1)) := by rw [List.getElem_cons_drop, List.take_append_drop]
  unfold atI
  conv => lhs; rw [e]
  have hn : (L.take k).find? (hitB x) = none := by
    rw [List.find?_eq_none]
    intro s hs
    have := List.any_eq_false.1 h s hs
    simpa [hitB] using this
  rw [List.find?_append, hn, List.find?_cons_of_pos (by simp [hitB, h1, h2])]
  rfl
theorem atI_none {L : List (Int × Int)} {x : Int} (h : hasB L x = false) : atI L x = none := by
  unfold atI
  rw [List.find?_eq_none]
  intro s hs
  have := List.any_eq_false.1 h s hs
  simpa [hitB] using this
theorem gapI_hit {L : List (Int × Int)} {x q : Int} {k : Nat} (hk : k < L.length) (hm : mayB L = true) (h : hasB (L.take k) x = false) (h1 : L[k].1 ≤ x) (h2 : x < L[k].2) (hq : L[k].2 = q) : gapI L x = q := by
  unfold gapI
  rw [hm, atI_hit hk h h1 h2]
  simpa using hq
theorem gapI_none {L : List (Int × Int)} {x : Int} (hm : mayB L = true) (h : hasB L x = false) : gapI L x = x := by
  unfold gapI
  rw [hm, atI_none h]
  rfl
theorem gapI_bad {L : List (Int × Int)} {x : Int} (hm : mayB L = false) : gapI L x = 0 := by
  unfold gapI
  rw [hm]
  rfl

def covTo (L : List (Int × Int)) (x y : Int) (k : Nat) : Bool := (L.take k).any fun s => decide (s.1 ≤ x) && decide (y ≤ s.2)
theorem covTo_succ {L : List (Int × Int)} {x y : Int} {k : Nat} (hk : k < L.length) (h : ¬ (L[k].1 ≤ x ∧ y ≤ L[k].2)) (hp : covTo L x y k = false) : covTo L x y (k + 1) = false := by
  unfold covTo at *
  rw [List.take_succ_eq_append_getElem hk, List.any_append, hp]
  simp only [List.any_cons, List.any_nil, Bool.false_or, Bool.or_false]
  simp only [Bool.and_eq_false_iff, decide_eq_false_iff_not]
  omega
theorem coversB_bad {L : List (Int × Int)} {x y : Int} (hm : mayB L = false) : coversB L x y = false := by
  unfold coversB
  rw [hm]
  rfl
theorem coversB_turned {L : List (Int × Int)} {x y : Int} (h : y < x) : coversB L x y = false := by
  unfold coversB
  rw [decide_eq_false (show ¬ x ≤ y from by omega)]
  simp
theorem coversB_empty {L : List (Int × Int)} {x : Int} (hm : mayB L = true) : coversB L x x = true := by
  unfold coversB
  rw [hm]
  simp
theorem coversB_hit {L : List (Int × Int)} {x y : Int} {k : Nat} (hm : mayB L = true) (hxy : x ≤ y) (hk : k < L.length) (h1 : L[k].1 ≤ x) (h2 : y ≤ L[k].2) : coversB L x y = true := by
  unfold coversB
  rw [hm, decide_eq_true hxy, List.any_eq_true.2 ⟨_, List.getElem_mem hk, by simp [h1, h2]⟩]
  simp
theorem coversB_none {L : List (Int × Int)} {x y : Int} {k : Nat} (hxy : x < y) (hk : L.length ≤ k) (h : covTo L x y k = false) : coversB L x y = false := by
  unfold coversB
  unfold covTo at h
  rw [List.take_of_length_le hk] at h
  rw [h, decide_eq_false (show ¬ x = y from by omega)]
  simp

/-- 2^64, behind a name. -/
def M64 : Int := 18446744073709551616
theorem wrap_M64 (x : Int) : x % 18446744073709551616 = x % M64 := rfl
def sumTo (L : List (Int × Int)) (k : Nat) : Int := ((L.take k).map fun s => s.2 - s.1).sum
def lenI (L : List (Int × Int)) : Int := if mayB L then sumTo L L.length % M64 else 0
theorem sumTo_succ {L : List (Int × Int)} {k : Nat} (hk : k < L.length) : sumTo L (k + 1) = sumTo L k + (L[k].2 - L[k].1) := by
  unfold sumTo
  rw [List.take_succ_eq_append_getElem hk, List.map_append, List.sum_append]
  simp only [List.map_cons, List.map_nil, List.sum_cons, List.sum_nil, Int.add_zero]
theorem lenI_step {L : List (Int × Int)} {k : Nat} {p q a : Int} (hk : k < L.length) (hp : L[k].1 = p) (hq : L[k].2 = q) (ha : a = sumTo L k % M64) : ((a + q) % M64 - p) % M64 = sumTo L (k + 1) % M64 := by
  rw [sumTo_succ hk, hp, hq, ha]
  unfold M64
  omega
theorem lenI_step' {L : List (Int × Int)} {k : Nat} {p q a : Int} (hk : k < L.length) (hp : L[k].1 = p) (hq : L[k].2 = q) (ha : a = sumTo L k % M64) : (a + (q - p) % M64) % M64 = sumTo L (k + 1) % M64 := by
  rw [sumTo_succ hk, hp, hq, ha]
  unfold M64
  omega
theorem lenI_bad {L : List (Int × Int)} (hm : mayB L = false) : lenI L = 0 := by
  unfold lenI
  rw [hm]
  rfl
theorem lenI_all {L : List (Int × Int)} {k : Nat} {a : Int} (hk : L.length = k) (hm : mayB L = true) (ha : a = sumTo L k % M64) : lenI L = a := by
  unfold lenI
  rw [hm, hk, ha]
  rfl

def sameB (L K : List (Int × Int)) : Bool := decide (L = K)
def sameTo (L K : List (Int × Int)) (k : Nat) : Bool := decide (L.take k = K.take k)
theorem sameB_len {L K : List (Int × Int)} (h : L.length ≠ K.length) : sameB L K = false := by
  unfold sameB
  exact decide_eq_false fun e => h (by rw [e])
theorem sameTo_zero (L K : List (Int × Int)) : sameTo L K 0 = true := rfl
theorem sameTo_succ {L K : List (Int × Int)} {k : Nat} (hk : k < L.length) (hk' : k < K.length) (h1 : L[k].1 = K[k].1) (h2 : L[k].2 = K[k].2) (h : sameTo L K k = true) : sameTo L K (k + 1) = true := by
  unfold sameTo at *
  have h := of_decide_eq_true h
  refine decide_eq_true ?_
  rw [List.take_succ_eq_append_getElem hk, List.take_succ_eq_append_getElem hk', h, Prod.ext h1 h2]
theorem sameB_part {L K : List (Int × Int)} {k : Nat} (hk : k < L.length) (hk' : k < K.length) (h : ¬ (L[k].1 = K[k].1 ∧ L[k].2 = K[k].2)) : sameB L K = false := by
  unfold sameB
  refine decide_eq_false fun e => h ?_
  subst e
  exact ⟨rfl, rfl⟩
theorem sameB_all {L K : List (Int × Int)} {k : Nat} (hk : L.length ≤ k) (hk' : K.length ≤ k) (h : sameTo L K k = true) : sameB L K = true := by
  unfold sameTo at h
  rw [List.take_of_length_le hk, List.take_of_length_le hk'] at h
  exact h

/-! A number put into rising ones. -/
def insI (N : List Int) (x : Int) : List Int := N.takeWhile (fun y => decide (y ≤ x)) ++ (x :: N.dropWhile (fun y => decide (y ≤ x)))
def putI (N : List Int) (x : Int) : List Int := if x ∈ N then N else insI N x
def doneTo (N : List Int) (x : Int) (k : Nat) : Bool := (N.take k).any fun y => decide (x < y)
def outTo (N : List Int) (x : Int) (k : Nat) : List Int := if doneTo N x k then insI (N.take k) x else N.take k

theorem insI_none {M : List Int} {x : Int} (h : (M.any fun y => decide (x < y)) = false) (r : List Int) (hr : ∀ y ys, r = y :: ys → x < y) : insI (M ++ r) x = M ++ (x :: r) := by
  have hM : ∀ y ∈ M, decide (y ≤ x) = true := fun y hy => by
    have := List.any_eq_false.1 h y hy
    simpa using this
  unfold insI
  rw [List.takeWhile_append_of_pos hM, List.dropWhile_append_of_pos hM]
  cases r with
  | nil => simp
  | cons y ys =>
    have := hr y ys rfl
    rw [List.takeWhile_cons_of_neg (by simp; omega), List.dropWhile_cons_of_neg (by simp; omega)]
    simp
theorem insI_more {M : List Int} {x : Int} (h : (M.any fun y => decide (x < y)) = true) (r : List Int) : insI (M ++ r) x = insI M x ++ r := by
  induction M with
  | nil => simp at h
  | cons a M ih =>
    by_cases ha : a ≤ x
    · have h' : (M.any fun y => decide (x < y)) = true := by
        rw [List.any_cons, decide_eq_false (show ¬ x < a from by omega), Bool.false_or] at h
        exact h
      have := ih h'
      unfold insI at *
      rw [List.cons_append, List.takeWhile_cons_of_pos (by simpa using ha), List.dropWhile_cons_of_pos (by simpa using ha), List.takeWhile_cons_of_pos (by simpa using ha), List.dropWhile_cons_of_pos (by simpa using ha), List.cons_append, this]
      rfl
    · unfold insI
      rw [List.cons_append, List.takeWhile_cons_of_neg (by simpa using ha), List.dropWhile_cons_of_neg (by simpa using ha), List.takeWhile_cons_of_neg (by simpa using ha), List.dropWhile_cons_of_neg (by simpa using ha)]
      rfl
theorem doneTo_succ {N : List Int} {x : Int} {k : Nat} (hk : k < N.length) : doneTo N x (k + 1) = (doneTo N x k || decide (x < N[k])) := by
  unfold doneTo
  rw [List.take_succ_eq_append_getElem hk, List.any_append]
  simp
theorem outTo_first {N : List Int} {x : Int} {k : Nat} (hk : k < N.length) (hd : doneTo N x k = false) (h : x < N[k]) : outTo N x (k + 1) = outTo N x k ++ [x] ++ [N[k]] ∧ doneTo N x (k + 1) = true := by
  have e := doneTo_succ (x := x) hk
  rw [hd, decide_eq_true h, Bool.false_or] at e
  refine ⟨?_, e⟩
  unfold outTo
  rw [e, hd, List.take_succ_eq_append_getElem hk, if_pos rfl, insI_none hd [N[k]] (fun y ys hy => by injection hy with h1 _; omega)]
  simp
theorem outTo_low {N : List Int} {x : Int} {k : Nat} (hk : k < N.length) (hd : doneTo N x k = false) (h : ¬ x < N[k]) : outTo N x (k + 1) = outTo N x k ++ [N[k]] ∧ doneTo N x (k + 1) = false := by
  have e := doneTo_succ (x := x) hk
  rw [hd, decide_eq_false h, Bool.false_or] at e
  refine ⟨?_, e⟩
  unfold outTo
  rw [e, hd, List.take_succ_eq_append_getElem hk]
  simp
theorem outTo_done {N : List Int} {x : Int} {k : Nat} (hk : k < N.length) (hd : doneTo N x k = true) : outTo N x (k + 1) = outTo N x k ++ [N[k]] ∧ doneTo N x (k + 1) = true := by
  have e := doneTo_succ (x := x) hk
  rw [hd, Bool.true_or] at e
  refine ⟨?_, e⟩
  unfold outTo
  rw [e, hd, List.take_succ_eq_append_getElem hk, if_pos rfl, if_pos rfl, insI_more hd]
theorem outTo_len (N : List Int) (x : Int) (k : Nat) : (outTo N x k).length ≤ k + 1 := by
  have h := List.length_take_le k N
  unfold outTo insI
  split
  · rw [List.length_append, List.length_cons, show (List.takeWhile (fun y => decide (y ≤ x)) (N.take k)).length + ((List.dropWhile (fun y => decide (y ≤ x)) (N.take k)).length + 1) = (List.takeWhile (fun y => decide (y ≤ x)) (N.take k) ++ List.dropWhile (fun y => decide (y ≤ x)) (N.take k)).length + 1 from by rw [List.length_append]; omega, List.takeWhile_append_dropWhile]
    omega
  · omega
theorem putI_there {N : List Int} {x : Int} {k : Nat} (hk : k < N.length) (h : N[k] = x) : putI N x = N := by
  unfold putI
  rw [if_pos (by rw [← h]; exact List.getElem_mem hk)]
theorem putI_end {N : List Int} {x : Int} {k : Nat} (hk : N.length ≤ k) (hn : x ∉ N.take k) (hd : doneTo N x k = false) : putI N x = outTo N x k ++ [x] := by
  unfold putI outTo
  rw [hd]
  rw [List.take_of_length_le hk] at hn
  unfold doneTo at hd
  rw [List.take_of_length_le hk] at hd ⊢
  rw [if_neg hn]
  have := insI_none hd [] (fun y ys hy => by cases hy)
  simpa using this
theorem putI_done {N : List Int} {x : Int} {k : Nat} (hk : N.length ≤ k) (hn : x ∉ N.take k) (hd : doneTo N x k = true) : putI N x = outTo N x k := by
  unfold putI outTo
  rw [hd]
  rw [List.take_of_length_le hk] at hn
  rw [List.take_of_length_le hk, if_neg hn]
  rfl
theorem not_mem_succ {N : List Int} {x : Int} {k : Nat} (hk : k < N.length) (h : ¬ N[k] = x) (hn : x ∉ N.take k) : x ∉ N.take (k + 1) := by
  rw [List.take_succ_eq_append_getElem hk]
  simp only [List.mem_append, List.mem_singleton, not_or]
  exact ⟨hn, fun e => h e.symm⟩

theorem putI_len (N : List Int) (x : Int) : (putI N x).length ≤ N.length + 1 := by
  unfold putI
  split
  · omega
  · unfold insI
    rw [List.length_append, List.length_cons, show (List.takeWhile (fun y => decide (y ≤ x)) N).length + ((List.dropWhile (fun y => decide (y ≤ x)) N).length + 1) = (List.takeWhile (fun y => decide (y ≤ x)) N ++ List.dropWhile (fun y => decide (y ≤ x)) N).length + 1 from by rw [List.length_append]; omega, List.takeWhile_append_dropWhile]
    omega
/-- All places at which something may begin or end. -/
def endsTo (L : List (Int × Int)) (k : Nat) : List Int := (L.take k).foldl (fun N s => putI (putI N s.1) s.2) []
def endsI (L : List (Int × Int)) (x y : Int) : List Int := putI (putI (endsTo L L.length) x) y
theorem endsTo_succ {L : List (Int × Int)} {k : Nat} (hk : k < L.length) : endsTo L (k + 1) = putI (putI (endsTo L k) L[k].1) L[k].2 := by
  unfold endsTo
  rw [List.take_succ_eq_append_getElem hk, List.foldl_append]
  rfl
theorem endsTo_len (L : List (Int × Int)) : ∀ k, k ≤ L.length → (endsTo L k).length ≤ 2 * k
  | 0, _ => by simp [endsTo]
  | k + 1, h => by
    rw [endsTo_succ (show k < L.length from h)]
    have := endsTo_len L k (by omega)
    have h1 := putI_len (endsTo L k) L[k].1
    have h2 := putI_len (putI (endsTo L k) L[k].1) L[k].2
    omega
theorem endsI_len (L : List (Int × Int)) (x y : Int) : (endsI L x y).length ≤ 2 * L.length + 2 := by
  unfold endsI
  have := endsTo_len L L.length (Nat.le_refl _)
  have h1 := putI_len (endsTo L L.length) x
  have h2 := putI_len (putI (endsTo L L.length) x) y
  omega

/-! The pieces between places. -/
def ofB (x y a : Int) : Bool := decide (x ≤ a) && decide (a < y)
def pieceB (L : List (Int × Int)) (x y : Int) (add : Bool) (a : Int) : Bool := (hasB L a && (add || !ofB x y a)) || (add && ofB x y a)
/-- One piece more behind what has been made. -/
def step (out : List (Int × Int)) (a b : Int) : List (Int × Int) :=
  match out.getLast? with
  | some s => if s.2 = a then out.dropLast ++ [(s.1, b)] else out ++ [(a, b)]
  | none => out ++ [(a, b)]
def madeTo (L : List (Int × Int)) (x y : Int) (add : Bool) (N : List Int) (k : Nat) : List (Int × Int) :=
  (List.range k).foldl (fun out i => if pieceB L x y add (N.getD i 0) then step out (N.getD i 0) (N.getD (i + 1) 0) else out) []
def madeI (L : List (Int × Int)) (x y : Int) (add : Bool) : List (Int × Int) := madeTo L x y add (endsI L x y) ((endsI L x y).length - 1)
theorem madeTo_succ (L : List (Int × Int)) (x y : Int) (add : Bool) (N : List Int) (k : Nat) :
    madeTo L x y add N (k + 1) = if pieceB L x y add (N.getD k 0) then step (madeTo L x y add N k) (N.getD k 0) (N.getD (k + 1) 0) else madeTo L x y add N k := by
  unfold madeTo
  rw [List.range_succ, List.foldl_append]
  rfl
theorem step_len (out : List (Int × Int)) (a b : Int) : (step out a b).length ≤ out.length + 1 := by
  unfold step
  split
  · split
    · simp; try omega
    · simp
  · simp
theorem madeTo_len (L : List (Int × Int)) (x y : Int) (add : Bool) (N : List Int) : ∀ k, (madeTo L x y add N k).length ≤ k
  | 0 => by simp [madeTo]
  | k + 1 => by
    rw [madeTo_succ]
    have := madeTo_len L x y add N k
    have h := step_len (madeTo L x y add N k) (N.getD k 0) (N.getD (k + 1) 0)
    split <;> omega
end Go.Proofs.Ytpglooaebndbiaa.SpanPlain
