/-
  Plain mathematics of a segment's options: no Go in sight.
-/
import Derived.Test.YtgpkckaojcodmaaTupMath
import Derived.Test.YtgpkckaojcodmaaSumMath
import Derived.Test.YtgpkckaojcodmaaIpMath
namespace Go.Proofs.Ytgpkckaojcodmaa.OptMath
open TupMath SumMath IpMath
set_option linter.unusedVariables false
set_option linter.unusedSimpArgs false

/-- options -/
structure Opn where
  mss : Nat
  scale : Int
  sack : Bool
  blocks : List (Nat × Nat)
  time : Bool
  val : Nat
  echo : Nat
deriving DecidableEq
structure Opn.ok (o : Opn) : Prop where
  mss : o.mss ≤ 65535
  blocks : ∀ p ∈ o.blocks, p.1 ≤ 4294967295 ∧ p.2 ≤ 4294967295
  val : o.val ≤ 4294967295
  echo : o.echo ≤ 4294967295
def none0 : Opn := ⟨0, -1, false, [], false, 0, 0⟩
def zeroO : Opn := ⟨0, 0, false, [], false, 0, 0⟩
/-- blocks, as bytes -/
def blkB (L : List (Nat × Nat)) : List Nat := L.flatMap fun p => w4 p.1 ++ w4 p.2
theorem blkB_len (L : List (Nat × Nat)) : (blkB L).length = 8 * L.length := by
  unfold blkB
  induction L with
  | nil => rfl
  | cons a l ih => rw [List.flatMap_cons, List.length_append, ih]; simp [w4]; omega
def sMss (o : Opn) : List Nat := if o.mss ≠ 0 then [2, 4] ++ w2 o.mss else []
def sScale (o : Opn) : List Nat := if 0 ≤ o.scale then [1, 3, 3, o.scale.toNat] else []
def sSack (o : Opn) : List Nat := if o.sack then [1, 1, 4, 2] else []
def sTime (o : Opn) : List Nat := if o.time then [1, 1, 8, 10] ++ (w4 o.val ++ w4 o.echo) else []
def sBlocks (o : Opn) : List Nat := if 0 < o.blocks.length then [1, 1, 5, 2 + 8 * o.blocks.length] ++ blkB o.blocks else []
/-- options, as bytes -/
def rawO (o : Opn) : List Nat := sMss o ++ (sScale o ++ (sSack o ++ (sTime o ++ sBlocks o)))
def mayO (o : Opn) : Bool := decide (-1 ≤ o.scale) && decide (o.scale ≤ 14) && decide (o.blocks.length ≤ 4) && (o.time || (decide (o.val = 0) && decide (o.echo = 0))) && decide ((rawO o).length ≤ 40)
structure May (o : Opn) : Prop where
  lo : -1 ≤ o.scale
  hi : o.scale ≤ 14
  few : o.blocks.length ≤ 4
  time : o.time = false → o.val = 0 ∧ o.echo = 0
  most : (rawO o).length ≤ 40
theorem may_of {o : Opn} (h : mayO o = true) : May o := by
  unfold mayO at h
  simp only [Bool.and_eq_true, decide_eq_true_eq, Bool.or_eq_true] at h
  exact ⟨h.1.1.1.1, h.1.1.1.2, h.1.1.2, fun hf => by rcases h.1.2 with h1 | h1; rw [hf] at h1; cases h1; exact h1, h.2⟩
theorem of_may {o : Opn} (m : May o) : mayO o = true := by
  unfold mayO
  simp only [Bool.and_eq_true, decide_eq_true_eq, Bool.or_eq_true]
  refine ⟨⟨⟨⟨m.lo, m.hi⟩, m.few⟩, ?_⟩, m.most⟩
  cases h : o.time
  · exact .inr (m.time h)
  · exact .inl rfl

/-! reading -/
def right (k n : Nat) : Bool :=
  if k = 2 then n == 4 else if k = 3 then n == 3 else if k = 4 then n == 2 else if k = 5 then n == 10 || n == 18 || n == 26 || n == 34 else if k = 8 then n == 10 else decide (2 ≤ n)
def known (k : Nat) : Bool := decide (2 ≤ k ∧ k ≤ 5) || k == 8
theorem right_ge {k n : Nat} (h : right k n = true) : 2 ≤ n := by
  unfold right at h
  repeat' split at h
  all_goals simp at h
  all_goals omega
/-- the options of bytes, kind by kind, where those of 'met' were met -/
def its (l : List Nat) (met : List Nat) : Option (List (Nat × List Nat)) :=
  match l with
  | [] => some []
  | k :: r =>
    if k = 0 then some [] else if k = 1 then its r met
    else match r with
      | [] => none
      | n :: q => if right k n = true ∧ n ≤ q.length + 2 ∧ ¬ (k ∈ met ∧ known k = true) then (its (q.drop (n - 2)) (k :: met)).map ((k, q.take (n - 2)) :: ·) else none
termination_by l.length
decreasing_by all_goals (simp only [List.length_cons, List.length_drop]; omega)
theorem its_nil (met : List Nat) : its [] met = some [] := by rw [its.eq_def]
theorem its_zero (r met : List Nat) : its (0 :: r) met = some [] := by rw [its.eq_def]; rfl
theorem its_one (r met : List Nat) : its (1 :: r) met = its r met := by rw [its.eq_def]; rfl
theorem its_bare {k : Nat} (met : List Nat) (h0 : k ≠ 0) (h1 : k ≠ 1) : its [k] met = none := by rw [its.eq_def]; simp only; rw [if_neg h0, if_neg h1]
theorem its_ok {k n : Nat} {p r : List Nat} {met : List Nat} (h0 : k ≠ 0) (h1 : k ≠ 1) (hr : right k n = true) (hp : p.length + 2 = n) (hm : known k = true → k ∉ met) :
    its (k :: n :: (p ++ r)) met = (its r (k :: met)).map ((k, p) :: ·) := by
  have e : n - 2 = p.length := by omega
  rw [its.eq_def]
  simp only
  rw [if_neg h0, if_neg h1]
  rw [if_pos ⟨hr, by rw [List.length_append]; omega, fun h => hm h.2 h.1⟩, e, List.drop_left' rfl, List.take_left' rfl]
theorem its_bad {k n : Nat} {q : List Nat} {met : List Nat} (h0 : k ≠ 0) (h1 : k ≠ 1) (h : ¬ (right k n = true ∧ n ≤ q.length + 2 ∧ ¬ (k ∈ met ∧ known k = true))) : its (k :: n :: q) met = none := by
  rw [its.eq_def]
  simp only
  rw [if_neg h0, if_neg h1]
  rw [if_neg h]
/-- blocks' bytes, as numbers -/
def prs : List Nat → List (Nat × Nat)
  | a :: b :: c :: d :: e :: f :: g :: h :: r => (a * 16777216 + b * 65536 + c * 256 + d, e * 16777216 + f * 65536 + g * 256 + h) :: prs r
  | _ => []
/-- an option's meaning, put to what there is -/
def tk (o : Opn) (x : Nat × List Nat) : Option Opn :=
  if x.1 = 2 then (if v256 x.2 = 0 then none else some { o with mss := v256 x.2 })
  else if x.1 = 3 then some { o with scale := min (at0 x.2 0 : Int) 14 }
  else if x.1 = 4 then some { o with sack := true }
  else if x.1 = 5 then some { o with blocks := o.blocks ++ prs x.2 }
  else if x.1 = 8 then some { o with time := true, val := v256 (x.2.take 4), echo := v256 (x.2.drop 4) }
  else some o
/-- the options that bytes are -/
def decO (l : List Nat) : Option Opn := (its l []).bind fun L => L.foldlM tk none0

/-! what is written is read -/
def iMss (o : Opn) : List (Nat × List Nat) := if o.mss ≠ 0 then [(2, w2 o.mss)] else []
def iScale (o : Opn) : List (Nat × List Nat) := if 0 ≤ o.scale then [(3, [o.scale.toNat])] else []
def iSack (o : Opn) : List (Nat × List Nat) := if o.sack then [(4, [])] else []
def iTime (o : Opn) : List (Nat × List Nat) := if o.time then [(8, w4 o.val ++ w4 o.echo)] else []
def iBlocks (o : Opn) : List (Nat × List Nat) := if 0 < o.blocks.length then [(5, blkB o.blocks)] else []
def itsO (o : Opn) : List (Nat × List Nat) := iMss o ++ (iScale o ++ (iSack o ++ (iTime o ++ iBlocks o)))
theorem map_nil {α : Type} (x : Option (List α)) : x.map ([] ++ ·) = x := by cases x <;> rfl
theorem map_app {α : Type} (a b : List α) (x : Option (List α)) : (x.map (b ++ ·)).map (a ++ ·) = x.map ((a ++ b) ++ ·) := by cases x <;> simp
/-- of the kinds that may stand once, those below are not met yet -/
def Free (ks met : List Nat) : Prop := ∀ k ∈ ks, k ∉ met
theorem its_mss (o : Opn) (r met : List Nat) (h : 2 ∉ met) : its (sMss o ++ r) met = (its r (if o.mss ≠ 0 then 2 :: met else met)).map (iMss o ++ ·) := by
  unfold sMss iMss
  by_cases c : o.mss ≠ 0
  · simp only [if_pos c]
    exact its_ok (by decide) (by decide) rfl rfl (fun _ => h)
  · simp only [if_neg c]
    exact (map_nil _).symm
theorem its_scale (o : Opn) (r met : List Nat) (h : 3 ∉ met) : its (sScale o ++ r) met = (its r (if 0 ≤ o.scale then 3 :: met else met)).map (iScale o ++ ·) := by
  unfold sScale iScale
  by_cases c : 0 ≤ o.scale
  · simp only [if_pos c]
    show its (1 :: 3 :: 3 :: ([o.scale.toNat] ++ r)) met = _
    rw [its_one]
    exact its_ok (by decide) (by decide) rfl rfl (fun _ => h)
  · simp only [if_neg c]
    exact (map_nil _).symm
theorem its_sack (o : Opn) (r met : List Nat) (h : 4 ∉ met) : its (sSack o ++ r) met = (its r (if o.sack = true then 4 :: met else met)).map (iSack o ++ ·) := by
  unfold sSack iSack
  by_cases c : o.sack = true
  · simp only [if_pos c]
    show its (1 :: 1 :: 4 :: 2 :: ([] ++ r)) met = _
    rw [its_one, its_one]
    exact its_ok (by decide) (by decide) rfl rfl (fun _ => h)
  · simp only [if_neg c]
    exact (map_nil _).symm
theorem its_time (o : Opn) (r met : List Nat) (h : 8 ∉ met) : its (sTime o ++ r) met = (its r (if o.time = true then 8 :: met else met)).map (iTime o ++ ·) := by
  unfold sTime iTime
  by_cases c : o.time = true
  · simp only [if_pos c]
    show its (1 :: 1 :: 8 :: 10 :: ((w4 o.val ++ w4 o.echo) ++ r)) met = _
    rw [its_one, its_one]
    exact its_ok (by decide) (by decide) rfl rfl (fun _ => h)
  · simp only [if_neg c]
    exact (map_nil _).symm
theorem its_blocks (o : Opn) (r met : List Nat) (h : 5 ∉ met) (hf : o.blocks.length ≤ 4) : its (sBlocks o ++ r) met = (its r (if 0 < o.blocks.length then 5 :: met else met)).map (iBlocks o ++ ·) := by
  unfold sBlocks iBlocks
  by_cases c : 0 < o.blocks.length
  · simp only [if_pos c]
    show its (1 :: 1 :: 5 :: (2 + 8 * o.blocks.length) :: (blkB o.blocks ++ r)) met = _
    rw [its_one, its_one]
    refine its_ok (by decide) (by decide) ?_ (by rw [blkB_len]; omega) (fun _ => h)
    have h4 : o.blocks.length = 1 ∨ o.blocks.length = 2 ∨ o.blocks.length = 3 ∨ o.blocks.length = 4 := by omega
    rcases h4 with e | e | e | e <;> rw [e] <;> rfl
  · simp only [if_neg c]
    exact (map_nil _).symm
def metO (o : Opn) (met : List Nat) : List Nat :=
  let m1 := if o.mss ≠ 0 then 2 :: met else met
  let m2 := if 0 ≤ o.scale then 3 :: m1 else m1
  let m3 := if o.sack = true then 4 :: m2 else m2
  let m4 := if o.time = true then 8 :: m3 else m3
  if 0 < o.blocks.length then 5 :: m4 else m4
theorem its_raw (o : Opn) (r met : List Nat) (hf : o.blocks.length ≤ 4) (hm : ∀ k ∈ met, known k = false) : its (rawO o ++ r) met = (its r (metO o met)).map (itsO o ++ ·) := by
  have nm : ∀ k, known k = true → k ∉ met := fun k hk hmem => by rw [hm k hmem] at hk; cases hk
  have n2 := nm 2 rfl; have n3 := nm 3 rfl; have n4 := nm 4 rfl; have n5 := nm 5 rfl; have n8 := nm 8 rfl
  unfold rawO itsO metO
  simp only [List.append_assoc]
  rw [its_mss o _ met n2]
  generalize hm1 : (if o.mss ≠ 0 then 2 :: met else met) = m1
  have a3 : 3 ∉ m1 := by rw [← hm1]; split <;> simp [n3]
  have a4 : 4 ∉ m1 := by rw [← hm1]; split <;> simp [n4]
  have a5 : 5 ∉ m1 := by rw [← hm1]; split <;> simp [n5]
  have a8 : 8 ∉ m1 := by rw [← hm1]; split <;> simp [n8]
  rw [its_scale o _ m1 a3]
  generalize hm2 : (if 0 ≤ o.scale then 3 :: m1 else m1) = m2
  have b4 : 4 ∉ m2 := by rw [← hm2]; split <;> simp [a4]
  have b5 : 5 ∉ m2 := by rw [← hm2]; split <;> simp [a5]
  have b8 : 8 ∉ m2 := by rw [← hm2]; split <;> simp [a8]
  rw [its_sack o _ m2 b4]
  generalize hm3 : (if o.sack = true then 4 :: m2 else m2) = m3
  have c5 : 5 ∉ m3 := by rw [← hm3]; split <;> simp [b5]
  have c8 : 8 ∉ m3 := by rw [← hm3]; split <;> simp [b8]
  rw [its_time o _ m3 c8]
  generalize hm4 : (if o.time = true then 8 :: m3 else m3) = m4
  have d5 : 5 ∉ m4 := by rw [← hm4]; split <;> simp [c5]
  rw [its_blocks o _ m4 d5 hf]
  rw [map_app, map_app, map_app, map_app]
  simp only [List.append_assoc]
theorem v_w2 (n : Nat) (h : n ≤ 65535) : v256 (w2 n) = n := by simp only [v256, w2, List.foldl_cons, List.foldl_nil]; omega
theorem v_w4 (n : Nat) (h : n ≤ 4294967295) : v256 (w4 n) = n := by simp only [v256, w4, List.foldl_cons, List.foldl_nil]; omega
theorem prs_blk : ∀ (L : List (Nat × Nat)), (∀ p ∈ L, p.1 ≤ 4294967295 ∧ p.2 ≤ 4294967295) → prs (blkB L) = L
  | [], _ => rfl
  | p :: L, h => by
    have h1 := h p (by simp)
    have ih := prs_blk L (fun q hq => h q (by simp [hq]))
    show prs (w4 p.1 ++ w4 p.2 ++ blkB L) = _
    show (p.1 / 16777216 * 16777216 + p.1 / 65536 % 256 * 65536 + p.1 / 256 % 256 * 256 + p.1 % 256, p.2 / 16777216 * 16777216 + p.2 / 65536 % 256 * 65536 + p.2 / 256 % 256 * 256 + p.2 % 256) :: prs (blkB L) = _
    rw [ih]
    congr 1
    apply Prod.ext <;> simp only <;> omega
/-- what was written says what was there -/
theorem fold_raw (o : Opn) (k : o.ok) (m : May o) : (itsO o).foldlM tk none0 = some o := by
  have := m.lo; have := m.hi; have kt := m.time
  unfold itsO
  have e1 : (iMss o).foldlM tk none0 = some { none0 with mss := o.mss } := by
    unfold iMss
    by_cases c : o.mss ≠ 0
    · rw [if_pos c]
      show (tk none0 (2, w2 o.mss)).bind some = _
      unfold tk
      simp only [v_w2 _ k.mss]
      rw [if_pos trivial, if_neg c]
      rfl
    · rw [if_neg c, Decidable.not_not.1 c]; rfl
  rw [List.foldlM_append, e1]
  simp only [Option.bind_eq_bind, Option.bind_some]
  have e2 : ∀ q : Opn, q.scale = -1 → (iScale o).foldlM tk q = some { q with scale := o.scale } := by
    intro q hq
    unfold iScale
    by_cases c : 0 ≤ o.scale
    · rw [if_pos c]
      show some { q with scale := min (at0 [o.scale.toNat] 0 : Int) 14 } = _
      have : min ((at0 [o.scale.toNat] 0 : Nat) : Int) 14 = o.scale := by
        show min ((o.scale.toNat : Nat) : Int) 14 = _
        omega
      rw [this]
    · rw [if_neg c]
      have : o.scale = -1 := by omega
      rw [this, ← hq]
      rfl
  rw [List.foldlM_append, e2 _ rfl]
  simp only [Option.bind_eq_bind, Option.bind_some]
  have e3 : ∀ q : Opn, q.sack = false → (iSack o).foldlM tk q = some { q with sack := o.sack } := by
    intro q hq
    unfold iSack
    cases c : o.sack
    · show some q = _
      rw [← hq]
    · rfl
  rw [List.foldlM_append, e3 _ rfl]
  simp only [Option.bind_eq_bind, Option.bind_some]
  have e4 : ∀ q : Opn, q.time = false → q.val = 0 → q.echo = 0 → (iTime o).foldlM tk q = some { q with time := o.time, val := o.val, echo := o.echo } := by
    intro q h1 h2 h3
    unfold iTime
    cases c : o.time
    · obtain ⟨t1, t2⟩ := kt c
      show some q = _
      rw [t1, t2]
      obtain ⟨a, b, c', d, e, f, g⟩ := q
      simp only at h1 h2 h3
      subst h1 h2 h3
      rfl
    · show some { q with time := true, val := v256 (w4 o.val), echo := v256 (w4 o.echo) } = _
      rw [v_w4 _ k.val, v_w4 _ k.echo]
  rw [List.foldlM_append, e4 _ rfl rfl rfl]
  simp only [Option.bind_eq_bind, Option.bind_some]
  unfold iBlocks
  by_cases c : 0 < o.blocks.length
  · rw [if_pos c]
    show some { none0 with mss := o.mss, scale := o.scale, sack := o.sack, time := o.time, val := o.val, echo := o.echo, blocks := [] ++ prs (blkB o.blocks) } = _
    rw [prs_blk _ k.blocks]
    rfl
  · rw [if_neg c]
    have : o.blocks = [] := List.eq_nil_of_length_eq_zero (by omega)
    show some { none0 with mss := o.mss, scale := o.scale, sack := o.sack, time := o.time, val := o.val, echo := o.echo } = _
    obtain ⟨a, b, c', d, e, f, g⟩ := o
    simp only at this
    subst this
    rfl
theorem dec_raw (o : Opn) (k : o.ok) (m : May o) : decO (rawO o) = some o := by
  have h := its_raw o [] [] m.few (by simp)
  rw [List.append_nil, its_nil] at h
  unfold decO
  rw [h]
  show ((itsO o ++ []).foldlM tk none0) = _
  rw [List.append_nil]
  exact fold_raw o k m
theorem raw_four (o : Opn) : (rawO o).length % 4 = 0 := by
  unfold rawO
  simp only [List.length_append]
  have h1 : (sMss o).length % 4 = 0 := by unfold sMss; split <;> simp [w2, w4]
  have h2 : (sScale o).length % 4 = 0 := by unfold sScale; split <;> simp [w2, w4]
  have h3 : (sSack o).length % 4 = 0 := by unfold sSack; split <;> simp [w2, w4]
  have h4 : (sTime o).length % 4 = 0 := by unfold sTime; split <;> simp [w2, w4]
  have h5 : (sBlocks o).length % 4 = 0 := by
    unfold sBlocks
    split
    · rw [List.length_append, blkB_len]; show (4 + _) % 4 = 0; omega
    · rfl
  omega
theorem raw_inj {o p : Opn} (ko : o.ok) (kp : p.ok) (mo : May o) (mp : May p) (h : rawO o = rawO p) : o = p := by
  have h1 := dec_raw o ko mo
  rw [h, dec_raw p kp mp] at h1
  exact (Option.some.inj h1).symm

/-! the same by places -/
def plc (l : List Nat) (a : Nat) (met : List Nat) : Option (List Nat) :=
  if h : a < l.length then
    if at0 l a = 0 then some [] else if at0 l a = 1 then plc l (a + 1) met
    else if hr : a + 1 < l.length ∧ right (at0 l a) (at0 l (a + 1)) = true ∧ a + at0 l (a + 1) ≤ l.length ∧ ¬ (at0 l a ∈ met ∧ known (at0 l a) = true) then
      (plc l (a + at0 l (a + 1)) (at0 l a :: met)).map (a :: ·)
    else none
  else some []
termination_by l.length - a
decreasing_by
  · omega
  · have := right_ge hr.2.1
    omega
theorem plc_end {l : List Nat} {a : Nat} {met : List Nat} (h : ¬ a < l.length) : plc l a met = some [] := by rw [plc.eq_def, dif_neg h]
theorem plc_zero {l : List Nat} {a : Nat} {met : List Nat} (h : a < l.length) (h0 : at0 l a = 0) : plc l a met = some [] := by rw [plc.eq_def, dif_pos h, if_pos h0]
theorem plc_one {l : List Nat} {a : Nat} {met : List Nat} (h : a < l.length) (h1 : at0 l a = 1) : plc l a met = plc l (a + 1) met := by rw [plc.eq_def, dif_pos h, if_neg (by omega), if_pos h1]
theorem plc_ok {l : List Nat} {a : Nat} {met : List Nat} (h : a < l.length) (h0 : at0 l a ≠ 0) (h1 : at0 l a ≠ 1) (hr : a + 1 < l.length ∧ right (at0 l a) (at0 l (a + 1)) = true ∧ a + at0 l (a + 1) ≤ l.length ∧ ¬ (at0 l a ∈ met ∧ known (at0 l a) = true)) :
    plc l a met = (plc l (a + at0 l (a + 1)) (at0 l a :: met)).map (a :: ·) := by rw [plc.eq_def, dif_pos h, if_neg h0, if_neg h1, dif_pos hr]
theorem plc_bad {l : List Nat} {a : Nat} {met : List Nat} (h : a < l.length) (h0 : at0 l a ≠ 0) (h1 : at0 l a ≠ 1) (hr : ¬ (a + 1 < l.length ∧ right (at0 l a) (at0 l (a + 1)) = true ∧ a + at0 l (a + 1) ≤ l.length ∧ ¬ (at0 l a ∈ met ∧ known (at0 l a) = true))) :
    plc l a met = none := by rw [plc.eq_def, dif_pos h, if_neg h0, if_neg h1, dif_neg hr]
/-- the option that stands at a place -/
def itm (l : List Nat) (p : Nat) : Nat × List Nat := (at0 l p, (l.drop (p + 2)).take (at0 l (p + 1) - 2))
theorem drop_cons {l : List Nat} {a : Nat} (h : a < l.length) : l.drop a = at0 l a :: l.drop (a + 1) := by
  rw [List.drop_eq_getElem_cons h]
  unfold at0
  rw [List.getElem?_eq_getElem h]
  rfl
theorem its_plc (l : List Nat) : ∀ (m a : Nat) (met : List Nat), l.length - a ≤ m → its (l.drop a) met = (plc l a met).map (List.map (itm l)) := by
  intro m
  induction m with
  | zero =>
    intro a met h
    rw [List.drop_of_length_le (by omega), its_nil, plc_end (by omega)]
    rfl
  | succ m ih =>
    intro a met h
    by_cases ha : a < l.length
    · rw [drop_cons ha]
      by_cases h0 : at0 l a = 0
      · rw [plc_zero ha h0, h0, its_zero]; rfl
      by_cases h1 : at0 l a = 1
      · rw [plc_one ha h1, h1, its_one]
        exact ih (a + 1) met (by omega)
      by_cases hb : a + 1 < l.length
      · rw [drop_cons hb]
        by_cases hr : a + 1 < l.length ∧ right (at0 l a) (at0 l (a + 1)) = true ∧ a + at0 l (a + 1) ≤ l.length ∧ ¬ (at0 l a ∈ met ∧ known (at0 l a) = true)
        · have hn := right_ge hr.2.1
          rw [plc_ok ha h0 h1 hr]
          have e : l.drop (a + 1 + 1) = (l.drop (a + 2)).take (at0 l (a + 1) - 2) ++ l.drop (a + at0 l (a + 1)) := by
            have e2 : l.drop (a + at0 l (a + 1)) = (l.drop (a + 2)).drop (at0 l (a + 1) - 2) := by rw [List.drop_drop]; congr 1; omega
            rw [e2, List.take_append_drop]
          rw [e, its_ok h0 h1 hr.2.1 (by rw [List.length_take, List.length_drop]; omega) (fun hk hm => hr.2.2.2 ⟨hm, hk⟩), ih _ _ (by omega)]
          cases plc l (a + at0 l (a + 1)) (at0 l a :: met) <;> rfl
        · rw [plc_bad ha h0 h1 hr, its_bad h0 h1 (fun h => hr ⟨hb, h.1, by have h2 := h.2.1; rw [List.length_drop] at h2; omega, h.2.2⟩)]
          rfl
      · rw [List.drop_of_length_le (by omega), its_bare met h0 h1, plc_bad ha h0 h1 (fun h => hb h.1)]
        rfl
    · rw [List.drop_of_length_le (by omega), its_nil, plc_end ha]
      rfl
/-- places stand one behind the other, each option between two -/
theorem plc_in (l : List Nat) : ∀ (m a : Nat) (met ps : List Nat), l.length - a ≤ m → plc l a met = some ps → ∀ p ∈ ps, a ≤ p ∧ p + 1 < l.length ∧ p + at0 l (p + 1) ≤ l.length ∧ right (at0 l p) (at0 l (p + 1)) = true ∧ at0 l p ≠ 0 ∧ at0 l p ≠ 1 := by
  intro m
  induction m with
  | zero =>
    intro a met ps h he
    rw [plc_end (by omega)] at he
    obtain rfl := Option.some.inj he
    intro p hp; cases hp
  | succ m ih =>
    intro a met ps h he p hp
    by_cases ha : a < l.length
    · by_cases h0 : at0 l a = 0
      · rw [plc_zero ha h0] at he
        obtain rfl := Option.some.inj he
        cases hp
      by_cases h1 : at0 l a = 1
      · rw [plc_one ha h1] at he
        obtain ⟨q1, q2⟩ := ih (a + 1) met ps (by omega) he p hp
        exact ⟨by omega, q2⟩
      by_cases hr : a + 1 < l.length ∧ right (at0 l a) (at0 l (a + 1)) = true ∧ a + at0 l (a + 1) ≤ l.length ∧ ¬ (at0 l a ∈ met ∧ known (at0 l a) = true)
      · have hn := right_ge hr.2.1
        rw [plc_ok ha h0 h1 hr] at he
        obtain ⟨qs, hq, rfl⟩ := Option.map_eq_some_iff.1 he
        rcases List.mem_cons.1 hp with rfl | hp
        · exact ⟨Nat.le_refl _, hr.1, hr.2.2.1, hr.2.1, h0, h1⟩
        · obtain ⟨q1, q2⟩ := ih _ _ qs (by omega) hq p hp
          exact ⟨by omega, q2⟩
      · rw [plc_bad ha h0 h1 hr] at he; cases he
    · rw [plc_end ha] at he
      obtain rfl := Option.some.inj he
      cases hp

/-! turning -/
def addw (p : List Nat) (x : Nat) : List Nat := w4 ((v256 p + x) % 4294967296)
theorem addw_len (p : List Nat) (x : Nat) : (addw p x).length = 4 := rfl
def addAll (x : Nat) : List Nat → List Nat
  | a :: b :: c :: d :: r => addw [a, b, c, d] x ++ addAll x r
  | r => r
theorem addAll_len (x : Nat) : ∀ (m : Nat) (l : List Nat), l.length ≤ m → (addAll x l).length = l.length
  | 0, l, h => by rw [List.eq_nil_of_length_eq_zero (show l.length = 0 by omega)]; rfl
  | m + 1, l, h => by
    match l with
    | [] => rfl
    | [_] => rfl
    | [_, _] => rfl
    | [_, _, _] => rfl
    | a :: b :: c :: d :: r =>
      have ih := addAll_len x m r (by simp at h; omega)
      show (addw [a, b, c, d] x ++ addAll x r).length = _
      rw [List.length_append, ih, addw_len]
      simp
      omega
/-- an option's bytes, turned -/
def tp (b v e k : Nat) (p : List Nat) : List Nat := if k = 8 then addw (p.take 4) v ++ addw (p.drop 4) e else if k = 5 then addAll b p else p
theorem tp_len (b v e k : Nat) (p : List Nat) (h : right k (p.length + 2) = true) : (tp b v e k p).length = p.length := by
  unfold tp
  by_cases c8 : k = 8
  · subst c8
    rw [if_pos rfl, List.length_append, addw_len, addw_len]
    simp [right] at h
    omega
  · rw [if_neg c8]
    split
    · exact addAll_len b _ p (Nat.le_refl _)
    · rfl
def turnS (b v e : Nat) (l : List Nat) : List Nat :=
  match l with
  | [] => []
  | k :: r => if k = 0 then k :: r else if k = 1 then 1 :: turnS b v e r else match r with
    | [] => [k]
    | n :: q => k :: n :: (tp b v e k (q.take (n - 2)) ++ turnS b v e (q.drop (n - 2)))
termination_by l.length
decreasing_by all_goals (simp only [List.length_cons, List.length_drop]; omega)
theorem turnS_nil (b v e : Nat) : turnS b v e [] = [] := by rw [turnS.eq_def]
theorem turnS_zero (b v e : Nat) (r : List Nat) : turnS b v e (0 :: r) = 0 :: r := by rw [turnS.eq_def]; rfl
theorem turnS_one (b v e : Nat) (r : List Nat) : turnS b v e (1 :: r) = 1 :: turnS b v e r := by rw [turnS.eq_def]; rfl
theorem turnS_ok (b v e k n : Nat) (p r : List Nat) (h0 : k ≠ 0) (h1 : k ≠ 1) (hp : p.length + 2 = n) : turnS b v e (k :: n :: (p ++ r)) = k :: n :: (tp b v e k p ++ turnS b v e r) := by
  have e2 : n - 2 = p.length := by omega
  rw [turnS.eq_def]
  simp only
  rw [if_neg h0, if_neg h1, e2, List.drop_left' rfl, List.take_left' rfl]
/-- what is read: cases -/
theorem its_cases {l met : List Nat} {L : List (Nat × List Nat)} (h : its l met = some L) :
    (l = [] ∧ L = []) ∨ (∃ r, l = 0 :: r ∧ L = []) ∨ (∃ r, l = 1 :: r ∧ its r met = some L) ∨
      ∃ k p r L2, l = k :: (p.length + 2) :: (p ++ r) ∧ k ≠ 0 ∧ k ≠ 1 ∧ right k (p.length + 2) = true ∧ (known k = true → k ∉ met) ∧ its r (k :: met) = some L2 ∧ L = (k, p) :: L2 := by
  match l with
  | [] => rw [its_nil] at h; exact .inl ⟨rfl, (Option.some.inj h).symm⟩
  | k :: r =>
    by_cases h0 : k = 0
    · subst h0
      rw [its_zero] at h
      exact .inr (.inl ⟨r, rfl, (Option.some.inj h).symm⟩)
    by_cases h1 : k = 1
    · subst h1
      rw [its_one] at h
      exact .inr (.inr (.inl ⟨r, rfl, h⟩))
    match r with
    | [] => rw [its_bare met h0 h1] at h; cases h
    | n :: q =>
      by_cases hc : right k n = true ∧ n ≤ q.length + 2 ∧ ¬ (k ∈ met ∧ known k = true)
      · have hn := right_ge hc.1
        have hl : (q.take (n - 2)).length + 2 = n := by rw [List.length_take]; omega
        have hq : k :: n :: q = k :: ((q.take (n - 2)).length + 2) :: (q.take (n - 2) ++ q.drop (n - 2)) := by rw [hl, List.take_append_drop]
        rw [hq, its_ok h0 h1 (by rw [hl]; exact hc.1) rfl (fun hk hm => hc.2.2 ⟨hm, hk⟩)] at h
        obtain ⟨L2, h2, rfl⟩ := Option.map_eq_some_iff.1 h
        exact .inr (.inr (.inr ⟨k, q.take (n - 2), q.drop (n - 2), L2, hq, h0, h1, by rw [hl]; exact hc.1, fun hk hm => hc.2.2 ⟨hm, hk⟩, h2, rfl⟩))
      · rw [its_bad h0 h1 hc] at h; cases h
theorem its_in : ∀ (m : Nat) (l met : List Nat) (L : List (Nat × List Nat)), l.length ≤ m → its l met = some L → ∀ x ∈ L, right x.1 (x.2.length + 2) = true ∧ ∀ y ∈ x.2, y ∈ l := by
  intro m
  induction m with
  | zero =>
    intro l met L h he
    rw [List.eq_nil_of_length_eq_zero (show l.length = 0 by omega), its_nil] at he
    obtain rfl := Option.some.inj he
    intro x hx; cases hx
  | succ m ih =>
    intro l met L h he x hx
    rcases its_cases he with ⟨_, rfl⟩ | ⟨_, _, rfl⟩ | ⟨r, rfl, h2⟩ | ⟨k, p, r, L2, rfl, h0, h1, hr, _, h2, rfl⟩
    · cases hx
    · cases hx
    · obtain ⟨q1, q2⟩ := ih r met L (by simp at h; omega) h2 x hx
      exact ⟨q1, fun y hy => List.mem_cons_of_mem _ (q2 y hy)⟩
    · rcases List.mem_cons.1 hx with rfl | hx
      · exact ⟨hr, fun y hy => List.mem_cons_of_mem _ (List.mem_cons_of_mem _ (List.mem_append_left _ hy))⟩
      · obtain ⟨q1, q2⟩ := ih r _ L2 (by simp at h; omega) h2 x hx
        exact ⟨q1, fun y hy => List.mem_cons_of_mem _ (List.mem_cons_of_mem _ (List.mem_append_right _ (q2 y hy)))⟩
/-- what is turned is read as what was there, turned -/
theorem its_turn (b v e : Nat) : ∀ (m : Nat) (l met : List Nat) (L : List (Nat × List Nat)), l.length ≤ m → its l met = some L → its (turnS b v e l) met = some (L.map fun x => (x.1, tp b v e x.1 x.2)) ∧ (turnS b v e l).length = l.length := by
  intro m
  induction m with
  | zero =>
    intro l met L h he
    rw [List.eq_nil_of_length_eq_zero (show l.length = 0 by omega)] at he ⊢
    rw [its_nil] at he
    obtain rfl := Option.some.inj he
    rw [turnS_nil, its_nil]
    exact ⟨rfl, rfl⟩
  | succ m ih =>
    intro l met L h he
    rcases its_cases he with ⟨rfl, rfl⟩ | ⟨r, rfl, rfl⟩ | ⟨r, rfl, h2⟩ | ⟨k, p, r, L2, rfl, h0, h1, hr, hm, h2, rfl⟩
    · rw [turnS_nil, its_nil]; exact ⟨rfl, rfl⟩
    · rw [turnS_zero, its_zero]; exact ⟨rfl, rfl⟩
    · obtain ⟨q1, q2⟩ := ih r met L (by simp at h; omega) h2
      rw [turnS_one, its_one, q1]
      exact ⟨rfl, by rw [List.length_cons, q2, List.length_cons]⟩
    · obtain ⟨q1, q2⟩ := ih r _ L2 (by simp at h; omega) h2
      have hl := tp_len b v e k p hr
      rw [turnS_ok b v e k _ p r h0 h1 rfl, its_ok h0 h1 hr (by rw [hl]) hm, q1]
      refine ⟨rfl, ?_⟩
      simp only [List.length_cons, List.length_append, hl, q2]
/-- four bytes, as a number, and back -/
theorem w4_v {a b c d : Nat} (ha : a ≤ 255) (hb : b ≤ 255) (hc : c ≤ 255) (hd : d ≤ 255) : w4 (v256 [a, b, c, d]) = [a, b, c, d] ∧ v256 [a, b, c, d] ≤ 4294967295 := by
  have hv : v256 [a, b, c, d] = a * 16777216 + b * 65536 + c * 256 + d := by simp only [v256, List.foldl_cons, List.foldl_nil]; omega
  rw [hv]
  refine ⟨?_, by omega⟩
  have h1 : (a * 16777216 + b * 65536 + c * 256 + d) / 16777216 = a := by omega
  have h2 : (a * 16777216 + b * 65536 + c * 256 + d) / 65536 % 256 = b := by omega
  have h3 : (a * 16777216 + b * 65536 + c * 256 + d) / 256 % 256 = c := by omega
  have h4 : (a * 16777216 + b * 65536 + c * 256 + d) % 256 = d := by omega
  simp only [w4, h1, h2, h3, h4]
theorem v_addw (p : List Nat) (x : Nat) : v256 (addw p x) = (v256 p + x) % 4294967296 := v_w4 _ (by have := Nat.mod_lt (v256 p + x) (show 0 < 4294967296 by decide); omega)
theorem addw_back {p : List Nat} (hp : p.length = 4) (hl : ∀ y ∈ p, y ≤ 255) (x y : Nat) (hxy : (x + y) % 4294967296 = 0) : addw (addw p x) y = p := by
  match p, hp with
  | [a, b, c, d], _ =>
    obtain ⟨h1, h2⟩ := w4_v (hl a (by simp)) (hl b (by simp)) (hl c (by simp)) (hl d (by simp))
    unfold addw
    have e : v256 (w4 ((v256 [a, b, c, d] + x) % 4294967296)) = (v256 [a, b, c, d] + x) % 4294967296 := v_addw [a, b, c, d] x
    rw [e]
    generalize v256 [a, b, c, d] = z at h1 h2
    have e2 : ((z + x) % 4294967296 + y) % 4294967296 = z := by omega
    rw [e2, h1]
theorem addAll_back (x y : Nat) (hxy : (x + y) % 4294967296 = 0) : ∀ (m : Nat) (l : List Nat), l.length ≤ m → (∀ z ∈ l, z ≤ 255) → addAll y (addAll x l) = l
  | 0, l, h, _ => by rw [List.eq_nil_of_length_eq_zero (show l.length = 0 by omega)]; rfl
  | m + 1, l, h, hl => by
    match l with
    | [] => rfl
    | [_] => rfl
    | [_, _] => rfl
    | [_, _, _] => rfl
    | a :: b :: c :: d :: r =>
      have ih := addAll_back x y hxy m r (by simp at h; omega) (fun z hz => hl z (by simp [hz]))
      have hb := addw_back (p := [a, b, c, d]) rfl (fun z hz => hl z (by simp at hz ⊢; omega)) x y hxy
      show addAll y (addw [a, b, c, d] x ++ addAll x r) = _
      show addw (addw [a, b, c, d] x) y ++ addAll y (addAll x r) = _
      rw [hb, ih]
      rfl
theorem tp_back (b v e b2 v2 e2 : Nat) (hb : (b + b2) % 4294967296 = 0) (hv : (v + v2) % 4294967296 = 0) (he : (e + e2) % 4294967296 = 0) (k : Nat) (p : List Nat) (hr : right k (p.length + 2) = true) (hl : ∀ y ∈ p, y ≤ 255) :
    tp b2 v2 e2 k (tp b v e k p) = p := by
  unfold tp
  by_cases c8 : k = 8
  · subst c8
    have h8 : p.length = 8 := by simp [right] at hr; omega
    simp only [if_pos]
    rw [List.take_left' (addw_len _ _), List.drop_left' (addw_len _ _), addw_back (by rw [List.length_take]; omega) (fun y hy => hl y (List.mem_of_mem_take hy)) v v2 hv, addw_back (by rw [List.length_drop]; omega) (fun y hy => hl y (List.mem_of_mem_drop hy)) e e2 he, List.take_append_drop]
  · simp only [if_neg c8]
    by_cases c5 : k = 5
    · simp only [if_pos c5]
      exact addAll_back b b2 hb _ p (Nat.le_refl _) hl
    · simp only [if_neg c5]
/-- turned back, it is what it was -/
theorem turn_back (b v e b2 v2 e2 : Nat) (hb : (b + b2) % 4294967296 = 0) (hv : (v + v2) % 4294967296 = 0) (he : (e + e2) % 4294967296 = 0) : ∀ (m : Nat) (l met : List Nat) (L : List (Nat × List Nat)), l.length ≤ m → (∀ y ∈ l, y ≤ 255) → its l met = some L → turnS b2 v2 e2 (turnS b v e l) = l := by
  intro m
  induction m with
  | zero =>
    intro l met L h _ hi
    rw [List.eq_nil_of_length_eq_zero (show l.length = 0 by omega), turnS_nil, turnS_nil]
  | succ m ih =>
    intro l met L h hl hi
    rcases its_cases hi with ⟨rfl, rfl⟩ | ⟨r, rfl, rfl⟩ | ⟨r, rfl, h2⟩ | ⟨k, p, r, L2, rfl, h0, h1, hr, hm, h2, rfl⟩
    · rw [turnS_nil, turnS_nil]
    · rw [turnS_zero, turnS_zero]
    · rw [turnS_one, turnS_one, ih r met L (by simp at h; omega) (fun y hy => hl y (List.mem_cons_of_mem _ hy)) h2]
    · rw [turnS_ok b v e k _ p r h0 h1 rfl, turnS_ok b2 v2 e2 k _ (tp b v e k p) _ h0 h1 (by rw [tp_len b v e k p hr]), tp_back b v e b2 v2 e2 hb hv he k p hr (fun y hy => hl y (by simp [hy])), ih r _ L2 (by simp at h; omega) (fun y hy => hl y (by simp [hy])) h2]
/-- options, turned -/
def turnedO (b v e : Nat) (o : Opn) : Opn := { o with blocks := o.blocks.map fun p => ((p.1 + b) % 4294967296, (p.2 + b) % 4294967296), val := if o.time = true then (o.val + v) % 4294967296 else o.val, echo := if o.time = true then (o.echo + e) % 4294967296 else o.echo }
theorem prs_add (x : Nat) : ∀ (m : Nat) (l : List Nat), l.length ≤ m → l.length % 8 = 0 → (∀ z ∈ l, z ≤ 255) → prs (addAll x l) = (prs l).map fun p => ((p.1 + x) % 4294967296, (p.2 + x) % 4294967296)
  | 0, l, h, _, _ => by rw [List.eq_nil_of_length_eq_zero (show l.length = 0 by omega)]; rfl
  | m + 1, l, h, h8, hl => by
    match l with
    | [] => rfl
    | [_] => simp at h8
    | [_, _] => simp at h8
    | [_, _, _] => simp at h8
    | [_, _, _, _] => simp at h8
    | [_, _, _, _, _] => simp at h8
    | [_, _, _, _, _, _] => simp at h8
    | [_, _, _, _, _, _, _] => simp at h8
    | a :: b :: c :: d :: a' :: b' :: c' :: d' :: r =>
      have ih := prs_add x m r (by simp at h; omega) (by simp at h8; omega) (fun z hz => hl z (by simp [hz]))
      have e1 := v_addw [a, b, c, d] x
      have e2 := v_addw [a', b', c', d'] x
      have f1 : v256 [a, b, c, d] = a * 16777216 + b * 65536 + c * 256 + d := by simp only [v256, List.foldl_cons, List.foldl_nil]; omega
      have f2 : v256 [a', b', c', d'] = a' * 16777216 + b' * 65536 + c' * 256 + d' := by simp only [v256, List.foldl_cons, List.foldl_nil]; omega
      show prs (addw [a, b, c, d] x ++ (addw [a', b', c', d'] x ++ addAll x r)) = _
      obtain ⟨y0, y1, y2, y3, hy⟩ : ∃ y0 y1 y2 y3, addw [a, b, c, d] x = [y0, y1, y2, y3] := ⟨_, _, _, _, rfl⟩
      obtain ⟨z0, z1, z2, z3, hz⟩ : ∃ y0 y1 y2 y3, addw [a', b', c', d'] x = [y0, y1, y2, y3] := ⟨_, _, _, _, rfl⟩
      rw [hy] at e1 ⊢
      rw [hz] at e2 ⊢
      have g1 : v256 [y0, y1, y2, y3] = y0 * 16777216 + y1 * 65536 + y2 * 256 + y3 := by simp only [v256, List.foldl_cons, List.foldl_nil]; omega
      have g2 : v256 [z0, z1, z2, z3] = z0 * 16777216 + z1 * 65536 + z2 * 256 + z3 := by simp only [v256, List.foldl_cons, List.foldl_nil]; omega
      show (y0 * 16777216 + y1 * 65536 + y2 * 256 + y3, z0 * 16777216 + z1 * 65536 + z2 * 256 + z3) :: prs (addAll x r) = ((a * 16777216 + b * 65536 + c * 256 + d + x) % 4294967296, (a' * 16777216 + b' * 65536 + c' * 256 + d' + x) % 4294967296) :: (prs r).map _
      rw [ih, ← g1, ← g2, e1, e2, f1, f2]
theorem tk_turn (b v e : Nat) (o p : Opn) (x : Nat × List Nat) (hr : right x.1 (x.2.length + 2) = true) (hl : ∀ y ∈ x.2, y ≤ 255) (h : tk o x = some p) : tk (turnedO b v e o) (x.1, tp b v e x.1 x.2) = some (turnedO b v e p) := by
  obtain ⟨k, q⟩ := x
  simp only at hr hl h ⊢
  unfold tk at h ⊢
  simp only at h ⊢
  by_cases c2 : k = 2
  · subst c2
    have ht : tp b v e 2 q = q := rfl
    rw [if_pos rfl] at h ⊢
    rw [ht]
    by_cases hv : v256 q = 0
    · rw [if_pos hv] at h; cases h
    · rw [if_neg hv] at h ⊢
      obtain rfl := Option.some.inj h
      rfl
  rw [if_neg c2] at h ⊢
  by_cases c3 : k = 3
  · subst c3
    have ht : tp b v e 3 q = q := rfl
    rw [if_pos rfl] at h ⊢
    rw [ht]
    obtain rfl := Option.some.inj h
    rfl
  rw [if_neg c3] at h ⊢
  by_cases c4 : k = 4
  · subst c4
    rw [if_pos rfl] at h ⊢
    obtain rfl := Option.some.inj h
    rfl
  rw [if_neg c4] at h ⊢
  by_cases c5 : k = 5
  · subst c5
    have ht : tp b v e 5 q = addAll b q := rfl
    rw [if_pos rfl] at h ⊢
    rw [ht, prs_add b _ q (Nat.le_refl _) (by simp [right] at hr; omega) hl]
    obtain rfl := Option.some.inj h
    unfold turnedO
    simp only [List.map_append]
  rw [if_neg c5] at h ⊢
  by_cases c8 : k = 8
  · subst c8
    have ht : tp b v e 8 q = addw (q.take 4) v ++ addw (q.drop 4) e := rfl
    rw [if_pos rfl] at h ⊢
    rw [ht, List.take_left' (addw_len _ _), List.drop_left' (addw_len _ _), v_addw, v_addw]
    obtain rfl := Option.some.inj h
    rfl
  rw [if_neg c8] at h ⊢
  obtain rfl := Option.some.inj h
  rfl
theorem fold_turn (b v e : Nat) : ∀ (L : List (Nat × List Nat)) (o p : Opn), (∀ x ∈ L, right x.1 (x.2.length + 2) = true ∧ ∀ y ∈ x.2, y ≤ 255) → L.foldlM tk o = some p → (L.map fun x => (x.1, tp b v e x.1 x.2)).foldlM tk (turnedO b v e o) = some (turnedO b v e p)
  | [], o, p, _, h => by
    obtain rfl : o = p := Option.some.inj h
    rfl
  | x :: L, o, p, hx, h => by
    have h1 : (tk o x).bind (fun q => L.foldlM tk q) = some p := h
    obtain ⟨q, hq, h2⟩ := Option.bind_eq_some_iff.1 h1
    have h3 := tk_turn b v e o q x (hx x (by simp)).1 (hx x (by simp)).2 hq
    have ih := fold_turn b v e L q p (fun y hy => hx y (by simp [hy])) h2
    show (tk (turnedO b v e o) (x.1, tp b v e x.1 x.2)).bind (fun q => (L.map fun x => (x.1, tp b v e x.1 x.2)).foldlM tk q) = _
    rw [h3]
    exact ih
theorem dec_turn (b v e : Nat) (l : List Nat) (p : Opn) (hl : ∀ y ∈ l, y ≤ 255) (h : decO l = some p) : decO (turnS b v e l) = some (turnedO b v e p) ∧ (turnS b v e l).length = l.length := by
  unfold decO at h
  obtain ⟨L, hL, hf⟩ := Option.bind_eq_some_iff.1 h
  obtain ⟨h1, h2⟩ := its_turn b v e _ l [] L (Nat.le_refl _) hL
  refine ⟨?_, h2⟩
  unfold decO
  rw [h1]
  have hin := its_in _ l [] L (Nat.le_refl _) hL
  have := fold_turn b v e L none0 p (fun x hx => ⟨(hin x hx).1, fun y hy => hl y ((hin x hx).2 y hy)⟩) hf
  exact this
theorem dec_back (b v e b2 v2 e2 : Nat) (hb : (b + b2) % 4294967296 = 0) (hv : (v + v2) % 4294967296 = 0) (he : (e + e2) % 4294967296 = 0) (l : List Nat) (p : Opn) (hl : ∀ y ∈ l, y ≤ 255) (h : decO l = some p) : turnS b2 v2 e2 (turnS b v e l) = l := by
  unfold decO at h
  obtain ⟨L, hL, _⟩ := Option.bind_eq_some_iff.1 h
  exact turn_back b v e b2 v2 e2 hb hv he _ l [] L (Nat.le_refl _) hl hL
end Go.Proofs.Ytgpkckaojcodmaa.OptMath
