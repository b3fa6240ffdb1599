/-
  The program's own way through a segment's options: plain mathematics (no Go in sight).
-/
import Derived.Test.YtgpkckaojcodmaaOptTurnM
namespace Go.Proofs.Ytgpkckaojcodmaa.OptQ
open Go.RowKit TupMath SumMath IpMath IpRef OptMath OptRef OptTk OptTurnM
set_option linter.unusedVariables false

/-- whether an option of a kind is there -/
def there (o : Opn) (k : Nat) : Bool :=
  if k = 2 then decide (o.mss ≠ 0) else if k = 3 then decide (0 ≤ o.scale) else if k = 4 then o.sack else if k = 8 then o.time else if k = 5 then decide (0 < o.blocks.length) else false
/-- its bytes -/
def segO (o : Opn) (k : Nat) : List Nat :=
  if k = 2 then [2, 4] ++ w2 o.mss else if k = 3 then [1, 3, 3, o.scale.toNat] else if k = 4 then [1, 1, 4, 2] else if k = 8 then [1, 1, 8, 10] ++ (w4 o.val ++ w4 o.echo) else [1, 1, 5, 2 + 8 * o.blocks.length] ++ blkB o.blocks
def parts (o : Opn) (ks : List Nat) : List Nat := ks.flatMap fun k => if there o k = true then segO o k else []
theorem parts_all (o : Opn) : parts o [2, 3, 4, 8, 5] = rawO o := by
  have e2 : (if there o 2 = true then segO o 2 else []) = sMss o := by
    show (if decide (o.mss ≠ 0) = true then _ else _) = _
    unfold sMss
    simp only [decide_eq_true_eq]
    rfl
  have e3 : (if there o 3 = true then segO o 3 else []) = sScale o := by
    show (if decide (0 ≤ o.scale) = true then _ else _) = _
    unfold sScale
    simp only [decide_eq_true_eq]
    rfl
  have e4 : (if there o 4 = true then segO o 4 else []) = sSack o := rfl
  have e8 : (if there o 8 = true then segO o 8 else []) = sTime o := rfl
  have e5 : (if there o 5 = true then segO o 5 else []) = sBlocks o := by
    show (if decide (0 < o.blocks.length) = true then _ else _) = _
    unfold sBlocks
    simp only [decide_eq_true_eq]
    rfl
  unfold parts rawO
  simp only [List.flatMap_cons, List.flatMap_nil, List.append_nil]
  rw [e2, e3, e4, e8, e5]
theorem parts_snoc (o : Opn) (ks : List Nat) (k : Nat) : parts o (ks ++ [k]) = parts o ks ++ (if there o k = true then segO o k else []) := by
  unfold parts
  rw [List.flatMap_append]
  simp
theorem segO_len (o : Opn) (k : Nat) (hf : o.blocks.length ≤ 4) : (segO o k).length ≤ 36 := by
  unfold segO
  split
  · simp [w2]
  split
  · simp
  split
  · simp
  split
  · simp [w4]
  · rw [List.length_append, blkB_len]; show 4 + _ ≤ 36; omega
theorem parts_len (o : Opn) (hf : o.blocks.length ≤ 4) : ∀ ks : List Nat, (parts o ks).length ≤ 36 * ks.length
  | [] => by simp [parts]
  | k :: ks => by
    have ih := parts_len o hf ks
    have h1 := segO_len o k hf
    show ((if there o k = true then segO o k else []) ++ parts o ks).length ≤ _
    rw [List.length_append, List.length_cons]
    split
    · omega
    · simp only [List.length_nil]; omega

/-! the options of bytes, as the program tells them: where each begins, and how many of its bytes are there -/
def lenAt (l : List Nat) (a : Nat) : Nat := min (max 2 (at0 l (a + 1))) (l.length - a)
theorem lenAt_pos {l : List Nat} {a : Nat} (h : a < l.length) : 0 < lenAt l a := by unfold lenAt; omega
theorem lenAt_le {l : List Nat} {a : Nat} (h : a < l.length) : a + lenAt l a ≤ l.length := by unfold lenAt; omega
def opts (l : List Nat) (a : Nat) : List Nat :=
  if h : a < l.length then
    if at0 l a = 0 then [] else if at0 l a = 1 then opts l (a + 1) else a :: opts l (a + lenAt l a)
  else []
termination_by l.length - a
decreasing_by
  · omega
  · have := lenAt_pos h; omega
theorem opts_end {l : List Nat} {a : Nat} (h : ¬ a < l.length) : opts l a = [] := by rw [opts.eq_def, dif_neg h]
theorem opts_zero {l : List Nat} {a : Nat} (h : a < l.length) (h0 : at0 l a = 0) : opts l a = [] := by rw [opts.eq_def, dif_pos h, if_pos h0]
theorem opts_one {l : List Nat} {a : Nat} (h : a < l.length) (h1 : at0 l a = 1) : opts l a = opts l (a + 1) := by rw [opts.eq_def, dif_pos h, if_neg (by omega), if_pos h1]
theorem opts_some {l : List Nat} {a : Nat} (h : a < l.length) (h0 : at0 l a ≠ 0) (h1 : at0 l a ≠ 1) : opts l a = a :: opts l (a + lenAt l a) := by rw [opts.eq_def, dif_pos h, if_neg h0, if_neg h1]
theorem opts_in (l : List Nat) : ∀ (m a : Nat), l.length - a ≤ m → ∀ p ∈ opts l a, a ≤ p ∧ p < l.length ∧ at0 l p ≠ 0 ∧ at0 l p ≠ 1 := by
  intro m
  induction m with
  | zero => intro a h p hp; rw [opts_end (by omega)] at hp; cases hp
  | succ m ih =>
    intro a h p hp
    by_cases ha : a < l.length
    · by_cases h0 : at0 l a = 0
      · rw [opts_zero ha h0] at hp; cases hp
      by_cases h1 : at0 l a = 1
      · rw [opts_one ha h1] at hp
        obtain ⟨q1, q2⟩ := ih (a + 1) (by omega) p hp
        exact ⟨by omega, q2⟩
      · have hl := lenAt_pos ha
        rw [opts_some ha h0 h1] at hp
        rcases List.mem_cons.1 hp with rfl | hp
        · exact ⟨Nat.le_refl _, ha, h0, h1⟩
        · obtain ⟨q1, q2⟩ := ih _ (by omega) p hp
          exact ⟨by omega, q2⟩
    · rw [opts_end ha] at hp; cases hp
theorem opts_few (l : List Nat) : ∀ (m a : Nat), l.length - a ≤ m → (opts l a).length ≤ m := by
  intro m
  induction m with
  | zero => intro a h; rw [opts_end (by omega)]; exact Nat.le_refl _
  | succ m ih =>
    intro a h
    by_cases ha : a < l.length
    · by_cases h0 : at0 l a = 0
      · rw [opts_zero ha h0]; exact Nat.zero_le _
      by_cases h1 : at0 l a = 1
      · rw [opts_one ha h1]
        exact Nat.le_succ_of_le (ih (a + 1) (by omega))
      · have hl := lenAt_pos ha
        rw [opts_some ha h0 h1, List.length_cons]
        have := ih (a + lenAt l a) (by omega)
        omega
    · rw [opts_end ha]; exact Nat.zero_le _
/-- where all options may be, they are those of the document -/
theorem opts_plc (l : List Nat) : ∀ (m a : Nat) (met ps : List Nat), l.length - a ≤ m → plc l a met = some ps → opts l a = ps := by
  intro m
  induction m with
  | zero =>
    intro a met ps h he
    rw [plc_end (by omega)] at he
    obtain rfl := Option.some.inj he
    exact opts_end (by omega)
  | succ m ih =>
    intro a met ps h he
    by_cases ha : a < l.length
    · by_cases h0 : at0 l a = 0
      · rw [plc_zero ha h0] at he
        obtain rfl := Option.some.inj he
        exact opts_zero ha h0
      by_cases h1 : at0 l a = 1
      · rw [plc_one ha h1] at he
        rw [opts_one ha h1]
        exact ih (a + 1) met ps (by omega) he
      by_cases hr : a + 1 < l.length ∧ right (at0 l a) (at0 l (a + 1)) = true ∧ a + at0 l (a + 1) ≤ l.length ∧ ¬ (at0 l a ∈ met ∧ known (at0 l a) = true)
      · have hn := right_ge hr.2.1
        rw [plc_ok ha h0 h1 hr] at he
        obtain ⟨qs, hq, rfl⟩ := Option.map_eq_some_iff.1 he
        have e : lenAt l a = at0 l (a + 1) := by unfold lenAt; omega
        rw [opts_some ha h0 h1, e, ih _ _ qs (by omega) hq]
      · rw [plc_bad ha h0 h1 hr] at he; cases he
    · rw [plc_end ha] at he
      obtain rfl := Option.some.inj he
      exact opts_end ha

/-- whether bytes are all of an option, and one that may be -/
def rightX (q : List Nat) : Bool := decide (q.length = at0 q 1) && right (at0 q 0) q.length && tkB (at0 q 0) (q.drop 2)
/-- an option's bytes, as far as they are there -/
def cutX (l : List Nat) (a : Nat) : List Nat := (l.drop a).take (lenAt l a)
theorem cut_len {l : List Nat} {a : Nat} (h : a < l.length) : (cutX l a).length = lenAt l a := by unfold cutX; rw [List.length_take, List.length_drop]; have := lenAt_le h; omega
theorem cut_0 {l : List Nat} {a : Nat} (h : a < l.length) : at0 (cutX l a) 0 = at0 l a := by
  unfold cutX
  rw [at_take (lenAt_pos h)]
  unfold at0
  rw [List.getElem?_drop, Nat.add_zero]
theorem cut_1 {l : List Nat} {a : Nat} (h : a < l.length) : at0 (cutX l a) 1 = at0 l (a + 1) := by
  unfold cutX
  by_cases h2 : a + 1 < l.length
  · rw [at_take (show 1 < lenAt l a by unfold lenAt; omega)]
    unfold at0
    rw [List.getElem?_drop]
  · unfold at0
    rw [List.getElem?_eq_none (by rw [List.length_take, List.length_drop]; omega), List.getElem?_eq_none (by omega)]
/-- what a round makes of the options -/
def stp (l : List Nat) (o : Opn) (a : Nat) : Option Opn := if rightX (cutX l a) = true ∧ there o (at0 l a) = false then some (tkO o (at0 l a) ((cutX l a).drop 2)) else none
/-- what was met is there -/
def Met (o : Opn) (met : List Nat) : Prop := ∀ k, known k = true → (k ∈ met ↔ there o k = true)
theorem met_none : Met none0 [] := by
  intro k hk
  unfold known at hk
  have : k = 2 ∨ k = 3 ∨ k = 4 ∨ k = 5 ∨ k = 8 := by simp at hk; omega
  rcases this with rfl | rfl | rfl | rfl | rfl <;> simp [there, none0]
theorem there_unknown {o : Opn} {k : Nat} (h : known k = false) : there o k = false := by
  unfold known at h
  simp at h
  unfold there
  rw [if_neg (by omega), if_neg (by omega), if_neg (by omega), if_neg (by omega), if_neg (by omega)]
theorem prs_pos {p : List Nat} (h : 8 ≤ p.length) : 0 < (prs p).length := by
  match p, h with
  | a :: b :: c :: d :: e :: f :: g :: x :: r, h => show 0 < (prs r).length + 1; omega
theorem there_tk {o : Opn} {k : Nat} {p : List Nat} (hr : right k (p.length + 2) = true) (ht : tkB k p = true) (hf : there o k = false) (j : Nat) (hj : known j = true) : there (tkO o k p) j = true ↔ j = k ∨ there o j = true := by
  have hj2 : j = 2 ∨ j = 3 ∨ j = 4 ∨ j = 5 ∨ j = 8 := by unfold known at hj; simp at hj; omega
  by_cases c2 : k = 2
  · subst c2
    have hv : v256 p ≠ 0 := by unfold tkB at ht; simpa using ht
    have e : tkO o 2 p = { o with mss := v256 p } := rfl
    rw [e]
    rcases hj2 with rfl | rfl | rfl | rfl | rfl <;> simp [there, hv]
  by_cases c3 : k = 3
  · subst c3
    have e : tkO o 3 p = { o with scale := min (at0 p 0 : Int) 14 } := rfl
    have hs : (0 : Int) ≤ min (at0 p 0 : Int) 14 := by omega
    rw [e]
    rcases hj2 with rfl | rfl | rfl | rfl | rfl <;> simp [there] <;> omega
  by_cases c4 : k = 4
  · subst c4
    have e : tkO o 4 p = { o with sack := true } := rfl
    rw [e]
    rcases hj2 with rfl | rfl | rfl | rfl | rfl <;> simp [there]
  by_cases c5 : k = 5
  · subst c5
    have e : tkO o 5 p = { o with blocks := o.blocks ++ prs p } := rfl
    have h8 : 8 ≤ p.length := by simp [right] at hr; omega
    have hp := prs_pos h8
    rw [e]
    rcases hj2 with rfl | rfl | rfl | rfl | rfl <;> simp [there] <;> omega
  by_cases c8 : k = 8
  · subst c8
    have e : tkO o 8 p = { o with time := true, val := v256 (p.take 4), echo := v256 (p.drop 4) } := rfl
    rw [e]
    rcases hj2 with rfl | rfl | rfl | rfl | rfl <;> simp [there]
  · have e : tkO o k p = o := by unfold tkO; rw [if_neg c2, if_neg c3, if_neg c4, if_neg c5, if_neg c8]
    rw [e]
    exact ⟨.inr, fun h => h.resolve_left (by omega)⟩
theorem met_tk {o : Opn} {met : List Nat} {k : Nat} {p : List Nat} (m : Met o met) (hr : right k (p.length + 2) = true) (ht : tkB k p = true) (hf : there o k = false) : Met (tkO o k p) (k :: met) := by
  intro j hj
  rw [there_tk hr ht hf j hj, List.mem_cons, m j hj]
/-- an option that the document finds right, as the program sees it -/
theorem cut_ok {l : List Nat} {a : Nat} (ha : a < l.length) (hb : a + 1 < l.length) (hr : right (at0 l a) (at0 l (a + 1)) = true) (hn : a + at0 l (a + 1) ≤ l.length) : lenAt l a = at0 l (a + 1) ∧ (cutX l a).drop 2 = (l.drop (a + 2)).take (at0 l (a + 1) - 2) := by
  have h2 := right_ge hr
  have e : lenAt l a = at0 l (a + 1) := by unfold lenAt; omega
  refine ⟨e, ?_⟩
  unfold cutX
  rw [e, List.drop_take, List.drop_drop]
theorem dec_stp (l : List Nat) : ∀ (m a : Nat) (o : Opn) (met : List Nat), l.length - a ≤ m → Met o met → (opts l a).foldlM (stp l) o = (plc l a met).bind fun ps => (ps.map (itm l)).foldlM tk o := by
  intro m
  induction m with
  | zero =>
    intro a o met h hm
    rw [opts_end (by omega), plc_end (by omega)]
    rfl
  | succ m ih =>
    intro a o met h hm
    by_cases ha : a < l.length
    · by_cases h0 : at0 l a = 0
      · rw [opts_zero ha h0, plc_zero ha h0]; rfl
      by_cases h1 : at0 l a = 1
      · rw [opts_one ha h1, plc_one ha h1]
        exact ih (a + 1) o met (by omega) hm
      rw [opts_some ha h0 h1, List.foldlM_cons]
      by_cases hr : a + 1 < l.length ∧ right (at0 l a) (at0 l (a + 1)) = true ∧ a + at0 l (a + 1) ≤ l.length ∧ ¬ (at0 l a ∈ met ∧ known (at0 l a) = true)
      · have hn := right_ge hr.2.1
        obtain ⟨e1, e2⟩ := cut_ok ha hr.1 hr.2.1 hr.2.2.1
        have hl : ((l.drop (a + 2)).take (at0 l (a + 1) - 2)).length + 2 = at0 l (a + 1) := by rw [List.length_take, List.length_drop]; omega
        have hth : there o (at0 l a) = false := by
          cases hk : known (at0 l a)
          · exact there_unknown hk
          · cases ht : there o (at0 l a)
            · rfl
            · exact absurd ⟨(hm _ hk).2 ht, hk⟩ hr.2.2.2
        rw [plc_ok ha h0 h1 hr, e1]
        have hx : rightX (cutX l a) = tkB (at0 l a) ((l.drop (a + 2)).take (at0 l (a + 1) - 2)) := by
          unfold rightX
          rw [cut_len ha, cut_0 ha, cut_1 ha, e1, e2, hr.2.1]
          simp
        have hs : stp l o a = tk o (itm l a) := by
          unfold stp itm
          rw [hx, tk_is, e2]
          by_cases hb : tkB (at0 l a) ((l.drop (a + 2)).take (at0 l (a + 1) - 2)) = true
          · rw [if_pos ⟨hb, hth⟩, if_pos hb]
          · rw [if_neg (fun h => hb h.1), if_neg hb]
        rw [hs]
        have hit : itm l a = (at0 l a, (l.drop (a + 2)).take (at0 l (a + 1) - 2)) := rfl
        by_cases hb : tkB (at0 l a) ((l.drop (a + 2)).take (at0 l (a + 1) - 2)) = true
        · have ht : tk o (itm l a) = some (tkO o (at0 l a) ((l.drop (a + 2)).take (at0 l (a + 1) - 2))) := by rw [hit, tk_is, if_pos hb]
          rw [ht]
          have := ih (a + at0 l (a + 1)) _ (at0 l a :: met) (by omega) (met_tk (p := (l.drop (a + 2)).take (at0 l (a + 1) - 2)) hm (by rw [hl]; exact hr.2.1) hb hth)
          show List.foldlM (stp l) _ _ = _
          rw [this]
          cases hq : plc l (a + at0 l (a + 1)) (at0 l a :: met) with
          | none => rfl
          | some qs =>
            show _ = List.foldlM tk o (itm l a :: qs.map (itm l))
            rw [List.foldlM_cons, ht]
            rfl
        · have ht : tk o (itm l a) = none := by rw [hit, tk_is, if_neg hb]
          rw [ht]
          cases hq : plc l (a + at0 l (a + 1)) (at0 l a :: met) with
          | none => rfl
          | some qs =>
            show _ = List.foldlM tk o (itm l a :: qs.map (itm l))
            rw [List.foldlM_cons, ht]
            rfl
      · have hs : stp l o a = none := by
          unfold stp
          refine if_neg fun h => hr ?_
          obtain ⟨hx, hth⟩ := h
          unfold rightX at hx
          rw [cut_len ha, cut_0 ha, cut_1 ha] at hx
          simp only [Bool.and_eq_true, decide_eq_true_eq] at hx
          have hb : a + 1 < l.length := by
            rcases Nat.lt_or_ge (a + 1) l.length with hb | hb
            · exact hb
            · have h3 := hx.1.1
              have h4 : at0 l (a + 1) = 0 := by unfold at0; rw [List.getElem?_eq_none hb]; rfl
              have := lenAt_pos ha
              omega
          refine ⟨hb, by rw [← hx.1.1]; exact hx.1.2, by rw [← hx.1.1]; exact lenAt_le ha, fun hmm => ?_⟩
          have := (hm _ hmm.2).1 hmm.1
          rw [this] at hth
          cases hth
        rw [plc_bad ha h0 h1 hr, hs]
        rfl
    · rw [opts_end ha, plc_end ha]
      rfl
theorem dec_opts (l : List Nat) : (opts l 0).foldlM (stp l) none0 = decO l := by
  rw [dec_stp l l.length 0 none0 [] (by omega) met_none]
  cases hp : plc l 0 [] with
  | none => rw [dec_no hp]; rfl
  | some ps => rw [dec_of hp]; rfl
theorem stp_snoc {l : List Nat} {pre : List Nat} {o : Opn} (h : pre.foldlM (stp l) none0 = some o) (a : Nat) : (pre ++ [a]).foldlM (stp l) none0 = stp l o a := by
  rw [List.foldlM_append, h]
  show List.foldlM (stp l) o [a] = _
  rw [List.foldlM_cons]
  cases stp l o a <;> rfl
theorem stp_broken {l pre : List Nat} (h : pre.foldlM (stp l) none0 = none) (hp : pre <+: opts l 0) : decO l = none := by
  obtain ⟨r, hr⟩ := hp
  rw [← dec_opts, ← hr, List.foldlM_append, h]
  rfl

/-! turning -/
/-- four bytes of c, at a place, are those of l, added to -/
def putA (l c : List Nat) (a x : Nat) : List Nat := c.take a ++ (addw ((l.drop a).take 4) x ++ c.drop (a + 4))
theorem putA_len (l c : List Nat) (a x : Nat) (h : a + 4 ≤ c.length) : (putA l c a x).length = c.length := by
  unfold putA
  rw [List.length_append, List.length_append, addw_len, List.length_take, List.length_drop]
  omega
theorem putA_le {l c : List Nat} (a x : Nat) (h : ∀ y ∈ c, y ≤ 255) : ∀ y ∈ putA l c a x, y ≤ 255 := by
  intro y hy
  unfold putA at hy
  rcases List.mem_append.1 hy with hy | hy
  · exact h y (List.mem_of_mem_take hy)
  rcases List.mem_append.1 hy with hy | hy
  · exact w4_le _ (by have := Nat.mod_lt (v256 ((l.drop a).take 4) + x) (show 0 < 4294967296 by decide); omega) y hy
  · exact h y (List.mem_of_mem_drop hy)
theorem putA_add {l c : List Nat} {a : Nat} (x : Nat) (h : c.drop a = l.drop a) : putA l c a x = addA c a x := by unfold putA addA; rw [h]
theorem putA_drop (l c : List Nat) (a x j : Nat) (h : a + 4 ≤ j) (hc : a + 4 ≤ c.length) : (putA l c a x).drop j = c.drop j := by
  unfold putA
  rw [List.drop_append, List.drop_append, addw_len, List.length_take]
  have e1 : (c.take a).drop j = [] := List.drop_eq_nil_of_le (by rw [List.length_take]; omega)
  have e2 : (addw ((l.drop a).take 4) x).drop (j - min a c.length) = [] := List.drop_eq_nil_of_le (by rw [addw_len]; omega)
  rw [e1, e2, List.nil_append, List.nil_append, List.drop_drop]
  congr 1
  omega
/-- numbers of a row, each that of l, added to -/
def putN (l : List Nat) (b : Nat) (c : List Nat) (k : Nat) : Nat → List Nat
  | 0 => c
  | t + 1 => putA l (putN l b c k t) (k + 4 * t) b
theorem putN_len (l : List Nat) (b : Nat) (c : List Nat) (k : Nat) : ∀ t, k + 4 * t ≤ c.length → (putN l b c k t).length = c.length
  | 0, _ => rfl
  | t + 1, h => by
    have ih := putN_len l b c k t (by omega)
    show (putA l (putN l b c k t) (k + 4 * t) b).length = _
    rw [putA_len _ _ _ _ (by omega), ih]
theorem putN_le (l : List Nat) (b : Nat) (c : List Nat) (k : Nat) (h : ∀ y ∈ c, y ≤ 255) : ∀ t, ∀ y ∈ putN l b c k t, y ≤ 255
  | 0 => h
  | t + 1 => putA_le _ _ (putN_le l b c k h t)
theorem putN_drop (l : List Nat) (b : Nat) (c : List Nat) (k : Nat) : ∀ t j, k + 4 * t ≤ j → k + 4 * t ≤ c.length → (putN l b c k t).drop j = c.drop j
  | 0, _, _, _ => rfl
  | t + 1, j, h, hc => by
    show (putA l (putN l b c k t) (k + 4 * t) b).drop j = _
    rw [putA_drop _ _ _ _ _ (by omega) (by rw [putN_len l b c k t (by omega)]; omega), putN_drop l b c k t j (by omega) (by omega)]
theorem putN_add {l c : List Nat} (b k : Nat) (h : c.drop k = l.drop k) : ∀ t, k + 4 * t ≤ c.length → putN l b c k t = addN b c k t
  | 0, _ => rfl
  | t + 1, hc => by
    have ih := putN_add b k h t (by omega)
    show putA l (putN l b c k t) (k + 4 * t) b = addA (addN b c k t) (k + 4 * t) b
    have hd : (putN l b c k t).drop (k + 4 * t) = l.drop (k + 4 * t) := by
      rw [putN_drop l b c k t _ (Nat.le_refl _) (by omega)]
      have e1 : c.drop (k + 4 * t) = (c.drop k).drop (4 * t) := by rw [List.drop_drop]
      have e2 : l.drop (k + 4 * t) = (l.drop k).drop (4 * t) := by rw [List.drop_drop]
      rw [e1, e2, h]
    rw [putA_add b hd, ih]
/-- what a round of Turn makes of the bytes -/
def putP (b v e : Nat) (l c : List Nat) (p : Nat) : List Nat :=
  if at0 l p = 8 then putA l (putA l c (p + 2) v) (p + 6) e else if at0 l p = 5 then putN l b c (p + 2) ((at0 l (p + 1) - 2) / 4) else c
theorem putP_upd {b v e : Nat} {l c : List Nat} {p : Nat} (h : c.drop p = l.drop p) (hl : c.length = l.length) (hr : right (at0 l p) (at0 l (p + 1)) = true) (hn : p + at0 l (p + 1) ≤ l.length) : putP b v e l c p = updP b v e c p := by
  have h2 := right_ge hr
  have dr : ∀ k, c.drop (p + k) = l.drop (p + k) := fun k => by
    have e1 : c.drop (p + k) = (c.drop p).drop k := by rw [List.drop_drop]
    have e2 : l.drop (p + k) = (l.drop p).drop k := by rw [List.drop_drop]
    rw [e1, e2, h]
  unfold putP updP
  rw [at_drop h (Nat.le_refl p), at_drop h (show p ≤ p + 1 by omega)]
  by_cases c8 : at0 l p = 8
  · have h10 : at0 l (p + 1) = 10 := by rw [c8] at hr; simpa [right] using hr
    rw [if_pos c8, if_pos c8, putA_add v (dr 2)]
    refine putA_add e ?_
    have : (putA l c (p + 2) v).drop (p + 6) = c.drop (p + 6) := putA_drop _ _ _ _ _ (by omega) (by omega)
    rw [← putA_add v (dr 2), this, dr 6]
  · rw [if_neg c8, if_neg c8]
    by_cases c5 : at0 l p = 5
    · rw [if_pos c5, if_pos c5]
      exact putN_add b (p + 2) (dr 2) _ (by omega)
    · rw [if_neg c5, if_neg c5]
theorem updP_len {b v e : Nat} {c : List Nat} {p : Nat} (hr : right (at0 c p) (at0 c (p + 1)) = true) (hn : p + at0 c (p + 1) ≤ c.length) : (updP b v e c p).length = c.length := by
  have h2 := right_ge hr
  unfold updP
  by_cases c8 : at0 c p = 8
  · have h10 : at0 c (p + 1) = 10 := by rw [c8] at hr; simpa [right] using hr
    rw [if_pos c8, addA_len _ _ _ (by rw [addA_len _ _ _ (by omega)]; omega), addA_len _ _ _ (by omega)]
  · rw [if_neg c8]
    split
    · exact addN_len b c (p + 2) _ (by omega)
    · rfl
theorem put_turnTo (b v e : Nat) {l ps : List Nat} (h : plc l 0 [] = some ps) : ∀ j, j ≤ ps.length → (ps.take j).foldl (putP b v e l) l = turnTo b v e l ps j ∧ (turnTo b v e l ps j).length = l.length
  | 0, _ => ⟨rfl, rfl⟩
  | j + 1, hj => by
    obtain ⟨e1, e2⟩ := put_turnTo b v e h j (by omega)
    obtain ⟨p, hp⟩ : ∃ p, ps[j]? = some p := ⟨_, List.getElem?_eq_getElem (by omega)⟩
    have hin := plc_in l l.length 0 [] ps (by omega) h p (List.mem_of_getElem? hp)
    have hk := turnTo_keep b v e h hp
    have hu := putP_upd (b := b) (v := v) (e := e) hk e2 hin.2.2.2.1 hin.2.2.1
    refine ⟨?_, ?_⟩
    · rw [OptSame.take_snocG hp, List.foldl_append, e1, turnTo_succ b v e hp]
      exact hu
    · rw [turnTo_succ b v e hp]
      have a1 := at_drop hk (Nat.le_refl p)
      have a2 := at_drop hk (show p ≤ p + 1 by omega)
      rw [updP_len (by rw [a1, a2]; exact hin.2.2.2.1) (by rw [a2, e2]; exact hin.2.2.1), e2]
/-- all options turned -/
theorem put_all (b v e : Nat) {l ps : List Nat} (h : plc l 0 [] = some ps) : (opts l 0).foldl (putP b v e l) l = turnS b v e l := by
  rw [opts_plc l l.length 0 [] ps (by omega) h]
  have := (put_turnTo b v e h ps.length (Nat.le_refl _)).1
  rw [List.take_of_length_le (Nat.le_refl _), turnTo_all b v e h] at this
  exact this
end Go.Proofs.Ytgpkckaojcodmaa.OptQ
