/-
  The document's own answers of layer 7: take, of any kind; what Decode answers, as it stands.
-/
import Derived.Test.YtgpkckaojcodmaaOptTake5
namespace Go.Proofs.Ytgpkckaojcodmaa.OptTk
open Go.RowKit Own TupMath SumMath Litb Calm IpMath IpRef OptMath OptRef OptPlc OptSame Boxes OptRaw OptMay OptTake OptTake5
set_option linter.unusedVariables false
set_option maxRecDepth 100000

/-- what an option makes of options, whether it may be or not -/
def tkO (o : Opn) (k : Nat) (p : List Nat) : Opn :=
  if k = 2 then { o with mss := v256 p }
  else if k = 3 then { o with scale := min (at0 p 0 : Int) 14 }
  else if k = 4 then { o with sack := true }
  else if k = 5 then { o with blocks := o.blocks ++ prs p }
  else if k = 8 then { o with time := true, val := v256 (p.take 4), echo := v256 (p.drop 4) }
  else o
/-- whether it may be -/
def tkB (k : Nat) (p : List Nat) : Bool := !(decide (k = 2) && decide (v256 p = 0))
theorem tk_is (o : Opn) (k : Nat) (p : List Nat) : tk o (k, p) = if tkB k p = true then some (tkO o k p) else none := by
  unfold tk tkO tkB
  by_cases c2 : k = 2
  · subst c2
    by_cases c : v256 p = 0
    · rw [if_pos rfl, if_pos c, if_neg (by simp [c])]
    · rw [if_pos rfl, if_neg c, if_pos (by simp [c]), if_pos rfl]
  · have e : (!(decide (k = 2) && decide (v256 p = 0))) = true := by simp [c2]
    rw [e, if_pos rfl]
    simp only [if_neg c2]
    repeat' split
    all_goals rfl

theorem takeR (P : Nat → Prop) (o : Opn) (A : Option Addr) (c k : Nat) (s : ByteArray) (w : World) (hr : right k (s.size + 2) = true) (h5 : k = 5 → o.blocks = [] ∧ A = none ∧ c = 0) (hrow : Row P w A o.blocks) (hP : ∀ b, w.heap.size ≤ b → P b) :
    Calls Try.prog 29 #[ov o A c, .int .i64 (k : Int), .string s] w fun e w' => (∃ A' c', e = .returned (.tuple #[ov (tkO o k (bz s)) A' c', .bool (tkB k (bz s))]) ∧ Row P w' A' (tkO o k (bz s)).blocks ∧ (k ≠ 5 → A' = A ∧ c' = c)) ∧ Below w.heap.size w w' := by
  by_cases c2 : k = 2
  · subst c2
    have hs : s.size = 2 := by simp [right] at hr; omega
    refine (take2 o A c s w hs).mono ?_
    rintro e w' ⟨rfl, hb⟩
    refine ⟨⟨A, c, ?_, hrow.more hb, fun _ => ⟨rfl, rfl⟩⟩, hb⟩
    have e1 : tkB 2 (bz s) = decide (v256 (bz s) ≠ 0) := by unfold tkB; simp
    rw [e1]
    rfl
  by_cases c3 : k = 3
  · subst c3
    have hs : s.size = 1 := by simp [right] at hr; omega
    refine (take3 o A c s w hs).mono ?_
    rintro e w' ⟨rfl, hb⟩
    exact ⟨⟨A, c, rfl, hrow.more hb, fun _ => ⟨rfl, rfl⟩⟩, hb⟩
  by_cases c4 : k = 4
  · subst c4
    refine (take4 o A c s w).mono ?_
    rintro e w' ⟨rfl, hb⟩
    exact ⟨⟨A, c, rfl, hrow.more hb, fun _ => ⟨rfl, rfl⟩⟩, hb⟩
  by_cases c5 : k = 5
  · subst c5
    obtain ⟨hb0, rfl, rfl⟩ := h5 rfl
    have hs : s.size % 8 = 0 ∧ s.size ≤ 32 := by simp [right] at hr; omega
    refine (take5 o s w hb0 hs.1 hs.2).mono ?_
    rintro e w' ⟨A', c', rfl, hR, hb⟩
    have e1 : tkO o 5 (bz s) = { o with blocks := prs (bz s) } := by unfold tkO; rw [hb0]; rfl
    rw [e1]
    exact ⟨⟨A', c', rfl, hR.imp hP, fun h => absurd rfl h⟩, hb⟩
  by_cases c8 : k = 8
  · subst c8
    have hs : s.size = 8 := by simp [right] at hr; omega
    refine (take8 o A c s w hs).mono ?_
    rintro e w' ⟨rfl, hb⟩
    exact ⟨⟨A, c, rfl, hrow.more hb, fun _ => ⟨rfl, rfl⟩⟩, hb⟩
  · have e1 : tkO o k (bz s) = o := by unfold tkO; rw [if_neg c2, if_neg c3, if_neg c4, if_neg c5, if_neg c8]
    have e2 : tkB k (bz s) = true := by unfold tkB; simp [c2]
    rw [e1, e2]
    refine (takeO o A c k s w c2 c3 c4 c5 c8).mono ?_
    rintro e w' ⟨rfl, hb⟩
    exact ⟨⟨A, c, rfl, hrow.more hb, fun _ => ⟨rfl, rfl⟩⟩, hb⟩

/-! places: a kind that may stand once stands once -/
theorem plc_once (l : List Nat) : ∀ (m a : Nat) (met ps : List Nat), l.length - a ≤ m → plc l a met = some ps →
    (∀ p ∈ ps, known (at0 l p) = true → at0 l p ∉ met) ∧ ps.Pairwise fun p q => known (at0 l p) = true → at0 l q ≠ at0 l p := by
  intro m
  induction m with
  | zero =>
    intro a met ps h he
    rw [plc_end (by omega)] at he
    obtain rfl := Option.some.inj he
    exact ⟨(fun p hp => by cases hp), List.Pairwise.nil⟩
  | succ m ih =>
    intro a met ps h he
    by_cases ha : a < l.length
    · by_cases h0 : at0 l a = 0
      · rw [plc_zero ha h0] at he
        obtain rfl := Option.some.inj he
        exact ⟨(fun p hp => by cases hp), List.Pairwise.nil⟩
      by_cases h1 : at0 l a = 1
      · rw [plc_one ha h1] at he
        exact ih (a + 1) met ps (by omega) he
      by_cases hr : a + 1 < l.length ∧ right (at0 l a) (at0 l (a + 1)) = true ∧ a + at0 l (a + 1) ≤ l.length ∧ ¬ (at0 l a ∈ met ∧ known (at0 l a) = true)
      · have hn := right_ge hr.2.1
        rw [plc_ok ha h0 h1 hr] at he
        obtain ⟨qs, hq, rfl⟩ := Option.map_eq_some_iff.1 he
        obtain ⟨i1, i2⟩ := ih _ _ qs (by omega) hq
        refine ⟨fun p hp hk => ?_, List.pairwise_cons.2 ⟨fun q hq2 hk e => ?_, i2⟩⟩
        · rcases List.mem_cons.1 hp with rfl | hp
          · exact fun hm => hr.2.2.2 ⟨hm, hk⟩
          · exact fun hm => i1 p hp hk (List.mem_cons_of_mem _ hm)
        · exact i1 q hq2 (by rw [e]; exact hk) (by rw [e]; exact List.mem_cons_self)
      · rw [plc_bad ha h0 h1 hr] at he; cases he
    · rw [plc_end ha] at he
      obtain rfl := Option.some.inj he
      exact ⟨(fun p hp => by cases hp), List.Pairwise.nil⟩

theorem plc_few (l : List Nat) : ∀ (m a : Nat) (met ps : List Nat), l.length - a ≤ m → plc l a met = some ps → ps.length ≤ m := by
  intro m
  induction m with
  | zero =>
    intro a met ps h he
    rw [plc_end (by omega)] at he
    obtain rfl := Option.some.inj he
    exact Nat.le_refl _
  | succ m ih =>
    intro a met ps h he
    by_cases ha : a < l.length
    · by_cases h0 : at0 l a = 0
      · rw [plc_zero ha h0] at he
        obtain rfl := Option.some.inj he
        exact Nat.zero_le _
      by_cases h1 : at0 l a = 1
      · rw [plc_one ha h1] at he
        exact Nat.le_succ_of_le (ih (a + 1) met ps (by omega) he)
      by_cases hr : a + 1 < l.length ∧ right (at0 l a) (at0 l (a + 1)) = true ∧ a + at0 l (a + 1) ≤ l.length ∧ ¬ (at0 l a ∈ met ∧ known (at0 l a) = true)
      · have hn := right_ge hr.2.1
        rw [plc_ok ha h0 h1 hr] at he
        obtain ⟨qs, hq, rfl⟩ := Option.map_eq_some_iff.1 he
        have := ih _ _ qs (by omega) hq
        rw [List.length_cons]
        omega
      · rw [plc_bad ha h0 h1 hr] at he; cases he
    · rw [plc_end ha] at he
      obtain rfl := Option.some.inj he
      exact Nat.zero_le _

/-! what Decode answers -/
def dec7 (l : List Nat) : Nat × Opn := if 40 < l.length then (4, zeroO) else match decO l with | none => (70, zeroO) | some p => (0, p)
theorem dec7_long {l : List Nat} (h : 40 < l.length) : dec7 l = (4, zeroO) := if_pos h
theorem dec7_none {l : List Nat} (h : ¬ 40 < l.length) (hd : decO l = none) : dec7 l = (70, zeroO) := by unfold dec7; rw [if_neg h, hd]
theorem dec7_some {l : List Nat} {p : Opn} (h : ¬ 40 < l.length) (hd : decO l = some p) : dec7 l = (0, p) := by unfold dec7; rw [if_neg h, hd]
def DecOut (l : List Nat) (w : World) (e : Ending) (w' : World) : Prop :=
  (∃ A c, e = .returned (.tuple #[ov (dec7 l).2 A c, .int .i64 ((dec7 l).1 : Int)]) ∧ Row (fun b => w.heap.size ≤ b) w' A (dec7 l).2.blocks) ∧ Below w.heap.size w w'
/-- the options that the first j places make -/
def upto (l ps : List Nat) (j : Nat) : Option Opn := ((ps.take j).map (itm l)).foldlM tk none0
theorem upto_zero (l ps : List Nat) : upto l ps 0 = some none0 := rfl
theorem upto_succ {l ps : List Nat} {j a : Nat} {o : Opn} (ho : upto l ps j = some o) (ha : ps[j]? = some a) : upto l ps (j + 1) = tk o (itm l a) := by
  unfold upto at ho ⊢
  rw [take_snocG ha, List.map_append, List.foldlM_append, ho]
  show (List.foldlM tk o [itm l a]) = _
  simp only [List.foldlM_cons, List.foldlM_nil]
  cases tk o (itm l a) <;> rfl
theorem upto_none {l ps : List Nat} {j a : Nat} {o : Opn} (ho : upto l ps j = some o) (ha : ps[j]? = some a) (hn : tk o (itm l a) = none) : (ps.map (itm l)).foldlM tk none0 = none := by
  have h1 := upto_succ ho ha
  rw [hn] at h1
  unfold upto at h1
  have e : ps.map (itm l) = (ps.take (j + 1)).map (itm l) ++ (ps.drop (j + 1)).map (itm l) := by rw [← List.map_append, List.take_append_drop]
  rw [e, List.foldlM_append, h1]
  rfl
theorem dec_of {l ps : List Nat} (hp : plc l 0 [] = some ps) : decO l = (ps.map (itm l)).foldlM tk none0 := by
  unfold decO
  have h := its_plc l l.length 0 [] (by omega)
  rw [List.drop_zero, hp] at h
  rw [h]
  rfl
theorem dec_no {l : List Nat} (hp : plc l 0 [] = none) : decO l = none := by
  unfold decO
  have h := its_plc l l.length 0 [] (by omega)
  rw [List.drop_zero, hp] at h
  rw [h]
  rfl
end Go.Proofs.Ytgpkckaojcodmaa.OptTk
