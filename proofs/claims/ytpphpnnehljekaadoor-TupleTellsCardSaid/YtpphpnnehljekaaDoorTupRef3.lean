/-
  The document's own answer of layer 4: which address a text is.
-/
import Derived.Test.YtpphpnnehljekaaDoorTupRef2
namespace Go.Proofs.YtpphpnnehljekaaDoor.TupRef3
open Go.RowKit TupMath TupRef TupRef2
set_option linter.unusedVariables false

/-- the byte behind number k of four -/
def sep (k : Nat) : Nat := if k = 3 then 58 else 46
/-- one number, up to 255, and the byte behind it -/
def stepP (k : Nat) (p : Nat × List Nat) : Option (Nat × List Nat) :=
  match p.2.drop (pre 6 p.2).length with
  | [] => none
  | c :: r => if 0 < (pre 6 p.2).length ∧ val (pre 6 p.2) ≤ 255 ∧ c = sep k then some (p.1 * 256 + val (pre 6 p.2), r) else none
def runP (l : List Nat) : Nat → Option (Nat × List Nat)
  | 0 => some (0, l)
  | k + 1 => (runP l k).bind (stepP k)
def endP (l : List Nat) (p : Nat × List Nat) : Option (Nat × Nat) :=
  if 0 < (pre 6 p.2).length ∧ val (pre 6 p.2) ≤ 65535 ∧ p.2.drop (pre 6 p.2).length = [] ∧ txt p.1 (val (pre 6 p.2)) = l then some (p.1, val (pre 6 p.2)) else none
def parP (l : List Nat) : Option (Nat × Nat) := (runP l 4).bind (endP l)
theorem run_none {l : List Nat} {k m : Nat} (h : runP l k = none) (hkm : k ≤ m) : runP l m = none := by
  induction m with
  | zero => obtain rfl : k = 0 := by omega
            exact h
  | succ m ih =>
    by_cases he : k = m + 1
    · subst he; exact h
    · rw [runP, ih (by omega)]; rfl
theorem par_none {l : List Nat} {k : Nat} (h : runP l k = none) (hk : k ≤ 4) : parP l = none := by
  unfold parP; rw [run_none h hk]; rfl

theorem run_lt {l : List Nat} : ∀ {k v : Nat} {r : List Nat}, runP l k = some (v, r) → v < 256 ^ k ∧ r.length ≤ l.length
  | 0, v, r, h => by simp [runP] at h; obtain ⟨rfl, rfl⟩ := h; simp
  | k + 1, v, r, h => by
    rw [runP] at h
    cases hr : runP l k with
    | none => rw [hr] at h; cases h
    | some p =>
      obtain ⟨u, t⟩ := p
      rw [hr] at h
      have ih := run_lt hr
      simp only [Option.bind_some, stepP] at h
      split at h
      · cases h
      · rename_i c r' hd
        split at h
        · rename_i hc
          injection h with h
          injection h with h1 h2
          subst h1 h2
          have hl := congrArg List.length hd
          simp only [List.length_drop, List.length_cons] at hl
          refine ⟨?_, by omega⟩
          rw [Nat.pow_succ]
          omega
        · cases h
/-- what a round finds -/
theorem step_bad {l R : List Nat} {k v : Nat} (hk : runP l k = some (v, R)) (h : ¬ (0 < (pre 6 R).length ∧ val (pre 6 R) ≤ 255)) : runP l (k + 1) = none := by
  rw [runP, hk]
  simp only [Option.bind_some, stepP]
  split
  · rfl
  · rw [if_neg (fun h2 => h ⟨h2.1, h2.2.1⟩)]
theorem step_empty {l R : List Nat} {k v : Nat} (hk : runP l k = some (v, R)) (h : R.drop (pre 6 R).length = []) : runP l (k + 1) = none := by
  rw [runP, hk]
  simp only [Option.bind_some, stepP, h]
theorem step_other {l R r : List Nat} {k v c : Nat} (hk : runP l k = some (v, R)) (h : R.drop (pre 6 R).length = c :: r) (hc : c ≠ sep k) : runP l (k + 1) = none := by
  rw [runP, hk]
  simp only [Option.bind_some, stepP, h]
  rw [if_neg (fun h2 => hc h2.2.2)]
theorem step_good {l R r : List Nat} {k v c : Nat} (hk : runP l k = some (v, R)) (h : R.drop (pre 6 R).length = c :: r) (h1 : 0 < (pre 6 R).length) (h2 : val (pre 6 R) ≤ 255) (hc : c = sep k) : runP l (k + 1) = some (v * 256 + val (pre 6 R), r) := by
  rw [runP, hk]
  simp only [Option.bind_some, stepP, h]
  rw [if_pos ⟨h1, h2, hc⟩]

/-! ### which texts are addresses' -/
theorem pre_dec (n c : Nat) (r : List Nat) (hn : n < 10 ^ 5) (hc : ¬ (48 ≤ c ∧ c ≤ 57)) : pre 6 (dec n ++ c :: r) = dec n := by
  have hl := dec_len (n := n) (k := 5) (by omega) hn
  have h := pre_eq (dec n).length 6 (dec n ++ c :: r) (by omega) (by simp) (by
    rw [List.take_left']
    · intro x hx; exact ⟨dec_ge n x hx, dec_le n x hx⟩
    · rfl) (.inr (.inr ⟨c, by simp, hc⟩))
  rw [h, List.take_left']
  rfl
theorem pre_dec_end (n : Nat) (hn : n < 10 ^ 5) : pre 6 (dec n) = dec n := by
  have hl := dec_len (n := n) (k := 5) (by omega) hn
  have h := pre_eq (dec n).length 6 (dec n) (by omega) (by simp) (by
    rw [List.take_length]
    intro x hx; exact ⟨dec_ge n x hx, dec_le n x hx⟩) (.inl rfl)
  rw [h, List.take_length]
theorem dec_pos (n : Nat) : 0 < (dec n).length := by
  by_cases h : n ≤ 9
  · rw [dec_small h]; simp
  · rw [dec_big h]; simp
theorem step_dec (n c : Nat) (r : List Nat) (k u : Nat) (hn : n ≤ 255) (hc : c = sep k) : stepP k (u, dec n ++ c :: r) = some (u * 256 + n, r) := by
  have hnd : ¬ (48 ≤ c ∧ c ≤ 57) := by rw [hc]; unfold sep; split <;> omega
  have hp := pre_dec n c r (by omega) hnd
  simp only [stepP, hp, val_dec]
  rw [List.drop_left']
  · simp only
    rw [if_pos ⟨dec_pos n, hn, hc⟩]
  · rfl
theorem par_txt (ip po : Nat) (hi : ip ≤ 4294967295) (hp : po ≤ 65535) : parP (txt ip po) = some (ip, po) := by
  have e : txt ip po = dec (ip / 16777216) ++ 46 :: (dec (ip / 65536 % 256) ++ 46 :: (dec (ip / 256 % 256) ++ 46 :: (dec (ip % 256) ++ 58 :: dec po))) := by
    unfold txt txt4
    simp [List.append_assoc]
  have h1 : runP (txt ip po) 4 = some (ip, dec po) := by
    simp only [runP, Option.bind_some]
    rw [e, step_dec _ 46 _ 0 0 (by omega) rfl]
    simp only [Option.bind_some]
    rw [step_dec _ 46 _ 1 _ (by omega) rfl]
    simp only [Option.bind_some]
    rw [step_dec _ 46 _ 2 _ (by omega) rfl]
    simp only [Option.bind_some]
    rw [step_dec _ 58 _ 3 _ (by omega) rfl]
    congr 2
    omega
  unfold parP
  rw [h1]
  have hpe := pre_dec_end po (by omega)
  simp only [Option.bind_some, endP, hpe, val_dec]
  rw [if_pos ⟨dec_pos po, hp, by simp, trivial⟩]
theorem par_some {l : List Nat} {ip po : Nat} (h : parP l = some (ip, po)) : l = txt ip po ∧ ip ≤ 4294967295 ∧ po ≤ 65535 := by
  unfold parP at h
  cases hr : runP l 4 with
  | none => rw [hr] at h; cases h
  | some p =>
    obtain ⟨v, r⟩ := p
    rw [hr] at h
    have hl := (run_lt hr).1
    simp only [Option.bind_some, endP] at h
    split at h
    · rename_i hc
      injection h with h
      injection h with h1 h2
      subst h1 h2
      have : (256 : Nat) ^ 4 = 4294967296 := by decide
      exact ⟨hc.2.2.2.symm, by omega, hc.2.1⟩
    · cases h

def ParOut (l : List Nat) (w : World) (e : Ending) (w' : World) : Prop :=
  (∃ ip po er : Nat, e = .returned (.tuple #[.agg #[.int .u32 (ip : Int), .int .u16 (po : Int)], .int .i64 (er : Int)]) ∧ ((parP l = some (ip, po) ∧ er = 0) ∨ (parP l = none ∧ ip = 0 ∧ po = 0 ∧ er = 8))) ∧ Below w.heap.size w w'
theorem bz_nil {s : ByteArray} (h : bz s = []) : s = ⟨#[]⟩ := bz_inj (by rw [h]; rfl)
theorem bz_ne {s : ByteArray} (h : s ≠ ⟨#[]⟩) : ∃ c r, bz s = c :: r := by
  cases hb : bz s with
  | nil => exact absurd (bz_nil hb) h
  | cons c r => exact ⟨c, r, rfl⟩

theorem v_le {v k : Nat} (hk : k < 4) (hv : v < 256 ^ k) : v ≤ 16777215 := by
  have h1 : 256 ^ k ≤ 256 ^ 3 := Nat.pow_le_pow_right (by decide) (by omega)
  have h2 : (256 : Nat) ^ 3 = 16777216 := by decide
  omega
theorem end_bad {l : List Nat} {v : Nat} {R : List Nat} (h : runP l 4 = some (v, R)) (hb : ¬ (0 < (pre 6 R).length ∧ val (pre 6 R) ≤ 65535 ∧ R.drop (pre 6 R).length = [] ∧ txt v (val (pre 6 R)) = l)) : parP l = none := by
  unfold parP; rw [h]; simp only [Option.bind_some, endP]; rw [if_neg hb]
theorem end_good {l : List Nat} {v : Nat} {R : List Nat} (h : runP l 4 = some (v, R)) (hb : 0 < (pre 6 R).length ∧ val (pre 6 R) ≤ 65535 ∧ R.drop (pre 6 R).length = [] ∧ txt v (val (pre 6 R)) = l) : parP l = some (v, val (pre 6 R)) := by
  unfold parP; rw [h]; simp only [Option.bind_some, endP]; rw [if_pos hb]
theorem cell_lt {W : World} {b o : Nat} {v : Value} (h : W.cell? ⟨b, o, none⟩ = some v) : b < W.heap.size := by
  rcases Nat.lt_or_ge b W.heap.size with hlt | hge
  · exact hlt
  · simp [World.cell?, Array.getElem?_eq_none hge] at h
theorem list_ne {S s : ByteArray} (h : ¬ S = s) : (S.toList == s.toList) = false := by
  refine beq_eq_false_iff_ne.2 fun e => h ?_
  rw [ByteArray.toList_eq, ByteArray.toList_eq] at e
  obtain ⟨⟨l⟩⟩ := S
  obtain ⟨⟨m⟩⟩ := s
  simp only at e
  rw [e]
theorem ne_empty {T : ByteArray} (h : 0 < T.size) : T.toList.isEmpty = false := by
  rw [ByteArray.toList_eq]
  obtain ⟨⟨l⟩⟩ := T
  cases l with
  | nil => exact absurd h (by decide)
  | cons a l => rfl
/-- The result's box, written. -/
theorem box_set {w wr : World} (x y x' y' : Value) (hB : Below w.heap.size w wr) (d0 : wr.cell? ⟨w.heap.size, 0, none⟩ = some x') (d1 : wr.cell? ⟨w.heap.size, 1, none⟩ = some y') :
    ((wr.setCell ⟨w.heap.size, 0, none⟩ x).setCell ⟨w.heap.size, 1, none⟩ y).cell? ⟨w.heap.size, 0, none⟩ = some x ∧ ((wr.setCell ⟨w.heap.size, 0, none⟩ x).setCell ⟨w.heap.size, 1, none⟩ y).cell? ⟨w.heap.size, 1, none⟩ = some y ∧ Below w.heap.size w ((wr.setCell ⟨w.heap.size, 0, none⟩ x).setCell ⟨w.heap.size, 1, none⟩ y) := by
  refine ⟨?_, ?_, (hB.setCell (p := ⟨w.heap.size, 0, none⟩) (Nat.le_refl _) _).setCell (p := ⟨w.heap.size, 1, none⟩) (Nat.le_refl _) _⟩
  · rw [World.cell?_setCell_other _ _ _ _ (fun e => by injection e with _ e; omega)]
    exact World.cell?_setCell_same' _ _ _ (by rw [d0]; rfl)
  · exact World.cell?_setCell_same' _ _ _ (by rw [World.cell?_setCell_other _ _ _ _ (fun e => by injection e with _ e; omega), d1]; rfl)

set_option maxRecDepth 100000 in
set_option maxHeartbeats 4000000 in
theorem parseR_any (s : ByteArray) (w : World) (hs : s.size ≤ 1000000) : Calls Tryd.prog 7 #[.string s] w (ParOut (bz s) w) := by
  go_enter Tryd.func7, Tryd.ntmps7
  go_wp2_with fail
  go_loopw [5, 6] (fun t i wr => ∃ (k v : Nat) (R : ByteArray), k ≤ 4 ∧ i = .int .i64 (k : Int) ∧ t = .string R ∧ runP (bz s) k = some (v, bz R) ∧
      wr.cell? ⟨w.heap.size + 1, 0, none⟩ = some (.int .u32 (v : Int)) ∧ wr.cell? ⟨w.heap.size + 1, 1, none⟩ = some (.int .u16 0) ∧ wr.frozen? ⟨w.heap.size + 1, 0, none⟩ = false ∧ wr.frozen? ⟨w.heap.size + 1, 1, none⟩ = false ∧
      wr.cell? ⟨w.heap.size, 0, none⟩ = some (.int .u32 0) ∧ wr.cell? ⟨w.heap.size, 1, none⟩ = some (.int .u16 0) ∧ wr.frozen? ⟨w.heap.size, 0, none⟩ = false ∧ wr.frozen? ⟨w.heap.size, 1, none⟩ = false ∧ Below w.heap.size w wr) (fun _ i _ => 4 - (intOf i).toNat)
  case atStart => exact ⟨0, 0, s, by omega, rfl, rfl, rfl, by simp, by simp, by simp, by simp, by simp, by simp, by simp, by simp, st_alloc (st_alloc (Below.refl _ _) _) _⟩
  case round =>
    obtain ⟨k, v, R, hk, rfl, rfl, hrun, c0, c1, f0, f1, d0, d1, g0, g1, hB⟩ := hrel
    have HB := Lib.hid hB
    have HRUN := Lib.hid hrun
    have hRl := (run_lt hrun).2
    have hvl := (run_lt hrun).1
    rw [bz_len, bz_len] at hRl
    clear hB hrun
    by_cases h4 : k < 4
    · go_wp2_with fail
      refine (number_any R 255 _ (by omega) (by omega)).mono ?_
      rintro e w2 ⟨⟨T, rfl, hT, hTs⟩, q, rfl⟩
      obtain ⟨ok, hok⟩ : ∃ ok, (decide (0 < (pre 6 (bz R)).length) && decide (val (pre 6 (bz R)) ≤ 255)) = ok := ⟨_, rfl⟩
      obtain ⟨n, hn⟩ : ∃ n, val (pre 6 (bz R)) = n := ⟨_, rfl⟩
      rw [hok, hn]
      have HOK := Lib.hid hok
      have HN := Lib.hid hn
      have HT := Lib.hid hT
      clear hok hn hT
      by_cases h3 : k = 3
      · have H3 := Lib.hid h3
        have hk3 : ((k : Int) == 3) = true := by rw [h3]; rfl
        have hsep := Lib.hid (show sep k = 58 by rw [h3]; rfl)
        clear h3
        rcases ok with _ | _
        · have hno := step_bad HRUN.out (by have := HOK.out; rw [HN.out] at this ⊢; simp at this; omega)
          have HNO := Lib.hid hno
          clear hno
          go_wp2_with fail
          obtain ⟨e0, e1, hWB⟩ := box_set (wr := wr.drewN q) (.int .u32 0) (.int .u16 0) _ _ (below_dr HB.out q) d0 d1
          generalize ((wr.drewN q).setCell ⟨w.heap.size, 0, none⟩ (.int .u32 0)).setCell ⟨w.heap.size, 1, none⟩ (.int .u16 0) = W at e0 e1 hWB ⊢
          refine bodyPost_ret (v := .tuple #[.agg #[.int .u32 0, .int .u16 0], .int .i64 8]) ?_ rfl ?_
          · simp [results, Tryd.f7, go_sem, e0, e1]
          · exact ⟨⟨0, 0, 8, rfl, .inr ⟨par_none HNO.out (by omega), rfl, rfl, rfl⟩⟩, hWB⟩
        · have hok2 : 0 < (pre 6 (bz R)).length ∧ n ≤ 255 := by have := HOK.out; rw [HN.out] at this; simpa using this
          have hn255 := hok2.2
          by_cases hT0 : T = ⟨#[]⟩
          · have hno := step_empty HRUN.out (by rw [← HT.out, hT0]; rfl)
            have HNO := Lib.hid hno
            subst hT0
            clear hno
            go_wp2_with fail
            obtain ⟨e0, e1, hWB⟩ := box_set (wr := wr.drewN q) (.int .u32 0) (.int .u16 0) _ _ (below_dr HB.out q) d0 d1
            generalize ((wr.drewN q).setCell ⟨w.heap.size, 0, none⟩ (.int .u32 0)).setCell ⟨w.heap.size, 1, none⟩ (.int .u16 0) = W at e0 e1 hWB ⊢
            refine bodyPost_ret (v := .tuple #[.agg #[.int .u32 0, .int .u16 0], .int .i64 8]) ?_ rfl ?_
            · simp [results, Tryd.f7, go_sem, e0, e1]
            · exact ⟨⟨0, 0, 8, rfl, .inr ⟨par_none HNO.out (by omega), rfl, rfl, rfl⟩⟩, hWB⟩
          · obtain ⟨c, r, hcr⟩ := bz_ne hT0
            have hTp : 0 < T.size := by rw [← bz_len, hcr]; simp
            have hTe := ne_empty hTp
            have hTi : (0 : Int) < (T.size : Int) := by omega
            have hc0 := bz_at T 0 hTp
            have hcb := byte_le' T[0]
            obtain ⟨c', hc'⟩ : ∃ c', T[0].toNat = c' := ⟨_, rfl⟩
            rw [hc'] at hc0 hcb
            obtain rfl : c = c' := by rw [hcr] at hc0; simpa using hc0
            have HCR := Lib.hid hcr
            clear hc0 hcr
            by_cases hcw : c = 58
            · have hrun2 := step_good HRUN.out (by rw [← HT.out]; exact HCR.out) (by exact hok2.1) (by rw [HN.out]; exact hn255) (by rw [hsep.out]; exact hcw)
              rw [HN.out] at hrun2
              have HR2 := Lib.hid hrun2
              have hv3 : v ≤ 16777215 := v_le h4 hvl
              have hex : bz (T.extract 1 T.size) = r := by rw [bz_extract T 1 T.size (Nat.le_refl _), List.take_of_length_le (by rw [bz_len]; exact Nat.le_refl _), HCR.out]; rfl
              have HEX := Lib.hid hex
              have hcn : ((c : Int) != 58) = false := by rw [hcw]; rfl
              have hT1 : 1 ≤ T.size := by omega
              have hT1i : (1 : Int) ≤ (T.size : Int) := by omega
              clear hrun2 hex
              go_wp2_with fail
              go_roundw
              case rel =>
                refine ⟨k + 1, v * 256 + n, T.extract 1 T.size, by omega, by go_num, rfl, by rw [HEX.out]; exact HR2.out, (World.cell?_setCell_same' _ _ _ (by show (wr.cell? _).isSome = true; rw [c0]; rfl)).trans (by rfl), (World.cell?_setCell_other _ _ _ _ (fun e => by injection e with _ e; omega)).trans c1, ?_, ?_, (World.cell?_setCell_other _ _ _ _ (fun e => by injection e with e; omega)).trans d0, (World.cell?_setCell_other _ _ _ _ (fun e => by injection e with e; omega)).trans d1, ?_, ?_, ((below_dr HB.out q).setCell (p := ⟨w.heap.size + 1, 0, none⟩) (by simp) _)⟩
                · rw [World.frozen?_setCell]; exact f0
                · rw [World.frozen?_setCell]; exact f1
                · rw [World.frozen?_setCell]; exact g0
                · rw [World.frozen?_setCell]; exact g1
              case measure => simp only [intOf]; omega
            · have hno := step_other HRUN.out (by rw [← HT.out]; exact HCR.out) (by rw [hsep.out]; exact hcw)
              have HNO := Lib.hid hno
              have hcn : ((c : Int) != 58) = true := by simp; omega
              clear hno
              go_wp2_with fail
              obtain ⟨e0, e1, hWB⟩ := box_set (wr := wr.drewN q) (.int .u32 0) (.int .u16 0) _ _ (below_dr HB.out q) d0 d1
              generalize ((wr.drewN q).setCell ⟨w.heap.size, 0, none⟩ (.int .u32 0)).setCell ⟨w.heap.size, 1, none⟩ (.int .u16 0) = W at e0 e1 hWB ⊢
              refine bodyPost_ret (v := .tuple #[.agg #[.int .u32 0, .int .u16 0], .int .i64 8]) ?_ rfl ?_
              · simp [results, Tryd.f7, go_sem, e0, e1]
              · exact ⟨⟨0, 0, 8, rfl, .inr ⟨par_none HNO.out (by omega), rfl, rfl, rfl⟩⟩, hWB⟩
      · have hk3 : ((k : Int) == 3) = false := beq_eq_false_iff_ne.2 (by omega)
        have hsep := Lib.hid (show sep k = 46 by unfold sep; rw [if_neg h3])
        rcases ok with _ | _
        · have hno := step_bad HRUN.out (by have := HOK.out; rw [HN.out] at this ⊢; simp at this; omega)
          have HNO := Lib.hid hno
          clear hno
          go_wp2_with fail
          obtain ⟨e0, e1, hWB⟩ := box_set (wr := wr.drewN q) (.int .u32 0) (.int .u16 0) _ _ (below_dr HB.out q) d0 d1
          generalize ((wr.drewN q).setCell ⟨w.heap.size, 0, none⟩ (.int .u32 0)).setCell ⟨w.heap.size, 1, none⟩ (.int .u16 0) = W at e0 e1 hWB ⊢
          refine bodyPost_ret (v := .tuple #[.agg #[.int .u32 0, .int .u16 0], .int .i64 8]) ?_ rfl ?_
          · simp [results, Tryd.f7, go_sem, e0, e1]
          · exact ⟨⟨0, 0, 8, rfl, .inr ⟨par_none HNO.out (by omega), rfl, rfl, rfl⟩⟩, hWB⟩
        · have hok2 : 0 < (pre 6 (bz R)).length ∧ n ≤ 255 := by have := HOK.out; rw [HN.out] at this; simpa using this
          have hn255 := hok2.2
          by_cases hT0 : T = ⟨#[]⟩
          · have hno := step_empty HRUN.out (by rw [← HT.out, hT0]; rfl)
            have HNO := Lib.hid hno
            subst hT0
            clear hno
            go_wp2_with fail
            obtain ⟨e0, e1, hWB⟩ := box_set (wr := wr.drewN q) (.int .u32 0) (.int .u16 0) _ _ (below_dr HB.out q) d0 d1
            generalize ((wr.drewN q).setCell ⟨w.heap.size, 0, none⟩ (.int .u32 0)).setCell ⟨w.heap.size, 1, none⟩ (.int .u16 0) = W at e0 e1 hWB ⊢
            refine bodyPost_ret (v := .tuple #[.agg #[.int .u32 0, .int .u16 0], .int .i64 8]) ?_ rfl ?_
            · simp [results, Tryd.f7, go_sem, e0, e1]
            · exact ⟨⟨0, 0, 8, rfl, .inr ⟨par_none HNO.out (by omega), rfl, rfl, rfl⟩⟩, hWB⟩
          · obtain ⟨c, r, hcr⟩ := bz_ne hT0
            have hTp : 0 < T.size := by rw [← bz_len, hcr]; simp
            have hTe := ne_empty hTp
            have hTi : (0 : Int) < (T.size : Int) := by omega
            have hc0 := bz_at T 0 hTp
            have hcb := byte_le' T[0]
            obtain ⟨c', hc'⟩ : ∃ c', T[0].toNat = c' := ⟨_, rfl⟩
            rw [hc'] at hc0 hcb
            obtain rfl : c = c' := by rw [hcr] at hc0; simpa using hc0
            have HCR := Lib.hid hcr
            clear hc0 hcr
            by_cases hcw : c = 46
            · have hrun2 := step_good HRUN.out (by rw [← HT.out]; exact HCR.out) (by exact hok2.1) (by rw [HN.out]; exact hn255) (by rw [hsep.out]; exact hcw)
              rw [HN.out] at hrun2
              have HR2 := Lib.hid hrun2
              have hv3 : v ≤ 16777215 := v_le h4 hvl
              have hex : bz (T.extract 1 T.size) = r := by rw [bz_extract T 1 T.size (Nat.le_refl _), List.take_of_length_le (by rw [bz_len]; exact Nat.le_refl _), HCR.out]; rfl
              have HEX := Lib.hid hex
              have hcn : ((c : Int) != 46) = false := by rw [hcw]; rfl
              have hT1 : 1 ≤ T.size := by omega
              have hT1i : (1 : Int) ≤ (T.size : Int) := by omega
              clear hrun2 hex
              go_wp2_with fail
              go_roundw
              case rel =>
                refine ⟨k + 1, v * 256 + n, T.extract 1 T.size, by omega, by go_num, rfl, by rw [HEX.out]; exact HR2.out, (World.cell?_setCell_same' _ _ _ (by show (wr.cell? _).isSome = true; rw [c0]; rfl)).trans (by rfl), (World.cell?_setCell_other _ _ _ _ (fun e => by injection e with _ e; omega)).trans c1, ?_, ?_, (World.cell?_setCell_other _ _ _ _ (fun e => by injection e with e; omega)).trans d0, (World.cell?_setCell_other _ _ _ _ (fun e => by injection e with e; omega)).trans d1, ?_, ?_, ((below_dr HB.out q).setCell (p := ⟨w.heap.size + 1, 0, none⟩) (by simp) _)⟩
                · rw [World.frozen?_setCell]; exact f0
                · rw [World.frozen?_setCell]; exact f1
                · rw [World.frozen?_setCell]; exact g0
                · rw [World.frozen?_setCell]; exact g1
              case measure => simp only [intOf]; omega
            · have hno := step_other HRUN.out (by rw [← HT.out]; exact HCR.out) (by rw [hsep.out]; exact hcw)
              have HNO := Lib.hid hno
              have hcn : ((c : Int) != 46) = true := by simp; omega
              clear hno
              go_wp2_with fail
              obtain ⟨e0, e1, hWB⟩ := box_set (wr := wr.drewN q) (.int .u32 0) (.int .u16 0) _ _ (below_dr HB.out q) d0 d1
              generalize ((wr.drewN q).setCell ⟨w.heap.size, 0, none⟩ (.int .u32 0)).setCell ⟨w.heap.size, 1, none⟩ (.int .u16 0) = W at e0 e1 hWB ⊢
              refine bodyPost_ret (v := .tuple #[.agg #[.int .u32 0, .int .u16 0], .int .i64 8]) ?_ rfl ?_
              · simp [results, Tryd.f7, go_sem, e0, e1]
              · exact ⟨⟨0, 0, 8, rfl, .inr ⟨par_none HNO.out (by omega), rfl, rfl, rfl⟩⟩, hWB⟩
    · have hk4 : k = 4 := by omega
      have HR4 : Hid (runP (bz s) 4 = some (v, bz R)) := by rw [← hk4]; exact HRUN
      have h4i : ¬ (k : Int) < 4 := by omega
      have hv4 : v ≤ 4294967295 := by
        rw [hk4] at hvl
        have h2 : (256 : Nat) ^ 4 = 4294967296 := by decide
        omega
      clear hk4 hvl
      go_wp2_with fail
      refine (number_any R 65535 _ (by omega) (by omega)).mono ?_
      rintro e w2 ⟨⟨T, rfl, hT, hTs⟩, q, rfl⟩
      obtain ⟨ok, hok⟩ : ∃ ok, (decide (0 < (pre 6 (bz R)).length) && decide (val (pre 6 (bz R)) ≤ 65535)) = ok := ⟨_, rfl⟩
      obtain ⟨n, hn⟩ : ∃ n, val (pre 6 (bz R)) = n := ⟨_, rfl⟩
      rw [hok, hn]
      have HOK := Lib.hid hok
      have HN := Lib.hid hn
      have HT := Lib.hid hT
      clear hok hn hT
      rcases ok with _ | _
      · have HNO := Lib.hid (end_bad HR4.out (fun h => by have := HOK.out; rw [HN.out] at this h; simp at this; omega))
        go_wp2_with fail
        obtain ⟨e0, e1, hWB⟩ := box_set (wr := (wr.drewN q).setCell ⟨w.heap.size + 1, 1, none⟩ (.int .u16 (IntKind.u16.wrap (n : Int)))) (.int .u32 0) (.int .u16 0) _ _ ((below_dr HB.out q).setCell (p := ⟨w.heap.size + 1, 1, none⟩) (by simp) _) ((World.cell?_setCell_other _ _ _ _ (fun e => by injection e with e; omega)).trans d0) ((World.cell?_setCell_other _ _ _ _ (fun e => by injection e with e; omega)).trans d1)
        generalize (((wr.drewN q).setCell ⟨w.heap.size + 1, 1, none⟩ (.int .u16 (IntKind.u16.wrap (n : Int)))).setCell ⟨w.heap.size, 0, none⟩ (.int .u32 0)).setCell ⟨w.heap.size, 1, none⟩ (.int .u16 0) = W at e0 e1 hWB ⊢
        refine bodyPost_ret (v := .tuple #[.agg #[.int .u32 0, .int .u16 0], .int .i64 8]) ?_ rfl ?_
        · simp [results, Tryd.f7, go_sem, e0, e1]
        · exact ⟨⟨0, 0, 8, rfl, .inr ⟨HNO.out, rfl, rfl, rfl⟩⟩, hWB⟩
      · have hok2 : 0 < (pre 6 (bz R)).length ∧ n ≤ 65535 := by have := HOK.out; rw [HN.out] at this; simpa using this
        have hn2 := hok2.2
        by_cases hT0 : T = ⟨#[]⟩
        · subst hT0
          go_wp2_with fail
          refine (textR_any v n _ hv4 hn2).mono ?_
          rintro e w3 ⟨⟨S, rfl, hS, hSl⟩, hb3⟩
          have HS := Lib.hid hS
          clear hS
          have sz1 : w.heap.size + 1 < ((wr.drewN q).setCell ⟨w.heap.size + 1, 1, none⟩ (.int .u16 (n : Int))).heap.size := by
            have := cell_lt c0
            simpa using this
          have a0 := (hb3.cell (p := ⟨w.heap.size + 1, 0, none⟩) sz1).trans ((World.cell?_setCell_other (wr.drewN q) ⟨w.heap.size + 1, 1, none⟩ ⟨w.heap.size + 1, 0, none⟩ _ (fun e => by injection e with _ e; omega)).trans c0)
          have a1 := (hb3.cell (p := ⟨w.heap.size + 1, 1, none⟩) sz1).trans (World.cell?_setCell_same' (wr.drewN q) ⟨w.heap.size + 1, 1, none⟩ (.int .u16 (n : Int)) (by show (wr.cell? _).isSome = true; rw [c1]; rfl))
          have b0 := (hb3.cell (p := ⟨w.heap.size, 0, none⟩) (by have := sz1; simp at this ⊢; omega)).trans ((World.cell?_setCell_other (wr.drewN q) ⟨w.heap.size + 1, 1, none⟩ ⟨w.heap.size, 0, none⟩ _ (fun e => by injection e with e; omega)).trans d0)
          have b1 := (hb3.cell (p := ⟨w.heap.size, 1, none⟩) (by have := sz1; simp at this ⊢; omega)).trans ((World.cell?_setCell_other (wr.drewN q) ⟨w.heap.size + 1, 1, none⟩ ⟨w.heap.size, 1, none⟩ _ (fun e => by injection e with e; omega)).trans d1)
          have z0 : w3.frozen? ⟨w.heap.size, 0, none⟩ = false := (hb3.frozen (p := ⟨w.heap.size, 0, none⟩) (by have := sz1; simp at this ⊢; omega)).trans (by rw [World.frozen?_setCell]; exact g0)
          have z1 : w3.frozen? ⟨w.heap.size, 1, none⟩ = false := (hb3.frozen (p := ⟨w.heap.size, 1, none⟩) (by have := sz1; simp at this ⊢; omega)).trans (by rw [World.frozen?_setCell]; exact g1)
          have HB3 := Lib.hid (st_call ((below_dr HB.out q).setCell (p := ⟨w.heap.size + 1, 1, none⟩) (by simp) (.int .u16 (n : Int))) hb3)
          clear hb3 sz1 c0 c1 d0 d1 f0 f1 g0 g1
          by_cases hEq : S = s
          · have HPAR := Lib.hid (end_good HR4.out ⟨hok2.1, by rw [HN.out]; exact hn2, by rw [← HT.out]; rfl, by rw [HN.out, ← HS.out, hEq]⟩)
            go_wp2_with fail
            obtain ⟨e0, e1, hWB⟩ := box_set (wr := w3) (.int .u32 (v : Int)) (.int .u16 (n : Int)) _ _ HB3.out b0 b1
            generalize (w3.setCell ⟨w.heap.size, 0, none⟩ (.int .u32 (v : Int))).setCell ⟨w.heap.size, 1, none⟩ (.int .u16 (n : Int)) = W at e0 e1 hWB ⊢
            refine bodyPost_ret (v := .tuple #[.agg #[.int .u32 (v : Int), .int .u16 (n : Int)], .int .i64 0]) ?_ rfl ?_
            · simp [results, Tryd.f7, go_sem, e0, e1]
            · exact ⟨⟨v, n, 0, rfl, .inl ⟨by rw [HPAR.out, HN.out], rfl⟩⟩, hWB⟩
          · have hne := list_ne hEq
            have HNO := Lib.hid (end_bad HR4.out (fun h => by have h4 := h.2.2.2; rw [HN.out, ← HS.out] at h4; exact hEq (bz_inj h4)))
            go_wp2_with fail
            obtain ⟨e0, e1, hWB⟩ := box_set (wr := w3) (.int .u32 0) (.int .u16 0) _ _ HB3.out b0 b1
            generalize (w3.setCell ⟨w.heap.size, 0, none⟩ (.int .u32 0)).setCell ⟨w.heap.size, 1, none⟩ (.int .u16 0) = W at e0 e1 hWB ⊢
            refine bodyPost_ret (v := .tuple #[.agg #[.int .u32 0, .int .u16 0], .int .i64 8]) ?_ rfl ?_
            · simp [results, Tryd.f7, go_sem, e0, e1]
            · exact ⟨⟨0, 0, 8, rfl, .inr ⟨HNO.out, rfl, rfl, rfl⟩⟩, hWB⟩
        · obtain ⟨c, r, hcr⟩ := bz_ne hT0
          have hTp : 0 < T.size := by rw [← bz_len, hcr]; simp
          have hTe := ne_empty hTp
          have HNO := Lib.hid (end_bad HR4.out (fun h => by have h3 := h.2.2.1; rw [← HT.out, hcr] at h3; cases h3))
          clear hcr
          go_wp2_with fail
          obtain ⟨e0, e1, hWB⟩ := box_set (wr := (wr.drewN q).setCell ⟨w.heap.size + 1, 1, none⟩ (.int .u16 (n : Int))) (.int .u32 0) (.int .u16 0) _ _ ((below_dr HB.out q).setCell (p := ⟨w.heap.size + 1, 1, none⟩) (by simp) _) ((World.cell?_setCell_other _ _ _ _ (fun e => by injection e with e; omega)).trans d0) ((World.cell?_setCell_other _ _ _ _ (fun e => by injection e with e; omega)).trans d1)
          generalize (((wr.drewN q).setCell ⟨w.heap.size + 1, 1, none⟩ (.int .u16 (n : Int))).setCell ⟨w.heap.size, 0, none⟩ (.int .u32 0)).setCell ⟨w.heap.size, 1, none⟩ (.int .u16 0) = W at e0 e1 hWB ⊢
          refine bodyPost_ret (v := .tuple #[.agg #[.int .u32 0, .int .u16 0], .int .i64 8]) ?_ rfl ?_
          · simp [results, Tryd.f7, go_sem, e0, e1]
          · exact ⟨⟨0, 0, 8, rfl, .inr ⟨HNO.out, rfl, rfl, rfl⟩⟩, hWB⟩
end Go.Proofs.YtpphpnnehljekaaDoor.TupRef3
