/-
  Options turned, and turned back, as strings (no Go in sight).
-/
import Derived.Test.YtgpkckaojcodmaaOptFew
import Derived.Test.YtgpkckaojcodmaaOptTurn
namespace Go.Proofs.Ytgpkckaojcodmaa.OptBackM
open Go.RowKit TupMath SumMath IpMath IpRef OptMath OptMay OptTk OptFew OptTurn
set_option linter.unusedVariables false

theorem addw_le (p : List Nat) (x : Nat) : ∀ y ∈ addw p x, y ≤ 255 := w4_le _ (by have := Nat.mod_lt (v256 p + x) (show 0 < 4294967296 by decide); omega)
theorem addAll_le (x : Nat) : ∀ (m : Nat) (l : List Nat), l.length ≤ m → (∀ z ∈ l, z ≤ 255) → ∀ y ∈ addAll x l, y ≤ 255
  | 0, l, h, hl => by
    rw [List.eq_nil_of_length_eq_zero (show l.length = 0 by omega)]
    intro y hy; cases hy
  | m + 1, l, h, hl => by
    match l, h, hl with
    | [], _, hl => exact hl
    | [_], _, hl => exact hl
    | [_, _], _, hl => exact hl
    | [_, _, _], _, hl => exact hl
    | a :: b :: c :: d :: r, h, hl =>
      intro y hy
      rcases List.mem_append.1 (show y ∈ addw [a, b, c, d] x ++ addAll x r from hy) with hy | hy
      · exact addw_le _ _ y hy
      · exact addAll_le x m r (by simp at h; omega) (fun z hz => hl z (by simp [hz])) y hy
theorem tp_le (b v e k : Nat) (p : List Nat) (hl : ∀ z ∈ p, z ≤ 255) : ∀ y ∈ tp b v e k p, y ≤ 255 := by
  unfold tp
  intro y hy
  split at hy
  · rcases List.mem_append.1 hy with hy | hy <;> exact addw_le _ _ y hy
  · split at hy
    · exact addAll_le b p.length p (Nat.le_refl _) hl y hy
    · exact hl y hy
theorem turnS_le (b v e : Nat) : ∀ (m : Nat) (l : List Nat), l.length ≤ m → (∀ z ∈ l, z ≤ 255) → ∀ y ∈ turnS b v e l, y ≤ 255
  | 0, l, h, hl => by
    rw [List.eq_nil_of_length_eq_zero (show l.length = 0 by omega), turnS_nil]
    intro y hy; cases hy
  | m + 1, l, h, hl => by
    match l, h, hl with
    | [], _, hl => rw [turnS_nil]; exact hl
    | k :: r, h, hl =>
      by_cases h0 : k = 0
      · subst h0; rw [turnS_zero]; exact hl
      by_cases h1 : k = 1
      · subst h1
        rw [turnS_one]
        intro y hy
        rcases List.mem_cons.1 hy with rfl | hy
        · decide
        · exact turnS_le b v e m r (by simp at h; omega) (fun z hz => hl z (by simp [hz])) y hy
      · rw [turnS.eq_def]
        simp only [if_neg h0, if_neg h1]
        match r, h, hl with
        | [], _, hl => exact hl
        | n :: q, h, hl =>
          intro y hy
          rcases List.mem_cons.1 hy with rfl | hy
          · exact hl _ (by simp)
          rcases List.mem_cons.1 hy with rfl | hy
          · exact hl _ (by simp)
          rcases List.mem_append.1 hy with hy | hy
          · exact tp_le b v e k _ (fun z hz => hl z (by simp [List.mem_of_mem_take hz])) y hy
          · exact turnS_le b v e m (q.drop (n - 2)) (by simp at h ⊢; omega) (fun z hz => hl z (by simp [List.mem_of_mem_drop hz])) y hy
/-- what reading, turning, reading, turning back of bytes answers -/
structure Round (b v e b2 v2 e2 : Nat) (s U : ByteArray) (p : Opn) : Prop where
  first : dec7 (bz s) = (0, p)
  turn : turnV b v e (bz s) = .tuple #[.string U, .int .i64 0]
  second : dec7 (bz U) = (0, turnedO b v e p)
  back : turnV b2 v2 e2 (bz U) = .tuple #[.string s, .int .i64 0]
  size : U.size = s.size
theorem round_is {b v e b2 v2 e2 : Nat} (hb : (b + b2) % 4294967296 = 0) (hv : (v + v2) % 4294967296 = 0) (he : (e + e2) % 4294967296 = 0) (s : ByteArray) :
    (∃ n : Nat, 0 < n ∧ (dec7 (bz s)).1 = n ∧ turnV b v e (bz s) = .tuple #[.string ⟨#[]⟩, .int .i64 (n : Int)]) ∨ ∃ U p, Round b v e b2 v2 e2 s U p := by
  by_cases h0 : (dec7 (bz s)).1 = 0
  · right
    obtain ⟨h40, ps, p, hplc, hdec, ho2⟩ := dec7_zero h0
    have hle := bz_le s
    obtain ⟨d1, d2⟩ := dec_turn b v e (bz s) p hle hdec
    have hU := bz_ofB (turnS_le b v e _ (bz s) (Nat.le_refl _) hle)
    have hback := dec_back b v e b2 v2 e2 hb hv he (bz s) p hle hdec
    refine ⟨ofB (turnS b v e (bz s)), p, dec7_some h40 hdec, if_pos h0, ?_, ?_, ?_⟩
    · rw [hU]; exact dec7_some (by rw [d2]; exact h40) d1
    · rw [hU]
      unfold turnV
      rw [dec7_some (by rw [d2]; exact h40) d1, if_pos rfl, hback, ofB_bzq rfl]
    · rw [ofB_size, d2, bz_len]
  · exact .inl ⟨(dec7 (bz s)).1, Nat.pos_of_ne_zero h0, rfl, if_neg h0⟩
/-- the number that, added, makes nothing -/
def neg32 (x : Nat) : Nat := (4294967296 - x) % 4294967296
theorem neg32_le (x : Nat) : neg32 x ≤ 4294967295 := by unfold neg32; omega
theorem neg32_add {x : Nat} (h : x ≤ 4294967295) : (x + neg32 x) % 4294967296 = 0 := by unfold neg32; omega
theorem neg32_wrap {x : Nat} (h : x ≤ 4294967295) : IntKind.u32.wrap (-(x : Int)) = (neg32 x : Int) := by
  rw [IntKind.wrap_u32]
  unfold neg32
  omega
theorem raw_le (o : Opn) (k : o.ok) (m : OptMath.May o) : ∀ x ∈ rawO o, x ≤ 255 := by
  intro x hx
  have h1 := k.mss; have h2 := k.blocks; have h3 := k.val; have h4 := k.echo
  have h5 := m.hi; have h6 := m.lo; have h7 := m.few
  unfold rawO at hx
  rcases List.mem_append.1 hx with hx | hx
  · unfold sMss at hx
    split at hx
    · simp only [w2, List.cons_append, List.nil_append, List.mem_cons, List.not_mem_nil, or_false] at hx; omega
    · cases hx
  rcases List.mem_append.1 hx with hx | hx
  · unfold sScale at hx
    split at hx
    · simp only [List.mem_cons, List.not_mem_nil, or_false] at hx; omega
    · cases hx
  rcases List.mem_append.1 hx with hx | hx
  · unfold sSack at hx
    split at hx
    · simp only [List.mem_cons, List.not_mem_nil, or_false] at hx; omega
    · cases hx
  rcases List.mem_append.1 hx with hx | hx
  · unfold sTime at hx
    split at hx
    · simp only [w4, List.cons_append, List.nil_append, List.mem_cons, List.not_mem_nil, or_false] at hx; omega
    · cases hx
  · unfold sBlocks at hx
    split at hx
    · rcases List.mem_append.1 hx with hx | hx
      · simp only [List.mem_cons, List.not_mem_nil, or_false] at hx; omega
      · unfold blkB at hx
        obtain ⟨p, hp, hx⟩ := List.mem_flatMap.1 hx
        have := h2 p hp
        simp only [w4, List.cons_append, List.nil_append, List.mem_cons, List.not_mem_nil, or_false] at hx
        omega
    · cases hx
theorem prs_ok : ∀ l : List Nat, (∀ y ∈ l, y ≤ 255) → ∀ p ∈ prs l, p.1 ≤ 4294967295 ∧ p.2 ≤ 4294967295
  | a :: b :: c :: d :: e :: f :: g :: h :: r, hl => by
    intro p hp
    have h1 := hl a (by simp); have h2 := hl b (by simp); have h3 := hl c (by simp); have h4 := hl d (by simp)
    have h5 := hl e (by simp); have h6 := hl f (by simp); have h7 := hl g (by simp); have h8 := hl h (by simp)
    rcases List.mem_cons.1 (show p ∈ (a * 16777216 + b * 65536 + c * 256 + d, e * 16777216 + f * 65536 + g * 256 + h) :: prs r from hp) with rfl | hp
    · simp only
      omega
    · exact prs_ok r (fun z hz => hl z (by simp [hz])) p hp
  | [], _ => fun p hp => by cases hp
  | [_], _ => fun p hp => by cases hp
  | [_, _], _ => fun p hp => by cases hp
  | [_, _, _], _ => fun p hp => by cases hp
  | [_, _, _, _], _ => fun p hp => by cases hp
  | [_, _, _, _, _], _ => fun p hp => by cases hp
  | [_, _, _, _, _, _], _ => fun p hp => by cases hp
  | [_, _, _, _, _, _, _], _ => fun p hp => by cases hp
theorem tk_ok {o p : Opn} {x : Nat × List Nat} (ko : o.ok) (hr : right x.1 (x.2.length + 2) = true) (hl : ∀ y ∈ x.2, y ≤ 255) (h : tk o x = some p) : p.ok := by
  obtain ⟨k, q⟩ := x
  simp only at hr hl
  rw [tk_is] at h
  split at h
  · obtain rfl := Option.some.inj h
    have p4 : (256 : Nat) ^ 4 = 4294967296 := by decide
    unfold tkO
    by_cases c2 : k = 2
    · rw [if_pos c2]
      have hq : q.length = 2 := by subst c2; simp [right] at hr; omega
      have hv := v256_lt q hl
      rw [hq] at hv
      exact ⟨by show v256 q ≤ _; omega, ko.blocks, ko.val, ko.echo⟩
    rw [if_neg c2]
    by_cases c3 : k = 3
    · rw [if_pos c3]; exact ⟨ko.mss, ko.blocks, ko.val, ko.echo⟩
    rw [if_neg c3]
    by_cases c4 : k = 4
    · rw [if_pos c4]; exact ⟨ko.mss, ko.blocks, ko.val, ko.echo⟩
    rw [if_neg c4]
    by_cases c5 : k = 5
    · rw [if_pos c5]
      refine ⟨ko.mss, fun p hp => ?_, ko.val, ko.echo⟩
      rcases List.mem_append.1 (show p ∈ o.blocks ++ prs q from hp) with hp | hp
      · exact ko.blocks p hp
      · exact prs_ok q hl p hp
    rw [if_neg c5]
    by_cases c8 : k = 8
    · rw [if_pos c8]
      have hq : q.length = 8 := by subst c8; simp [right] at hr; omega
      have h1 := v256_lt (q.take 4) (fun z hz => hl z (List.mem_of_mem_take hz))
      have h2 := v256_lt (q.drop 4) (fun z hz => hl z (List.mem_of_mem_drop hz))
      rw [List.length_take, hq] at h1
      rw [List.length_drop, hq] at h2
      have e1 : min 4 8 = 4 := rfl
      have e2 : 8 - 4 = 4 := rfl
      rw [e1, p4] at h1
      rw [e2, p4] at h2
      exact ⟨ko.mss, ko.blocks, by show v256 (q.take 4) ≤ _; omega, by show v256 (q.drop 4) ≤ _; omega⟩
    rw [if_neg c8]
    exact ko
  · cases h
theorem fold_ok : ∀ (L : List (Nat × List Nat)) (o p : Opn), o.ok → (∀ x ∈ L, right x.1 (x.2.length + 2) = true ∧ ∀ y ∈ x.2, y ≤ 255) → L.foldlM tk o = some p → p.ok
  | [], o, p, ko, _, h => by
    obtain rfl : o = p := Option.some.inj h
    exact ko
  | x :: L, o, p, ko, hL, h => by
    rw [List.foldlM_cons] at h
    obtain ⟨o1, h1, h2⟩ := Option.bind_eq_some_iff.1 h
    obtain ⟨hr, hl⟩ := hL x List.mem_cons_self
    exact fold_ok L o1 p (tk_ok ko hr hl h1) (fun y hy => hL y (List.mem_cons_of_mem _ hy)) h2
theorem dec7_ok {l : List Nat} (hl : ∀ y ∈ l, y ≤ 255) {p : Opn} (h : dec7 l = (0, p)) : p.ok := by
  obtain ⟨_, ps, o, _, hdec, ho⟩ := dec7_zero (by rw [h])
  rw [h] at ho
  simp only at ho
  subst ho
  unfold decO at hdec
  obtain ⟨L, hL, hf⟩ := Option.bind_eq_some_iff.1 hdec
  refine fold_ok L none0 _ ⟨by decide, (fun p hp => by cases hp), by decide, by decide⟩ (fun x hx => ?_) hf
  obtain ⟨h1, h2⟩ := its_in l.length l [] L (Nat.le_refl _) hL x hx
  exact ⟨h1, fun y hy => hl y (h2 y hy)⟩
/-- what was written is read -/
theorem was_written {o : Opn} (k : o.ok) (m : OptMath.May o) (hl : ∀ x ∈ rawO o, x ≤ 255) : dec7 (bz (ofB (rawO o))) = (0, o) ∧ (ofB (rawO o)).size % 4 = 0 ∧ (ofB (rawO o)).size ≤ 40 := by
  rw [bz_ofB hl, ofB_size]
  exact ⟨dec7_some (by have := m.most; omega) (dec_raw o k m), raw_four o, m.most⟩
end Go.Proofs.Ytgpkckaojcodmaa.OptBackM
