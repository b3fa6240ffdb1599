/-
  The program's own Decode, its parts: what may be wrong, a head.
-/
import Derived.Test.YtlpfnndmkfkjaaaIpP
import Derived.Test.YtlpfnndmkfkjaaaIpDec
namespace Go.Proofs.Ytlpfnndmkfkjaaa.IpD
open Go.RowKit TupMath SumMath IpMath Litb Calm Rel RelT IpRef IpHead IpEnc IpDec Num SumWords SumStrs SumOf IpP
set_option linter.unusedVariables false
set_option maxRecDepth 100000

theorem cat_one (x : ByteArray) : cat [x] = bz x := List.append_nil _
theorem at0_some {l : List Nat} {i : Nat} (h : i < l.length) : l[i]? = some (at0 l i) := by unfold at0; rw [List.getElem?_eq_getElem h]; rfl
theorem and_bit (x : Nat) : x &&& 16384 = 0 ∨ x &&& 16384 = 16384 := by
  have h14 : (16384 : Nat) = 2 ^ 14 := by decide
  cases hb : x.testBit 14
  · left
    apply Nat.eq_of_testBit_eq
    intro i
    rw [Nat.testBit_and, h14, Nat.testBit_two_pow, Nat.zero_testBit]
    by_cases hi : 14 = i
    · subst hi; rw [hb]; rfl
    · rw [decide_eq_false hi, Bool.and_false]
  · right
    apply Nat.eq_of_testBit_eq
    intro i
    rw [Nat.testBit_and, h14, Nat.testBit_two_pow]
    by_cases hi : 14 = i
    · subst hi; rw [hb]; rfl
    · rw [decide_eq_false hi, Bool.and_false]
theorem and_mask (x : Nat) (hx : x < 65536) : (x &&& 49151 = 0) ↔ (x = 0 ∨ x = 16384) := by
  have h1 : x &&& 65535 = x := by
    have := Nat.and_two_pow_sub_one_eq_mod x 16
    rw [Nat.mod_eq_of_lt hx] at this
    exact this
  have h2 : x &&& 65535 = (x &&& 49151) ||| (x &&& 16384) := by
    rw [show (65535 : Nat) = 49151 ||| 16384 from rfl, Nat.and_or_distrib_left]
  constructor
  · intro h
    rw [h, Nat.zero_or, h1] at h2
    rw [h2]
    exact and_bit x
  · rintro (rfl | rfl) <;> rfl
theorem and15 : ∀ x : Fin 256, (x.val &&& 15) = x.val % 16 := by decide +kernel

/-- what may be wrong, by its number, and the errors -/
def bad (l : List Nat) : Nat → Bool
  | 0 => decide (l.length < 20)
  | 1 => !decide (at0 l 0 / 16 = 4)
  | 2 => !decide (at0 l 0 % 16 = 5)
  | 3 => !decide (at0 l 2 * 256 + at0 l 3 = l.length)
  | 4 => !decide (cs (l.take 20) = 0)
  | 5 => !decide (at0 l 6 * 256 + at0 l 7 = 0 ∨ at0 l 6 * 256 + at0 l 7 = 16384)
  | _ => false
def code : Nat → Nat
  | 0 => 50
  | 1 => 51
  | 2 => 52
  | 3 => 53
  | 4 => 55
  | _ => 54
theorem err_of {l : List Nat} (hl : ∀ x ∈ l, x ≤ 255) (k : Nat) (hk : k < 6) (h : ∀ j, j < k → bad l j = false) (hb : bad l k = true) : err l = code k := by
  have b6 : at0 l 6 ≤ 255 := by unfold at0; cases h6 : l[6]? with | none => simp | some x => exact hl x (List.mem_of_getElem? h6)
  have b7 : at0 l 7 ≤ 255 := by unfold at0; cases h6 : l[7]? with | none => simp | some x => exact hl x (List.mem_of_getElem? h6)
  have h0 := h 0; have h1 := h 1; have h2 := h 2; have h3 := h 3; have h4 := h 4
  clear h
  unfold err
  match k, hk with
  | 0, _ => simp [bad] at hb; rw [if_pos hb]; rfl
  | 1, _ => simp [bad] at hb h0 h1 h2 h3 h4; rw [if_neg (by omega), if_pos (by omega)]; rfl
  | 2, _ => simp [bad] at hb h0 h1 h2 h3 h4; rw [if_neg (by omega), if_neg (by omega), if_pos (by omega)]; rfl
  | 3, _ => simp [bad] at hb h0 h1 h2 h3 h4; rw [if_neg (by omega), if_neg (by omega), if_neg (by omega), if_pos (by omega)]; rfl
  | 4, _ => simp [bad] at hb h0 h1 h2 h3 h4; rw [if_neg (by omega), if_neg (by omega), if_neg (by omega), if_neg (by omega), if_pos (by omega)]; rfl
  | 5, _ => simp [bad] at hb h0 h1 h2 h3 h4; rw [if_neg (by omega), if_neg (by omega), if_neg (by omega), if_neg (by omega), if_neg (by omega), if_pos (by omega)]; rfl
theorem err_none {l : List Nat} (h : ∀ j, j < 6 → bad l j = false) : err l = 0 ∧ 20 ≤ l.length ∧ at0 l 7 = 0 ∨ ∃ i, at0 l i > 255 := by
  by_cases hi : ∃ i, at0 l i > 255
  · exact .inr hi
  have b7 : at0 l 7 ≤ 255 := Nat.le_of_not_lt fun hh => hi ⟨7, hh⟩
  have h0 := h 0 (by omega); have h1 := h 1 (by omega); have h2 := h 2 (by omega); have h3 := h 3 (by omega); have h4 := h 4 (by omega); have h5 := h 5 (by omega)
  clear h hi
  unfold err
  simp [bad] at h0 h1 h2 h3 h4 h5
  rw [if_neg (by omega), if_neg (by omega), if_neg (by omega), if_neg (by omega), if_neg (by omega), if_neg (by omega)]
  omega

/-! what may be wrong -/
theorem f0P (s : ByteArray) (w : World) (hs : s.size ≤ 1000000) : Calls Try.prog 35 #[.string s] w fun e w' => e = .returned (.bool (bad (bz s) 0)) ∧ Below w.heap.size w w' := by
  have e : bad (bz s) 0 = decide ((s.size : Int) < 20) := by unfold bad; rw [bz_len]; simp only [decide_eq_decide]; omega
  rw [e]
  go_enter Try.func35, Try.ntmps35
  go_wp2
  go_ret
  exact ⟨rfl, Below.refl _ _⟩
theorem f1P (s : ByteArray) (w : World) (h20 : 20 ≤ s.size) (hs : s.size ≤ 1000000) : Calls Try.prog 36 #[.string s] w fun e w' => e = .returned (.bool (bad (bz s) 1)) ∧ Below w.heap.size w w' := by
  have z0 := at_byte s 0 (by omega)
  have q0 := at_le s 0
  unfold bad
  generalize at0 (bz s) 0 = y at z0 q0
  have e : (!decide (y / 16 = 4)) = !decide ((y : Int) / 16 = 4) := congrArg _ (decide_eq_decide.2 (by omega))
  rw [e]
  have hsi : (0 : Int) < (s.size : Int) := by omega
  go_enter Try.func36, Try.ntmps36
  go_wp2
  go_ret
  exact ⟨rfl, Below.refl _ _⟩
theorem f2P (s : ByteArray) (w : World) (h20 : 20 ≤ s.size) (hs : s.size ≤ 1000000) : Calls Try.prog 37 #[.string s] w fun e w' => e = .returned (.bool (bad (bz s) 2)) ∧ Below w.heap.size w w' := by
  have z0 := at_byte s 0 (by omega)
  have q0 := at_le s 0
  unfold bad
  generalize at0 (bz s) 0 = y at z0 q0
  have hand : bits .and .u8 (y : Int) 15 = ((y % 16 : Nat) : Int) := by
    have h := u8_and_nat y 15 (by omega) (by omega)
    rw [and15 ⟨y, by omega⟩] at h
    exact h
  generalize y % 16 = z at hand
  have e : (!decide (z = 5)) = !decide ((z : Int) = 5) := congrArg _ (decide_eq_decide.2 (by omega))
  rw [e]
  have hsi : (0 : Int) < (s.size : Int) := by omega
  go_enter Try.func37, Try.ntmps37
  go_wp2
  go_ret
  exact ⟨rfl, Below.refl _ _⟩
theorem at16s (s : ByteArray) (i : Nat) (w : World) (h : i + 2 ≤ s.size) (hs : s.size ≤ 1000000) : Calls Try.prog 39 #[.string s, .int .i64 (i : Int)] w fun e w' => e = .returned (.int .u16 ((at0 (bz s) i * 256 + at0 (bz s) (i + 1) : Nat) : Int)) ∧ Below w.heap.size w w' :=
  at16 s i _ _ w h hs (at0_some (by rw [bz_len]; omega)) (at0_some (by rw [bz_len]; omega))
theorem at32s (s : ByteArray) (i : Nat) (w : World) (h : i + 4 ≤ s.size) (hs : s.size ≤ 1000000) : Calls Try.prog 43 #[.string s, .int .i64 (i : Int)] w fun e w' => e = .returned (.int .u32 ((at0 (bz s) i * 16777216 + at0 (bz s) (i + 1) * 65536 + at0 (bz s) (i + 2) * 256 + at0 (bz s) (i + 3) : Nat) : Int)) ∧ Below w.heap.size w w' :=
  at32 s i _ _ _ _ w h hs (at0_some (by rw [bz_len]; omega)) (at0_some (by rw [bz_len]; omega)) (at0_some (by rw [bz_len]; omega)) (at0_some (by rw [bz_len]; omega))
theorem f3P (s : ByteArray) (w : World) (h20 : 20 ≤ s.size) (hs : s.size ≤ 1000000) : Calls Try.prog 38 #[.string s] w fun e w' => e = .returned (.bool (bad (bz s) 3)) ∧ Below w.heap.size w w' := by
  have C := at16s s 2 w (by omega) hs
  unfold bad
  have b2 := at_le s 2
  have b3 := at_le s 3
  have hz : at0 (bz s) 2 * 256 + at0 (bz s) (2 + 1) ≤ 65535 := by show at0 (bz s) 2 * 256 + at0 (bz s) 3 ≤ 65535; omega
  rw [bz_len]
  show Calls _ _ _ _ fun e w' => e = .returned (.bool (!decide (at0 (bz s) 2 * 256 + at0 (bz s) (2 + 1) = s.size))) ∧ _
  generalize at0 (bz s) 2 * 256 + at0 (bz s) (2 + 1) = z at C hz
  have e : (!decide (z = s.size)) = !decide ((z : Int) = (s.size : Int)) := congrArg _ (decide_eq_decide.2 (by omega))
  rw [e]
  go_enter Try.func38, Try.ntmps38
  go_wp2_with fail
  refine C.mono ?_
  rintro e w1 ⟨rfl, hb⟩
  go_wp2_with fail
  go_ret
  exact ⟨rfl, hb⟩
theorem f4P (s : ByteArray) (w : World) (h20 : 20 ≤ s.size) (hs : s.size ≤ 1000000) : Calls Try.prog 40 #[.string s] w fun e w' => e = .returned (.bool (bad (bz s) 4)) ∧ Below w.heap.size w w' := by
  have es : cs (cat [s.extract 0 20]) = cs ((bz s).take 20) := by
    have e1 : bz (s.extract 0 20) = (bz s).take 20 := (bz_extract s 0 20 (by omega)).trans (List.drop_zero ..)
    rw [cat_one, e1]
  unfold bad
  rw [← es]
  have HS := Lib.hid es
  clear es
  go_enter Try.func40, Try.ntmps40
  go_wp2_with fail
  refine (right_any _ _ _ _ _ (strs1 _ _ _) (by omega) ?_).mono ?_
  · intro x hx
    simp only [List.mem_cons, List.not_mem_nil, or_false] at hx
    rw [hx, ByteArray.size_extract]
    omega
  rintro e w1 ⟨rfl, hb⟩
  go_wp2_with fail
  go_ret
  exact ⟨rfl, st_call (st_alloc (Below.refl _ _) _) hb⟩
theorem f5P (s : ByteArray) (w : World) (h20 : 20 ≤ s.size) (hs : s.size ≤ 1000000) : Calls Try.prog 42 #[.string s] w fun e w' => e = .returned (.bool (bad (bz s) 5)) ∧ Below w.heap.size w w' := by
  have C := at16s s 6 w (by omega) hs
  unfold bad
  have b2 := at_le s 6
  have b3 := at_le s 7
  have hz : at0 (bz s) 6 * 256 + at0 (bz s) (6 + 1) ≤ 65535 := by show at0 (bz s) 6 * 256 + at0 (bz s) 7 ≤ 65535; omega
  show Calls _ _ _ _ fun e w' => e = .returned (.bool (!decide (at0 (bz s) 6 * 256 + at0 (bz s) (6 + 1) = 0 ∨ at0 (bz s) 6 * 256 + at0 (bz s) (6 + 1) = 16384))) ∧ _
  generalize at0 (bz s) 6 * 256 + at0 (bz s) (6 + 1) = z at C hz
  have hand := u16_andNot_nat z 16384 (by omega) (by omega)
  have e : (!decide (z = 0 ∨ z = 16384)) = !decide (((z &&& (65535 - 16384) : Nat) : Int) = 0) := by
    refine congrArg _ (decide_eq_decide.2 ((and_mask z (by omega)).symm.trans ?_))
    show z &&& 49151 = 0 ↔ ((z &&& 49151 : Nat) : Int) = 0
    omega
  rw [e]
  generalize z &&& (65535 - 16384) = q at hand
  have hand2 : bits .andNot .u16 (z : Int) 16384 = (q : Int) := hand
  clear hand
  go_enter Try.func42, Try.ntmps42
  go_wp2_with fail
  refine C.mono ?_
  rintro e w1 ⟨rfl, hb⟩
  go_wp2_with fail
  go_ret
  exact ⟨rfl, hb⟩

/-- the table of what may be wrong, as it lies -/
def FT : Array Value := #[.int .i64 50, .func (.func 35) #[] #[], .int .i64 51, .func (.func 36) #[] #[], .int .i64 52, .func (.func 37) #[] #[], .int .i64 53, .func (.func 38) #[] #[], .int .i64 55, .func (.func 40) #[] #[], .int .i64 54, .func (.func 42) #[] #[]]
theorem faultsP (w : World) : Calls Try.prog 19 #[] w fun e w' => e = .returned (.slice (some ⟨w.heap.size, 0, none⟩) 6 6) ∧ w' = w.alloc (.cells FT 52) := by
  go_enter Try.func19, Try.ntmps19
  go_wp2
  go_ret
  exact ⟨rfl, rfl⟩
theorem cloneP (s : ByteArray) (w : World) (hs : s.size ≤ 1000000) : Calls Try.prog 21 #[.string s] w fun e w' => e = .returned (.string s) ∧ Below w.heap.size w w' := by
  go_enter Try.func21, Try.ntmps21
  go_wp2_with fail
  refine (Any.stringslite_Clone Try.layClone s w (by omega)).mono ?_
  rintro e w1 ⟨rfl, hb⟩
  go_wp2_with fail
  go_ret
  exact ⟨rfl, hb⟩

def relH (s : ByteArray) (h : Hd) (z : Nat) : Nat → Value → World → Prop
  | 0 => fun v _ => v = .string s
  | 1 => fun v _ => v = .int .u32 (h.src : Int)
  | 2 => fun v _ => v = .string s
  | 3 => fun v _ => v = .int .u32 (h.dst : Int)
  | 4 => fun v _ => v = .string s
  | 5 => fun v _ => v = .int .u8 (h.proto : Int)
  | 6 => fun v _ => v = .string s
  | 7 => fun v _ => v = .int .u8 (h.ttl : Int)
  | 8 => fun v _ => v = .string s
  | 9 => fun v _ => v = .int .u8 (h.tos : Int)
  | 10 => fun v _ => v = .string s
  | 11 => fun v _ => v = .int .u16 (h.id : Int)
  | 12 => fun v _ => v = .string s
  | 13 => fun v _ => v = .int .u16 (z : Int)
  | 14 => fun v _ => v = .bool h.df
  | 15 => fun v _ => v = hv h
  | _ => fun _ _ => True
theorem relH_more (s : ByteArray) (h : Hd) (z : Nat) (i : Nat) (v : Value) (w w' : World) (hr : relH s h z i v w) (hb : Below w.heap.size w w') : relH s h z i v w' := by
  unfold relH at hr ⊢
  split at hr <;> exact hr
attribute [local go_sem] relUpon

set_option maxHeartbeats 16000000 in
theorem headP (s : ByteArray) (w : World) (h20 : 20 ≤ s.size) (hs : s.size ≤ 1000000) (h7 : at0 (bz s) 7 = 0) : Calls Try.prog 20 #[.string s] w fun e w' => e = .returned (hv (rd (bz s))) ∧ Below w.heap.size w w' := by
  have C12 := Lib.hid fun W => at32s s 12 W (by omega) hs
  have C16 := Lib.hid fun W => at32s s 16 W (by omega) hs
  have C4 := Lib.hid fun W => at16s s 4 W (by omega) hs
  have C6 := Lib.hid fun W => at16s s 6 W (by omega) hs
  have z9 := at_byte s 9 (by omega)
  have z8 := at_byte s 8 (by omega)
  have z1 := at_byte s 1 (by omega)
  have q6 := at_le s 6
  simp only [Nat.reduceAdd] at C12 C16 C4 C6
  have hrd : rd (bz s) = ⟨at0 (bz s) 12 * 16777216 + at0 (bz s) 13 * 65536 + at0 (bz s) 14 * 256 + at0 (bz s) 15, at0 (bz s) 16 * 16777216 + at0 (bz s) 17 * 65536 + at0 (bz s) 18 * 256 + at0 (bz s) 19, at0 (bz s) 9, at0 (bz s) 8, at0 (bz s) 1, at0 (bz s) 4 * 256 + at0 (bz s) 5, (((at0 (bz s) 6 * 256 + at0 (bz s) 7 : Nat) : Int) == 16384)⟩ := by
    unfold rd
    congr 1
    rw [h7]
    rw [Bool.eq_iff_iff]
    simp
    omega
  rw [hrd]
  clear hrd h7 q6
  obtain ⟨src, hsrc⟩ : ∃ x, x = at0 (bz s) 12 * 16777216 + at0 (bz s) 13 * 65536 + at0 (bz s) 14 * 256 + at0 (bz s) 15 := ⟨_, rfl⟩
  rw [← hsrc] at C12 ⊢
  clear hsrc
  obtain ⟨dst, hdst⟩ : ∃ x, x = at0 (bz s) 16 * 16777216 + at0 (bz s) 17 * 65536 + at0 (bz s) 18 * 256 + at0 (bz s) 19 := ⟨_, rfl⟩
  rw [← hdst] at C16 ⊢
  clear hdst
  obtain ⟨idn, hidn⟩ : ∃ x, x = at0 (bz s) 4 * 256 + at0 (bz s) 5 := ⟨_, rfl⟩
  rw [← hidn] at C4 ⊢
  clear hidn
  obtain ⟨z, hz⟩ : ∃ x, x = at0 (bz s) 6 * 256 + at0 (bz s) 7 := ⟨_, rfl⟩
  rw [← hz] at C6 ⊢
  clear hz
  generalize at0 (bz s) 9 = proto at z9
  generalize at0 (bz s) 8 = ttl at z8
  generalize at0 (bz s) 1 = tos at z1
  obtain ⟨df, hdf⟩ : ∃ df, ((z : Int) == 16384) = df := ⟨_, rfl⟩
  rw [hdf]
  have hs1 : (1 : Int) < (s.size : Int) := by omega
  have hs8 : (8 : Int) < (s.size : Int) := by omega
  have hs9 : (9 : Int) < (s.size : Int) := by omega
  go_enter Try.func20, Try.ntmps20
  go_wp2_with fail
  refine wp_region_see_tail 16 19 (relH s ⟨src, dst, proto, ttl, tos, idn, df⟩ z) rfl (by kernel_rfl) (by kernel_rfl) (by kernel_rfl) (by kernel_rfl) (relH_more s _ z) ?_ ?_
  · intro i hi
    have hi2 : i < 16 := by simpa using hi
    clear hi
    match i, hi2 with
    | 0, _ =>
      intro ρ W hb hc hg hf h0 hd
      have t0 := h0 0 (by kernel_rfl)
      clear hd h0
      go_simp
      exact ⟨rfl, Below.refl _ _⟩
    | 1, _ =>
      intro ρ W hb hc hg hf h0 hd
      have d0 : ρ (.tmp 3) = .string s := hd 0 3 (by kernel_rfl) (by kernel_rfl)
      clear hd h0
      go_simp
      exact (C12.out W).mono fun e w' ⟨he, hb⟩ => ⟨_, he, rfl, hb⟩
    | 2, _ =>
      intro ρ W hb hc hg hf h0 hd
      have t0 := h0 0 (by kernel_rfl)
      clear hd h0
      go_simp
      exact ⟨rfl, Below.refl _ _⟩
    | 3, _ =>
      intro ρ W hb hc hg hf h0 hd
      have d2 : ρ (.tmp 5) = .string s := hd 2 5 (by kernel_rfl) (by kernel_rfl)
      clear hd h0
      go_simp
      exact (C16.out W).mono fun e w' ⟨he, hb⟩ => ⟨_, he, rfl, hb⟩
    | 4, _ =>
      intro ρ W hb hc hg hf h0 hd
      have t0 := h0 0 (by kernel_rfl)
      clear hd h0
      go_simp
      exact ⟨rfl, Below.refl _ _⟩
    | 5, _ =>
      intro ρ W hb hc hg hf h0 hd
      have d4 : ρ (.tmp 7) = .string s := hd 4 7 (by kernel_rfl) (by kernel_rfl)
      clear hd h0
      go_simp
      exact ⟨rfl, Below.refl _ _⟩
    | 6, _ =>
      intro ρ W hb hc hg hf h0 hd
      have t0 := h0 0 (by kernel_rfl)
      clear hd h0
      go_simp
      exact ⟨rfl, Below.refl _ _⟩
    | 7, _ =>
      intro ρ W hb hc hg hf h0 hd
      have d6 : ρ (.tmp 9) = .string s := hd 6 9 (by kernel_rfl) (by kernel_rfl)
      clear hd h0
      go_simp
      exact ⟨rfl, Below.refl _ _⟩
    | 8, _ =>
      intro ρ W hb hc hg hf h0 hd
      have t0 := h0 0 (by kernel_rfl)
      clear hd h0
      go_simp
      exact ⟨rfl, Below.refl _ _⟩
    | 9, _ =>
      intro ρ W hb hc hg hf h0 hd
      have d8 : ρ (.tmp 11) = .string s := hd 8 11 (by kernel_rfl) (by kernel_rfl)
      clear hd h0
      go_simp
      exact ⟨rfl, Below.refl _ _⟩
    | 10, _ =>
      intro ρ W hb hc hg hf h0 hd
      have t0 := h0 0 (by kernel_rfl)
      clear hd h0
      go_simp
      exact ⟨rfl, Below.refl _ _⟩
    | 11, _ =>
      intro ρ W hb hc hg hf h0 hd
      have d10 : ρ (.tmp 13) = .string s := hd 10 13 (by kernel_rfl) (by kernel_rfl)
      clear hd h0
      go_simp
      exact (C4.out W).mono fun e w' ⟨he, hb⟩ => ⟨_, he, rfl, hb⟩
    | 12, _ =>
      intro ρ W hb hc hg hf h0 hd
      have t0 := h0 0 (by kernel_rfl)
      clear hd h0
      go_simp
      exact ⟨rfl, Below.refl _ _⟩
    | 13, _ =>
      intro ρ W hb hc hg hf h0 hd
      have d12 : ρ (.tmp 15) = .string s := hd 12 15 (by kernel_rfl) (by kernel_rfl)
      clear hd h0
      go_simp
      exact (C6.out W).mono fun e w' ⟨he, hb⟩ => ⟨_, he, rfl, hb⟩
    | 14, _ =>
      intro ρ W hb hc hg hf h0 hd
      have d13 : ρ (.tmp 16) = .int .u16 (z : Int) := hd 13 16 (by kernel_rfl) (by kernel_rfl)
      clear hd h0
      go_simp
      exact ⟨rfl, Below.refl _ _⟩
    | 15, _ =>
      intro ρ W hb hc hg hf h0 hd
      have d1 : ρ (.tmp 4) = .int .u32 (src : Int) := hd 1 4 (by kernel_rfl) (by kernel_rfl)
      have d3 : ρ (.tmp 6) = .int .u32 (dst : Int) := hd 3 6 (by kernel_rfl) (by kernel_rfl)
      have d5 : ρ (.tmp 8) = .int .u8 (proto : Int) := hd 5 8 (by kernel_rfl) (by kernel_rfl)
      have d7 : ρ (.tmp 10) = .int .u8 (ttl : Int) := hd 7 10 (by kernel_rfl) (by kernel_rfl)
      have d9 : ρ (.tmp 12) = .int .u8 (tos : Int) := hd 9 12 (by kernel_rfl) (by kernel_rfl)
      have d11 : ρ (.tmp 14) = .int .u16 (idn : Int) := hd 11 14 (by kernel_rfl) (by kernel_rfl)
      have d14 : ρ (.tmp 17) = .bool df := hd 14 17 (by kernel_rfl) (by kernel_rfl)
      clear hd h0
      go_simp
      exact ⟨rfl, Below.refl _ _⟩
    | i + 16, hlt => exact absurd hlt (by omega)
  · intro vs W hb hall
    have h15 : vs 15 = hv ⟨src, dst, proto, ttl, tos, idn, df⟩ := hall 15 (by omega)
    clear hall
    rw [IpP.lexA_slots vs 16 [(some 3, 0), (some 4, 1), (some 5, 2), (some 6, 3), (some 7, 4), (some 8, 5), (some 9, 6), (some 10, 7), (some 11, 8), (some 12, 9), (some 13, 10), (some 14, 11), (some 15, 12), (some 16, 13), (some 17, 14), (some 18, 15)] (by kernel_rfl)]
    simp only [List.foldl_cons, List.foldl_nil, h15]
    show wpList _ _ _ [_] _ _
    have hold : W.heap[w.heap.size]? = some (.cells #[.int .u32 0, .int .u32 0, .int .u8 0, .int .u8 0, .int .u8 0, .int .u16 0, .bool false] 25 (0, 0)) := (hb.block w.heap.size (by simp)).trans (alloc_own w _)
    obtain ⟨fz, cz⟩ := box7 W w.heap.size hold
    have HBX := Lib.hid (st_call (st_alloc (Below.refl _ _) _) hb)
    clear hold hb
    have f0 := fz 0
    have c0 := cz 0 _ rfl
    have f1 := fz 1
    have c1 := cz 1 _ rfl
    have f2 := fz 2
    have c2 := cz 2 _ rfl
    have f3 := fz 3
    have c3 := cz 3 _ rfl
    have f4 := fz 4
    have c4 := cz 4 _ rfl
    have f5 := fz 5
    have c5 := cz 5 _ rfl
    have f6 := fz 6
    have c6 := cz 6 _ rfl
    have CZ := Lib.hid cz
    clear cz fz
    go_wp2_with fail
    obtain ⟨W1, hW1, dz, hb1⟩ := set7 W w.heap.size (.int .u32 (src : Int)) (.int .u32 (dst : Int)) (.int .u8 (proto : Int)) (.int .u8 (ttl : Int)) (.int .u8 (tos : Int)) (.int .u16 (idn : Int)) (.bool df) (fun j hj => ⟨_, CZ.out j _ (Array.getElem?_eq_getElem (by simpa using hj))⟩)
    rw [hW1]
    have d0 := dz 0 _ rfl
    have d1 := dz 1 _ rfl
    have d2 := dz 2 _ rfl
    have d3 := dz 3 _ rfl
    have d4 := dz 4 _ rfl
    have d5 := dz 5 _ rfl
    have d6 := dz 6 _ rfl
    refine bodyPost_ret (v := hv ⟨src, dst, proto, ttl, tos, idn, df⟩) ?_ rfl ?_
    · simp [results, Try.f20, go_sem, d0, d1, d2, d3, d4, d5, d6]
    · exact ⟨rfl, HBX.out.trans hb1⟩
end Go.Proofs.Ytlpfnndmkfkjaaa.IpD
