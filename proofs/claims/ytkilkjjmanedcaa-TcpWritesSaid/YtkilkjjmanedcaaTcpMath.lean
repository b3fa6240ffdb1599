/-
  Plain mathematics of the heads of segments: no Go in sight.
-/
import Derived.Test.YtkilkjjmanedcaaTupMath
import Derived.Test.YtkilkjjmanedcaaSumMath
import Derived.Test.YtkilkjjmanedcaaIpMath
namespace Go.Proofs.Ytkilkjjmanedcaa.TcpMath
open TupMath SumMath IpMath
set_option linter.unusedVariables false

structure Th where
  src : Nat
  dst : Nat
  seq : Nat
  ack : Nat
  flags : Nat
  win : Nat
  urg : Nat
  opts : ByteArray
structure Th.ok (h : Th) : Prop where
  src : h.src ≤ 65535
  dst : h.dst ≤ 65535
  seq : h.seq ≤ 4294967295
  ack : h.ack ≤ 4294967295
  flags : h.flags ≤ 255
  win : h.win ≤ 65535
  urg : h.urg ≤ 65535
def zeroT : Th := ⟨0, 0, 0, 0, 0, 0, 0, ⟨#[]⟩⟩
/-- a head that may be written -/
structure Th.may (h : Th) : Prop where
  four : h.opts.size % 4 = 0
  most : h.opts.size ≤ 40
  flags : h.flags < 64
/-- head and options in words of four bytes, sixteen times -/
def off (h : Th) : Nat := (20 + h.opts.size) / 4 * 16
def front (h : Th) : List Nat := w2 h.src ++ w2 h.dst ++ w4 h.seq ++ w4 h.ack ++ [off h, h.flags] ++ w2 h.win
def raw (h : Th) (d : List Nat) (s : Nat) : List Nat := front h ++ (w2 s ++ (w2 h.urg ++ (bz h.opts ++ d)))
theorem front_len (h : Th) : (front h).length = 16 := rfl
theorem raw_len (h : Th) (d : List Nat) (s : Nat) : (raw h d s).length = 20 + h.opts.size + d.length := by
  unfold raw
  rw [List.length_append, List.length_append, List.length_append, List.length_append, front_len, bz_len]
  show 16 + (2 + (2 + _)) = _
  omega
/-- what stands ahead of a segment in its sum -/
def ps (src dst n : Nat) : List Nat := w4 src ++ w4 dst ++ [0, 6] ++ w2 n
theorem ps_len (src dst n : Nat) : (ps src dst n).length = 12 := rfl
def tsum (src dst : Nat) (l : List Nat) : Nat := cs (ps src dst l.length ++ l)
theorem tsum_le (src dst : Nat) (l : List Nat) : tsum src dst l ≤ 65535 := cs_le _
theorem ps_wsum (src dst n : Nat) : wsum (ps src dst n) = src / 16777216 * 256 + src / 65536 % 256 + (src / 256 % 256 * 256 + src % 256) + (dst / 16777216 * 256 + dst / 65536 % 256 + (dst / 256 % 256 * 256 + dst % 256)) + 6 + (n / 256 * 256 + n % 256) := by
  simp only [ps, w2, w4, List.cons_append, List.nil_append, wsum]
  omega
theorem ps_pos (src dst n : Nat) : 0 < wsum (ps src dst n) := by rw [ps_wsum]; omega
theorem whole_wsum (src dst : Nat) (l : List Nat) : wsum (ps src dst l.length ++ l) = wsum (ps src dst l.length) + wsum l := wsum_append _ _ (by rw [ps_len])
theorem tsum_zero (src dst : Nat) (l : List Nat) : tsum src dst l = 0 ↔ (wsum (ps src dst l.length) + wsum l) % 65535 = 0 := by
  unfold tsum
  rw [cs_zero, whole_wsum]
  have := ps_pos src dst l.length
  constructor
  · exact fun h => h.2
  · exact fun h => ⟨by omega, h⟩
theorem raw_wsum (h : Th) (d : List Nat) (s : Nat) : wsum (raw h d s) = wsum (raw h d 0) + s := by
  unfold raw
  rw [wsum_append (front h) _ (by rw [front_len]), wsum_append (front h) _ (by rw [front_len]), wsum_append (w2 s) _ (by simp [w2]), wsum_append (w2 0) _ (by simp [w2])]
  simp only [w2, wsum]
  omega
/-- a segment -/
def seg (src dst : Nat) (h : Th) (d : List Nat) : List Nat := raw h d (tsum src dst (raw h d 0))
theorem seg_len (src dst : Nat) (h : Th) (d : List Nat) : (seg src dst h d).length = 20 + h.opts.size + d.length := raw_len _ _ _
theorem seg_sum (src dst : Nat) (h : Th) (d : List Nat) : tsum src dst (seg src dst h d) = 0 := by
  rw [tsum_zero, seg_len]
  unfold seg
  rw [raw_wsum]
  have hp := ps_pos src dst (20 + h.opts.size + d.length)
  have e : tsum src dst (raw h d 0) = 65535 - ones (wsum (ps src dst (20 + h.opts.size + d.length)) + wsum (raw h d 0)) := by
    unfold tsum cs
    rw [whole_wsum, raw_len]
  rw [e]
  generalize wsum (ps src dst (20 + h.opts.size + d.length)) = p at hp
  generalize wsum (raw h d 0) = x
  unfold ones
  rw [if_neg (by omega)]
  omega
theorem raw_le (h : Th) (k : h.ok) (m : h.may) (d : List Nat) (s : Nat) (hd : ∀ x ∈ d, x ≤ 255) (hs : s ≤ 65535) : ∀ x ∈ raw h d s, x ≤ 255 := by
  have := k.src; have := k.dst; have := k.seq; have := k.ack; have := k.flags; have := k.win; have := k.urg; have := m.most
  intro x hx
  unfold raw at hx
  rcases List.mem_append.1 hx with hx | hx
  · simp only [front, w2, w4, off, List.cons_append, List.nil_append, List.mem_cons, List.not_mem_nil, or_false] at hx
    omega
  rcases List.mem_append.1 hx with hx | hx
  · simp only [w2, List.mem_cons, List.not_mem_nil, or_false] at hx; omega
  rcases List.mem_append.1 hx with hx | hx
  · simp only [w2, List.mem_cons, List.not_mem_nil, or_false] at hx; omega
  rcases List.mem_append.1 hx with hx | hx
  · exact bz_le _ x hx
  · exact hd x hx
theorem seg_le (src dst : Nat) (h : Th) (k : h.ok) (m : h.may) (d : List Nat) (hd : ∀ x ∈ d, x ≤ 255) : ∀ x ∈ seg src dst h d, x ≤ 255 := raw_le h k m d _ hd (tsum_le _ _ _)

/-- how many bytes head and options would have -/
def hl (l : List Nat) : Nat := at0 l 12 / 16 * 4
/-- what is wrong with bytes; nought: nothing -/
def terr (src dst : Nat) (l : List Nat) : Nat :=
  if l.length < 20 then 50 else if 65515 < l.length then 4 else if tsum src dst l ≠ 0 then 55 else if hl l < 20 ∨ l.length < hl l then 60
  else if at0 l 12 % 16 ≠ 0 ∨ 64 ≤ at0 l 13 then 61 else 0
/-- the head that bytes have -/
def trd (s : ByteArray) : Th :=
  ⟨at0 (bz s) 0 * 256 + at0 (bz s) 1, at0 (bz s) 2 * 256 + at0 (bz s) 3, at0 (bz s) 4 * 16777216 + at0 (bz s) 5 * 65536 + at0 (bz s) 6 * 256 + at0 (bz s) 7, at0 (bz s) 8 * 16777216 + at0 (bz s) 9 * 65536 + at0 (bz s) 10 * 256 + at0 (bz s) 11,
    at0 (bz s) 13, at0 (bz s) 14 * 256 + at0 (bz s) 15, at0 (bz s) 18 * 256 + at0 (bz s) 19, s.extract 20 (hl (bz s))⟩

theorem raw_front (h : Th) (d : List Nat) (s i : Nat) (hi : i < 16) : at0 (raw h d s) i = at0 (front h) i := at_app (by rw [front_len]; exact hi)
/-- the first twenty bytes -/
theorem raw_head (h : Th) (d : List Nat) (s : Nat) : (raw h d s).take 20 = front h ++ (w2 s ++ w2 h.urg) := by
  have e : raw h d s = (front h ++ (w2 s ++ w2 h.urg)) ++ (bz h.opts ++ d) := by unfold raw; simp only [List.append_assoc]
  rw [e]
  exact List.take_left' rfl
theorem raw_rest (h : Th) (d : List Nat) (s : Nat) : (raw h d s).drop 20 = bz h.opts ++ d := by
  have e : raw h d s = (front h ++ (w2 s ++ w2 h.urg)) ++ (bz h.opts ++ d) := by unfold raw; simp only [List.append_assoc]
  rw [e]
  exact List.drop_left' rfl
theorem raw_at (h : Th) (d : List Nat) (s i : Nat) (hi : i < 20) : at0 (raw h d s) i = at0 (front h ++ (w2 s ++ w2 h.urg)) i := by
  rw [← raw_head h d s, at_take hi]
theorem raw_hl (h : Th) (m : h.may) (d : List Nat) (s : Nat) : hl (raw h d s) = 20 + h.opts.size := by
  unfold hl
  rw [raw_at h d s 12 (by decide)]
  show off h / 16 * 4 = _
  have := m.four
  unfold off
  omega
theorem seg_err (src dst : Nat) (h : Th) (m : h.may) (d : List Nat) (hn : 20 + h.opts.size + d.length ≤ 65515) : terr src dst (seg src dst h d) = 0 := by
  unfold terr
  rw [seg_sum, seg_len]
  unfold seg
  rw [raw_hl h m, raw_at h d _ 12 (by decide), raw_at h d _ 13 (by decide)]
  have e12 : at0 (front h ++ (w2 (tsum src dst (raw h d 0)) ++ w2 h.urg)) 12 = off h := rfl
  have e13 : at0 (front h ++ (w2 (tsum src dst (raw h d 0)) ++ w2 h.urg)) 13 = h.flags := rfl
  rw [e12, e13]
  have := m.flags
  have : off h % 16 = 0 := by unfold off; omega
  rw [if_neg (by omega), if_neg (by omega), if_neg (by omega), if_neg (by omega), if_neg (by omega)]
/-- what was written is read -/
theorem raw_trd (h : Th) (k : h.ok) (m : h.may) (d : List Nat) (s : Nat) (S : ByteArray) (hS : bz S = raw h d s) : trd S = h ∧ bz (S.extract (hl (bz S)) S.size) = d := by
  have hlen : S.size = 20 + h.opts.size + d.length := by rw [← bz_len, hS, raw_len]
  have e := fun i hi => raw_at h d s i hi
  have ho : S.extract 20 (hl (bz S)) = h.opts := by
    apply bz_inj
    rw [hS, raw_hl h m, bz_extract S 20 _ (by omega), hS, List.drop_take, raw_rest]
    rw [show 20 + h.opts.size - 20 = h.opts.size by omega]
    exact List.take_left' (bz_len _)
  have hd : bz (S.extract (hl (bz S)) S.size) = d := by
    rw [bz_extract S _ _ (Nat.le_refl _), List.take_of_length_le (by rw [bz_len]; exact Nat.le_refl _), hS, raw_hl h m, ← List.drop_drop, raw_rest]
    exact List.drop_left' (bz_len _)
  refine ⟨?_, hd⟩
  unfold trd
  rw [ho, hS, e 0 (by decide), e 1 (by decide), e 2 (by decide), e 3 (by decide), e 4 (by decide), e 5 (by decide), e 6 (by decide), e 7 (by decide), e 8 (by decide), e 9 (by decide), e 10 (by decide), e 11 (by decide), e 13 (by decide), e 14 (by decide), e 15 (by decide), e 18 (by decide), e 19 (by decide)]
  obtain ⟨src, dst, seq, ack, flags, win, urg, opts⟩ := h
  have := k.src; have := k.dst; have := k.seq; have := k.ack; have := k.win; have := k.urg
  simp only at *
  show (⟨src / 256 * 256 + src % 256, dst / 256 * 256 + dst % 256, seq / 16777216 * 16777216 + seq / 65536 % 256 * 65536 + seq / 256 % 256 * 256 + seq % 256, ack / 16777216 * 16777216 + ack / 65536 % 256 * 65536 + ack / 256 % 256 * 256 + ack % 256, flags, win / 256 * 256 + win % 256, urg / 256 * 256 + urg % 256, opts⟩ : Th) = _
  congr 1 <;> omega
/-- heads, and data, that are not the same have bytes that are not -/
theorem seg_inj {src dst : Nat} {g h : Th} {a b : List Nat} (kg : g.ok) (kh : h.ok) (mg : g.may) (mh : h.may) (ha : ∀ x ∈ a, x ≤ 255) (e : seg src dst g a = seg src dst h b) : g = h ∧ a = b := by
  have hS := bz_ofB (seg_le src dst g kg mg a ha)
  obtain ⟨g1, g2⟩ := raw_trd g kg mg a _ (ofB (seg src dst g a)) hS
  obtain ⟨h1, h2⟩ := raw_trd h kh mh b _ (ofB (seg src dst g a)) (by rw [hS, e]; rfl)
  exact ⟨g1.symm.trans h1, g2.symm.trans h2⟩
/-- a byte turned: one bit of a segment -/
theorem terr_bit (src dst : Nat) (l : List Nat) (i j x : Nat) (hl : ∀ x ∈ l, x ≤ 255) (h20 : 20 ≤ l.length) (hn : l.length ≤ 65515) (h0 : tsum src dst l = 0) (hj : j < 8) (hx : l[i]? = some x) : terr src dst (l.set i (x ^^^ 2 ^ j)) = 55 := by
  have hx2 : x ≤ 255 := hl x (List.mem_of_getElem? hx)
  have hb := (xor_bit ⟨x, by omega⟩ ⟨j, hj⟩).1
  simp only at hb
  have hw := wsum_set l i (x ^^^ 2 ^ j) x hx
  have hne : tsum src dst (l.set i (x ^^^ 2 ^ j)) ≠ 0 := by
    intro h1
    rw [tsum_zero, List.length_set] at h1
    rw [tsum_zero] at h0
    have p8 := pow_small ⟨j, by omega⟩
    have p16 := pow_small ⟨j + 8, by omega⟩
    simp only [Nat.pow_add] at p8 p16
    have e8 : (2 : Nat) ^ 8 = 256 := by decide
    rw [e8] at p16
    generalize wsum (l.set i (x ^^^ 2 ^ j)) = A at hw h1
    generalize wsum l = B at hw h0
    generalize wsum (ps src dst l.length) = C at h0 h1
    generalize x ^^^ 2 ^ j = y at hb hw
    generalize 2 ^ j = d at hb p8 p16
    split at hw <;> omega
  unfold terr
  rw [List.length_set, if_neg (by omega), if_neg (by omega), if_pos hne]
/-- a number of 32 bits of which one is turned -/
theorem xor32 (x k : Nat) (hk : k < 32) (hx : x ≤ 4294967295) : ((x ^^^ 2 ^ k) = x + 2 ^ k ∨ (x ^^^ 2 ^ k) + 2 ^ k = x) ∧ (x ^^^ 2 ^ k) ≤ 4294967295 := by
  have hlt : x ^^^ 2 ^ k < 2 ^ 32 := Nat.xor_lt_two_pow (by omega) (Nat.pow_lt_pow_right (by decide) hk)
  refine ⟨?_, by omega⟩
  have hp : 0 < 2 ^ k := Nat.two_pow_pos k
  have e := Nat.div_add_mod x (2 ^ k)
  have e2 := Nat.div_add_mod (x ^^^ 2 ^ k) (2 ^ k)
  have hm : (x ^^^ 2 ^ k) % 2 ^ k = x % 2 ^ k := by rw [Nat.xor_mod_two_pow, Nat.mod_self, Nat.xor_zero]
  have hd : (x ^^^ 2 ^ k) / 2 ^ k = x / 2 ^ k ^^^ 1 := by rw [Nat.xor_div_two_pow, Nat.div_self hp]
  have q1 : ∀ q : Nat, q ^^^ 1 = q + 1 ∨ (q ^^^ 1) + 1 = q := by
    intro q
    have a1 : (q ^^^ 1) / 2 = q / 2 := by rw [Nat.xor_div_two]; exact Nat.xor_zero _
    have a2 := @Nat.xor_mod_two_eq_one q 1
    omega
  rw [hm, hd] at e2
  rcases q1 (x / 2 ^ k) with h | h
  · left
    rw [h, Nat.mul_add, Nat.mul_one] at e2
    omega
  · right
    have e3 : 2 ^ k * (x / 2 ^ k) = 2 ^ k * (x / 2 ^ k ^^^ 1) + 2 ^ k := by
      have h3 := congrArg (2 ^ k * ·) h.symm
      simp only [Nat.mul_add, Nat.mul_one] at h3
      exact h3
    omega
theorem pow_mod32 : ∀ k : Fin 32, 2 ^ k.val % 65535 ≠ 0 ∧ 0 < 2 ^ k.val ∧ 2 ^ k.val ≤ 4294967295 := by decide +kernel
/-- a number of 32 bits, as its words' sum, modulo 65535 -/
theorem w4_mod (x : Nat) (hx : x ≤ 4294967295) : (x / 16777216 * 256 + x / 65536 % 256 + (x / 256 % 256 * 256 + x % 256)) % 65535 = x % 65535 := by
  have e1 : x / 16777216 = x / 65536 / 256 := by rw [Nat.div_div_eq_div_mul]
  have e2 : x / 65536 = x / 256 / 256 := by rw [Nat.div_div_eq_div_mul]
  rw [e1]
  omega
theorem terr_other (src dst src2 dst2 : Nat) (l : List Nat) (h20 : 20 ≤ l.length) (hn : l.length ≤ 65515) (h0 : tsum src dst l = 0) (hs : src ≤ 4294967295) (hd : dst ≤ 4294967295) (hs2 : src2 ≤ 4294967295) (hd2 : dst2 ≤ 4294967295)
    (hne : (src + dst) % 65535 ≠ (src2 + dst2) % 65535) : terr src2 dst2 l = 55 := by
  have hne2 : tsum src2 dst2 l ≠ 0 := by
    intro h1
    rw [tsum_zero, ps_wsum] at h0 h1
    have a1 := w4_mod src hs
    have a2 := w4_mod dst hd
    have a3 := w4_mod src2 hs2
    have a4 := w4_mod dst2 hd2
    obtain ⟨A1, qA1⟩ : ∃ x, x = src / 16777216 * 256 + src / 65536 % 256 + (src / 256 % 256 * 256 + src % 256) := ⟨_, rfl⟩
    rw [← qA1] at h0 a1
    clear qA1
    obtain ⟨A2, qA2⟩ : ∃ x, x = dst / 16777216 * 256 + dst / 65536 % 256 + (dst / 256 % 256 * 256 + dst % 256) := ⟨_, rfl⟩
    rw [← qA2] at h0 a2
    clear qA2
    obtain ⟨A3, qA3⟩ : ∃ x, x = src2 / 16777216 * 256 + src2 / 65536 % 256 + (src2 / 256 % 256 * 256 + src2 % 256) := ⟨_, rfl⟩
    rw [← qA3] at h1 a3
    clear qA3
    obtain ⟨A4, qA4⟩ : ∃ x, x = dst2 / 16777216 * 256 + dst2 / 65536 % 256 + (dst2 / 256 % 256 * 256 + dst2 % 256) := ⟨_, rfl⟩
    rw [← qA4] at h1 a4
    clear qA4
    omega
  unfold terr
  rw [if_neg (by omega), if_neg (by omega), if_pos hne2]
theorem terr_src (src dst k : Nat) (l : List Nat) (h20 : 20 ≤ l.length) (hn : l.length ≤ 65515) (h0 : tsum src dst l = 0) (hs : src ≤ 4294967295) (hd : dst ≤ 4294967295) (hk : k < 32) : terr (src ^^^ 2 ^ k) dst l = 55 := by
  obtain ⟨h1, h2⟩ := xor32 src k hk hs
  have hp := pow_mod32 ⟨k, hk⟩
  simp only at hp
  refine terr_other src dst _ dst l h20 hn h0 hs hd h2 hd ?_
  generalize src ^^^ 2 ^ k = y at h1 h2
  generalize 2 ^ k = d at h1 hp
  omega
theorem terr_dst (src dst k : Nat) (l : List Nat) (h20 : 20 ≤ l.length) (hn : l.length ≤ 65515) (h0 : tsum src dst l = 0) (hs : src ≤ 4294967295) (hd : dst ≤ 4294967295) (hk : k < 32) : terr src (dst ^^^ 2 ^ k) l = 55 := by
  obtain ⟨h1, h2⟩ := xor32 dst k hk hd
  have hp := pow_mod32 ⟨k, hk⟩
  simp only at hp
  refine terr_other src dst src _ l h20 hn h0 hs hd hs h2 ?_
  generalize dst ^^^ 2 ^ k = y at h1 h2
  generalize 2 ^ k = d at h1 hp
  omega
theorem w2_mk (a b : Nat) (hb : b ≤ 255) : w2 (a * 256 + b) = [a, b] := by
  have h1 : (a * 256 + b) / 256 = a := by omega
  have h2 : (a * 256 + b) % 256 = b := by omega
  simp only [w2, h1, h2]
theorem w4_mk (a b c d : Nat) (hb : b ≤ 255) (hc : c ≤ 255) (hd : d ≤ 255) : w4 (a * 16777216 + b * 65536 + c * 256 + d) = [a, b, c, d] := by
  have h1 : (a * 16777216 + b * 65536 + c * 256 + d) / 16777216 = a := by omega
  have h2 : (a * 16777216 + b * 65536 + c * 256 + d) / 65536 % 256 = b := by omega
  have h3 : (a * 16777216 + b * 65536 + c * 256 + d) / 256 % 256 = c := by omega
  have h4 : (a * 16777216 + b * 65536 + c * 256 + d) % 256 = d := by omega
  simp only [w4, h1, h2, h3, h4]
theorem take20 (l : List Nat) (h : 20 ≤ l.length) : l.take 20 = [at0 l 0, at0 l 1, at0 l 2, at0 l 3, at0 l 4, at0 l 5, at0 l 6, at0 l 7, at0 l 8, at0 l 9, at0 l 10, at0 l 11, at0 l 12, at0 l 13, at0 l 14, at0 l 15, at0 l 16, at0 l 17, at0 l 18, at0 l 19] := by
  apply List.ext_getElem?
  intro i
  by_cases hi : i < 20
  · rw [List.getElem?_take_of_lt hi]
    have e : l[i]? = some (at0 l i) := by unfold at0; rw [List.getElem?_eq_getElem (by omega)]; rfl
    rw [e]
    match i, hi with
    | 0, _ => rfl
    | 1, _ => rfl
    | 2, _ => rfl
    | 3, _ => rfl
    | 4, _ => rfl
    | 5, _ => rfl
    | 6, _ => rfl
    | 7, _ => rfl
    | 8, _ => rfl
    | 9, _ => rfl
    | 10, _ => rfl
    | 11, _ => rfl
    | 12, _ => rfl
    | 13, _ => rfl
    | 14, _ => rfl
    | 15, _ => rfl
    | 16, _ => rfl
    | 17, _ => rfl
    | 18, _ => rfl
    | 19, _ => rfl
    | n + 20, hi => exact absurd hi (by omega)
  · rw [List.getElem?_eq_none (by rw [List.length_take]; omega), List.getElem?_eq_none (by simp; omega)]
/-- what is read, written out -/
theorem trd_raw (src dst : Nat) (s : ByteArray) (h0 : terr src dst (bz s) = 0) : (trd s).ok ∧ (trd s).may ∧ bz s = raw (trd s) (bz (s.extract (hl (bz s)) s.size)) (at0 (bz s) 16 * 256 + at0 (bz s) 17) ∧ tsum src dst (bz s) = 0 ∧ 20 + (trd s).opts.size + (bz (s.extract (hl (bz s)) s.size)).length = s.size ∧ s.size ≤ 65515 ∧ 20 ≤ s.size := by
  have hle : ∀ i, at0 (bz s) i ≤ 255 := fun i => by
    unfold at0
    cases h : (bz s)[i]? with
    | none => simp
    | some x => exact bz_le s x (List.mem_of_getElem? h)
  have hlen : (bz s).length = s.size := bz_len s
  unfold terr at h0
  rw [hlen] at h0
  by_cases c1 : s.size < 20
  · rw [if_pos c1] at h0; omega
  by_cases c2 : 65515 < s.size
  · rw [if_neg c1, if_pos c2] at h0; omega
  by_cases c3 : tsum src dst (bz s) ≠ 0
  · rw [if_neg c1, if_neg c2, if_pos c3] at h0; omega
  by_cases c4 : hl (bz s) < 20 ∨ s.size < hl (bz s)
  · rw [if_neg c1, if_neg c2, if_neg c3, if_pos c4] at h0; omega
  by_cases c5 : at0 (bz s) 12 % 16 ≠ 0 ∨ 64 ≤ at0 (bz s) 13
  · rw [if_neg c1, if_neg c2, if_neg c3, if_neg c4, if_pos c5] at h0; omega
  clear h0
  have hos : (trd s).opts.size = hl (bz s) - 20 := by
    show (s.extract 20 (hl (bz s))).size = _
    rw [ByteArray.size_extract]
    omega
  have h12 : off (trd s) = at0 (bz s) 12 := by
    unfold off
    rw [hos]
    unfold hl
    unfold hl at c4
    omega
  have hob : bz (trd s).opts ++ bz (s.extract (hl (bz s)) s.size) = (bz s).drop 20 := by
    show bz (s.extract 20 (hl (bz s))) ++ _ = _
    have e0 : (bz s).take s.size = bz s := List.take_of_length_le (by rw [hlen]; exact Nat.le_refl _)
    rw [bz_extract s 20 _ (by omega), bz_extract s _ _ (Nat.le_refl _), e0]
    have e1 : ((bz s).take (hl (bz s))).drop 20 ++ (bz s).drop (hl (bz s)) = ((bz s).take (hl (bz s)) ++ (bz s).drop (hl (bz s))).drop 20 := by
      rw [List.drop_append_of_le_length (by rw [List.length_take, hlen]; omega)]
    rw [e1, List.take_append_drop]
  have q := hle
  refine ⟨?_, ?_, ?_, Decidable.not_not.1 c3, ?_, by omega, by omega⟩
  · have := q 0; have := q 1; have := q 2; have := q 3; have := q 4; have := q 5; have := q 6; have := q 7; have := q 8; have := q 9; have := q 10; have := q 11; have := q 13; have := q 14; have := q 15; have := q 18; have := q 19
    exact ⟨by show _ * 256 + _ ≤ _; omega, by show _ * 256 + _ ≤ _; omega, by show _ * 16777216 + _ * 65536 + _ * 256 + _ ≤ _; omega, by show _ * 16777216 + _ * 65536 + _ * 256 + _ ≤ _; omega, q 13, by show _ * 256 + _ ≤ _; omega, by show _ * 256 + _ ≤ _; omega⟩
  · have := q 12
    have h1 : hl (bz s) = at0 (bz s) 12 / 16 * 4 := rfl
    exact ⟨by rw [hos]; omega, by rw [hos]; omega, by show at0 (bz s) 13 < 64; omega⟩
  · have e : raw (trd s) (bz (s.extract (hl (bz s)) s.size)) (at0 (bz s) 16 * 256 + at0 (bz s) 17) = (front (trd s) ++ (w2 (at0 (bz s) 16 * 256 + at0 (bz s) 17) ++ w2 (trd s).urg)) ++ (bz (trd s).opts ++ bz (s.extract (hl (bz s)) s.size)) := by unfold raw; simp only [List.append_assoc]
    rw [e, hob]
    have f : front (trd s) ++ (w2 (at0 (bz s) 16 * 256 + at0 (bz s) 17) ++ w2 (trd s).urg) = (bz s).take 20 := by
      rw [take20 (bz s) (by omega)]
      unfold front
      rw [h12, w2_mk _ _ (q 17)]
      show w2 (at0 (bz s) 0 * 256 + at0 (bz s) 1) ++ w2 (at0 (bz s) 2 * 256 + at0 (bz s) 3) ++ w4 (at0 (bz s) 4 * 16777216 + at0 (bz s) 5 * 65536 + at0 (bz s) 6 * 256 + at0 (bz s) 7) ++ w4 (at0 (bz s) 8 * 16777216 + at0 (bz s) 9 * 65536 + at0 (bz s) 10 * 256 + at0 (bz s) 11) ++ [at0 (bz s) 12, at0 (bz s) 13] ++ w2 (at0 (bz s) 14 * 256 + at0 (bz s) 15) ++ ([at0 (bz s) 16, at0 (bz s) 17] ++ w2 (at0 (bz s) 18 * 256 + at0 (bz s) 19)) = _
      rw [w2_mk _ _ (q 1), w2_mk _ _ (q 3), w4_mk _ _ _ _ (q 5) (q 6) (q 7), w4_mk _ _ _ _ (q 9) (q 10) (q 11), w2_mk _ _ (q 15), w2_mk _ _ (q 19)]
      rfl
    rw [f, List.take_append_drop]
  · rw [hos, bz_len, ByteArray.size_extract]
    omega
theorem tsum_lt (src dst : Nat) (l : List Nat) : tsum src dst l ≤ 65534 := by
  have hp := ps_pos src dst l.length
  unfold tsum cs
  rw [whole_wsum]
  generalize wsum (ps src dst l.length) = p at hp
  generalize wsum l = x
  unfold ones
  split <;> omega
/-- what is read, written again -/
theorem moves (src dst : Nat) (s : ByteArray) (h0 : terr src dst (bz s) = 0) :
    (seg src dst (trd s) (bz (s.extract (hl (bz s)) s.size))).length = s.size ∧ (seg src dst (trd s) (bz (s.extract (hl (bz s)) s.size))).take 16 = (bz s).take 16 ∧
    (seg src dst (trd s) (bz (s.extract (hl (bz s)) s.size))).drop 18 = (bz s).drop 18 ∧ (seg src dst (trd s) (bz (s.extract (hl (bz s)) s.size)) ≠ bz s → ((bz s).take 18).drop 16 = [255, 255]) := by
  obtain ⟨_, _, hraw, hsum, hlen, _, h20⟩ := trd_raw src dst s h0
  have b16 : at0 (bz s) 16 ≤ 255 := by unfold at0; cases h : (bz s)[16]? with | none => simp | some x => exact bz_le s x (List.mem_of_getElem? h)
  have b17 : at0 (bz s) 17 ≤ 255 := by unfold at0; cases h : (bz s)[17]? with | none => simp | some x => exact bz_le s x (List.mem_of_getElem? h)
  generalize hd : bz (s.extract (hl (bz s)) s.size) = d at hraw hlen ⊢
  generalize hh : trd s = h at hraw hlen ⊢
  generalize hc : at0 (bz s) 16 * 256 + at0 (bz s) 17 = c at hraw
  have t16 : ∀ c, (raw h d c).take 16 = front h := fun c => List.take_left' (front_len h)
  have t18 : ∀ c, (raw h d c).drop 18 = w2 h.urg ++ (bz h.opts ++ d) := fun c => by
    have e : raw h d c = (front h ++ w2 c) ++ (w2 h.urg ++ (bz h.opts ++ d)) := by unfold raw; simp only [List.append_assoc]
    rw [e]
    exact List.drop_left' rfl
  refine ⟨by rw [seg_len]; exact hlen, ?_, ?_, fun hne => ?_⟩
  · rw [hraw]; unfold seg; rw [t16, t16]
  · rw [hraw]; unfold seg; rw [t18, t18]
  · have h1 := seg_sum src dst h d
    rw [tsum_zero, seg_len] at h1
    unfold seg at h1 hne
    rw [raw_wsum] at h1
    have h2 := hsum
    rw [tsum_zero, hraw, raw_len, raw_wsum] at h2
    have hlt := tsum_lt src dst (raw h d 0)
    generalize tsum src dst (raw h d 0) = c2 at h1 hne hlt
    have hcc : c ≠ c2 := fun e => hne (by rw [hraw, e])
    generalize wsum (ps src dst (20 + h.opts.size + d.length)) = P at h1 h2
    generalize wsum (raw h d 0) = X at h1 h2
    have hc5 : c = 65535 := by omega
    have e18 : ((bz s).take 18).drop 16 = w2 c := by
      rw [hraw]
      have e : raw h d c = (front h ++ w2 c) ++ (w2 h.urg ++ (bz h.opts ++ d)) := by unfold raw; simp only [List.append_assoc]
      rw [e, List.take_left' (show (front h ++ w2 c).length = 18 from rfl)]
      exact List.drop_left' (front_len h)
    rw [e18, hc5]
    rfl
end Go.Proofs.Ytkilkjjmanedcaa.TcpMath
