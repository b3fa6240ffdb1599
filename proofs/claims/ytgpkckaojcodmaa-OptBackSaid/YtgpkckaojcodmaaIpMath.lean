/-
  Plain mathematics of the heads of packets: no Go in sight.
-/
import Derived.Test.YtgpkckaojcodmaaTupMath
import Derived.Test.YtgpkckaojcodmaaSumMath
namespace Go.Proofs.Ytgpkckaojcodmaa.IpMath
open TupMath SumMath
set_option linter.unusedVariables false

/-- a number in two bytes, in four -/
def w2 (n : Nat) : List Nat := [n / 256, n % 256]
def w4 (n : Nat) : List Nat := [n / 16777216, n / 65536 % 256, n / 256 % 256, n % 256]
structure Hd where
  src : Nat
  dst : Nat
  proto : Nat
  ttl : Nat
  tos : Nat
  id : Nat
  df : Bool
structure Hd.ok (h : Hd) : Prop where
  src : h.src ≤ 4294967295
  dst : h.dst ≤ 4294967295
  proto : h.proto ≤ 255
  ttl : h.ttl ≤ 255
  tos : h.tos ≤ 255
  id : h.id ≤ 65535
def zero : Hd := ⟨0, 0, 0, 0, 0, 0, false⟩
/-- a head's bytes: of a packet of n bytes, with a checksum -/
def hd (h : Hd) (n s : Nat) : List Nat := [69, h.tos] ++ w2 n ++ w2 h.id ++ [if h.df then 64 else 0, 0] ++ [h.ttl, h.proto] ++ w2 s ++ w4 h.src ++ w4 h.dst
theorem hd_len (h : Hd) (n s : Nat) : (hd h n s).length = 20 := rfl
theorem hd_le (h : Hd) (k : h.ok) (n s : Nat) (hn : n ≤ 65535) (hs : s ≤ 65535) : ∀ x ∈ hd h n s, x ≤ 255 := by
  intro x hx
  have := k.src; have := k.dst; have := k.proto; have := k.ttl; have := k.tos; have := k.id
  simp only [hd, w2, w4, List.cons_append, List.nil_append, List.mem_cons, List.not_mem_nil, or_false] at hx
  rcases hx with rfl | rfl | rfl | rfl | rfl | rfl | h | rfl | rfl | rfl | rfl | rfl | rfl | rfl | rfl | rfl | rfl | rfl | rfl | rfl
  all_goals first
    | omega
    | (subst h; split <;> omega)
theorem hd_wsum (h : Hd) (n s : Nat) (hs : s ≤ 65535) : wsum (hd h n s) = wsum (hd h n 0) + s := by
  simp only [hd, w2, w4, List.cons_append, List.nil_append, wsum]
  omega
theorem hd_pos (h : Hd) (n s : Nat) : 0 < wsum (hd h n s) := by
  simp only [hd, w2, w4, List.cons_append, List.nil_append, wsum]
  omega
/-- a packet's length, and its bytes -/
def pkt (h : Hd) (l : List Nat) : List Nat := hd h (20 + l.length) (cs (hd h (20 + l.length) 0)) ++ l
theorem pkt_len (h : Hd) (l : List Nat) : (pkt h l).length = 20 + l.length := by unfold pkt; rw [List.length_append, hd_len]
theorem pkt_le (h : Hd) (k : h.ok) (l : List Nat) (hl : ∀ x ∈ l, x ≤ 255) (hn : 20 + l.length ≤ 65535) : ∀ x ∈ pkt h l, x ≤ 255 := by
  intro x hx
  rcases List.mem_append.1 hx with hx | hx
  · exact hd_le h k _ _ hn (cs_le _) x hx
  · exact hl x hx
theorem cs_zero (l : List Nat) : cs l = 0 ↔ 0 < wsum l ∧ wsum l % 65535 = 0 := by
  unfold cs ones
  have := Nat.mod_lt (wsum l - 1) (show 0 < 65535 by decide)
  split <;> omega
theorem head_right (h : Hd) (n : Nat) : cs (hd h n (cs (hd h n 0))) = 0 := by
  rw [cs_zero]
  refine ⟨hd_pos _ _ _, ?_⟩
  rw [hd_wsum h n _ (cs_le _)]
  have hp := hd_pos h n 0
  unfold cs
  generalize wsum (hd h n 0) = x at hp
  unfold ones
  rw [if_neg (by omega)]
  omega
/-- byte number i, or nought -/
def at0 (s : List Nat) (i : Nat) : Nat := s[i]?.getD 0
/-- what is wrong with bytes; nought: nothing -/
def err (s : List Nat) : Nat :=
  if s.length < 20 then 50 else if at0 s 0 / 16 ≠ 4 then 51 else if at0 s 0 % 16 ≠ 5 then 52 else if at0 s 2 * 256 + at0 s 3 ≠ s.length then 53 else if cs (s.take 20) ≠ 0 then 55
  else if (at0 s 6 ≠ 0 ∧ at0 s 6 ≠ 64) ∨ at0 s 7 ≠ 0 then 54 else 0
/-- the head that bytes have -/
def rd (s : List Nat) : Hd :=
  ⟨at0 s 12 * 16777216 + at0 s 13 * 65536 + at0 s 14 * 256 + at0 s 15, at0 s 16 * 16777216 + at0 s 17 * 65536 + at0 s 18 * 256 + at0 s 19, at0 s 9, at0 s 8, at0 s 1, at0 s 4 * 256 + at0 s 5, at0 s 6 == 64⟩

theorem at_app {a b : List Nat} {i : Nat} (h : i < a.length) : at0 (a ++ b) i = at0 a i := by unfold at0; rw [List.getElem?_append_left h]
theorem at_take {a : List Nat} {m i : Nat} (h : i < m) : at0 (a.take m) i = at0 a i := by unfold at0; rw [List.getElem?_take_of_lt h]
theorem pkt_take (h : Hd) (l : List Nat) : (pkt h l).take 20 = hd h (20 + l.length) (cs (hd h (20 + l.length) 0)) := List.take_left' (hd_len _ _ _)
theorem pkt_drop (h : Hd) (l : List Nat) : (pkt h l).drop 20 = l := List.drop_left' (hd_len _ _ _)
theorem pkt_at (h : Hd) (l : List Nat) (i : Nat) (hi : i < 20) : at0 (pkt h l) i = at0 (hd h (20 + l.length) (cs (hd h (20 + l.length) 0))) i := at_app (by rw [hd_len]; exact hi)
/-- what was written is read -/
theorem pkt_err (h : Hd) (l : List Nat) (k : h.ok) (hn : 20 + l.length ≤ 65535) : err (pkt h l) = 0 := by
  have e0 := pkt_at h l 0 (by decide)
  have e2 := pkt_at h l 2 (by decide)
  have e3 := pkt_at h l 3 (by decide)
  have e6 := pkt_at h l 6 (by decide)
  have e7 := pkt_at h l 7 (by decide)
  have hc := head_right h (20 + l.length)
  unfold err
  rw [pkt_len, pkt_take, hc, e0, e2, e3, e6, e7]
  have f0 : at0 (hd h (20 + l.length) (cs (hd h (20 + l.length) 0))) 0 = 69 := rfl
  have f2 : at0 (hd h (20 + l.length) (cs (hd h (20 + l.length) 0))) 2 = (20 + l.length) / 256 := rfl
  have f3 : at0 (hd h (20 + l.length) (cs (hd h (20 + l.length) 0))) 3 = (20 + l.length) % 256 := rfl
  have f6 : at0 (hd h (20 + l.length) (cs (hd h (20 + l.length) 0))) 6 = if h.df then 64 else 0 := rfl
  have f7 : at0 (hd h (20 + l.length) (cs (hd h (20 + l.length) 0))) 7 = 0 := rfl
  rw [f0, f2, f3, f6, f7]
  rw [if_neg (by omega), if_neg (by omega), if_neg (by omega), if_neg (by omega), if_neg (by omega), if_neg]
  split <;> omega
theorem pkt_rd (h : Hd) (l : List Nat) (k : h.ok) : rd (pkt h l) = h := by
  have e := fun i hi => pkt_at h l i hi
  unfold rd
  rw [e 12 (by decide), e 13 (by decide), e 14 (by decide), e 15 (by decide), e 16 (by decide), e 17 (by decide), e 18 (by decide), e 19 (by decide), e 9 (by decide), e 8 (by decide), e 1 (by decide), e 4 (by decide), e 5 (by decide), e 6 (by decide)]
  obtain ⟨src, dst, proto, ttl, tos, id, df⟩ := h
  have := k.src; have := k.dst; have := k.id
  simp only at *
  show (⟨src / 16777216 * 16777216 + src / 65536 % 256 * 65536 + src / 256 % 256 * 256 + src % 256, dst / 16777216 * 16777216 + dst / 65536 % 256 * 65536 + dst / 256 % 256 * 256 + dst % 256, proto, ttl, tos, id / 256 * 256 + id % 256, (if df then 64 else 0) == 64⟩ : Hd) = _
  congr 1
  · omega
  · omega
  · omega
  · cases df <;> rfl
/-- heads, and loads, that are not the same have bytes that are not -/
theorem pkt_inj {g h : Hd} {a b : List Nat} (kg : g.ok) (kh : h.ok) (e : pkt g a = pkt h b) : g = h ∧ a = b :=
  ⟨by rw [← pkt_rd g a kg, ← pkt_rd h b kh, e], by rw [← pkt_drop g a, ← pkt_drop h b, e]⟩
/-- longer, or cut off -/
theorem err_longer (h : Hd) (l : List Nat) (x : Nat) (k : h.ok) (hn : 20 + l.length ≤ 65535) : err (pkt h l ++ [x]) = 53 := by
  have a := fun i (hi : i < 20) => (at_app (b := [x]) (show i < (pkt h l).length by rw [pkt_len]; omega)).trans (pkt_at h l i hi)
  unfold err
  rw [a 0 (by decide), a 2 (by decide), a 3 (by decide), List.length_append, pkt_len]
  have f0 : at0 (hd h (20 + l.length) (cs (hd h (20 + l.length) 0))) 0 = 69 := rfl
  have f2 : at0 (hd h (20 + l.length) (cs (hd h (20 + l.length) 0))) 2 = (20 + l.length) / 256 := rfl
  have f3 : at0 (hd h (20 + l.length) (cs (hd h (20 + l.length) 0))) 3 = (20 + l.length) % 256 := rfl
  rw [f0, f2, f3]
  simp only [List.length_singleton]
  rw [if_neg (by omega), if_neg (by omega), if_neg (by omega), if_pos (by omega)]
theorem err_cut (h : Hd) (l : List Nat) (m : Nat) (k : h.ok) (hn : 20 + l.length ≤ 65535) (hm : m < 20 + l.length) : err ((pkt h l).take m) ≠ 0 := by
  unfold err
  have hl : ((pkt h l).take m).length = m := by rw [List.length_take, pkt_len]; omega
  rw [hl]
  by_cases h20 : m < 20
  · rw [if_pos h20]; decide
  · have a := fun i (hi : i < 20) => (at_take (a := pkt h l) (show i < m by omega)).trans (pkt_at h l i hi)
    rw [if_neg h20, a 0 (by decide), a 2 (by decide), a 3 (by decide)]
    have f0 : at0 (hd h (20 + l.length) (cs (hd h (20 + l.length) 0))) 0 = 69 := rfl
    have f2 : at0 (hd h (20 + l.length) (cs (hd h (20 + l.length) 0))) 2 = (20 + l.length) / 256 := rfl
    have f3 : at0 (hd h (20 + l.length) (cs (hd h (20 + l.length) 0))) 3 = (20 + l.length) % 256 := rfl
    rw [f0, f2, f3, if_neg (by omega), if_neg (by omega), if_pos (by omega)]
    decide
/-- a byte turned: the words' sum -/
theorem wsum_set : ∀ (l : List Nat) (k v : Nat) (x : Nat), l[k]? = some x → wsum (l.set k v) + (if k % 2 = 0 then 256 else 1) * x = wsum l + (if k % 2 = 0 then 256 else 1) * v
  | [], k, v, x, h => by simp at h
  | [a], 0, v, x, h => by simp at h; subst h; simp [wsum]; omega
  | [a], k + 1, v, x, h => by simp at h
  | a :: b :: r, 0, v, x, h => by simp at h; subst h; simp [wsum]; omega
  | a :: b :: r, 1, v, x, h => by simp at h; subst h; simp [wsum]; omega
  | a :: b :: r, k + 2, v, x, h => by
    have ih := wsum_set r k v x (by simpa using h)
    rw [show (k + 2) % 2 = k % 2 by omega]
    simp only [List.set_cons_succ, wsum]
    omega
theorem xor_bit : ∀ (x : Fin 256) (j : Fin 8), ((x.val ^^^ 2 ^ j.val) = x.val + 2 ^ j.val ∨ (x.val ^^^ 2 ^ j.val) + 2 ^ j.val = x.val) ∧ (x.val ^^^ 2 ^ j.val) ≤ 255 := by decide +kernel
theorem pow_small : ∀ j : Fin 16, 0 < 2 ^ j.val ∧ 2 ^ j.val % 65535 ≠ 0 ∧ 2 ^ j.val < 65535 := by decide +kernel
/-- a packet of which one bit of the head is turned is not read -/
theorem err_bit (h : Hd) (l : List Nat) (i j : Nat) (k : h.ok) (hl : ∀ x ∈ l, x ≤ 255) (hn : 20 + l.length ≤ 65535) (hi : i < 20) (hj : j < 8) (x : Nat) (hx : (pkt h l)[i]? = some x) : err ((pkt h l).set i (x ^^^ 2 ^ j)) ≠ 0 := by
  intro he
  have hcs : cs (((pkt h l).set i (x ^^^ 2 ^ j)).take 20) = 0 := by
    unfold err at he
    repeat' split at he
    all_goals first | omega | (rename_i hc _; exact Decidable.not_not.1 hc)
  have hxl : x ≤ 255 := pkt_le h k l hl hn x (List.mem_of_getElem? hx)
  have hb := xor_bit ⟨x, by omega⟩ ⟨j, hj⟩
  simp only at hb
  rw [List.take_set, pkt_take] at hcs
  have hx2 : (hd h (20 + l.length) (cs (hd h (20 + l.length) 0)))[i]? = some x := by
    rw [← pkt_take, List.getElem?_take_of_lt hi]; exact hx
  have hw := wsum_set _ i (x ^^^ 2 ^ j) x hx2
  have h1 := (cs_zero _).1 hcs
  have h2 := (cs_zero _).1 (head_right h (20 + l.length))
  generalize wsum ((hd h (20 + l.length) (cs (hd h (20 + l.length) 0))).set i (x ^^^ 2 ^ j)) = A at hw h1
  generalize wsum (hd h (20 + l.length) (cs (hd h (20 + l.length) 0))) = B at hw h2
  have p8 := pow_small ⟨j, by omega⟩
  have p16 := pow_small ⟨j + 8, by omega⟩
  simp only [Nat.pow_add] at p8 p16
  have e8 : (2 : Nat) ^ 8 = 256 := by decide
  rw [e8] at p16
  generalize x ^^^ 2 ^ j = y at hb hw
  generalize 2 ^ j = d at hb p8 p16
  split at hw <;> omega
theorem at_byte (s : ByteArray) (i : Nat) (h : i < s.size) : s[i].toNat = at0 (bz s) i := by unfold at0; rw [bz_at s i h]; rfl
theorem at_le (s : ByteArray) (i : Nat) : at0 (bz s) i ≤ 255 := by
  unfold at0
  cases h : (bz s)[i]? with
  | none => simp
  | some x => exact bz_le s x (List.mem_of_getElem? h)
theorem sub2 (s : ByteArray) (i : Nat) (h : i + 2 ≤ s.size) : v256 (bz (s.extract i (i + 2))) = at0 (bz s) i * 256 + at0 (bz s) (i + 1) := by
  have h0 := bz_at s i (by omega)
  have h1 := bz_at s (i + 1) (by omega)
  rw [bz_extract s i (i + 2) h]
  have e : ((bz s).take (i + 2)).drop i = [s[i].toNat, s[i + 1].toNat] := by
    rw [take_snoc (show (bz s)[i + 1]? = some _ from h1), take_snoc h0, List.append_assoc, List.drop_left' (by rw [List.length_take, bz_len]; omega)]
    rfl
  rw [e, at_byte s i (by omega), at_byte s (i + 1) (by omega)]
  simp [v256]
theorem sub4 (s : ByteArray) (i : Nat) (h : i + 4 ≤ s.size) : v256 (bz (s.extract i (i + 4))) = at0 (bz s) i * 16777216 + at0 (bz s) (i + 1) * 65536 + at0 (bz s) (i + 2) * 256 + at0 (bz s) (i + 3) := by
  have h0 := bz_at s i (by omega)
  have h1 := bz_at s (i + 1) (by omega)
  have h2 := bz_at s (i + 2) (by omega)
  have h3 := bz_at s (i + 3) (by omega)
  rw [bz_extract s i (i + 4) h]
  have e : ((bz s).take (i + 4)).drop i = [s[i].toNat, s[i + 1].toNat, s[i + 2].toNat, s[i + 3].toNat] := by
    rw [take_snoc (show (bz s)[i + 3]? = some _ from h3), take_snoc (show (bz s)[i + 2]? = some _ from h2), take_snoc (show (bz s)[i + 1]? = some _ from h1), take_snoc h0, List.append_assoc, List.append_assoc, List.append_assoc, List.drop_left' (by rw [List.length_take, bz_len]; omega)]
    rfl
  rw [e, at_byte s i (by omega), at_byte s (i + 1) (by omega), at_byte s (i + 2) (by omega), at_byte s (i + 3) (by omega)]
  simp [v256]
  omega

end Go.Proofs.Ytgpkckaojcodmaa.IpMath
