/-
  Plain mathematics of addresses' texts: what the library's Lean functions (digits, numerals, cut, split) say in bytes as numbers. No Go in sight.
-/
import Derived.Test.YtpphpnnehljekaaDoorTupMath
import Derived.Lib.ItoaNum
import Derived.Lib.ParseIntB
import Derived.Lib.Split
import Derived.Lib.Join
import Derived.Lib.IndexMore
import Derived.Lib.IndexBytes
import Derived.Lib.IndexLaws
namespace Go.Proofs.YtpphpnnehljekaaDoor.TupMath2
open TupMath
set_option linter.unusedVariables false

/-- bytes, as numbers -/
def nb (l : List UInt8) : List Nat := l.map UInt8.toNat
theorem bz_nb (s : ByteArray) : bz s = nb s.data.toList := rfl
theorem bz_mk (l : List UInt8) : bz ⟨l.toArray⟩ = nb l := by simp [bz, nb]
theorem nb_inj {a b : List UInt8} (h : nb a = nb b) : a = b := (List.map_inj_right (fun x y e => UInt8.toNat_inj.1 e)).1 h
theorem nb_app (a b : List UInt8) : nb (a ++ b) = nb a ++ nb b := List.map_append
theorem nb_len (a : List UInt8) : (nb a).length = a.length := List.length_map ..
theorem size_mk (l : List UInt8) : (⟨l.toArray⟩ : ByteArray).size = l.length := by simp [ByteArray.size]
theorem nb_dec (n : Nat) : nb (Lib.decDigits n) = dec n := by
  induction n using Nat.strongRecOn with
  | _ n ih =>
    by_cases h : n ≤ 9
    · rw [dec_small h, Lib.decDigits, dif_pos (by omega)]
      simp [nb]
      omega
    · rw [dec_big h, Lib.decDigits, dif_neg (by omega), nb_app, ih (n / 10) (by omega)]
      simp [nb]
      omega
/-- a numeral that is read -/
theorem parse_digits (M : Nat) (hM : M = 18446744073709551615) : ∀ (l : List UInt8) (acc : Nat), (∀ x ∈ nb l, 48 ≤ x ∧ x ≤ 57) → (acc + 1) * 10 ^ l.length ≤ 1000000000000000000 →
    Lib.parseUintM M acc l = .ok ((nb l).foldl (fun t d => 10 * t + (d - 48)) acc)
  | [], acc, _, _ => rfl
  | c :: r, acc, hd, hb => by
    have h1 := hd c.toNat (by simp [nb])
    have hp : 1 ≤ 10 ^ r.length := Nat.one_le_pow _ _ (by decide)
    rw [List.length_cons, Nat.pow_succ] at hb
    have hb2 : (acc + 1) * 10 * 10 ^ r.length ≤ 1000000000000000000 := by rw [Nat.mul_assoc, Nat.mul_comm 10]; exact hb
    have hacc : (acc + 1) * 10 ≤ 1000000000000000000 := Nat.le_trans (Nat.le_mul_of_pos_right _ hp) hb2
    have ih := parse_digits M hM r (acc * 10 + (c.toNat - 48)) (fun x hx => hd x (by simp [nb] at hx ⊢; exact .inr hx)) (by
      refine Nat.le_trans (Nat.mul_le_mul_right _ ?_) hb2
      omega)
    rw [Lib.parseUintM, if_pos h1, if_neg (by omega), if_neg (by omega), ih]
    show _ = Lib.NumEnd.ok ((nb r).foldl _ (10 * acc + (c.toNat - 48)))
    rw [Nat.mul_comm acc 10]
theorem parse_dec {l : List UInt8} {v : Nat} (hv : v ≤ 65535) (h : nb l = dec v) : Lib.parseUintB 64 l = .ok v := by
  have hne : l ≠ [] := by
    rintro rfl
    have := congrArg List.length h
    have hp : 0 < (dec v).length := by
      by_cases h9 : v ≤ 9
      · rw [dec_small h9]; simp
      · rw [dec_big h9]; simp
    simp [nb] at this
    omega
  have hl : l.length ≤ 5 := by rw [← nb_len, h]; exact dec_len (by decide) (by omega)
  have hpw : 10 ^ l.length ≤ 10 ^ 5 := Nat.pow_le_pow_right (by decide) hl
  have h5 : (10 : Nat) ^ 5 = 100000 := by decide
  have := parse_digits (2 ^ 64 - 1) (by decide) l 0 (fun x hx => by rw [h] at hx; exact ⟨dec_ge v x hx, dec_le v x hx⟩) (by omega)
  rw [Lib.parseUintB, if_neg hne, this, h]
  exact congrArg Lib.NumEnd.ok (val_dec v)
/-- the first place of a byte -/
theorem ix_at {l : List UInt8} {A B : List Nat} {c : Nat} (hc : c ≤ 255) (h : nb l = A ++ c :: B) (hA : c ∉ A) : Lib.index l [UInt8.ofNat c] = (A.length : Nat) ∧ nb (l.take A.length) = A ∧ nb (l.drop (A.length + 1)) = B := by
  have htk : nb (l.take A.length) = A := by unfold nb; rw [List.map_take]; show (nb l).take _ = _; rw [h, List.take_left' rfl]
  have hdr : nb (l.drop (A.length + 1)) = B := by
    unfold nb; rw [List.map_drop]; show (nb l).drop _ = _
    rw [h, ← List.drop_drop, List.drop_left' rfl]; rfl
  refine ⟨?_, htk, hdr⟩
  have hlen : (nb l).length = l.length := nb_len l
  rw [h] at hlen
  simp only [List.length_append, List.length_cons] at hlen
  have hcn : (UInt8.ofNat c).toNat = c := by simp; omega
  have hget : ∀ j (hj : j < l.length), (nb l)[j]? = some l[j].toNat := fun j hj => by
    unfold nb; rw [List.getElem?_map, List.getElem?_eq_getElem hj]; rfl
  have occ : ∀ j, Lib.occAt l [UInt8.ofNat c] j = true ↔ (nb l)[j]? = some c := by
    intro j
    unfold Lib.occAt
    by_cases hj : j < l.length
    · rw [List.drop_eq_getElem_cons hj, hget j hj]
      simp only [List.isPrefixOf, Bool.and_true, beq_iff_eq, Option.some.injEq]
      constructor
      · intro e; rw [← e]; exact hcn
      · intro e; exact UInt8.toNat_inj.1 (by rw [hcn, e])
    · rw [List.drop_of_length_le (by omega), List.getElem?_eq_none (by rw [nb_len]; omega)]
      simp [List.isPrefixOf]
  refine Lib.index_first (by omega) ((occ _).2 (by rw [h]; simp)) ?_
  intro j hj
  refine Bool.eq_false_iff.2 fun ht => ?_
  have := (occ j).1 ht
  rw [h, List.getElem?_append_left hj] at this
  exact hA (List.mem_of_getElem? this)
theorem cut_at {l : List UInt8} {A B : List Nat} {c : Nat} (hc : c ≤ 255) (h : nb l = A ++ c :: B) (hA : c ∉ A) : nb (Lib.cut l [UInt8.ofNat c]).1 = A ∧ nb (Lib.cut l [UInt8.ofNat c]).2.1 = B := by
  obtain ⟨h1, h2, h3⟩ := ix_at hc h hA
  unfold Lib.cut
  rw [h1, if_pos (by omega)]
  exact ⟨h2, h3⟩
/-- what a byte that is found stands for -/
theorem ix_back {l : List UInt8} {c : Nat} (hc : c ≤ 255) (h : 0 ≤ Lib.index l [UInt8.ofNat c]) : nb l = nb (l.take (Lib.index l [UInt8.ofNat c]).toNat) ++ c :: nb (l.drop ((Lib.index l [UInt8.ofNat c]).toNat + 1)) := by
  rcases Lib.index_spec l [UInt8.ofNat c] with ⟨h1, _⟩ | ⟨i, h1, h2, h3, _⟩
  · omega
  · have hr := Lib.index_room l [UInt8.ofNat c] h
    rw [h1] at hr ⊢
    simp only [List.length_cons, List.length_nil] at hr
    have hi : i < l.length := by omega
    have hcn : (UInt8.ofNat c).toNat = c := by simp; omega
    have hx : l[i].toNat = c := by
      unfold Lib.occAt at h3
      rw [List.drop_eq_getElem_cons hi] at h3
      simp only [List.isPrefixOf, Bool.and_true, beq_iff_eq] at h3
      rw [← h3]; exact hcn
    show nb l = nb (l.take i) ++ c :: nb (l.drop (i + 1))
    rw [← hx]
    show _ = nb (l.take i) ++ nb (l[i] :: l.drop (i + 1))
    rw [← nb_app, ← List.drop_eq_getElem_cons hi, List.take_append_drop]
theorem cut_back {l : List UInt8} {c : Nat} (hc : c ≤ 255) (h : (Lib.cut l [UInt8.ofNat c]).2.1 ≠ []) : nb l = nb (Lib.cut l [UInt8.ofNat c]).1 ++ c :: nb (Lib.cut l [UInt8.ofNat c]).2.1 := by
  unfold Lib.cut at h ⊢
  split
  · rename_i h0; exact ix_back hc h0
  · rename_i h0; rw [if_neg h0] at h; exact absurd rfl h
/-- pieces put together again -/
def jn : List (List Nat) → List Nat
  | [] => []
  | [x] => x
  | x :: y :: r => x ++ 46 :: jn (y :: r)
theorem jn_cons (x : List Nat) (r : List (List Nat)) (h : r ≠ []) : jn (x :: r) = x ++ 46 :: jn r := by
  cases r with
  | nil => exact absurd rfl h
  | cons y r => rfl
theorem splitK_ne (s : List UInt8) (k : Nat) (l : List UInt8) : Lib.splitK s 0 k l ≠ [] := by
  cases k with
  | zero => simp [Lib.splitK]
  | succ k => unfold Lib.splitK; split <;> simp
theorem split_back : ∀ (k : Nat) (l : List UInt8), jn ((Lib.splitK [UInt8.ofNat 46] 0 k l).map nb) = nb l
  | 0, l => rfl
  | k + 1, l => by
    unfold Lib.splitK
    split
    · rfl
    · rename_i h0
      have hge := Lib.index_ge l [UInt8.ofNat 46]
      have hne : Lib.index l [UInt8.ofNat 46] ≠ -1 := fun e => h0 (by rw [e]; rfl)
      rw [List.map_cons, jn_cons _ _ (by simpa using splitK_ne _ _ _), split_back k]
      have := ix_back (l := l) (c := 46) (by decide) (by omega)
      exact this.symm
theorem split_hit {l : List UInt8} {A B : List Nat} {k : Nat} (h : nb l = A ++ 46 :: B) (hA : 46 ∉ A) : ∃ x r, Lib.splitK [UInt8.ofNat 46] 0 (k + 1) l = x :: Lib.splitK [UInt8.ofNat 46] 0 k r ∧ nb x = A ∧ nb r = B := by
  obtain ⟨h1, h2, h3⟩ := ix_at (by decide) h hA
  refine ⟨_, _, ?_, h2, h3⟩
  rw [Lib.splitK, h1]
  rw [if_neg (by simp)]
  rfl
theorem dec_no {n c : Nat} (hc : c < 48) : c ∉ dec n := fun h => by have := dec_ge n c h; omega
theorem dec_no58 {n : Nat} : 58 ∉ dec n := fun h => by have := dec_le n 58 h; omega
/-- an address's four numbers -/
theorem split_txt {l : List UInt8} {ip : Nat} (h : nb l = txt4 ip) : (Lib.splitK [UInt8.ofNat 46] 0 3 l).map nb = [dec (ip / 16777216), dec (ip / 65536 % 256), dec (ip / 256 % 256), dec (ip % 256)] := by
  have e : txt4 ip = dec (ip / 16777216) ++ 46 :: (dec (ip / 65536 % 256) ++ 46 :: (dec (ip / 256 % 256) ++ 46 :: dec (ip % 256))) := by
    unfold txt4
    simp [List.append_assoc]
  rw [e] at h
  obtain ⟨x, r, e1, hx, hr⟩ := split_hit (k := 2) h (dec_no (by decide))
  obtain ⟨y, r2, e2, hy, hr2⟩ := split_hit (k := 1) hr (dec_no (by decide))
  obtain ⟨z, r3, e3, hz, hr3⟩ := split_hit (k := 0) hr2 (dec_no (by decide))
  rw [e1, e2, e3]
  simp [Lib.splitK, hx, hy, hz, hr3]
theorem txt4_no58 (ip : Nat) : 58 ∉ txt4 ip := by
  unfold txt4
  simp only [List.mem_append, List.mem_singleton, not_or]
  exact ⟨⟨⟨⟨⟨⟨dec_no58, by decide⟩, dec_no58⟩, by decide⟩, dec_no58⟩, by decide⟩, dec_no58⟩
theorem txt_cut {l : List UInt8} {ip po : Nat} (h : nb l = txt ip po) : nb (Lib.cut l [UInt8.ofNat 58]).1 = txt4 ip ∧ nb (Lib.cut l [UInt8.ofNat 58]).2.1 = dec po := by
  have e : txt ip po = txt4 ip ++ 58 :: dec po := by unfold txt; simp [List.append_assoc]
  rw [e] at h
  exact cut_at (by decide) h (txt4_no58 ip)
theorem dec_ne (n : Nat) : dec n ≠ [] := by
  by_cases h : n ≤ 9
  · rw [dec_small h]; simp
  · rw [dec_big h]; simp
theorem txt4_len (ip : Nat) : 7 ≤ (txt4 ip).length := by
  unfold txt4
  have a := List.length_pos_iff.2 (dec_ne (ip / 16777216))
  have b := List.length_pos_iff.2 (dec_ne (ip / 65536 % 256))
  have c := List.length_pos_iff.2 (dec_ne (ip / 256 % 256))
  have d := List.length_pos_iff.2 (dec_ne (ip % 256))
  simp only [List.length_append, List.length_singleton]
  omega
/-- the join of the four -/
theorem join_txt (a b c d : List UInt8) : nb (Lib.join [a, b, c, d] [UInt8.ofNat 46]) = nb a ++ [46] ++ nb b ++ [46] ++ nb c ++ [46] ++ nb d := by
  simp [Lib.join, List.intercalate, nb]
/-- what four numbers below 256 make -/
theorem v256_four (a b c d : Nat) (ha : a ≤ 255) (hb : b ≤ 255) (hc : c ≤ 255) (hd : d ≤ 255) : v256 [a, b, c, d] / 16777216 = a ∧ v256 [a, b, c, d] / 65536 % 256 = b ∧ v256 [a, b, c, d] / 256 % 256 = c ∧ v256 [a, b, c, d] % 256 = d ∧ v256 [a, b, c, d] ≤ 4294967295 := by
  simp [v256]
  omega
end Go.Proofs.YtpphpnnehljekaaDoor.TupMath2
