/-
  Laws for a proof of package pkt: 5 texts in one.
-/
import GoSem.Claim
import Derived.RowKit
namespace Go.Proofs.YtpmnmnflaijaaaaGreat.TupMath
set_option linter.unusedVariables false
def bz (s : ByteArray) : List Nat := s.data.toList.map UInt8.toNat
theorem bz_len (s : ByteArray) : (bz s).length = s.size := by
 unfold bz; rw [List.length_map, Array.length_toList]; rfl
theorem bz_le (s : ByteArray) : ∀ x ∈ bz s, x ≤ 255 := by
 intro x hx
 unfold bz at hx
 obtain ⟨y, _, rfl⟩ := List.mem_map.1 hx
 have := y.toNat_lt
 omega
theorem bz_at (s : ByteArray) (i : Nat) (h : i < s.size) : (bz s)[i]? = some s[i].toNat := by
 unfold bz
 rw [List.getElem?_map, Array.getElem?_toList, Array.getElem?_eq_getElem h]
 rfl
theorem bz_append (s t : ByteArray) : bz (s ++ t) = bz s ++ bz t := by
 unfold bz
 rw [ByteArray.data_append, Array.toList_append, List.map_append]
theorem bz_inj {s t : ByteArray} (h : bz s = bz t) : s = t := by
 obtain ⟨⟨l⟩⟩ := s
 obtain ⟨⟨m⟩⟩ := t
 unfold bz at h
 simp only at h
 have hl : l = m := by
   have inj : ∀ x y : UInt8, x.toNat = y.toNat → x = y := fun x y e => UInt8.toNat_inj.1 e
   exact (List.map_inj_right inj).1 h
 rw [hl]
theorem bz_extract (s : ByteArray) (a b : Nat) (hb : b ≤ s.size) : bz (s.extract a b) = ((bz s).take b).drop a := by
 unfold bz
 rw [ByteArray.data_extract, Array.toList_extract]
 simp [List.extract, List.map_take, List.map_drop, List.drop_take]
def ofB (l : List Nat) : ByteArray := ⟨(l.map UInt8.ofNat).toArray⟩
theorem bz_ofB {l : List Nat} (h : ∀ x ∈ l, x ≤ 255) : bz (ofB l) = l := by
 unfold bz ofB
 simp only [List.map_map]
 conv => rhs; rw [← List.map_id l]
 apply List.map_congr_left
 intro x hx
 have := h x hx
 simp
 omega
theorem ofB_size (l : List Nat) : (ofB l).size = l.length := by
 unfold ofB
 show ((l.map UInt8.ofNat).toArray).size = _
 simp
def val (l : List Nat) : Nat := l.foldl (fun t d => 10 * t + (d - 48)) 0
def pre : Nat → List Nat → List Nat
 | 0, _ => []
 | _ + 1, [] => []
 | f + 1, x :: l => if 48 ≤ x ∧ x ≤ 57 then x :: pre f l else []
def v256 (l : List Nat) : Nat := l.foldl (fun t x => t * 256 + x) 0
theorem v256_snoc (l : List Nat) (x : Nat) : v256 (l ++ [x]) = v256 l * 256 + x := by simp [v256]
theorem v256_lt (l : List Nat) (h : ∀ x ∈ l, x ≤ 255) : v256 l < 256 ^ l.length := by
 have key : ∀ (l : List Nat) (t k : Nat), (∀ x ∈ l, x ≤ 255) → t < 256 ^ k → l.foldl (fun t x => t * 256 + x) t < 256 ^ (k + l.length) := by
   intro l
   induction l with
   | nil => intro t k _ h; simpa using h
   | cons x l ih =>
     intro t k hl ht
     have hx := hl x (by simp)
     have := ih (t * 256 + x) (k + 1) (fun z hz => hl z (by simp [hz])) (by rw [Nat.pow_succ]; omega)
     rw [List.foldl_cons, List.length_cons]
     have e : k + (l.length + 1) = k + 1 + l.length := by omega
     rw [e]
     exact this
 have := key l 0 0 h (by decide)
 simpa [v256] using this
theorem take_snoc {l : List Nat} {k x : Nat} (h : l[k]? = some x) : l.take (k + 1) = l.take k ++ [x] := by
 obtain ⟨hk, hx⟩ := List.getElem?_eq_some_iff.1 h
 rw [List.take_succ_eq_append_getElem hk, hx]
end Go.Proofs.YtpmnmnflaijaaaaGreat.TupMath
namespace Go.Proofs.YtpmnmnflaijaaaaGreat.SumMath
set_option linter.unusedVariables false
def ones (x : Nat) : Nat := if x = 0 then 0 else (x - 1) % 65535 + 1
theorem ones_le (x : Nat) : ones x ≤ 65535 := by unfold ones; split <;> omega
theorem ones_small {x : Nat} (h : x ≤ 65535) : ones x = x := by unfold ones; split <;> omega
theorem ones_fold {x : Nat} (h : 65535 < x) : ones (x % 65536 + x / 65536) = ones x := by unfold ones; split <;> split <;> omega
theorem ones_add (x y : Nat) : ones (ones x + y) = ones (x + y) := by
 have e : ones x + y = 0 ↔ x + y = 0 := by unfold ones; split <;> omega
 by_cases h : x + y = 0
 · rw [h, e.2 h]
 · have h' : ¬ (ones x + y = 0) := fun k => h (e.1 k)
   have e2 : (ones x + y - 1) % 65535 = (x + y - 1) % 65535 := by
     unfold ones at h' ⊢
     split <;> split at h' <;> omega
   unfold ones at e2 h' ⊢
   rw [if_neg h', if_neg h, e2]
def pl (a b : Nat) : Nat := (a + b) % 65536 + (a + b) / 65536
theorem pl_ones {a b : Nat} (ha : a ≤ 65535) (hb : b ≤ 65535) : pl a b = ones (a + b) := by unfold pl ones; split <;> omega
def tu (s w n : Nat) : Nat := 65535 - ones ((65535 - s) + (65535 - w) + n)
theorem tu_le (s w n : Nat) : tu s w n ≤ 65535 := by unfold tu; omega
def wsum : List Nat → Nat
 | [] => 0
 | [a] => a * 256
 | a :: b :: r => a * 256 + b + wsum r
def cs (l : List Nat) : Nat := 65535 - ones (wsum l)
theorem cs_le (l : List Nat) : cs l ≤ 65535 := by unfold cs; omega
theorem wsum_append : ∀ (a b : List Nat), a.length % 2 = 0 → wsum (a ++ b) = wsum a + wsum b
 | [], b, _ => by simp [wsum]
 | [x], b, h => by simp at h
 | x :: y :: r, b, h => by
   have ih := wsum_append r b (by simp at h; omega)
   simp only [List.cons_append, wsum, ih]
   omega
def stp : List Nat × Option Nat → Nat → List Nat × Option Nat
 | (ws, none), x => (ws, some x)
 | (ws, some y), x => (ws ++ [y * 256 + x], none)
def st (l : List Nat) : List Nat × Option Nat := l.foldl stp ([], none)
def fin : List Nat × Option Nat → List Nat
 | (ws, none) => ws
 | (ws, some y) => ws ++ [y * 256]
def wl (l : List Nat) : List Nat := fin (st l)
theorem st_snoc (l : List Nat) (x : Nat) : st (l ++ [x]) = stp (st l) x := by simp [st]
theorem fold_sum : ∀ (l ws : List Nat), (fin (l.foldl stp (ws, none))).sum = ws.sum + wsum l
 | [], ws => by simp [fin, wsum]
 | [x], ws => by simp [fin, wsum, stp]
 | x :: y :: r, ws => by
   have ih := fold_sum r (ws ++ [x * 256 + y])
   simp only [List.foldl_cons, stp, ih, List.sum_append, List.sum_cons, List.sum_nil, wsum]
   omega
theorem wl_sum (l : List Nat) : (wl l).sum = wsum l := by
 have := fold_sum l []
 simpa [wl, st] using this
theorem stp_len : ∀ (l : List Nat) (p : List Nat × Option Nat), (l.foldl stp p).1.length ≤ p.1.length + l.length
 | [], p => by simp
 | x :: l, (ws, none) => by
   have ih := stp_len l (stp (ws, none) x)
   simp only [List.foldl_cons, stp, List.length_cons] at ih ⊢
   omega
 | x :: l, (ws, some y) => by
   have ih := stp_len l (stp (ws, some y) x)
   simp only [List.foldl_cons, stp, List.length_cons, List.length_append, List.length_nil] at ih ⊢
   omega
theorem st_len (l : List Nat) : (st l).1.length ≤ l.length := by
 have := stp_len l ([], none)
 simpa [st] using this
def fo (ws : List Nat) : Nat := ws.foldl (fun t w => ones (t + w)) 0
theorem fo_snoc (ws : List Nat) (w : Nat) : fo (ws ++ [w]) = ones (fo ws + w) := by simp [fo]
theorem foldl_ones : ∀ (ws : List Nat) (t : Nat), t ≤ 65535 → ws.foldl (fun t w => ones (t + w)) t = ones (t + ws.sum)
 | [], t, h => by simp [ones_small h]
 | w :: ws, t, h => by
   rw [List.foldl_cons, foldl_ones ws _ (ones_le _), ones_add, List.sum_cons, Nat.add_assoc]
theorem fo_sum (ws : List Nat) : fo ws = ones ws.sum := by unfold fo; rw [foldl_ones ws 0 (by omega)]; simp
theorem fo_le (ws : List Nat) : fo ws ≤ 65535 := by rw [fo_sum]; exact ones_le _
def wAt (l : List Nat) (i : Nat) : Nat := l[i]?.getD 0 * 256 + l[i + 1]?.getD 0
theorem wsum_drop (l : List Nat) (i : Nat) (h : i < l.length) : wsum (l.drop i) = wAt l i + wsum (l.drop (i + 2)) := by
 rcases Nat.lt_or_ge (i + 1) l.length with h2 | h2
 · rw [List.drop_eq_getElem_cons h, List.drop_eq_getElem_cons h2]
   simp [wAt, wsum, h, h2]
 · rw [List.drop_eq_getElem_cons h, List.drop_of_length_le (l := l) (i := i + 1) (by omega), List.drop_of_length_le (l := l) (i := i + 2) (by omega)]
   simp [wAt, wsum, h, List.getElem?_eq_none h2]
theorem wsum_take (l : List Nat) (i : Nat) (hi : i % 2 = 0) (h : i + 2 ≤ l.length) : wsum (l.take (i + 2)) = wsum (l.take i) + wAt l i := by
 have e1 := wsum_append (l.take (i + 2)) (l.drop (i + 2)) (by simp; omega)
 have e2 := wsum_append (l.take i) (l.drop i) (by simp; omega)
 have e3 := wsum_drop l i (by omega)
 rw [List.take_append_drop] at e1 e2
 omega
theorem wAt_le {l : List Nat} (hl : ∀ x ∈ l, x ≤ 255) (i : Nat) : wAt l i ≤ 65535 := by
 have key : ∀ j : Nat, l[j]?.getD 0 ≤ 255 := by
   intro j
   rcases Nat.lt_or_ge j l.length with h | h
   · rw [List.getElem?_eq_getElem h]; exact hl _ (List.getElem_mem h)
   · rw [List.getElem?_eq_none h]; simp
 have := key i
 have := key (i + 1)
 unfold wAt
 omega
def tus (s : Nat) (a b : List Nat) : Nat → Nat
 | 0 => s
 | k + 1 => tu (tus s a b k) (wAt a (2 * k)) (wAt b (2 * k))
theorem tus_le (s : Nat) (hs : s ≤ 65535) (a b : List Nat) (k : Nat) : tus s a b k ≤ 65535 := by
 cases k with
 | zero => exact hs
 | succ k => exact tu_le _ _ _
end Go.Proofs.YtpmnmnflaijaaaaGreat.SumMath
namespace Go.Proofs.YtpmnmnflaijaaaaGreat.IpMath
open TupMath SumMath
set_option linter.unusedVariables false
def w2 (n : Nat) : List Nat := [n / 256, n % 256]
def w4 (n : Nat) : List Nat := [n / 16777216, n / 65536 % 256, n / 256 % 256, n % 256]
structure Hd where
 src : Nat
 dst : Nat
 proto : Nat
 ttl : Nat
 tos : Nat
 id : Nat
 df : Bool
structure Hd.ok (h : Hd) : Prop where
 src : h.src ≤ 4294967295
 dst : h.dst ≤ 4294967295
 proto : h.proto ≤ 255
 ttl : h.ttl ≤ 255
 tos : h.tos ≤ 255
 id : h.id ≤ 65535
def zero : Hd := ⟨0, 0, 0, 0, 0, 0, false⟩
def hd (h : Hd) (n s : Nat) : List Nat := [69, h.tos] ++ w2 n ++ w2 h.id ++ [if h.df then 64 else 0, 0] ++ [h.ttl, h.proto] ++ w2 s ++ w4 h.src ++ w4 h.dst
theorem hd_len (h : Hd) (n s : Nat) : (hd h n s).length = 20 := rfl
theorem hd_le (h : Hd) (k : h.ok) (n s : Nat) (hn : n ≤ 65535) (hs : s ≤ 65535) : ∀ x ∈ hd h n s, x ≤ 255 := by
 intro x hx
 have := k.src; have := k.dst; have := k.proto; have := k.ttl; have := k.tos; have := k.id
 simp only [hd, w2, w4, List.cons_append, List.nil_append, List.mem_cons, List.not_mem_nil, or_false] at hx
 rcases hx with rfl | rfl | rfl | rfl | rfl | rfl | h | rfl | rfl | rfl | rfl | rfl | rfl | rfl | rfl | rfl | rfl | rfl | rfl | rfl
 all_goals first
   | omega
   | (subst h; split <;> omega)
theorem hd_wsum (h : Hd) (n s : Nat) (hs : s ≤ 65535) : wsum (hd h n s) = wsum (hd h n 0) + s := by
 simp only [hd, w2, w4, List.cons_append, List.nil_append, wsum]
 omega
theorem hd_pos (h : Hd) (n s : Nat) : 0 < wsum (hd h n s) := by
 simp only [hd, w2, w4, List.cons_append, List.nil_append, wsum]
 omega
def pkt (h : Hd) (l : List Nat) : List Nat := hd h (20 + l.length) (cs (hd h (20 + l.length) 0)) ++ l
theorem pkt_len (h : Hd) (l : List Nat) : (pkt h l).length = 20 + l.length := by unfold pkt; rw [List.length_append, hd_len]
theorem pkt_le (h : Hd) (k : h.ok) (l : List Nat) (hl : ∀ x ∈ l, x ≤ 255) (hn : 20 + l.length ≤ 65535) : ∀ x ∈ pkt h l, x ≤ 255 := by
 intro x hx
 rcases List.mem_append.1 hx with hx | hx
 · exact hd_le h k _ _ hn (cs_le _) x hx
 · exact hl x hx
theorem cs_zero (l : List Nat) : cs l = 0 ↔ 0 < wsum l ∧ wsum l % 65535 = 0 := by
 unfold cs ones
 have := Nat.mod_lt (wsum l - 1) (show 0 < 65535 by decide)
 split <;> omega
theorem head_right (h : Hd) (n : Nat) : cs (hd h n (cs (hd h n 0))) = 0 := by
 rw [cs_zero]
 refine ⟨hd_pos _ _ _, ?_⟩
 rw [hd_wsum h n _ (cs_le _)]
 have hp := hd_pos h n 0
 unfold cs
 generalize wsum (hd h n 0) = x at hp
 unfold ones
 rw [if_neg (by omega)]
 omega
def at0 (s : List Nat) (i : Nat) : Nat := s[i]?.getD 0
def err (s : List Nat) : Nat :=
 if s.length < 20 then 50 else if at0 s 0 / 16 ≠ 4 then 51 else if at0 s 0 % 16 ≠ 5 then 52 else if at0 s 2 * 256 + at0 s 3 ≠ s.length then 53 else if cs (s.take 20) ≠ 0 then 55
 else if (at0 s 6 ≠ 0 ∧ at0 s 6 ≠ 64) ∨ at0 s 7 ≠ 0 then 54 else 0
def rd (s : List Nat) : Hd :=
 ⟨at0 s 12 * 16777216 + at0 s 13 * 65536 + at0 s 14 * 256 + at0 s 15, at0 s 16 * 16777216 + at0 s 17 * 65536 + at0 s 18 * 256 + at0 s 19, at0 s 9, at0 s 8, at0 s 1, at0 s 4 * 256 + at0 s 5, at0 s 6 == 64⟩
theorem at_app {a b : List Nat} {i : Nat} (h : i < a.length) : at0 (a ++ b) i = at0 a i := by unfold at0; rw [List.getElem?_append_left h]
theorem at_take {a : List Nat} {m i : Nat} (h : i < m) : at0 (a.take m) i = at0 a i := by unfold at0; rw [List.getElem?_take_of_lt h]
theorem at_byte (s : ByteArray) (i : Nat) (h : i < s.size) : s[i].toNat = at0 (bz s) i := by unfold at0; rw [bz_at s i h]; rfl
theorem at_le (s : ByteArray) (i : Nat) : at0 (bz s) i ≤ 255 := by
 unfold at0
 cases h : (bz s)[i]? with
 | none => simp
 | some x => exact bz_le s x (List.mem_of_getElem? h)
theorem sub2 (s : ByteArray) (i : Nat) (h : i + 2 ≤ s.size) : v256 (bz (s.extract i (i + 2))) = at0 (bz s) i * 256 + at0 (bz s) (i + 1) := by
 have h0 := bz_at s i (by omega)
 have h1 := bz_at s (i + 1) (by omega)
 rw [bz_extract s i (i + 2) h]
 have e : ((bz s).take (i + 2)).drop i = [s[i].toNat, s[i + 1].toNat] := by
   rw [take_snoc (show (bz s)[i + 1]? = some _ from h1), take_snoc h0, List.append_assoc, List.drop_left' (by rw [List.length_take, bz_len]; omega)]
   rfl
 rw [e, at_byte s i (by omega), at_byte s (i + 1) (by omega)]
 simp [v256]
theorem sub4 (s : ByteArray) (i : Nat) (h : i + 4 ≤ s.size) : v256 (bz (s.extract i (i + 4))) = at0 (bz s) i * 16777216 + at0 (bz s) (i + 1) * 65536 + at0 (bz s) (i + 2) * 256 + at0 (bz s) (i + 3) := by
 have h0 := bz_at s i (by omega)
 have h1 := bz_at s (i + 1) (by omega)
 have h2 := bz_at s (i + 2) (by omega)
 have h3 := bz_at s (i + 3) (by omega)
 rw [bz_extract s i (i + 4) h]
 have e : ((bz s).take (i + 4)).drop i = [s[i].toNat, s[i + 1].toNat, s[i + 2].toNat, s[i + 3].toNat] := by
   rw [take_snoc (show (bz s)[i + 3]? = some _ from h3), take_snoc (show (bz s)[i + 2]? = some _ from h2), take_snoc (show (bz s)[i + 1]? = some _ from h1), take_snoc h0, List.append_assoc, List.append_assoc, List.append_assoc, List.drop_left' (by rw [List.length_take, bz_len]; omega)]
   rfl
 rw [e, at_byte s i (by omega), at_byte s (i + 1) (by omega), at_byte s (i + 2) (by omega), at_byte s (i + 3) (by omega)]
 simp [v256]
 omega
end Go.Proofs.YtpmnmnflaijaaaaGreat.IpMath
namespace Go.Proofs.YtpmnmnflaijaaaaGreat.OptMath
open TupMath SumMath IpMath
set_option linter.unusedVariables false
set_option linter.unusedSimpArgs false
structure Opn where
 mss : Nat
 scale : Int
 sack : Bool
 blocks : List (Nat × Nat)
 time : Bool
 val : Nat
 echo : Nat
deriving DecidableEq
structure Opn.ok (o : Opn) : Prop where
 mss : o.mss ≤ 65535
 blocks : ∀ p ∈ o.blocks, p.1 ≤ 4294967295 ∧ p.2 ≤ 4294967295
 val : o.val ≤ 4294967295
 echo : o.echo ≤ 4294967295
def none0 : Opn := ⟨0, -1, false, [], false, 0, 0⟩
def zeroO : Opn := ⟨0, 0, false, [], false, 0, 0⟩
def blkB (L : List (Nat × Nat)) : List Nat := L.flatMap fun p => w4 p.1 ++ w4 p.2
theorem blkB_len (L : List (Nat × Nat)) : (blkB L).length = 8 * L.length := by
 unfold blkB
 induction L with
 | nil => rfl
 | cons a l ih => rw [List.flatMap_cons, List.length_append, ih]; simp [w4]; omega
def sMss (o : Opn) : List Nat := if o.mss ≠ 0 then [2, 4] ++ w2 o.mss else []
def sScale (o : Opn) : List Nat := if 0 ≤ o.scale then [1, 3, 3, o.scale.toNat] else []
def sSack (o : Opn) : List Nat := if o.sack then [1, 1, 4, 2] else []
def sTime (o : Opn) : List Nat := if o.time then [1, 1, 8, 10] ++ (w4 o.val ++ w4 o.echo) else []
def sBlocks (o : Opn) : List Nat := if 0 < o.blocks.length then [1, 1, 5, 2 + 8 * o.blocks.length] ++ blkB o.blocks else []
def rawO (o : Opn) : List Nat := sMss o ++ (sScale o ++ (sSack o ++ (sTime o ++ sBlocks o)))
def mayO (o : Opn) : Bool := decide (-1 ≤ o.scale) && decide (o.scale ≤ 14) && decide (o.blocks.length ≤ 4) && (o.time || (decide (o.val = 0) && decide (o.echo = 0))) && decide ((rawO o).length ≤ 40)
structure May (o : Opn) : Prop where
 lo : -1 ≤ o.scale
 hi : o.scale ≤ 14
 few : o.blocks.length ≤ 4
 time : o.time = false → o.val = 0 ∧ o.echo = 0
 most : (rawO o).length ≤ 40
theorem may_of {o : Opn} (h : mayO o = true) : May o := by
 unfold mayO at h
 simp only [Bool.and_eq_true, decide_eq_true_eq, Bool.or_eq_true] at h
 exact ⟨h.1.1.1.1, h.1.1.1.2, h.1.1.2, fun hf => by rcases h.1.2 with h1 | h1; rw [hf] at h1; cases h1; exact h1, h.2⟩
theorem of_may {o : Opn} (m : May o) : mayO o = true := by
 unfold mayO
 simp only [Bool.and_eq_true, decide_eq_true_eq, Bool.or_eq_true]
 refine ⟨⟨⟨⟨m.lo, m.hi⟩, m.few⟩, ?_⟩, m.most⟩
 cases h : o.time
 · exact .inr (m.time h)
 · exact .inl rfl
def right (k n : Nat) : Bool :=
 if k = 2 then n == 4 else if k = 3 then n == 3 else if k = 4 then n == 2 else if k = 5 then n == 10 || n == 18 || n == 26 || n == 34 else if k = 8 then n == 10 else decide (2 ≤ n)
def known (k : Nat) : Bool := decide (2 ≤ k ∧ k ≤ 5) || k == 8
theorem right_ge {k n : Nat} (h : right k n = true) : 2 ≤ n := by
 unfold right at h
 repeat' split at h
 all_goals simp at h
 all_goals omega
def its (l : List Nat) (met : List Nat) : Option (List (Nat × List Nat)) :=
 match l with
 | [] => some []
 | k :: r =>
   if k = 0 then some [] else if k = 1 then its r met
   else match r with
     | [] => none
     | n :: q => if right k n = true ∧ n ≤ q.length + 2 ∧ ¬ (k ∈ met ∧ known k = true) then (its (q.drop (n - 2)) (k :: met)).map ((k, q.take (n - 2)) :: ·) else none
termination_by l.length
decreasing_by all_goals (simp only [List.length_cons, List.length_drop]; omega)
theorem its_nil (met : List Nat) : its [] met = some [] := by rw [its.eq_def]
theorem its_zero (r met : List Nat) : its (0 :: r) met = some [] := by rw [its.eq_def]; rfl
theorem its_one (r met : List Nat) : its (1 :: r) met = its r met := by rw [its.eq_def]; rfl
theorem its_bare {k : Nat} (met : List Nat) (h0 : k ≠ 0) (h1 : k ≠ 1) : its [k] met = none := by rw [its.eq_def]; simp only; rw [if_neg h0, if_neg h1]
theorem its_ok {k n : Nat} {p r : List Nat} {met : List Nat} (h0 : k ≠ 0) (h1 : k ≠ 1) (hr : right k n = true) (hp : p.length + 2 = n) (hm : known k = true → k ∉ met) :
   its (k :: n :: (p ++ r)) met = (its r (k :: met)).map ((k, p) :: ·) := by
 have e : n - 2 = p.length := by omega
 rw [its.eq_def]
 simp only
 rw [if_neg h0, if_neg h1]
 rw [if_pos ⟨hr, by rw [List.length_append]; omega, fun h => hm h.2 h.1⟩, e, List.drop_left' rfl, List.take_left' rfl]
theorem its_bad {k n : Nat} {q : List Nat} {met : List Nat} (h0 : k ≠ 0) (h1 : k ≠ 1) (h : ¬ (right k n = true ∧ n ≤ q.length + 2 ∧ ¬ (k ∈ met ∧ known k = true))) : its (k :: n :: q) met = none := by
 rw [its.eq_def]
 simp only
 rw [if_neg h0, if_neg h1]
 rw [if_neg h]
def prs : List Nat → List (Nat × Nat)
 | a :: b :: c :: d :: e :: f :: g :: h :: r => (a * 16777216 + b * 65536 + c * 256 + d, e * 16777216 + f * 65536 + g * 256 + h) :: prs r
 | _ => []
def tk (o : Opn) (x : Nat × List Nat) : Option Opn :=
 if x.1 = 2 then (if v256 x.2 = 0 then none else some { o with mss := v256 x.2 })
 else if x.1 = 3 then some { o with scale := min (at0 x.2 0 : Int) 14 }
 else if x.1 = 4 then some { o with sack := true }
 else if x.1 = 5 then some { o with blocks := o.blocks ++ prs x.2 }
 else if x.1 = 8 then some { o with time := true, val := v256 (x.2.take 4), echo := v256 (x.2.drop 4) }
 else some o
def decO (l : List Nat) : Option Opn := (its l []).bind fun L => L.foldlM tk none0
def iMss (o : Opn) : List (Nat × List Nat) := if o.mss ≠ 0 then [(2, w2 o.mss)] else []
def iScale (o : Opn) : List (Nat × List Nat) := if 0 ≤ o.scale then [(3, [o.scale.toNat])] else []
def iSack (o : Opn) : List (Nat × List Nat) := if o.sack then [(4, [])] else []
def iTime (o : Opn) : List (Nat × List Nat) := if o.time then [(8, w4 o.val ++ w4 o.echo)] else []
def iBlocks (o : Opn) : List (Nat × List Nat) := if 0 < o.blocks.length then [(5, blkB o.blocks)] else []
def itsO (o : Opn) : List (Nat × List Nat) := iMss o ++ (iScale o ++ (iSack o ++ (iTime o ++ iBlocks o)))
theorem map_nil {α : Type} (x : Option (List α)) : x.map ([] ++ ·) = x := by cases x <;> rfl
theorem map_app {α : Type} (a b : List α) (x : Option (List α)) : (x.map (b ++ ·)).map (a ++ ·) = x.map ((a ++ b) ++ ·) := by cases x <;> simp
theorem its_mss (o : Opn) (r met : List Nat) (h : 2 ∉ met) : its (sMss o ++ r) met = (its r (if o.mss ≠ 0 then 2 :: met else met)).map (iMss o ++ ·) := by
 unfold sMss iMss
 by_cases c : o.mss ≠ 0
 · simp only [if_pos c]
   exact its_ok (by decide) (by decide) rfl rfl (fun _ => h)
 · simp only [if_neg c]
   exact (map_nil _).symm
theorem its_scale (o : Opn) (r met : List Nat) (h : 3 ∉ met) : its (sScale o ++ r) met = (its r (if 0 ≤ o.scale then 3 :: met else met)).map (iScale o ++ ·) := by
 unfold sScale iScale
 by_cases c : 0 ≤ o.scale
 · simp only [if_pos c]
   show its (1 :: 3 :: 3 :: ([o.scale.toNat] ++ r)) met = _
   rw [its_one]
   exact its_ok (by decide) (by decide) rfl rfl (fun _ => h)
 · simp only [if_neg c]
   exact (map_nil _).symm
theorem its_sack (o : Opn) (r met : List Nat) (h : 4 ∉ met) : its (sSack o ++ r) met = (its r (if o.sack = true then 4 :: met else met)).map (iSack o ++ ·) := by
 unfold sSack iSack
 by_cases c : o.sack = true
 · simp only [if_pos c]
   show its (1 :: 1 :: 4 :: 2 :: ([] ++ r)) met = _
   rw [its_one, its_one]
   exact its_ok (by decide) (by decide) rfl rfl (fun _ => h)
 · simp only [if_neg c]
   exact (map_nil _).symm
theorem its_time (o : Opn) (r met : List Nat) (h : 8 ∉ met) : its (sTime o ++ r) met = (its r (if o.time = true then 8 :: met else met)).map (iTime o ++ ·) := by
 unfold sTime iTime
 by_cases c : o.time = true
 · simp only [if_pos c]
   show its (1 :: 1 :: 8 :: 10 :: ((w4 o.val ++ w4 o.echo) ++ r)) met = _
   rw [its_one, its_one]
   exact its_ok (by decide) (by decide) rfl rfl (fun _ => h)
 · simp only [if_neg c]
   exact (map_nil _).symm
theorem its_blocks (o : Opn) (r met : List Nat) (h : 5 ∉ met) (hf : o.blocks.length ≤ 4) : its (sBlocks o ++ r) met = (its r (if 0 < o.blocks.length then 5 :: met else met)).map (iBlocks o ++ ·) := by
 unfold sBlocks iBlocks
 by_cases c : 0 < o.blocks.length
 · simp only [if_pos c]
   show its (1 :: 1 :: 5 :: (2 + 8 * o.blocks.length) :: (blkB o.blocks ++ r)) met = _
   rw [its_one, its_one]
   refine its_ok (by decide) (by decide) ?_ (by rw [blkB_len]; omega) (fun _ => h)
   have h4 : o.blocks.length = 1 ∨ o.blocks.length = 2 ∨ o.blocks.length = 3 ∨ o.blocks.length = 4 := by omega
   rcases h4 with e | e | e | e <;> rw [e] <;> rfl
 · simp only [if_neg c]
   exact (map_nil _).symm
def metO (o : Opn) (met : List Nat) : List Nat :=
 let m1 := if o.mss ≠ 0 then 2 :: met else met
 let m2 := if 0 ≤ o.scale then 3 :: m1 else m1
 let m3 := if o.sack = true then 4 :: m2 else m2
 let m4 := if o.time = true then 8 :: m3 else m3
 if 0 < o.blocks.length then 5 :: m4 else m4
theorem its_raw (o : Opn) (r met : List Nat) (hf : o.blocks.length ≤ 4) (hm : ∀ k ∈ met, known k = false) : its (rawO o ++ r) met = (its r (metO o met)).map (itsO o ++ ·) := by
 have nm : ∀ k, known k = true → k ∉ met := fun k hk hmem => by rw [hm k hmem] at hk; cases hk
 have n2 := nm 2 rfl; have n3 := nm 3 rfl; have n4 := nm 4 rfl; have n5 := nm 5 rfl; have n8 := nm 8 rfl
 unfold rawO itsO metO
 simp only [List.append_assoc]
 rw [its_mss o _ met n2]
 generalize hm1 : (if o.mss ≠ 0 then 2 :: met else met) = m1
 have a3 : 3 ∉ m1 := by rw [← hm1]; split <;> simp [n3]
 have a4 : 4 ∉ m1 := by rw [← hm1]; split <;> simp [n4]
 have a5 : 5 ∉ m1 := by rw [← hm1]; split <;> simp [n5]
 have a8 : 8 ∉ m1 := by rw [← hm1]; split <;> simp [n8]
 rw [its_scale o _ m1 a3]
 generalize hm2 : (if 0 ≤ o.scale then 3 :: m1 else m1) = m2
 have b4 : 4 ∉ m2 := by rw [← hm2]; split <;> simp [a4]
 have b5 : 5 ∉ m2 := by rw [← hm2]; split <;> simp [a5]
 have b8 : 8 ∉ m2 := by rw [← hm2]; split <;> simp [a8]
 rw [its_sack o _ m2 b4]
 generalize hm3 : (if o.sack = true then 4 :: m2 else m2) = m3
 have c5 : 5 ∉ m3 := by rw [← hm3]; split <;> simp [b5]
 have c8 : 8 ∉ m3 := by rw [← hm3]; split <;> simp [b8]
 rw [its_time o _ m3 c8]
 generalize hm4 : (if o.time = true then 8 :: m3 else m3) = m4
 have d5 : 5 ∉ m4 := by rw [← hm4]; split <;> simp [c5]
 rw [its_blocks o _ m4 d5 hf]
 rw [map_app, map_app, map_app, map_app]
 simp only [List.append_assoc]
theorem v_w2 (n : Nat) (h : n ≤ 65535) : v256 (w2 n) = n := by simp only [v256, w2, List.foldl_cons, List.foldl_nil]; omega
theorem v_w4 (n : Nat) (h : n ≤ 4294967295) : v256 (w4 n) = n := by simp only [v256, w4, List.foldl_cons, List.foldl_nil]; omega
theorem prs_blk : ∀ (L : List (Nat × Nat)), (∀ p ∈ L, p.1 ≤ 4294967295 ∧ p.2 ≤ 4294967295) → prs (blkB L) = L
 | [], _ => rfl
 | p :: L, h => by
   have h1 := h p (by simp)
   have ih := prs_blk L (fun q hq => h q (by simp [hq]))
   show prs (w4 p.1 ++ w4 p.2 ++ blkB L) = _
   show (p.1 / 16777216 * 16777216 + p.1 / 65536 % 256 * 65536 + p.1 / 256 % 256 * 256 + p.1 % 256, p.2 / 16777216 * 16777216 + p.2 / 65536 % 256 * 65536 + p.2 / 256 % 256 * 256 + p.2 % 256) :: prs (blkB L) = _
   rw [ih]
   congr 1
   apply Prod.ext <;> simp only <;> omega
theorem fold_raw (o : Opn) (k : o.ok) (m : May o) : (itsO o).foldlM tk none0 = some o := by
 have := m.lo; have := m.hi; have kt := m.time
 unfold itsO
 have e1 : (iMss o).foldlM tk none0 = some { none0 with mss := o.mss } := by
   unfold iMss
   by_cases c : o.mss ≠ 0
   · rw [if_pos c]
     show (tk none0 (2, w2 o.mss)).bind some = _
     unfold tk
     simp only [v_w2 _ k.mss]
     rw [if_pos trivial, if_neg c]
     rfl
   · rw [if_neg c, Decidable.not_not.1 c]; rfl
 rw [List.foldlM_append, e1]
 simp only [Option.bind_eq_bind, Option.bind_some]
 have e2 : ∀ q : Opn, q.scale = -1 → (iScale o).foldlM tk q = some { q with scale := o.scale } := by
   intro q hq
   unfold iScale
   by_cases c : 0 ≤ o.scale
   · rw [if_pos c]
     show some { q with scale := min (at0 [o.scale.toNat] 0 : Int) 14 } = _
     have : min ((at0 [o.scale.toNat] 0 : Nat) : Int) 14 = o.scale := by
       show min ((o.scale.toNat : Nat) : Int) 14 = _
       omega
     rw [this]
   · rw [if_neg c]
     have : o.scale = -1 := by omega
     rw [this, ← hq]
     rfl
 rw [List.foldlM_append, e2 _ rfl]
 simp only [Option.bind_eq_bind, Option.bind_some]
 have e3 : ∀ q : Opn, q.sack = false → (iSack o).foldlM tk q = some { q with sack := o.sack } := by
   intro q hq
   unfold iSack
   cases c : o.sack
   · show some q = _
     rw [← hq]
   · rfl
 rw [List.foldlM_append, e3 _ rfl]
 simp only [Option.bind_eq_bind, Option.bind_some]
 have e4 : ∀ q : Opn, q.time = false → q.val = 0 → q.echo = 0 → (iTime o).foldlM tk q = some { q with time := o.time, val := o.val, echo := o.echo } := by
   intro q h1 h2 h3
   unfold iTime
   cases c : o.time
   · obtain ⟨t1, t2⟩ := kt c
     show some q = _
     rw [t1, t2]
     obtain ⟨a, b, c', d, e, f, g⟩ := q
     simp only at h1 h2 h3
     subst h1 h2 h3
     rfl
   · show some { q with time := true, val := v256 (w4 o.val), echo := v256 (w4 o.echo) } = _
     rw [v_w4 _ k.val, v_w4 _ k.echo]
 rw [List.foldlM_append, e4 _ rfl rfl rfl]
 simp only [Option.bind_eq_bind, Option.bind_some]
 unfold iBlocks
 by_cases c : 0 < o.blocks.length
 · rw [if_pos c]
   show some { none0 with mss := o.mss, scale := o.scale, sack := o.sack, time := o.time, val := o.val, echo := o.echo, blocks := [] ++ prs (blkB o.blocks) } = _
   rw [prs_blk _ k.blocks]
   rfl
 · rw [if_neg c]
   have : o.blocks = [] := List.eq_nil_of_length_eq_zero (by omega)
   show some { none0 with mss := o.mss, scale := o.scale, sack := o.sack, time := o.time, val := o.val, echo := o.echo } = _
   obtain ⟨a, b, c', d, e, f, g⟩ := o
   simp only at this
   subst this
   rfl
theorem dec_raw (o : Opn) (k : o.ok) (m : May o) : decO (rawO o) = some o := by
 have h := its_raw o [] [] m.few (by simp)
 rw [List.append_nil, its_nil] at h
 unfold decO
 rw [h]
 show ((itsO o ++ []).foldlM tk none0) = _
 rw [List.append_nil]
 exact fold_raw o k m
theorem raw_four (o : Opn) : (rawO o).length % 4 = 0 := by
 unfold rawO
 simp only [List.length_append]
 have h1 : (sMss o).length % 4 = 0 := by unfold sMss; split <;> simp [w2, w4]
 have h2 : (sScale o).length % 4 = 0 := by unfold sScale; split <;> simp [w2, w4]
 have h3 : (sSack o).length % 4 = 0 := by unfold sSack; split <;> simp [w2, w4]
 have h4 : (sTime o).length % 4 = 0 := by unfold sTime; split <;> simp [w2, w4]
 have h5 : (sBlocks o).length % 4 = 0 := by
   unfold sBlocks
   split
   · rw [List.length_append, blkB_len]; show (4 + _) % 4 = 0; omega
   · rfl
 omega
def plc (l : List Nat) (a : Nat) (met : List Nat) : Option (List Nat) :=
 if h : a < l.length then
   if at0 l a = 0 then some [] else if at0 l a = 1 then plc l (a + 1) met
   else if hr : a + 1 < l.length ∧ right (at0 l a) (at0 l (a + 1)) = true ∧ a + at0 l (a + 1) ≤ l.length ∧ ¬ (at0 l a ∈ met ∧ known (at0 l a) = true) then
     (plc l (a + at0 l (a + 1)) (at0 l a :: met)).map (a :: ·)
   else none
 else some []
termination_by l.length - a
decreasing_by
 · omega
 · have := right_ge hr.2.1
   omega
theorem plc_end {l : List Nat} {a : Nat} {met : List Nat} (h : ¬ a < l.length) : plc l a met = some [] := by rw [plc.eq_def, dif_neg h]
theorem plc_zero {l : List Nat} {a : Nat} {met : List Nat} (h : a < l.length) (h0 : at0 l a = 0) : plc l a met = some [] := by rw [plc.eq_def, dif_pos h, if_pos h0]
theorem plc_one {l : List Nat} {a : Nat} {met : List Nat} (h : a < l.length) (h1 : at0 l a = 1) : plc l a met = plc l (a + 1) met := by rw [plc.eq_def, dif_pos h, if_neg (by omega), if_pos h1]
theorem plc_ok {l : List Nat} {a : Nat} {met : List Nat} (h : a < l.length) (h0 : at0 l a ≠ 0) (h1 : at0 l a ≠ 1) (hr : a + 1 < l.length ∧ right (at0 l a) (at0 l (a + 1)) = true ∧ a + at0 l (a + 1) ≤ l.length ∧ ¬ (at0 l a ∈ met ∧ known (at0 l a) = true)) :
   plc l a met = (plc l (a + at0 l (a + 1)) (at0 l a :: met)).map (a :: ·) := by rw [plc.eq_def, dif_pos h, if_neg h0, if_neg h1, dif_pos hr]
theorem plc_bad {l : List Nat} {a : Nat} {met : List Nat} (h : a < l.length) (h0 : at0 l a ≠ 0) (h1 : at0 l a ≠ 1) (hr : ¬ (a + 1 < l.length ∧ right (at0 l a) (at0 l (a + 1)) = true ∧ a + at0 l (a + 1) ≤ l.length ∧ ¬ (at0 l a ∈ met ∧ known (at0 l a) = true))) :
   plc l a met = none := by rw [plc.eq_def, dif_pos h, if_neg h0, if_neg h1, dif_neg hr]
def itm (l : List Nat) (p : Nat) : Nat × List Nat := (at0 l p, (l.drop (p + 2)).take (at0 l (p + 1) - 2))
theorem drop_cons {l : List Nat} {a : Nat} (h : a < l.length) : l.drop a = at0 l a :: l.drop (a + 1) := by
 rw [List.drop_eq_getElem_cons h]
 unfold at0
 rw [List.getElem?_eq_getElem h]
 rfl
theorem its_plc (l : List Nat) : ∀ (m a : Nat) (met : List Nat), l.length - a ≤ m → its (l.drop a) met = (plc l a met).map (List.map (itm l)) := by
 intro m
 induction m with
 | zero =>
   intro a met h
   rw [List.drop_of_length_le (by omega), its_nil, plc_end (by omega)]
   rfl
 | succ m ih =>
   intro a met h
   by_cases ha : a < l.length
   · rw [drop_cons ha]
     by_cases h0 : at0 l a = 0
     · rw [plc_zero ha h0, h0, its_zero]; rfl
     by_cases h1 : at0 l a = 1
     · rw [plc_one ha h1, h1, its_one]
       exact ih (a + 1) met (by omega)
     by_cases hb : a + 1 < l.length
     · rw [drop_cons hb]
       by_cases hr : a + 1 < l.length ∧ right (at0 l a) (at0 l (a + 1)) = true ∧ a + at0 l (a + 1) ≤ l.length ∧ ¬ (at0 l a ∈ met ∧ known (at0 l a) = true)
       · have hn := right_ge hr.2.1
         rw [plc_ok ha h0 h1 hr]
         have e : l.drop (a + 1 + 1) = (l.drop (a + 2)).take (at0 l (a + 1) - 2) ++ l.drop (a + at0 l (a + 1)) := by
           have e2 : l.drop (a + at0 l (a + 1)) = (l.drop (a + 2)).drop (at0 l (a + 1) - 2) := by rw [List.drop_drop]; congr 1; omega
           rw [e2, List.take_append_drop]
         rw [e, its_ok h0 h1 hr.2.1 (by rw [List.length_take, List.length_drop]; omega) (fun hk hm => hr.2.2.2 ⟨hm, hk⟩), ih _ _ (by omega)]
         cases plc l (a + at0 l (a + 1)) (at0 l a :: met) <;> rfl
       · rw [plc_bad ha h0 h1 hr, its_bad h0 h1 (fun h => hr ⟨hb, h.1, by have h2 := h.2.1; rw [List.length_drop] at h2; omega, h.2.2⟩)]
         rfl
     · rw [List.drop_of_length_le (by omega), its_bare met h0 h1, plc_bad ha h0 h1 (fun h => hb h.1)]
       rfl
   · rw [List.drop_of_length_le (by omega), its_nil, plc_end ha]
     rfl
theorem plc_in (l : List Nat) : ∀ (m a : Nat) (met ps : List Nat), l.length - a ≤ m → plc l a met = some ps → ∀ p ∈ ps, a ≤ p ∧ p + 1 < l.length ∧ p + at0 l (p + 1) ≤ l.length ∧ right (at0 l p) (at0 l (p + 1)) = true ∧ at0 l p ≠ 0 ∧ at0 l p ≠ 1 := by
 intro m
 induction m with
 | zero =>
   intro a met ps h he
   rw [plc_end (by omega)] at he
   obtain rfl := Option.some.inj he
   intro p hp; cases hp
 | succ m ih =>
   intro a met ps h he p hp
   by_cases ha : a < l.length
   · by_cases h0 : at0 l a = 0
     · rw [plc_zero ha h0] at he
       obtain rfl := Option.some.inj he
       cases hp
     by_cases h1 : at0 l a = 1
     · rw [plc_one ha h1] at he
       obtain ⟨q1, q2⟩ := ih (a + 1) met ps (by omega) he p hp
       exact ⟨by omega, q2⟩
     by_cases hr : a + 1 < l.length ∧ right (at0 l a) (at0 l (a + 1)) = true ∧ a + at0 l (a + 1) ≤ l.length ∧ ¬ (at0 l a ∈ met ∧ known (at0 l a) = true)
     · have hn := right_ge hr.2.1
       rw [plc_ok ha h0 h1 hr] at he
       obtain ⟨qs, hq, rfl⟩ := Option.map_eq_some_iff.1 he
       rcases List.mem_cons.1 hp with rfl | hp
       · exact ⟨Nat.le_refl _, hr.1, hr.2.2.1, hr.2.1, h0, h1⟩
       · obtain ⟨q1, q2⟩ := ih _ _ qs (by omega) hq p hp
         exact ⟨by omega, q2⟩
     · rw [plc_bad ha h0 h1 hr] at he; cases he
   · rw [plc_end ha] at he
     obtain rfl := Option.some.inj he
     cases hp
def addw (p : List Nat) (x : Nat) : List Nat := w4 ((v256 p + x) % 4294967296)
theorem addw_len (p : List Nat) (x : Nat) : (addw p x).length = 4 := rfl
def addAll (x : Nat) : List Nat → List Nat
 | a :: b :: c :: d :: r => addw [a, b, c, d] x ++ addAll x r
 | r => r
theorem addAll_len (x : Nat) : ∀ (m : Nat) (l : List Nat), l.length ≤ m → (addAll x l).length = l.length
 | 0, l, h => by rw [List.eq_nil_of_length_eq_zero (show l.length = 0 by omega)]; rfl
 | m + 1, l, h => by
   match l with
   | [] => rfl
   | [_] => rfl
   | [_, _] => rfl
   | [_, _, _] => rfl
   | a :: b :: c :: d :: r =>
     have ih := addAll_len x m r (by simp at h; omega)
     show (addw [a, b, c, d] x ++ addAll x r).length = _
     rw [List.length_append, ih, addw_len]
     simp
     omega
def tp (b v e k : Nat) (p : List Nat) : List Nat := if k = 8 then addw (p.take 4) v ++ addw (p.drop 4) e else if k = 5 then addAll b p else p
theorem tp_len (b v e k : Nat) (p : List Nat) (h : right k (p.length + 2) = true) : (tp b v e k p).length = p.length := by
 unfold tp
 by_cases c8 : k = 8
 · subst c8
   rw [if_pos rfl, List.length_append, addw_len, addw_len]
   simp [right] at h
   omega
 · rw [if_neg c8]
   split
   · exact addAll_len b _ p (Nat.le_refl _)
   · rfl
def turnS (b v e : Nat) (l : List Nat) : List Nat :=
 match l with
 | [] => []
 | k :: r => if k = 0 then k :: r else if k = 1 then 1 :: turnS b v e r else match r with
   | [] => [k]
   | n :: q => k :: n :: (tp b v e k (q.take (n - 2)) ++ turnS b v e (q.drop (n - 2)))
termination_by l.length
decreasing_by all_goals (simp only [List.length_cons, List.length_drop]; omega)
theorem turnS_nil (b v e : Nat) : turnS b v e [] = [] := by rw [turnS.eq_def]
theorem turnS_zero (b v e : Nat) (r : List Nat) : turnS b v e (0 :: r) = 0 :: r := by rw [turnS.eq_def]; rfl
theorem turnS_one (b v e : Nat) (r : List Nat) : turnS b v e (1 :: r) = 1 :: turnS b v e r := by rw [turnS.eq_def]; rfl
theorem turnS_ok (b v e k n : Nat) (p r : List Nat) (h0 : k ≠ 0) (h1 : k ≠ 1) (hp : p.length + 2 = n) : turnS b v e (k :: n :: (p ++ r)) = k :: n :: (tp b v e k p ++ turnS b v e r) := by
 have e2 : n - 2 = p.length := by omega
 rw [turnS.eq_def]
 simp only
 rw [if_neg h0, if_neg h1, e2, List.drop_left' rfl, List.take_left' rfl]
theorem its_cases {l met : List Nat} {L : List (Nat × List Nat)} (h : its l met = some L) :
   (l = [] ∧ L = []) ∨ (∃ r, l = 0 :: r ∧ L = []) ∨ (∃ r, l = 1 :: r ∧ its r met = some L) ∨
     ∃ k p r L2, l = k :: (p.length + 2) :: (p ++ r) ∧ k ≠ 0 ∧ k ≠ 1 ∧ right k (p.length + 2) = true ∧ (known k = true → k ∉ met) ∧ its r (k :: met) = some L2 ∧ L = (k, p) :: L2 := by
 match l with
 | [] => rw [its_nil] at h; exact .inl ⟨rfl, (Option.some.inj h).symm⟩
 | k :: r =>
   by_cases h0 : k = 0
   · subst h0
     rw [its_zero] at h
     exact .inr (.inl ⟨r, rfl, (Option.some.inj h).symm⟩)
   by_cases h1 : k = 1
   · subst h1
     rw [its_one] at h
     exact .inr (.inr (.inl ⟨r, rfl, h⟩))
   match r with
   | [] => rw [its_bare met h0 h1] at h; cases h
   | n :: q =>
     by_cases hc : right k n = true ∧ n ≤ q.length + 2 ∧ ¬ (k ∈ met ∧ known k = true)
     · have hn := right_ge hc.1
       have hl : (q.take (n - 2)).length + 2 = n := by rw [List.length_take]; omega
       have hq : k :: n :: q = k :: ((q.take (n - 2)).length + 2) :: (q.take (n - 2) ++ q.drop (n - 2)) := by rw [hl, List.take_append_drop]
       rw [hq, its_ok h0 h1 (by rw [hl]; exact hc.1) rfl (fun hk hm => hc.2.2 ⟨hm, hk⟩)] at h
       obtain ⟨L2, h2, rfl⟩ := Option.map_eq_some_iff.1 h
       exact .inr (.inr (.inr ⟨k, q.take (n - 2), q.drop (n - 2), L2, hq, h0, h1, by rw [hl]; exact hc.1, fun hk hm => hc.2.2 ⟨hm, hk⟩, h2, rfl⟩))
     · rw [its_bad h0 h1 hc] at h; cases h
theorem its_in : ∀ (m : Nat) (l met : List Nat) (L : List (Nat × List Nat)), l.length ≤ m → its l met = some L → ∀ x ∈ L, right x.1 (x.2.length + 2) = true ∧ ∀ y ∈ x.2, y ∈ l := by
 intro m
 induction m with
 | zero =>
   intro l met L h he
   rw [List.eq_nil_of_length_eq_zero (show l.length = 0 by omega), its_nil] at he
   obtain rfl := Option.some.inj he
   intro x hx; cases hx
 | succ m ih =>
   intro l met L h he x hx
   rcases its_cases he with ⟨_, rfl⟩ | ⟨_, _, rfl⟩ | ⟨r, rfl, h2⟩ | ⟨k, p, r, L2, rfl, h0, h1, hr, _, h2, rfl⟩
   · cases hx
   · cases hx
   · obtain ⟨q1, q2⟩ := ih r met L (by simp at h; omega) h2 x hx
     exact ⟨q1, fun y hy => List.mem_cons_of_mem _ (q2 y hy)⟩
   · rcases List.mem_cons.1 hx with rfl | hx
     · exact ⟨hr, fun y hy => List.mem_cons_of_mem _ (List.mem_cons_of_mem _ (List.mem_append_left _ hy))⟩
     · obtain ⟨q1, q2⟩ := ih r _ L2 (by simp at h; omega) h2 x hx
       exact ⟨q1, fun y hy => List.mem_cons_of_mem _ (List.mem_cons_of_mem _ (List.mem_append_right _ (q2 y hy)))⟩
theorem its_turn (b v e : Nat) : ∀ (m : Nat) (l met : List Nat) (L : List (Nat × List Nat)), l.length ≤ m → its l met = some L → its (turnS b v e l) met = some (L.map fun x => (x.1, tp b v e x.1 x.2)) ∧ (turnS b v e l).length = l.length := by
 intro m
 induction m with
 | zero =>
   intro l met L h he
   rw [List.eq_nil_of_length_eq_zero (show l.length = 0 by omega)] at he ⊢
   rw [its_nil] at he
   obtain rfl := Option.some.inj he
   rw [turnS_nil, its_nil]
   exact ⟨rfl, rfl⟩
 | succ m ih =>
   intro l met L h he
   rcases its_cases he with ⟨rfl, rfl⟩ | ⟨r, rfl, rfl⟩ | ⟨r, rfl, h2⟩ | ⟨k, p, r, L2, rfl, h0, h1, hr, hm, h2, rfl⟩
   · rw [turnS_nil, its_nil]; exact ⟨rfl, rfl⟩
   · rw [turnS_zero, its_zero]; exact ⟨rfl, rfl⟩
   · obtain ⟨q1, q2⟩ := ih r met L (by simp at h; omega) h2
     rw [turnS_one, its_one, q1]
     exact ⟨rfl, by rw [List.length_cons, q2, List.length_cons]⟩
   · obtain ⟨q1, q2⟩ := ih r _ L2 (by simp at h; omega) h2
     have hl := tp_len b v e k p hr
     rw [turnS_ok b v e k _ p r h0 h1 rfl, its_ok h0 h1 hr (by rw [hl]) hm, q1]
     refine ⟨rfl, ?_⟩
     simp only [List.length_cons, List.length_append, hl, q2]
theorem v_addw (p : List Nat) (x : Nat) : v256 (addw p x) = (v256 p + x) % 4294967296 := v_w4 _ (by have := Nat.mod_lt (v256 p + x) (show 0 < 4294967296 by decide); omega)
def turnedO (b v e : Nat) (o : Opn) : Opn := { o with blocks := o.blocks.map fun p => ((p.1 + b) % 4294967296, (p.2 + b) % 4294967296), val := if o.time = true then (o.val + v) % 4294967296 else o.val, echo := if o.time = true then (o.echo + e) % 4294967296 else o.echo }
theorem prs_add (x : Nat) : ∀ (m : Nat) (l : List Nat), l.length ≤ m → l.length % 8 = 0 → (∀ z ∈ l, z ≤ 255) → prs (addAll x l) = (prs l).map fun p => ((p.1 + x) % 4294967296, (p.2 + x) % 4294967296)
 | 0, l, h, _, _ => by rw [List.eq_nil_of_length_eq_zero (show l.length = 0 by omega)]; rfl
 | m + 1, l, h, h8, hl => by
   match l with
   | [] => rfl
   | [_] => simp at h8
   | [_, _] => simp at h8
   | [_, _, _] => simp at h8
   | [_, _, _, _] => simp at h8
   | [_, _, _, _, _] => simp at h8
   | [_, _, _, _, _, _] => simp at h8
   | [_, _, _, _, _, _, _] => simp at h8
   | a :: b :: c :: d :: a' :: b' :: c' :: d' :: r =>
     have ih := prs_add x m r (by simp at h; omega) (by simp at h8; omega) (fun z hz => hl z (by simp [hz]))
     have e1 := v_addw [a, b, c, d] x
     have e2 := v_addw [a', b', c', d'] x
     have f1 : v256 [a, b, c, d] = a * 16777216 + b * 65536 + c * 256 + d := by simp only [v256, List.foldl_cons, List.foldl_nil]; omega
     have f2 : v256 [a', b', c', d'] = a' * 16777216 + b' * 65536 + c' * 256 + d' := by simp only [v256, List.foldl_cons, List.foldl_nil]; omega
     show prs (addw [a, b, c, d] x ++ (addw [a', b', c', d'] x ++ addAll x r)) = _
     obtain ⟨y0, y1, y2, y3, hy⟩ : ∃ y0 y1 y2 y3, addw [a, b, c, d] x = [y0, y1, y2, y3] := ⟨_, _, _, _, rfl⟩
     obtain ⟨z0, z1, z2, z3, hz⟩ : ∃ y0 y1 y2 y3, addw [a', b', c', d'] x = [y0, y1, y2, y3] := ⟨_, _, _, _, rfl⟩
     rw [hy] at e1 ⊢
     rw [hz] at e2 ⊢
     have g1 : v256 [y0, y1, y2, y3] = y0 * 16777216 + y1 * 65536 + y2 * 256 + y3 := by simp only [v256, List.foldl_cons, List.foldl_nil]; omega
     have g2 : v256 [z0, z1, z2, z3] = z0 * 16777216 + z1 * 65536 + z2 * 256 + z3 := by simp only [v256, List.foldl_cons, List.foldl_nil]; omega
     show (y0 * 16777216 + y1 * 65536 + y2 * 256 + y3, z0 * 16777216 + z1 * 65536 + z2 * 256 + z3) :: prs (addAll x r) = ((a * 16777216 + b * 65536 + c * 256 + d + x) % 4294967296, (a' * 16777216 + b' * 65536 + c' * 256 + d' + x) % 4294967296) :: (prs r).map _
     rw [ih, ← g1, ← g2, e1, e2, f1, f2]
theorem tk_turn (b v e : Nat) (o p : Opn) (x : Nat × List Nat) (hr : right x.1 (x.2.length + 2) = true) (hl : ∀ y ∈ x.2, y ≤ 255) (h : tk o x = some p) : tk (turnedO b v e o) (x.1, tp b v e x.1 x.2) = some (turnedO b v e p) := by
 obtain ⟨k, q⟩ := x
 simp only at hr hl h ⊢
 unfold tk at h ⊢
 simp only at h ⊢
 by_cases c2 : k = 2
 · subst c2
   have ht : tp b v e 2 q = q := rfl
   rw [if_pos rfl] at h ⊢
   rw [ht]
   by_cases hv : v256 q = 0
   · rw [if_pos hv] at h; cases h
   · rw [if_neg hv] at h ⊢
     obtain rfl := Option.some.inj h
     rfl
 rw [if_neg c2] at h ⊢
 by_cases c3 : k = 3
 · subst c3
   have ht : tp b v e 3 q = q := rfl
   rw [if_pos rfl] at h ⊢
   rw [ht]
   obtain rfl := Option.some.inj h
   rfl
 rw [if_neg c3] at h ⊢
 by_cases c4 : k = 4
 · subst c4
   rw [if_pos rfl] at h ⊢
   obtain rfl := Option.some.inj h
   rfl
 rw [if_neg c4] at h ⊢
 by_cases c5 : k = 5
 · subst c5
   have ht : tp b v e 5 q = addAll b q := rfl
   rw [if_pos rfl] at h ⊢
   rw [ht, prs_add b _ q (Nat.le_refl _) (by simp [right] at hr; omega) hl]
   obtain rfl := Option.some.inj h
   unfold turnedO
   simp only [List.map_append]
 rw [if_neg c5] at h ⊢
 by_cases c8 : k = 8
 · subst c8
   have ht : tp b v e 8 q = addw (q.take 4) v ++ addw (q.drop 4) e := rfl
   rw [if_pos rfl] at h ⊢
   rw [ht, List.take_left' (addw_len _ _), List.drop_left' (addw_len _ _), v_addw, v_addw]
   obtain rfl := Option.some.inj h
   rfl
 rw [if_neg c8] at h ⊢
 obtain rfl := Option.some.inj h
 rfl
theorem fold_turn (b v e : Nat) : ∀ (L : List (Nat × List Nat)) (o p : Opn), (∀ x ∈ L, right x.1 (x.2.length + 2) = true ∧ ∀ y ∈ x.2, y ≤ 255) → L.foldlM tk o = some p → (L.map fun x => (x.1, tp b v e x.1 x.2)).foldlM tk (turnedO b v e o) = some (turnedO b v e p)
 | [], o, p, _, h => by
   obtain rfl : o = p := Option.some.inj h
   rfl
 | x :: L, o, p, hx, h => by
   have h1 : (tk o x).bind (fun q => L.foldlM tk q) = some p := h
   obtain ⟨q, hq, h2⟩ := Option.bind_eq_some_iff.1 h1
   have h3 := tk_turn b v e o q x (hx x (by simp)).1 (hx x (by simp)).2 hq
   have ih := fold_turn b v e L q p (fun y hy => hx y (by simp [hy])) h2
   show (tk (turnedO b v e o) (x.1, tp b v e x.1 x.2)).bind (fun q => (L.map fun x => (x.1, tp b v e x.1 x.2)).foldlM tk q) = _
   rw [h3]
   exact ih
theorem dec_turn (b v e : Nat) (l : List Nat) (p : Opn) (hl : ∀ y ∈ l, y ≤ 255) (h : decO l = some p) : decO (turnS b v e l) = some (turnedO b v e p) ∧ (turnS b v e l).length = l.length := by
 unfold decO at h
 obtain ⟨L, hL, hf⟩ := Option.bind_eq_some_iff.1 h
 obtain ⟨h1, h2⟩ := its_turn b v e _ l [] L (Nat.le_refl _) hL
 refine ⟨?_, h2⟩
 unfold decO
 rw [h1]
 have hin := its_in _ l [] L (Nat.le_refl _) hL
 have := fold_turn b v e L none0 p (fun x hx => ⟨(hin x hx).1, fun y hy => hl y ((hin x hx).2 y hy)⟩) hf
 exact this
end Go.Proofs.YtpmnmnflaijaaaaGreat.OptMath
namespace Go.Proofs.YtpmnmnflaijaaaaGreat.TcpMath
open TupMath SumMath IpMath
set_option linter.unusedVariables false
structure Th where
 src : Nat
 dst : Nat
 seq : Nat
 ack : Nat
 flags : Nat
 win : Nat
 urg : Nat
 opts : ByteArray
structure Th.ok (h : Th) : Prop where
 src : h.src ≤ 65535
 dst : h.dst ≤ 65535
 seq : h.seq ≤ 4294967295
 ack : h.ack ≤ 4294967295
 flags : h.flags ≤ 255
 win : h.win ≤ 65535
 urg : h.urg ≤ 65535
def zeroT : Th := ⟨0, 0, 0, 0, 0, 0, 0, ⟨#[]⟩⟩
structure Th.may (h : Th) : Prop where
 four : h.opts.size % 4 = 0
 most : h.opts.size ≤ 40
 flags : h.flags < 64
def off (h : Th) : Nat := (20 + h.opts.size) / 4 * 16
def front (h : Th) : List Nat := w2 h.src ++ w2 h.dst ++ w4 h.seq ++ w4 h.ack ++ [off h, h.flags] ++ w2 h.win
def raw (h : Th) (d : List Nat) (s : Nat) : List Nat := front h ++ (w2 s ++ (w2 h.urg ++ (bz h.opts ++ d)))
theorem front_len (h : Th) : (front h).length = 16 := rfl
theorem raw_len (h : Th) (d : List Nat) (s : Nat) : (raw h d s).length = 20 + h.opts.size + d.length := by
 unfold raw
 rw [List.length_append, List.length_append, List.length_append, List.length_append, front_len, bz_len]
 show 16 + (2 + (2 + _)) = _
 omega
def ps (src dst n : Nat) : List Nat := w4 src ++ w4 dst ++ [0, 6] ++ w2 n
theorem ps_len (src dst n : Nat) : (ps src dst n).length = 12 := rfl
def tsum (src dst : Nat) (l : List Nat) : Nat := cs (ps src dst l.length ++ l)
theorem tsum_le (src dst : Nat) (l : List Nat) : tsum src dst l ≤ 65535 := cs_le _
theorem ps_wsum (src dst n : Nat) : wsum (ps src dst n) = src / 16777216 * 256 + src / 65536 % 256 + (src / 256 % 256 * 256 + src % 256) + (dst / 16777216 * 256 + dst / 65536 % 256 + (dst / 256 % 256 * 256 + dst % 256)) + 6 + (n / 256 * 256 + n % 256) := by
 simp only [ps, w2, w4, List.cons_append, List.nil_append, wsum]
 omega
theorem ps_pos (src dst n : Nat) : 0 < wsum (ps src dst n) := by rw [ps_wsum]; omega
theorem whole_wsum (src dst : Nat) (l : List Nat) : wsum (ps src dst l.length ++ l) = wsum (ps src dst l.length) + wsum l := wsum_append _ _ (by rw [ps_len])
theorem tsum_zero (src dst : Nat) (l : List Nat) : tsum src dst l = 0 ↔ (wsum (ps src dst l.length) + wsum l) % 65535 = 0 := by
 unfold tsum
 rw [cs_zero, whole_wsum]
 have := ps_pos src dst l.length
 constructor
 · exact fun h => h.2
 · exact fun h => ⟨by omega, h⟩
theorem raw_wsum (h : Th) (d : List Nat) (s : Nat) : wsum (raw h d s) = wsum (raw h d 0) + s := by
 unfold raw
 rw [wsum_append (front h) _ (by rw [front_len]), wsum_append (front h) _ (by rw [front_len]), wsum_append (w2 s) _ (by simp [w2]), wsum_append (w2 0) _ (by simp [w2])]
 simp only [w2, wsum]
 omega
def seg (src dst : Nat) (h : Th) (d : List Nat) : List Nat := raw h d (tsum src dst (raw h d 0))
theorem seg_len (src dst : Nat) (h : Th) (d : List Nat) : (seg src dst h d).length = 20 + h.opts.size + d.length := raw_len _ _ _
theorem seg_sum (src dst : Nat) (h : Th) (d : List Nat) : tsum src dst (seg src dst h d) = 0 := by
 rw [tsum_zero, seg_len]
 unfold seg
 rw [raw_wsum]
 have hp := ps_pos src dst (20 + h.opts.size + d.length)
 have e : tsum src dst (raw h d 0) = 65535 - ones (wsum (ps src dst (20 + h.opts.size + d.length)) + wsum (raw h d 0)) := by
   unfold tsum cs
   rw [whole_wsum, raw_len]
 rw [e]
 generalize wsum (ps src dst (20 + h.opts.size + d.length)) = p at hp
 generalize wsum (raw h d 0) = x
 unfold ones
 rw [if_neg (by omega)]
 omega
theorem raw_le (h : Th) (k : h.ok) (m : h.may) (d : List Nat) (s : Nat) (hd : ∀ x ∈ d, x ≤ 255) (hs : s ≤ 65535) : ∀ x ∈ raw h d s, x ≤ 255 := by
 have := k.src; have := k.dst; have := k.seq; have := k.ack; have := k.flags; have := k.win; have := k.urg; have := m.most
 intro x hx
 unfold raw at hx
 rcases List.mem_append.1 hx with hx | hx
 · simp only [front, w2, w4, off, List.cons_append, List.nil_append, List.mem_cons, List.not_mem_nil, or_false] at hx
   omega
 rcases List.mem_append.1 hx with hx | hx
 · simp only [w2, List.mem_cons, List.not_mem_nil, or_false] at hx; omega
 rcases List.mem_append.1 hx with hx | hx
 · simp only [w2, List.mem_cons, List.not_mem_nil, or_false] at hx; omega
 rcases List.mem_append.1 hx with hx | hx
 · exact bz_le _ x hx
 · exact hd x hx
theorem seg_le (src dst : Nat) (h : Th) (k : h.ok) (m : h.may) (d : List Nat) (hd : ∀ x ∈ d, x ≤ 255) : ∀ x ∈ seg src dst h d, x ≤ 255 := raw_le h k m d _ hd (tsum_le _ _ _)
def hl (l : List Nat) : Nat := at0 l 12 / 16 * 4
def terr (src dst : Nat) (l : List Nat) : Nat :=
 if l.length < 20 then 50 else if 65515 < l.length then 4 else if tsum src dst l ≠ 0 then 55 else if hl l < 20 ∨ l.length < hl l then 60
 else if at0 l 12 % 16 ≠ 0 ∨ 64 ≤ at0 l 13 then 61 else 0
def trd (s : ByteArray) : Th :=
 ⟨at0 (bz s) 0 * 256 + at0 (bz s) 1, at0 (bz s) 2 * 256 + at0 (bz s) 3, at0 (bz s) 4 * 16777216 + at0 (bz s) 5 * 65536 + at0 (bz s) 6 * 256 + at0 (bz s) 7, at0 (bz s) 8 * 16777216 + at0 (bz s) 9 * 65536 + at0 (bz s) 10 * 256 + at0 (bz s) 11,
   at0 (bz s) 13, at0 (bz s) 14 * 256 + at0 (bz s) 15, at0 (bz s) 18 * 256 + at0 (bz s) 19, s.extract 20 (hl (bz s))⟩
theorem raw_head (h : Th) (d : List Nat) (s : Nat) : (raw h d s).take 20 = front h ++ (w2 s ++ w2 h.urg) := by
 have e : raw h d s = (front h ++ (w2 s ++ w2 h.urg)) ++ (bz h.opts ++ d) := by unfold raw; simp only [List.append_assoc]
 rw [e]
 exact List.take_left' rfl
theorem raw_rest (h : Th) (d : List Nat) (s : Nat) : (raw h d s).drop 20 = bz h.opts ++ d := by
 have e : raw h d s = (front h ++ (w2 s ++ w2 h.urg)) ++ (bz h.opts ++ d) := by unfold raw; simp only [List.append_assoc]
 rw [e]
 exact List.drop_left' rfl
theorem raw_at (h : Th) (d : List Nat) (s i : Nat) (hi : i < 20) : at0 (raw h d s) i = at0 (front h ++ (w2 s ++ w2 h.urg)) i := by
 rw [← raw_head h d s, at_take hi]
theorem raw_hl (h : Th) (m : h.may) (d : List Nat) (s : Nat) : hl (raw h d s) = 20 + h.opts.size := by
 unfold hl
 rw [raw_at h d s 12 (by decide)]
 show off h / 16 * 4 = _
 have := m.four
 unfold off
 omega
theorem raw_trd (h : Th) (k : h.ok) (m : h.may) (d : List Nat) (s : Nat) (S : ByteArray) (hS : bz S = raw h d s) : trd S = h ∧ bz (S.extract (hl (bz S)) S.size) = d := by
 have hlen : S.size = 20 + h.opts.size + d.length := by rw [← bz_len, hS, raw_len]
 have e := fun i hi => raw_at h d s i hi
 have ho : S.extract 20 (hl (bz S)) = h.opts := by
   apply bz_inj
   rw [hS, raw_hl h m, bz_extract S 20 _ (by omega), hS, List.drop_take, raw_rest]
   rw [show 20 + h.opts.size - 20 = h.opts.size by omega]
   exact List.take_left' (bz_len _)
 have hd : bz (S.extract (hl (bz S)) S.size) = d := by
   rw [bz_extract S _ _ (Nat.le_refl _), List.take_of_length_le (by rw [bz_len]; exact Nat.le_refl _), hS, raw_hl h m, ← List.drop_drop, raw_rest]
   exact List.drop_left' (bz_len _)
 refine ⟨?_, hd⟩
 unfold trd
 rw [ho, hS, e 0 (by decide), e 1 (by decide), e 2 (by decide), e 3 (by decide), e 4 (by decide), e 5 (by decide), e 6 (by decide), e 7 (by decide), e 8 (by decide), e 9 (by decide), e 10 (by decide), e 11 (by decide), e 13 (by decide), e 14 (by decide), e 15 (by decide), e 18 (by decide), e 19 (by decide)]
 obtain ⟨src, dst, seq, ack, flags, win, urg, opts⟩ := h
 have := k.src; have := k.dst; have := k.seq; have := k.ack; have := k.win; have := k.urg
 simp only at *
 show (⟨src / 256 * 256 + src % 256, dst / 256 * 256 + dst % 256, seq / 16777216 * 16777216 + seq / 65536 % 256 * 65536 + seq / 256 % 256 * 256 + seq % 256, ack / 16777216 * 16777216 + ack / 65536 % 256 * 65536 + ack / 256 % 256 * 256 + ack % 256, flags, win / 256 * 256 + win % 256, urg / 256 * 256 + urg % 256, opts⟩ : Th) = _
 congr 1 <;> omega
theorem w2_mk (a b : Nat) (hb : b ≤ 255) : w2 (a * 256 + b) = [a, b] := by
 have h1 : (a * 256 + b) / 256 = a := by omega
 have h2 : (a * 256 + b) % 256 = b := by omega
 simp only [w2, h1, h2]
theorem w4_mk (a b c d : Nat) (hb : b ≤ 255) (hc : c ≤ 255) (hd : d ≤ 255) : w4 (a * 16777216 + b * 65536 + c * 256 + d) = [a, b, c, d] := by
 have h1 : (a * 16777216 + b * 65536 + c * 256 + d) / 16777216 = a := by omega
 have h2 : (a * 16777216 + b * 65536 + c * 256 + d) / 65536 % 256 = b := by omega
 have h3 : (a * 16777216 + b * 65536 + c * 256 + d) / 256 % 256 = c := by omega
 have h4 : (a * 16777216 + b * 65536 + c * 256 + d) % 256 = d := by omega
 simp only [w4, h1, h2, h3, h4]
theorem take20 (l : List Nat) (h : 20 ≤ l.length) : l.take 20 = [at0 l 0, at0 l 1, at0 l 2, at0 l 3, at0 l 4, at0 l 5, at0 l 6, at0 l 7, at0 l 8, at0 l 9, at0 l 10, at0 l 11, at0 l 12, at0 l 13, at0 l 14, at0 l 15, at0 l 16, at0 l 17, at0 l 18, at0 l 19] := by
 apply List.ext_getElem?
 intro i
 by_cases hi : i < 20
 · rw [List.getElem?_take_of_lt hi]
   have e : l[i]? = some (at0 l i) := by unfold at0; rw [List.getElem?_eq_getElem (by omega)]; rfl
   rw [e]
   match i, hi with
   | 0, _ => rfl
   | 1, _ => rfl
   | 2, _ => rfl
   | 3, _ => rfl
   | 4, _ => rfl
   | 5, _ => rfl
   | 6, _ => rfl
   | 7, _ => rfl
   | 8, _ => rfl
   | 9, _ => rfl
   | 10, _ => rfl
   | 11, _ => rfl
   | 12, _ => rfl
   | 13, _ => rfl
   | 14, _ => rfl
   | 15, _ => rfl
   | 16, _ => rfl
   | 17, _ => rfl
   | 18, _ => rfl
   | 19, _ => rfl
   | n + 20, hi => exact absurd hi (by omega)
 · rw [List.getElem?_eq_none (by rw [List.length_take]; omega), List.getElem?_eq_none (by simp; omega)]
theorem trd_raw (src dst : Nat) (s : ByteArray) (h0 : terr src dst (bz s) = 0) : (trd s).ok ∧ (trd s).may ∧ bz s = raw (trd s) (bz (s.extract (hl (bz s)) s.size)) (at0 (bz s) 16 * 256 + at0 (bz s) 17) ∧ tsum src dst (bz s) = 0 ∧ 20 + (trd s).opts.size + (bz (s.extract (hl (bz s)) s.size)).length = s.size ∧ s.size ≤ 65515 ∧ 20 ≤ s.size := by
 have hle : ∀ i, at0 (bz s) i ≤ 255 := fun i => by
   unfold at0
   cases h : (bz s)[i]? with
   | none => simp
   | some x => exact bz_le s x (List.mem_of_getElem? h)
 have hlen : (bz s).length = s.size := bz_len s
 unfold terr at h0
 rw [hlen] at h0
 by_cases c1 : s.size < 20
 · rw [if_pos c1] at h0; omega
 by_cases c2 : 65515 < s.size
 · rw [if_neg c1, if_pos c2] at h0; omega
 by_cases c3 : tsum src dst (bz s) ≠ 0
 · rw [if_neg c1, if_neg c2, if_pos c3] at h0; omega
 by_cases c4 : hl (bz s) < 20 ∨ s.size < hl (bz s)
 · rw [if_neg c1, if_neg c2, if_neg c3, if_pos c4] at h0; omega
 by_cases c5 : at0 (bz s) 12 % 16 ≠ 0 ∨ 64 ≤ at0 (bz s) 13
 · rw [if_neg c1, if_neg c2, if_neg c3, if_neg c4, if_pos c5] at h0; omega
 clear h0
 have hos : (trd s).opts.size = hl (bz s) - 20 := by
   show (s.extract 20 (hl (bz s))).size = _
   rw [ByteArray.size_extract]
   omega
 have h12 : off (trd s) = at0 (bz s) 12 := by
   unfold off
   rw [hos]
   unfold hl
   unfold hl at c4
   omega
 have hob : bz (trd s).opts ++ bz (s.extract (hl (bz s)) s.size) = (bz s).drop 20 := by
   show bz (s.extract 20 (hl (bz s))) ++ _ = _
   have e0 : (bz s).take s.size = bz s := List.take_of_length_le (by rw [hlen]; exact Nat.le_refl _)
   rw [bz_extract s 20 _ (by omega), bz_extract s _ _ (Nat.le_refl _), e0]
   have e1 : ((bz s).take (hl (bz s))).drop 20 ++ (bz s).drop (hl (bz s)) = ((bz s).take (hl (bz s)) ++ (bz s).drop (hl (bz s))).drop 20 := by
     rw [List.drop_append_of_le_length (by rw [List.length_take, hlen]; omega)]
   rw [e1, List.take_append_drop]
 have q := hle
 refine ⟨?_, ?_, ?_, Decidable.not_not.1 c3, ?_, by omega, by omega⟩
 · have := q 0; have := q 1; have := q 2; have := q 3; have := q 4; have := q 5; have := q 6; have := q 7; have := q 8; have := q 9; have := q 10; have := q 11; have := q 13; have := q 14; have := q 15; have := q 18; have := q 19
   exact ⟨by show _ * 256 + _ ≤ _; omega, by show _ * 256 + _ ≤ _; omega, by show _ * 16777216 + _ * 65536 + _ * 256 + _ ≤ _; omega, by show _ * 16777216 + _ * 65536 + _ * 256 + _ ≤ _; omega, q 13, by show _ * 256 + _ ≤ _; omega, by show _ * 256 + _ ≤ _; omega⟩
 · have := q 12
   have h1 : hl (bz s) = at0 (bz s) 12 / 16 * 4 := rfl
   exact ⟨by rw [hos]; omega, by rw [hos]; omega, by show at0 (bz s) 13 < 64; omega⟩
 · have e : raw (trd s) (bz (s.extract (hl (bz s)) s.size)) (at0 (bz s) 16 * 256 + at0 (bz s) 17) = (front (trd s) ++ (w2 (at0 (bz s) 16 * 256 + at0 (bz s) 17) ++ w2 (trd s).urg)) ++ (bz (trd s).opts ++ bz (s.extract (hl (bz s)) s.size)) := by unfold raw; simp only [List.append_assoc]
   rw [e, hob]
   have f : front (trd s) ++ (w2 (at0 (bz s) 16 * 256 + at0 (bz s) 17) ++ w2 (trd s).urg) = (bz s).take 20 := by
     rw [take20 (bz s) (by omega)]
     unfold front
     rw [h12, w2_mk _ _ (q 17)]
     show w2 (at0 (bz s) 0 * 256 + at0 (bz s) 1) ++ w2 (at0 (bz s) 2 * 256 + at0 (bz s) 3) ++ w4 (at0 (bz s) 4 * 16777216 + at0 (bz s) 5 * 65536 + at0 (bz s) 6 * 256 + at0 (bz s) 7) ++ w4 (at0 (bz s) 8 * 16777216 + at0 (bz s) 9 * 65536 + at0 (bz s) 10 * 256 + at0 (bz s) 11) ++ [at0 (bz s) 12, at0 (bz s) 13] ++ w2 (at0 (bz s) 14 * 256 + at0 (bz s) 15) ++ ([at0 (bz s) 16, at0 (bz s) 17] ++ w2 (at0 (bz s) 18 * 256 + at0 (bz s) 19)) = _
     rw [w2_mk _ _ (q 1), w2_mk _ _ (q 3), w4_mk _ _ _ _ (q 5) (q 6) (q 7), w4_mk _ _ _ _ (q 9) (q 10) (q 11), w2_mk _ _ (q 15), w2_mk _ _ (q 19)]
     rfl
   rw [f, List.take_append_drop]
 · rw [hos, bz_len, ByteArray.size_extract]
   omega
end Go.Proofs.YtpmnmnflaijaaaaGreat.TcpMath
