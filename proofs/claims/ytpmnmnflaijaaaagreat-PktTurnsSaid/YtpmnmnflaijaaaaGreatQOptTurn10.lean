/-
  Laws for a proof of package pkt: 10 texts in one.
-/
import Derived.Test.YtpmnmnflaijaaaaGreatQOptFew9
import Derived.Test.YtpmnmnflaijaaaaGreatQOptDec1
import Derived.Test.YtpmnmnflaijaaaaGreatQTcpMath5
import Derived.Test.YtpmnmnflaijaaaaGreatQRelL3
import Derived.Test.YtpmnmnflaijaaaaGreatQPkt163
import Derived.Test.YtpmnmnflaijaaaaGreatQOwn1
import Derived.Test.YtpmnmnflaijaaaaGreatQTcpRef4
import Derived.Test.YtpmnmnflaijaaaaGreatQSumPlainT5
import Derived.Test.YtpmnmnflaijaaaaGreatQOptAdd3
import Derived.Deep.LoopGhost
namespace Go.Proofs.YtpmnmnflaijaaaaGreat.OptTurn
open Go.RowKit Own TupMath SumMath Litb Calm Rel IpMath IpRef OptMath OptRef OptPlc OptSame Boxes OptTk OptDec OptTurnM
set_option linter.unusedVariables false
set_option maxRecDepth 100000
def turnV (b v e : Nat) (l : List Nat) : Value := if (dec7 l).1 = 0 then .tuple #[.string (ofB (turnS b v e l)), .int .i64 0] else .tuple #[.string ⟨#[]⟩, .int .i64 ((dec7 l).1 : Int)]
theorem dec7_zero {l : List Nat} (h : (dec7 l).1 = 0) : ¬ 40 < l.length ∧ ∃ ps o, plc l 0 [] = some ps ∧ decO l = some o ∧ (dec7 l).2 = o := by
 by_cases h40 : 40 < l.length
 · rw [dec7_long h40] at h; cases h
 refine ⟨h40, ?_⟩
 cases hd : decO l with
 | none => rw [dec7_none h40 hd] at h; cases h
 | some o =>
   cases hp : plc l 0 [] with
   | none => rw [dec_no hp] at hd; cases hd
   | some ps => exact ⟨ps, o, rfl, rfl, by rw [dec7_some h40 hd]⟩
theorem ofB_bzq {l : List Nat} {S : ByteArray} (h : bz S = l) : ofB l = S := by rw [← h]; exact bz_inj (bz_ofB (bz_le S))
end Go.Proofs.YtpmnmnflaijaaaaGreat.OptTurn
namespace Go.Proofs.YtpmnmnflaijaaaaGreat.OptBackM
open Go.RowKit TupMath SumMath IpMath IpRef OptMath OptMay OptTk OptFew OptTurn
set_option linter.unusedVariables false
theorem addw_le (p : List Nat) (x : Nat) : ∀ y ∈ addw p x, y ≤ 255 := w4_le _ (by have := Nat.mod_lt (v256 p + x) (show 0 < 4294967296 by decide); omega)
theorem addAll_le (x : Nat) : ∀ (m : Nat) (l : List Nat), l.length ≤ m → (∀ z ∈ l, z ≤ 255) → ∀ y ∈ addAll x l, y ≤ 255
 | 0, l, h, hl => by
   rw [List.eq_nil_of_length_eq_zero (show l.length = 0 by omega)]
   intro y hy; cases hy
 | m + 1, l, h, hl => by
   match l, h, hl with
   | [], _, hl => exact hl
   | [_], _, hl => exact hl
   | [_, _], _, hl => exact hl
   | [_, _, _], _, hl => exact hl
   | a :: b :: c :: d :: r, h, hl =>
     intro y hy
     rcases List.mem_append.1 (show y ∈ addw [a, b, c, d] x ++ addAll x r from hy) with hy | hy
     · exact addw_le _ _ y hy
     · exact addAll_le x m r (by simp at h; omega) (fun z hz => hl z (by simp [hz])) y hy
theorem tp_le (b v e k : Nat) (p : List Nat) (hl : ∀ z ∈ p, z ≤ 255) : ∀ y ∈ tp b v e k p, y ≤ 255 := by
 unfold tp
 intro y hy
 split at hy
 · rcases List.mem_append.1 hy with hy | hy <;> exact addw_le _ _ y hy
 · split at hy
   · exact addAll_le b p.length p (Nat.le_refl _) hl y hy
   · exact hl y hy
theorem turnS_le (b v e : Nat) : ∀ (m : Nat) (l : List Nat), l.length ≤ m → (∀ z ∈ l, z ≤ 255) → ∀ y ∈ turnS b v e l, y ≤ 255
 | 0, l, h, hl => by
   rw [List.eq_nil_of_length_eq_zero (show l.length = 0 by omega), turnS_nil]
   intro y hy; cases hy
 | m + 1, l, h, hl => by
   match l, h, hl with
   | [], _, hl => rw [turnS_nil]; exact hl
   | k :: r, h, hl =>
     by_cases h0 : k = 0
     · subst h0; rw [turnS_zero]; exact hl
     by_cases h1 : k = 1
     · subst h1
       rw [turnS_one]
       intro y hy
       rcases List.mem_cons.1 hy with rfl | hy
       · decide
       · exact turnS_le b v e m r (by simp at h; omega) (fun z hz => hl z (by simp [hz])) y hy
     · rw [turnS.eq_def]
       simp only [if_neg h0, if_neg h1]
       match r, h, hl with
       | [], _, hl => exact hl
       | n :: q, h, hl =>
         intro y hy
         rcases List.mem_cons.1 hy with rfl | hy
         · exact hl _ (by simp)
         rcases List.mem_cons.1 hy with rfl | hy
         · exact hl _ (by simp)
         rcases List.mem_append.1 hy with hy | hy
         · exact tp_le b v e k _ (fun z hz => hl z (by simp [List.mem_of_mem_take hz])) y hy
         · exact turnS_le b v e m (q.drop (n - 2)) (by simp at h ⊢; omega) (fun z hz => hl z (by simp [List.mem_of_mem_drop hz])) y hy
structure Round (b v e b2 v2 e2 : Nat) (s U : ByteArray) (p : Opn) : Prop where
 first : dec7 (bz s) = (0, p)
 turn : turnV b v e (bz s) = .tuple #[.string U, .int .i64 0]
 second : dec7 (bz U) = (0, turnedO b v e p)
 back : turnV b2 v2 e2 (bz U) = .tuple #[.string s, .int .i64 0]
 size : U.size = s.size
theorem raw_le (o : Opn) (k : o.ok) (m : OptMath.May o) : ∀ x ∈ rawO o, x ≤ 255 := by
 intro x hx
 have h1 := k.mss; have h2 := k.blocks; have h3 := k.val; have h4 := k.echo
 have h5 := m.hi; have h6 := m.lo; have h7 := m.few
 unfold rawO at hx
 rcases List.mem_append.1 hx with hx | hx
 · unfold sMss at hx
   split at hx
   · simp only [w2, List.cons_append, List.nil_append, List.mem_cons, List.not_mem_nil, or_false] at hx; omega
   · cases hx
 rcases List.mem_append.1 hx with hx | hx
 · unfold sScale at hx
   split at hx
   · simp only [List.mem_cons, List.not_mem_nil, or_false] at hx; omega
   · cases hx
 rcases List.mem_append.1 hx with hx | hx
 · unfold sSack at hx
   split at hx
   · simp only [List.mem_cons, List.not_mem_nil, or_false] at hx; omega
   · cases hx
 rcases List.mem_append.1 hx with hx | hx
 · unfold sTime at hx
   split at hx
   · simp only [w4, List.cons_append, List.nil_append, List.mem_cons, List.not_mem_nil, or_false] at hx; omega
   · cases hx
 · unfold sBlocks at hx
   split at hx
   · rcases List.mem_append.1 hx with hx | hx
     · simp only [List.mem_cons, List.not_mem_nil, or_false] at hx; omega
     · unfold blkB at hx
       obtain ⟨p, hp, hx⟩ := List.mem_flatMap.1 hx
       have := h2 p hp
       simp only [w4, List.cons_append, List.nil_append, List.mem_cons, List.not_mem_nil, or_false] at hx
       omega
   · cases hx
theorem prs_ok : ∀ l : List Nat, (∀ y ∈ l, y ≤ 255) → ∀ p ∈ prs l, p.1 ≤ 4294967295 ∧ p.2 ≤ 4294967295
 | a :: b :: c :: d :: e :: f :: g :: h :: r, hl => by
   intro p hp
   have h1 := hl a (by simp); have h2 := hl b (by simp); have h3 := hl c (by simp); have h4 := hl d (by simp)
   have h5 := hl e (by simp); have h6 := hl f (by simp); have h7 := hl g (by simp); have h8 := hl h (by simp)
   rcases List.mem_cons.1 (show p ∈ (a * 16777216 + b * 65536 + c * 256 + d, e * 16777216 + f * 65536 + g * 256 + h) :: prs r from hp) with rfl | hp
   · simp only
     omega
   · exact prs_ok r (fun z hz => hl z (by simp [hz])) p hp
 | [], _ => fun p hp => by cases hp
 | [_], _ => fun p hp => by cases hp
 | [_, _], _ => fun p hp => by cases hp
 | [_, _, _], _ => fun p hp => by cases hp
 | [_, _, _, _], _ => fun p hp => by cases hp
 | [_, _, _, _, _], _ => fun p hp => by cases hp
 | [_, _, _, _, _, _], _ => fun p hp => by cases hp
 | [_, _, _, _, _, _, _], _ => fun p hp => by cases hp
theorem tk_ok {o p : Opn} {x : Nat × List Nat} (ko : o.ok) (hr : right x.1 (x.2.length + 2) = true) (hl : ∀ y ∈ x.2, y ≤ 255) (h : tk o x = some p) : p.ok := by
 obtain ⟨k, q⟩ := x
 simp only at hr hl
 rw [tk_is] at h
 split at h
 · obtain rfl := Option.some.inj h
   have p4 : (256 : Nat) ^ 4 = 4294967296 := by decide
   unfold tkO
   by_cases c2 : k = 2
   · rw [if_pos c2]
     have hq : q.length = 2 := by subst c2; simp [right] at hr; omega
     have hv := v256_lt q hl
     rw [hq] at hv
     exact ⟨by show v256 q ≤ _; omega, ko.blocks, ko.val, ko.echo⟩
   rw [if_neg c2]
   by_cases c3 : k = 3
   · rw [if_pos c3]; exact ⟨ko.mss, ko.blocks, ko.val, ko.echo⟩
   rw [if_neg c3]
   by_cases c4 : k = 4
   · rw [if_pos c4]; exact ⟨ko.mss, ko.blocks, ko.val, ko.echo⟩
   rw [if_neg c4]
   by_cases c5 : k = 5
   · rw [if_pos c5]
     refine ⟨ko.mss, fun p hp => ?_, ko.val, ko.echo⟩
     rcases List.mem_append.1 (show p ∈ o.blocks ++ prs q from hp) with hp | hp
     · exact ko.blocks p hp
     · exact prs_ok q hl p hp
   rw [if_neg c5]
   by_cases c8 : k = 8
   · rw [if_pos c8]
     have hq : q.length = 8 := by subst c8; simp [right] at hr; omega
     have h1 := v256_lt (q.take 4) (fun z hz => hl z (List.mem_of_mem_take hz))
     have h2 := v256_lt (q.drop 4) (fun z hz => hl z (List.mem_of_mem_drop hz))
     rw [List.length_take, hq] at h1
     rw [List.length_drop, hq] at h2
     have e1 : min 4 8 = 4 := rfl
     have e2 : 8 - 4 = 4 := rfl
     rw [e1, p4] at h1
     rw [e2, p4] at h2
     exact ⟨ko.mss, ko.blocks, by show v256 (q.take 4) ≤ _; omega, by show v256 (q.drop 4) ≤ _; omega⟩
   rw [if_neg c8]
   exact ko
 · cases h
theorem fold_ok : ∀ (L : List (Nat × List Nat)) (o p : Opn), o.ok → (∀ x ∈ L, right x.1 (x.2.length + 2) = true ∧ ∀ y ∈ x.2, y ≤ 255) → L.foldlM tk o = some p → p.ok
 | [], o, p, ko, _, h => by
   obtain rfl : o = p := Option.some.inj h
   exact ko
 | x :: L, o, p, ko, hL, h => by
   rw [List.foldlM_cons] at h
   obtain ⟨o1, h1, h2⟩ := Option.bind_eq_some_iff.1 h
   obtain ⟨hr, hl⟩ := hL x List.mem_cons_self
   exact fold_ok L o1 p (tk_ok ko hr hl h1) (fun y hy => hL y (List.mem_cons_of_mem _ hy)) h2
theorem dec7_ok {l : List Nat} (hl : ∀ y ∈ l, y ≤ 255) {p : Opn} (h : dec7 l = (0, p)) : p.ok := by
 obtain ⟨_, ps, o, _, hdec, ho⟩ := dec7_zero (by rw [h])
 rw [h] at ho
 simp only at ho
 subst ho
 unfold decO at hdec
 obtain ⟨L, hL, hf⟩ := Option.bind_eq_some_iff.1 hdec
 refine fold_ok L none0 _ ⟨by decide, (fun p hp => by cases hp), by decide, by decide⟩ (fun x hx => ?_) hf
 obtain ⟨h1, h2⟩ := its_in l.length l [] L (Nat.le_refl _) hL x hx
 exact ⟨h1, fun y hy => hl y (h2 y hy)⟩
theorem was_written {o : Opn} (k : o.ok) (m : OptMath.May o) (hl : ∀ x ∈ rawO o, x ≤ 255) : dec7 (bz (ofB (rawO o))) = (0, o) ∧ (ofB (rawO o)).size % 4 = 0 ∧ (ofB (rawO o)).size ≤ 40 := by
 rw [bz_ofB hl, ofB_size]
 exact ⟨dec7_some (by have := m.most; omega) (dec_raw o k m), raw_four o, m.most⟩
end Go.Proofs.YtpmnmnflaijaaaaGreat.OptBackM
namespace Go.Proofs.YtpmnmnflaijaaaaGreat.PktMath
open TupMath SumMath IpMath TcpMath OptMath OptTk OptBackM
set_option linter.unusedVariables false
theorem tu_mod {s w n : Nat} (hs : s ≤ 65535) (hw : w ≤ 65535) : (tu s w n + n) % 65535 = (s + w) % 65535 := by
 unfold tu ones
 split <;> omega
theorem tus_mod (s : Nat) (hs : s ≤ 65535) (a b : List Nat) (hl : a.length = b.length) (ha : ∀ x ∈ a, x ≤ 255) : ∀ k, 2 * k ≤ a.length → (tus s a b k + wsum (b.take (2 * k))) % 65535 = (s + wsum (a.take (2 * k))) % 65535
 | 0, _ => by simp [tus, wsum]
 | k + 1, h => by
   have ih := tus_mod s hs a b hl ha k (by omega)
   have e1 := wsum_take a (2 * k) (by omega) (by omega)
   have e2 := wsum_take b (2 * k) (by omega) (by omega)
   have e3 : 2 * (k + 1) = 2 * k + 2 := by omega
   have e4 := tu_mod (n := wAt b (2 * k)) (tus_le s hs a b k) (wAt_le ha (2 * k))
   rw [tus, e3, e1, e2]
   omega
theorem tus_row (s : Nat) (hs : s ≤ 65535) (a b : List Nat) (k : Nat) (hl : a.length = b.length) (ha : ∀ x ∈ a, x ≤ 255) (hk : a.length = 2 * k) : (tus s a b k + wsum b) % 65535 = (s + wsum a) % 65535 := by
 have h := tus_mod s hs a b hl ha k (by omega)
 rw [List.take_of_length_le (by omega), List.take_of_length_le (by omega)] at h
 exact h
theorem hd_at (h : Hd) (n c : Nat) (l : List Nat) (i : Nat) (hi : i < 20) : at0 (hd h n c ++ l) i = at0 (hd h n c) i := at_app (by rw [hd_len]; exact hi)
theorem hd_err (h : Hd) (n c : Nat) (l : List Nat) (hn : 20 + l.length = n) (h6 : n ≤ 65535) (hc : cs (hd h n c) = 0) : err (hd h n c ++ l) = 0 := by
 have e0 := hd_at h n c l 0 (by decide)
 have e2 := hd_at h n c l 2 (by decide)
 have e3 := hd_at h n c l 3 (by decide)
 have e6 := hd_at h n c l 6 (by decide)
 have e7 := hd_at h n c l 7 (by decide)
 have et : (hd h n c ++ l).take 20 = hd h n c := List.take_left' (hd_len _ _ _)
 unfold err
 rw [et, hc, e0, e2, e3, e6, e7, List.length_append, hd_len]
 have f0 : at0 (hd h n c) 0 = 69 := rfl
 have f2 : at0 (hd h n c) 2 = n / 256 := rfl
 have f3 : at0 (hd h n c) 3 = n % 256 := rfl
 have f6 : at0 (hd h n c) 6 = if h.df then 64 else 0 := rfl
 have f7 : at0 (hd h n c) 7 = 0 := rfl
 rw [f0, f2, f3, f6, f7, if_neg (by omega), if_neg (by omega), if_neg (by omega), if_neg (by omega), if_neg (by omega), if_neg]
 split <;> omega
theorem hd_rd (h : Hd) (n c : Nat) (l : List Nat) (k : h.ok) : rd (hd h n c ++ l) = h := by
 have e := fun i hi => hd_at h n c l i hi
 unfold rd
 rw [e 12 (by decide), e 13 (by decide), e 14 (by decide), e 15 (by decide), e 16 (by decide), e 17 (by decide), e 18 (by decide), e 19 (by decide), e 9 (by decide), e 8 (by decide), e 1 (by decide), e 4 (by decide), e 5 (by decide), e 6 (by decide)]
 obtain ⟨src, dst, proto, ttl, tos, id, df⟩ := h
 have := k.src; have := k.dst; have := k.id
 simp only at *
 show (⟨src / 16777216 * 16777216 + src / 65536 % 256 * 65536 + src / 256 % 256 * 256 + src % 256, dst / 16777216 * 16777216 + dst / 65536 % 256 * 65536 + dst / 256 % 256 * 256 + dst % 256, proto, ttl, tos, id / 256 * 256 + id % 256, (if df then 64 else 0) == 64⟩ : Hd) = _
 congr 1
 · omega
 · omega
 · omega
 · cases df <;> rfl
theorem at_le2 {l : List Nat} (hl : ∀ x ∈ l, x ≤ 255) (i : Nat) : at0 l i ≤ 255 := by
 unfold at0
 cases h : l[i]? with
 | none => simp
 | some x => exact hl x (List.mem_of_getElem? h)
theorem rd_hd (l : List Nat) (hl : ∀ x ∈ l, x ≤ 255) (h0 : err l = 0) : (rd l).ok ∧ l = hd (rd l) l.length (at0 l 10 * 256 + at0 l 11) ++ l.drop 20 ∧ cs (hd (rd l) l.length (at0 l 10 * 256 + at0 l 11)) = 0 ∧ 20 ≤ l.length ∧ l.length ≤ 65535 := by
 have q := at_le2 hl
 unfold err at h0
 by_cases c1 : l.length < 20
 · rw [if_pos c1] at h0; omega
 by_cases c2 : at0 l 0 / 16 ≠ 4
 · rw [if_neg c1, if_pos c2] at h0; omega
 by_cases c3 : at0 l 0 % 16 ≠ 5
 · rw [if_neg c1, if_neg c2, if_pos c3] at h0; omega
 by_cases c4 : at0 l 2 * 256 + at0 l 3 ≠ l.length
 · rw [if_neg c1, if_neg c2, if_neg c3, if_pos c4] at h0; omega
 by_cases c5 : cs (l.take 20) ≠ 0
 · rw [if_neg c1, if_neg c2, if_neg c3, if_neg c4, if_pos c5] at h0; omega
 by_cases c6 : (at0 l 6 ≠ 0 ∧ at0 l 6 ≠ 64) ∨ at0 l 7 ≠ 0
 · rw [if_neg c1, if_neg c2, if_neg c3, if_neg c4, if_neg c5, if_pos c6] at h0; omega
 clear h0
 have q0 := q 0; have q1 := q 1; have q2 := q 2; have q3 := q 3; have q4 := q 4; have q5 := q 5; have q6 := q 6; have q7 := q 7; have q8 := q 8; have q9 := q 9
 have q10 := q 10; have q11 := q 11; have q12 := q 12; have q13 := q 13; have q14 := q 14; have q15 := q 15; have q16 := q 16; have q17 := q 17; have q18 := q 18; have q19 := q 19
 have f : hd (rd l) l.length (at0 l 10 * 256 + at0 l 11) = l.take 20 := by
   rw [take20 l (by omega)]
   unfold hd
   have e6 : (if (rd l).df then 64 else 0) = at0 l 6 := by
     show (if (at0 l 6 == 64) = true then 64 else 0) = at0 l 6
     by_cases c : at0 l 6 = 64
     · rw [if_pos (by simp [c]), c]
     · rw [if_neg (by simp [c])]; omega
   have e7 : at0 l 7 = 0 := by omega
   have e0 : at0 l 0 = 69 := by omega
   rw [e6, ← Decidable.not_not.1 c4, w2_mk _ _ q3, w2_mk _ _ q11, e7, e0]
   show [69, at0 l 1] ++ [at0 l 2, at0 l 3] ++ w2 (at0 l 4 * 256 + at0 l 5) ++ [at0 l 6, 0] ++ [at0 l 8, at0 l 9] ++ [at0 l 10, at0 l 11] ++ w4 (at0 l 12 * 16777216 + at0 l 13 * 65536 + at0 l 14 * 256 + at0 l 15) ++ w4 (at0 l 16 * 16777216 + at0 l 17 * 65536 + at0 l 18 * 256 + at0 l 19) = _
   rw [w2_mk _ _ q5, w4_mk _ _ _ _ q13 q14 q15, w4_mk _ _ _ _ q17 q18 q19]
   rfl
 refine ⟨?_, ?_, ?_, by omega, by omega⟩
 · exact ⟨by show _ * 16777216 + _ * 65536 + _ * 256 + _ ≤ _; omega, by show _ * 16777216 + _ * 65536 + _ * 256 + _ ≤ _; omega, q9, q8, q1, by show _ * 256 + _ ≤ _; omega⟩
 · rw [f, List.take_append_drop]
 · rw [f]; exact Decidable.not_not.1 c5
structure Sg where
 sip : Nat
 sport : Nat
 dip : Nat
 dport : Nat
 seq : Nat
 ack : Nat
 flags : Nat
 win : Nat
 opts : Opn
 data : ByteArray
structure Sg.ok (s : Sg) : Prop where
 sip : s.sip ≤ 4294967295
 sport : s.sport ≤ 65535
 dip : s.dip ≤ 4294967295
 dport : s.dport ≤ 65535
 seq : s.seq ≤ 4294967295
 ack : s.ack ≤ 4294967295
 flags : s.flags ≤ 255
 win : s.win ≤ 65535
 opts : s.opts.ok
def zeroS : Sg := ⟨0, 0, 0, 0, 0, 0, 0, 0, zeroO, ⟨#[]⟩⟩
def flg (f : Nat) : Bool := decide (f < 32) && decide (f % 2 + f / 2 % 2 + f / 4 % 2 ≤ 1)
structure Sg.may (s : Sg) : Prop where
 flags : flg s.flags = true
 opts : OptMath.May s.opts
 few : s.data.size ≤ 1460
theorem flg_lt {f : Nat} (h : flg f = true) : f < 32 := by unfold flg at h; simp at h; omega
def ihd (s : Sg) : Hd := ⟨s.sip, s.dip, 6, 64, 0, 0, true⟩
def th (s : Sg) : Th := ⟨s.sport, s.dport, s.seq, s.ack, s.flags, s.win, 0, ofB (rawO s.opts)⟩
def pk (s : Sg) : List Nat := pkt (ihd s) (seg s.sip s.dip (th s) (bz s.data))
theorem ihd_ok {s : Sg} (k : s.ok) : (ihd s).ok := ⟨k.sip, k.dip, by show 6 ≤ 255; decide, by show 64 ≤ 255; decide, by show 0 ≤ 255; decide, by show 0 ≤ 65535; decide⟩
theorem th_ok {s : Sg} (k : s.ok) : (th s).ok := ⟨k.sport, k.dport, k.seq, k.ack, k.flags, k.win, by show 0 ≤ 65535; decide⟩
theorem th_may {s : Sg} (m : s.may) : (th s).may := ⟨by show (ofB (rawO s.opts)).size % 4 = 0; rw [ofB_size]; exact raw_four _, by show (ofB (rawO s.opts)).size ≤ 40; rw [ofB_size]; exact m.opts.most, by show s.flags < 64; have := flg_lt m.flags; omega⟩
theorem sg_len (s : Sg) : (seg s.sip s.dip (th s) (bz s.data)).length = 20 + (rawO s.opts).length + s.data.size := by
 rw [seg_len, bz_len]
 show 20 + (ofB (rawO s.opts)).size + _ = _
 rw [ofB_size]
theorem pk_len (s : Sg) : (pk s).length = 40 + (rawO s.opts).length + s.data.size := by
 unfold pk
 rw [pkt_len, sg_len]
 omega
theorem sg_le {s : Sg} (k : s.ok) (m : s.may) : ∀ x ∈ seg s.sip s.dip (th s) (bz s.data), x ≤ 255 := seg_le _ _ _ (th_ok k) (th_may m) _ (bz_le _)
theorem pk_le {s : Sg} (k : s.ok) (m : s.may) : ∀ x ∈ pk s, x ≤ 255 := by
 have := m.few; have := m.opts.most
 exact pkt_le _ (ihd_ok k) _ (sg_le k m) (by rw [sg_len]; omega)
def sgOf (h : Hd) (t : Th) (o : Opn) (d : ByteArray) : Sg := ⟨h.src, t.src, h.dst, t.dst, t.seq, t.ack, t.flags, t.win, o, d⟩
def ld (S : ByteArray) : ByteArray := S.extract 20 S.size
def dt (S : ByteArray) : ByteArray := (ld S).extract (hl (bz (ld S))) (ld S).size
def dec8 (S : ByteArray) : Nat × Sg :=
 if err (bz S) ≠ 0 then (err (bz S), zeroS)
 else if (rd (bz S)).proto ≠ 6 then (80, zeroS)
 else if terr (rd (bz S)).src (rd (bz S)).dst (bz (ld S)) ≠ 0 then (terr (rd (bz S)).src (rd (bz S)).dst (bz (ld S)), zeroS)
 else if (dec7 (bz (trd (ld S)).opts)).1 ≠ 0 then ((dec7 (bz (trd (ld S)).opts)).1, zeroS)
 else if flg (trd (ld S)).flags = false then (81, zeroS)
 else if 1460 < (dt S).size then (4, zeroS)
 else (0, sgOf (rd (bz S)) (trd (ld S)) (dec7 (bz (trd (ld S)).opts)).2 (dt S))
structure Rd (S : ByteArray) (h : Hd) (c : Nat) (t : Th) (k : Nat) (o : Opn) (d : ByteArray) : Prop where
 bytes : bz S = hd h (40 + t.opts.size + d.size) c ++ raw t (bz d) k
 hk : h.ok
 proto : h.proto = 6
 c16 : c ≤ 65535
 hsum : cs (hd h (40 + t.opts.size + d.size) c) = 0
 tok : t.ok
 tmay : t.may
 k16 : k ≤ 65535
 tsum : tsum h.src h.dst (raw t (bz d) k) = 0
 opts : dec7 (bz t.opts) = (0, o)
 flags : flg t.flags = true
 few : d.size ≤ 1460
theorem Rd.size {S : ByteArray} {h : Hd} {c : Nat} {t : Th} {k : Nat} {o : Opn} {d : ByteArray} (r : Rd S h c t k o d) : S.size = 40 + t.opts.size + d.size := by
 rw [← bz_len, r.bytes, List.length_append, hd_len, raw_len, bz_len]
 omega
theorem Rd.ld {S : ByteArray} {h : Hd} {c : Nat} {t : Th} {k : Nat} {o : Opn} {d : ByteArray} (r : Rd S h c t k o d) : bz (ld S) = raw t (bz d) k := by
 unfold PktMath.ld
 rw [bz_extract S 20 _ (Nat.le_refl _), List.take_of_length_le (by rw [bz_len]; exact Nat.le_refl _), r.bytes]
 exact List.drop_left' (hd_len _ _ _)
theorem rd_dec {S : ByteArray} {h : Hd} {c : Nat} {t : Th} {k : Nat} {o : Opn} {d : ByteArray} (r : Rd S h c t k o d) : dec8 S = (0, sgOf h t o d) := by
 have hm := r.tmay.most
 have hf := r.few
 have hlen : (raw t (bz d) k).length = 20 + t.opts.size + d.size := by rw [raw_len, bz_len]
 have e1 : err (bz S) = 0 := by
   rw [r.bytes]
   exact hd_err h _ c _ (by rw [hlen]; omega) (by omega) r.hsum
 have e2 : rd (bz S) = h := by rw [r.bytes]; exact hd_rd h _ c _ r.hk
 obtain ⟨e3, e4⟩ := raw_trd t r.tok r.tmay (bz d) k (PktMath.ld S) r.ld
 have e5 : dt S = d := bz_inj e4
 have e6 : terr h.src h.dst (bz (PktMath.ld S)) = 0 := by
   rw [r.ld]
   unfold terr
   have h12 : at0 (raw t (bz d) k) 12 = off t := raw_at t (bz d) k 12 (by decide)
   have h13 : at0 (raw t (bz d) k) 13 = t.flags := raw_at t (bz d) k 13 (by decide)
   have := r.tmay.flags
   have hoff : off t % 16 = 0 := by unfold off; omega
   rw [hlen, r.tsum, raw_hl t r.tmay, h12, h13, if_neg (by omega), if_neg (by omega), if_neg (by omega), if_neg (by omega), if_neg (by omega)]
 unfold dec8
 rw [e1, e2, e3, e5, e6, r.opts, if_neg (fun h => h rfl), if_neg (fun h => h r.proto), if_neg (fun h => h rfl), if_neg (fun h => h rfl), if_neg (by rw [r.flags]; decide), if_neg (by omega)]
theorem dec_rd {S : ByteArray} (h0 : (dec8 S).1 = 0) : ∃ c k, Rd S (rd (bz S)) c (trd (ld S)) k (dec7 (bz (trd (ld S)).opts)).2 (dt S) ∧ dec8 S = (0, sgOf (rd (bz S)) (trd (ld S)) (dec7 (bz (trd (ld S)).opts)).2 (dt S)) := by
 have hd8 := h0
 unfold dec8 at h0
 by_cases c1 : err (bz S) ≠ 0
 · rw [if_pos c1] at h0; dsimp only at h0; exact (c1 h0).elim
 by_cases c2 : (rd (bz S)).proto ≠ 6
 · rw [if_neg c1, if_pos c2] at h0; dsimp only at h0; omega
 by_cases c3 : terr (rd (bz S)).src (rd (bz S)).dst (bz (ld S)) ≠ 0
 · rw [if_neg c1, if_neg c2, if_pos c3] at h0; dsimp only at h0; exact (c3 h0).elim
 by_cases c4 : (dec7 (bz (trd (ld S)).opts)).1 ≠ 0
 · rw [if_neg c1, if_neg c2, if_neg c3, if_pos c4] at h0; dsimp only at h0; exact (c4 h0).elim
 by_cases c5 : flg (trd (ld S)).flags = false
 · rw [if_neg c1, if_neg c2, if_neg c3, if_neg c4, if_pos c5] at h0; dsimp only at h0; omega
 by_cases c6 : 1460 < (dt S).size
 · rw [if_neg c1, if_neg c2, if_neg c3, if_neg c4, if_neg c5, if_pos c6] at h0; dsimp only at h0; omega
 clear h0
 obtain ⟨i1, i2, i3, i4, i5⟩ := rd_hd (bz S) (bz_le S) (Decidable.not_not.1 c1)
 obtain ⟨t1, t2, t3, t4, t5, t6, t7⟩ := trd_raw _ _ (ld S) (Decidable.not_not.1 c3)
 have hle := at_le S
 have hle2 := at_le (ld S)
 have hsz : (ld S).size = S.size - 20 := by unfold ld; rw [ByteArray.size_extract]; omega
 have hn : (bz S).length = 40 + (trd (ld S)).opts.size + (dt S).size := by
   rw [bz_len] at i4 ⊢
   have : (bz (dt S)).length = (dt S).size := bz_len _
   have t5' : 20 + (trd (ld S)).opts.size + (bz (dt S)).length = (ld S).size := t5
   omega
 have hld : bz (ld S) = (bz S).drop 20 := by
   unfold ld
   rw [bz_extract S 20 _ (Nat.le_refl _), List.take_of_length_le (by rw [bz_len]; exact Nat.le_refl _)]
 have q10 := hle 10; have q11 := hle 11; have q16 := hle2 16; have q17 := hle2 17
 have hR : Rd S (rd (bz S)) (at0 (bz S) 10 * 256 + at0 (bz S) 11) (trd (ld S)) (at0 (bz (ld S)) 16 * 256 + at0 (bz (ld S)) 17) (dec7 (bz (trd (ld S)).opts)).2 (dt S) :=
   { bytes := by rw [← hn]; rw [← hld, t3] at i2; exact i2
     hk := i1
     proto := Decidable.not_not.1 c2
     c16 := by omega
     hsum := by rw [← hn]; exact i3
     tok := t1
     tmay := t2
     k16 := by omega
     tsum := by have h := t4; rw [t3] at h; exact h
     opts := Prod.ext (Decidable.not_not.1 c4) rfl
     flags := by cases h : flg (trd (ld S)).flags with | true => rfl | false => exact absurd h c5
     few := by omega }
 exact ⟨_, _, hR, rd_dec hR⟩
theorem pk_is (s : Sg) : pk s = hd (ihd s) (40 + (th s).opts.size + s.data.size) (cs (hd (ihd s) (40 + (th s).opts.size + s.data.size) 0)) ++ raw (th s) (bz s.data) (tsum s.sip s.dip (raw (th s) (bz s.data) 0)) := by
 have e : 20 + (seg s.sip s.dip (th s) (bz s.data)).length = 40 + (th s).opts.size + s.data.size := by rw [seg_len, bz_len]; omega
 unfold pk pkt
 rw [e]
 rfl
theorem pk_rd {s : Sg} (k : s.ok) (m : s.may) : Rd (ofB (pk s)) (ihd s) (cs (hd (ihd s) (40 + (th s).opts.size + s.data.size) 0)) (th s) (tsum s.sip s.dip (raw (th s) (bz s.data) 0)) s.opts s.data where
 bytes := by rw [bz_ofB (pk_le k m)]; exact pk_is s
 hk := ihd_ok k
 proto := rfl
 c16 := cs_le _
 hsum := head_right _ _
 tok := th_ok k
 tmay := th_may m
 k16 := tsum_le _ _ _
 tsum := seg_sum s.sip s.dip (th s) (bz s.data)
 opts := (was_written k.opts m.opts (raw_le _ k.opts m.opts)).1
 flags := m.flags
 few := m.few
theorem pk_dec {s : Sg} (k : s.ok) (m : s.may) : dec8 (ofB (pk s)) = (0, s) := rd_dec (pk_rd k m)
structure Sh where
 sip : Nat
 sport : Nat
 dip : Nat
 dport : Nat
 seq : Nat
 ack : Nat
 val : Nat
 echo : Nat
 up : Int
 down : Int
structure Sh.ok (x : Sh) : Prop where
 sip : x.sip ≤ 4294967295
 sport : x.sport ≤ 65535
 dip : x.dip ≤ 4294967295
 dport : x.dport ≤ 65535
 seq : x.seq ≤ 4294967295
 ack : x.ack ≤ 4294967295
 val : x.val ≤ 4294967295
 echo : x.echo ≤ 4294967295
def clamp (n : Int) : Nat := (min (max n 0) 14).toNat
def winT (w : Nat) (up down : Int) : Nat := min (w * 2 ^ clamp up / 2 ^ clamp down) 65535
def ackT (f a x : Nat) : Nat := if f / 16 % 2 = 1 then (a + x) % 4294967296 else a
def turned (s : Sg) (x : Sh) : Sg := ⟨x.sip, x.sport, x.dip, x.dport, (s.seq + x.seq) % 4294967296, ackT s.flags s.ack x.ack, s.flags, winT s.win x.up x.down, turnedO x.ack x.val x.echo s.opts, s.data⟩
theorem ackT_le {f a x : Nat} (h : a ≤ 4294967295) : ackT f a x ≤ 4294967295 := by unfold ackT; split <;> omega
theorem winT_le (w : Nat) (up down : Int) : winT w up down ≤ 65535 := Nat.min_le_right _ _
theorem turnedO_ok {o : Opn} (k : o.ok) (b v e : Nat) : (turnedO b v e o).ok where
 mss := k.mss
 blocks := by
   intro p hp
   obtain ⟨q, _, rfl⟩ := List.mem_map.1 (show p ∈ o.blocks.map _ from hp)
   simp only
   omega
 val := by
   have := k.val
   show (if o.time = true then (o.val + v) % 4294967296 else o.val) ≤ _
   split <;> omega
 echo := by
   have := k.echo
   show (if o.time = true then (o.echo + e) % 4294967296 else o.echo) ≤ _
   split <;> omega
theorem turned_ok {s : Sg} (k : s.ok) {x : Sh} (xk : x.ok) : (turned s x).ok :=
 ⟨xk.sip, xk.sport, xk.dip, xk.dport, by show (s.seq + x.seq) % 4294967296 ≤ _; omega, ackT_le k.ack, k.flags, winT_le _ _ _, turnedO_ok k.opts _ _ _⟩
def tur (s : Nat) (a b : List Nat) : Nat := tus s a b ((a.length + 1) / 2)
theorem tur_le {s : Nat} (hs : s ≤ 65535) (a b : List Nat) : tur s a b ≤ 65535 := tus_le s hs a b _
theorem tur_mod {s : Nat} (hs : s ≤ 65535) {a b : List Nat} (hl : a.length = b.length) (h2 : a.length % 2 = 0) (ha : ∀ x ∈ a, x ≤ 255) : (tur s a b + wsum b) % 65535 = (s + wsum a) % 65535 := tus_row s hs a b _ hl ha (by omega)
def hdT (h : Hd) (x : Sh) : Hd := ⟨x.sip, x.dip, h.proto, h.ttl, h.tos, h.id, h.df⟩
def thT (t : Th) (x : Sh) : Th := ⟨x.sport, x.dport, (t.seq + x.seq) % 4294967296, ackT t.flags t.ack x.ack, t.flags, winT t.win x.up x.down, t.urg, ofB (turnS x.ack x.val x.echo (bz t.opts))⟩
def fr (h : Hd) (t : Th) : List Nat := w4 h.src ++ w4 h.dst ++ (w2 t.src ++ w2 t.dst ++ w4 t.seq ++ w4 t.ack)
def cT (h : Hd) (x : Sh) (c : Nat) : Nat := tur c (w4 h.src ++ w4 h.dst) (w4 x.sip ++ w4 x.dip)
def kT (h : Hd) (t : Th) (x : Sh) (k : Nat) : Nat := tur (tur (tur k (fr h t) (fr (hdT h x) (thT t x))) (w2 t.win) (w2 (thT t x).win)) (bz t.opts) (turnS x.ack x.val x.echo (bz t.opts))
def rew (h : Hd) (c : Nat) (t : Th) (k : Nat) (d : ByteArray) (x : Sh) : List Nat := hd (hdT h x) (40 + t.opts.size + d.size) (cT h x c) ++ raw (thT t x) (bz d) (kT h t x k)
theorem w2_le2 {n : Nat} (h : n ≤ 65535) : ∀ x ∈ w2 n, x ≤ 255 := by
 intro x hx
 simp only [w2, List.mem_cons, List.not_mem_nil, or_false] at hx
 omega
theorem w4_le2 {n : Nat} (h : n ≤ 4294967295) : ∀ x ∈ w4 n, x ≤ 255 := by
 intro x hx
 simp only [w4, List.mem_cons, List.not_mem_nil, or_false] at hx
 omega
theorem app_le {a b : List Nat} (ha : ∀ x ∈ a, x ≤ 255) (hb : ∀ x ∈ b, x ≤ 255) : ∀ x ∈ a ++ b, x ≤ 255 := fun x hx => (List.mem_append.1 hx).elim (ha x) (hb x)
theorem fr_le {h : Hd} {t : Th} (hk : h.ok) (tk : t.ok) : ∀ x ∈ fr h t, x ≤ 255 :=
 app_le (app_le (w4_le2 hk.src) (w4_le2 hk.dst)) (app_le (app_le (app_le (w2_le2 tk.src) (w2_le2 tk.dst)) (w4_le2 tk.seq)) (w4_le2 tk.ack))
theorem hd_parts (h : Hd) (n c : Nat) (hc : c ≤ 65535) : wsum (hd h n c) = wsum (w4 h.src ++ w4 h.dst) + c + (69 * 256 + h.tos + wsum (w2 n) + wsum (w2 h.id) + (if h.df then 64 else 0) * 256 + (h.ttl * 256 + h.proto)) := by
 simp only [hd, w2, w4, List.cons_append, List.nil_append, wsum]
 omega
theorem fr_parts (h : Hd) (t : Th) : wsum (fr h t) = wsum (w4 h.src ++ w4 h.dst) + (wsum (w2 t.src) + wsum (w2 t.dst) + wsum (w4 t.seq) + wsum (w4 t.ack)) := by
 simp only [fr, w2, w4, List.cons_append, List.nil_append, wsum]
 omega
theorem seg_parts (h : Hd) (t : Th) (d : List Nat) (k n : Nat) (h4 : t.opts.size % 4 = 0) (hk : k ≤ 65535) :
   wsum (ps h.src h.dst n) + wsum (raw t d k) = wsum (fr h t) + wsum (w2 t.win) + wsum (bz t.opts) + k + (6 + wsum (w2 n) + (off t * 256 + t.flags) + wsum (w2 t.urg) + wsum d) := by
 have e1 : wsum (ps h.src h.dst n) = wsum (w4 h.src ++ w4 h.dst) + 6 + wsum (w2 n) := by
   simp only [ps, w2, w4, List.cons_append, List.nil_append, wsum]
   omega
 have e2 : wsum (raw t d k) = wsum (front t) + (k + (wsum (w2 t.urg) + (wsum (bz t.opts) + wsum d))) := by
   unfold raw
   rw [wsum_append (front t) _ (by rw [front_len]), wsum_append (w2 k) _ (by simp [w2]), wsum_append (w2 t.urg) _ (by simp [w2]), wsum_append (bz t.opts) _ (by rw [bz_len]; omega)]
   have : wsum (w2 k) = k := by simp only [w2, wsum]; omega
   rw [this]
 have e3 : wsum (front t) = wsum (w2 t.src) + wsum (w2 t.dst) + wsum (w4 t.seq) + wsum (w4 t.ack) + (off t * 256 + t.flags) + wsum (w2 t.win) := by
   simp only [front, w2, w4, List.cons_append, List.nil_append, wsum]
   omega
 rw [e1, e2, e3, fr_parts]
 omega
structure TurnOk (t : Th) (x : Sh) (o : Opn) : Prop where
 size : (thT t x).opts.size = t.opts.size
 bytes : bz (thT t x).opts = turnS x.ack x.val x.echo (bz t.opts)
 opts : dec7 (bz (thT t x).opts) = (0, turnedO x.ack x.val x.echo o)
theorem turn_ok {t : Th} {o : Opn} (h : dec7 (bz t.opts) = (0, o)) (x : Sh) : TurnOk t x o := by
 obtain ⟨h40, ps, p, hplc, hdec, ho⟩ := OptTurn.dec7_zero (show (dec7 (bz t.opts)).1 = 0 by rw [h])
 rw [h] at ho
 simp only at ho
 subst ho
 obtain ⟨d1, d2⟩ := dec_turn x.ack x.val x.echo (bz t.opts) o (bz_le _) hdec
 have hb : bz (thT t x).opts = turnS x.ack x.val x.echo (bz t.opts) := bz_ofB (turnS_le _ _ _ _ (bz t.opts) (Nat.le_refl _) (bz_le _))
 exact ⟨by rw [← bz_len, hb, d2, bz_len], hb, by rw [hb]; exact dec7_some (by rw [d2]; exact h40) d1⟩
theorem hdT_ok {h : Hd} (k : h.ok) {x : Sh} (xk : x.ok) : (hdT h x).ok := ⟨xk.sip, xk.dip, k.proto, k.ttl, k.tos, k.id⟩
theorem thT_ok {t : Th} (k : t.ok) {x : Sh} (xk : x.ok) : (thT t x).ok := ⟨xk.sport, xk.dport, by show (t.seq + x.seq) % 4294967296 ≤ _; omega, ackT_le k.ack, k.flags, winT_le _ _ _, k.urg⟩
theorem cT_right {h : Hd} (hk : h.ok) {x : Sh} (xk : x.ok) {n c : Nat} (hc : c ≤ 65535) (h0 : cs (hd h n c) = 0) : cs (hd (hdT h x) n (cT h x c)) = 0 := by
 have hc2 : cT h x c ≤ 65535 := tur_le hc _ _
 have hm : (cT h x c + wsum (w4 x.sip ++ w4 x.dip)) % 65535 = (c + wsum (w4 h.src ++ w4 h.dst)) % 65535 := tur_mod hc (b := w4 x.sip ++ w4 x.dip) rfl (by simp [w4]) (app_le (w4_le2 hk.src) (w4_le2 hk.dst))
 rw [cs_zero] at h0 ⊢
 refine ⟨hd_pos _ _ _, ?_⟩
 have h1 := h0.2
 rw [hd_parts h n c hc] at h1
 rw [hd_parts (hdT h x) n _ hc2]
 show (wsum (w4 x.sip ++ w4 x.dip) + cT h x c + (69 * 256 + h.tos + wsum (w2 n) + wsum (w2 h.id) + (if h.df then 64 else 0) * 256 + (h.ttl * 256 + h.proto))) % 65535 = 0
 generalize 69 * 256 + h.tos + wsum (w2 n) + wsum (w2 h.id) + (if h.df then 64 else 0) * 256 + (h.ttl * 256 + h.proto) = R at h1 ⊢
 omega
theorem kT_right {h : Hd} (hk : h.ok) {t : Th} (tok : t.ok) (tm : t.may) {o : Opn} (ho : dec7 (bz t.opts) = (0, o)) {x : Sh} (xk : x.ok) {d : List Nat} {k : Nat} (k16 : k ≤ 65535) (h0 : tsum h.src h.dst (raw t d k) = 0) :
   kT h t x k ≤ 65535 ∧ tsum (hdT h x).src (hdT h x).dst (raw (thT t x) d (kT h t x k)) = 0 := by
 have tq := turn_ok ho x
 have h4 := tm.four
 have hl : (bz t.opts).length = (turnS x.ack x.val x.echo (bz t.opts)).length := by rw [← tq.bytes, bz_len, bz_len, tq.size]
 have m1 := tur_mod k16 (show (fr h t).length = (fr (hdT h x) (thT t x)).length from rfl) (by simp [fr, w2, w4]) (fr_le hk tok)
 have l1 : tur k (fr h t) (fr (hdT h x) (thT t x)) ≤ 65535 := tur_le k16 _ _
 have m2 := tur_mod l1 (show (w2 t.win).length = (w2 (thT t x).win).length from rfl) (by simp [w2]) (w2_le2 tok.win)
 have l2 : tur (tur k (fr h t) (fr (hdT h x) (thT t x))) (w2 t.win) (w2 (thT t x).win) ≤ 65535 := tur_le l1 _ _
 have m3 := tur_mod l2 hl (by rw [bz_len]; omega) (bz_le t.opts)
 have l3 : kT h t x k ≤ 65535 := tur_le l2 _ _
 have m3' : (kT h t x k + wsum (bz (thT t x).opts)) % 65535 = (tur (tur k (fr h t) (fr (hdT h x) (thT t x))) (w2 t.win) (w2 (thT t x).win) + wsum (bz t.opts)) % 65535 := by rw [tq.bytes]; exact m3
 refine ⟨l3, ?_⟩
 rw [tsum_zero, raw_len] at h0 ⊢
 rw [seg_parts h t d k _ h4 k16] at h0
 rw [seg_parts (hdT h x) (thT t x) d _ _ (by rw [tq.size]; exact h4) l3]
 have eo : off (thT t x) = off t := by unfold off; rw [tq.size]
 rw [tq.size, eo]
 show (wsum (fr (hdT h x) (thT t x)) + wsum (w2 (thT t x).win) + wsum (bz (thT t x).opts) + kT h t x k + (6 + wsum (w2 (20 + t.opts.size + d.length)) + (off t * 256 + t.flags) + wsum (w2 t.urg) + wsum d)) % 65535 = 0
 generalize 6 + wsum (w2 (20 + t.opts.size + d.length)) + (off t * 256 + t.flags) + wsum (w2 t.urg) + wsum d = R at h0 ⊢
 generalize kT h t x k = k3 at m3' ⊢
 generalize tur (tur k (fr h t) (fr (hdT h x) (thT t x))) (w2 t.win) (w2 (thT t x).win) = k2 at m2 m3'
 generalize tur k (fr h t) (fr (hdT h x) (thT t x)) = k1 at m1 m2
 generalize wsum (fr h t) = a1 at m1 h0
 generalize wsum (fr (hdT h x) (thT t x)) = b1 at m1 ⊢
 generalize wsum (w2 t.win) = a2 at m2 h0
 generalize wsum (w2 (thT t x).win) = b2 at m2 ⊢
 generalize wsum (bz t.opts) = a3 at m3' h0
 generalize wsum (bz (thT t x).opts) = b3 at m3' ⊢
 omega
theorem rew_rd {S : ByteArray} {h : Hd} {c : Nat} {t : Th} {k : Nat} {o : Opn} {d : ByteArray} (r : Rd S h c t k o d) {x : Sh} (xk : x.ok) :
   Rd (ofB (rew h c t k d x)) (hdT h x) (cT h x c) (thT t x) (kT h t x k) (turnedO x.ack x.val x.echo o) d := by
 have tq := turn_ok r.opts x
 obtain ⟨l3, hs⟩ := kT_right r.hk r.tok r.tmay r.opts xk r.k16 r.tsum
 have hmost := r.tmay.most
 have hfew := r.few
 have tm : (thT t x).may := ⟨by rw [tq.size]; exact r.tmay.four, by rw [tq.size]; exact hmost, r.tmay.flags⟩
 have hc : cT h x c ≤ 65535 := tur_le r.c16 _ _
 have hle : ∀ y ∈ rew h c t k d x, y ≤ 255 := app_le (hd_le _ (hdT_ok r.hk xk) _ _ (by omega) hc) (raw_le _ (thT_ok r.tok xk) tm _ _ (bz_le d) l3)
 exact
   { bytes := by rw [bz_ofB hle, tq.size]; rfl
     hk := hdT_ok r.hk xk
     proto := r.proto
     c16 := hc
     hsum := by rw [tq.size]; exact cT_right r.hk xk r.c16 r.hsum
     tok := thT_ok r.tok xk
     tmay := tm
     k16 := l3
     tsum := hs
     opts := tq.opts
     flags := r.flags
     few := hfew }
theorem rew_dec {S : ByteArray} {h : Hd} {c : Nat} {t : Th} {k : Nat} {o : Opn} {d : ByteArray} (r : Rd S h c t k o d) {x : Sh} (xk : x.ok) : dec8 (ofB (rew h c t k d x)) = (0, turned (sgOf h t o d) x) := rd_dec (rew_rd r xk)
theorem rew_len {S : ByteArray} {h : Hd} {c : Nat} {t : Th} {k : Nat} {o : Opn} {d : ByteArray} (r : Rd S h c t k o d) {x : Sh} (xk : x.ok) : (ofB (rew h c t k d x)).size = S.size := by
 rw [(rew_rd r xk).size, r.size, (turn_ok r.opts x).size]
end Go.Proofs.YtpmnmnflaijaaaaGreat.PktMath
namespace Go.Proofs.YtpmnmnflaijaaaaGreat.PktVal
open Go.RowKit OptMath OptSame PktMath
abbrev sc (s : Sg) (A : Option Addr) (c : Nat) : Array Value := #[.int .u32 (s.sip : Int), .int .u16 (s.sport : Int), .int .u32 (s.dip : Int), .int .u16 (s.dport : Int), .int .u32 (s.seq : Int), .int .u32 (s.ack : Int), .int .u8 (s.flags : Int), .int .u16 (s.win : Int),
 .int .u16 (s.opts.mss : Int), .int .i64 s.opts.scale, .bool s.opts.sack, .slice A s.opts.blocks.length c, .bool s.opts.time, .int .u32 (s.opts.val : Int), .int .u32 (s.opts.echo : Int), .string s.data]
abbrev sv (s : Sg) (A : Option Addr) (c : Nat) : Value := .agg #[.int .u32 (s.sip : Int), .int .u16 (s.sport : Int), .int .u32 (s.dip : Int), .int .u16 (s.dport : Int), .int .u32 (s.seq : Int), .int .u32 (s.ack : Int), .int .u8 (s.flags : Int), .int .u16 (s.win : Int),
 .int .u16 (s.opts.mss : Int), .int .i64 s.opts.scale, .bool s.opts.sack, .slice A s.opts.blocks.length c, .bool s.opts.time, .int .u32 (s.opts.val : Int), .int .u32 (s.opts.echo : Int), .string s.data]
abbrev xv (x : Sh) : Value := .agg #[.int .u32 (x.sip : Int), .int .u16 (x.sport : Int), .int .u32 (x.dip : Int), .int .u16 (x.dport : Int), .int .u32 (x.seq : Int), .int .u32 (x.ack : Int), .int .u32 (x.val : Int), .int .u32 (x.echo : Int), .int .i64 x.up, .int .i64 x.down]
end Go.Proofs.YtpmnmnflaijaaaaGreat.PktVal
namespace Go.Proofs.YtpmnmnflaijaaaaGreat.PktSmall
open Go.RowKit Own TupMath SumMath Litb Calm Rel RelT RelK IpMath IpRef OptMath OptRef OptPlc OptSame Boxes PktMath PktVal
set_option linter.unusedVariables false
set_option maxRecDepth 100000
theorem ret_n {k : IntKind} {a b : Int} (h : a = b) : Ending.returned (.int k a) = .returned (.int k b) := by rw [h]
theorem and1 : ∀ f : Fin 256, bits .and .u8 (f.val : Int) 1 = ((f.val % 2 : Nat) : Int) := by decide +kernel
theorem and2 : ∀ f : Fin 256, bits .and .u8 (f.val : Int) 2 = ((f.val / 2 % 2 * 2 : Nat) : Int) := by decide +kernel
theorem and4 : ∀ f : Fin 256, bits .and .u8 (f.val : Int) 4 = ((f.val / 4 % 2 * 4 : Nat) : Int) := by decide +kernel
theorem and16 : ∀ f : Fin 256, bits .and .u8 (f.val : Int) 16 = ((f.val / 16 % 2 * 16 : Nat) : Int) := by decide +kernel
def cnt (f : Nat) : Nat → Nat
 | 0 => 0
 | 1 => f % 2
 | 2 => f % 2 + f / 2 % 2
 | _ => f % 2 + f / 2 % 2 + f / 4 % 2
theorem cnt_le (f j : Nat) : cnt f j ≤ 3 := by unfold cnt; split <;> omega
theorem cnt_one (f j : Nat) (h : cnt f j + 1 = cnt f (j + 1)) : Value.int .i64 (wrap64 ((cnt f j : Int) + 1)) = .int .i64 (cnt f (j + 1) : Int) := by
 have h1 := cnt_le f j
 rw [← h]
 generalize cnt f j = n at h1
 congr 1
 unfold wrap64
 omega
set_option maxHeartbeats 8000000 in
theorem flagsR (f : Nat) (w : World) (hf : f ≤ 255) : Calls Tryz.prog 54 #[.int .u8 (f : Int)] w fun e w' => e = .returned (.bool (flg f)) ∧ Below w.heap.size w w' := by
 have a1 : bits .and .u8 (f : Int) 1 = ((f % 2 : Nat) : Int) := and1 ⟨f, by omega⟩
 have a2 : bits .and .u8 (f : Int) 2 = ((f / 2 % 2 * 2 : Nat) : Int) := and2 ⟨f, by omega⟩
 have a4 : bits .and .u8 (f : Int) 4 = ((f / 4 % 2 * 4 : Nat) : Int) := and4 ⟨f, by omega⟩
 have HF : Hid (flg f = (decide ((f : Int) < 32) && decide ((cnt f 3 : Int) ≤ 1))) := Lib.hid (by
   unfold flg cnt
   congr 1
   · exact decide_eq_decide.2 (by omega)
   · exact decide_eq_decide.2 (by show _ ↔ ((f % 2 + f / 2 % 2 + f / 4 % 2 : Nat) : Int) ≤ 1; omega))
 go_enter Tryz.func54, Tryz.ntmps54
 go_wp2_with fail
 go_loop [3, 5] (fun n i => ∃ j : Nat, i = .int .i64 (j : Int) ∧ j ≤ 3 ∧ n = .int .i64 (cnt f j : Int)) (fun n i => 3 - (intOf i).toNat)
 case atStart => exact ⟨0, rfl, by omega, rfl⟩
 case round =>
   obtain ⟨j, rfl, hj, rfl⟩ := hrel
   have h4 : j = 0 ∨ j = 1 ∨ j = 2 ∨ j = 3 := by omega
   clear hj
   rcases h4 with rfl | rfl | rfl | rfl
   · go_wp2
     all_goals (refine ⟨⟨1, rfl, by omega, ?_⟩, by simp [intOf]⟩)
     · have h1 : f % 2 = 1 := by
         have h2 : ((f : Int) % 2 != 0) = true := by assumption
         have h3 := bne_iff_ne.1 h2
         omega
       exact cnt_one f 0 (by show cnt f 0 + 1 = cnt f 1; simp only [cnt]; omega)
     · have h1 : f % 2 = 0 := by
         have h2 : ((f : Int) % 2 != 0) = false := by assumption
         have h3 := bne_eq_false_iff_eq.1 h2
         omega
       have e : cnt f 0 = cnt f 1 := by simp only [cnt]; omega
       rw [e]
   · go_wp2
     all_goals (refine ⟨⟨2, rfl, by omega, ?_⟩, by simp [intOf]⟩)
     · have h1 : f / 2 % 2 = 1 := by
         have h2 : ((f : Int) / 2 % 2 * 2 != 0) = true := by assumption
         have h3 := bne_iff_ne.1 h2
         omega
       exact cnt_one f 1 (by show cnt f 1 + 1 = cnt f 2; simp only [cnt]; omega)
     · have h1 : f / 2 % 2 = 0 := by
         have h2 : ((f : Int) / 2 % 2 * 2 != 0) = false := by assumption
         have h3 := bne_eq_false_iff_eq.1 h2
         omega
       have e : cnt f 1 = cnt f 2 := by simp only [cnt]; omega
       rw [e]
   · go_wp2
     all_goals (refine ⟨⟨3, rfl, by omega, ?_⟩, by simp [intOf]⟩)
     · have h1 : f / 4 % 2 = 1 := by
         have h2 : ((f : Int) / 4 % 2 * 4 != 0) = true := by assumption
         have h3 := bne_iff_ne.1 h2
         omega
       exact cnt_one f 2 (by show cnt f 2 + 1 = cnt f 3; simp only [cnt]; omega)
     · have h1 : f / 4 % 2 = 0 := by
         have h2 : ((f : Int) / 4 % 2 * 4 != 0) = false := by assumption
         have h3 := bne_eq_false_iff_eq.1 h2
         omega
       have e : cnt f 2 = cnt f 3 := by simp only [cnt]; omega
       rw [e]
   · go_wp2
     all_goals go_ret
     · refine ⟨?_, st_alloc (Below.refl _ _) _⟩
       have : (f : Int) < 32 := by assumption
       rw [HF.out, decide_eq_true this]
       rfl
     · refine ⟨?_, st_alloc (Below.refl _ _) _⟩
       have : ¬ (f : Int) < 32 := by omega
       rw [HF.out, decide_eq_false this]
       rfl
def nxt (s : Sg) : Nat := (s.seq + s.data.size + s.flags / 2 % 2 + s.flags % 2) % 4294967296
end Go.Proofs.YtpmnmnflaijaaaaGreat.PktSmall
namespace Go.Proofs.YtpmnmnflaijaaaaGreat.PktCom
open Go.RowKit TupMath SumMath IpMath IpRef OptMath OptMay PktMath PktVal
set_option linter.unusedVariables false
def mayS (s : Sg) : Bool := flg s.flags && mayO s.opts && decide (s.data.size ≤ 1460)
theorem of_mayS {s : Sg} (h : mayS s = true) : s.may := by
 unfold mayS at h
 simp only [Bool.and_eq_true, decide_eq_true_eq] at h
 exact ⟨h.1.1, may_of h.1.2, h.2⟩
noncomputable def sameS (s t : Sg) : Bool := @decide (s = t) (Classical.propDecidable _)
theorem sameS_yes {s t : Sg} (h : s = t) : sameS s t = true := @decide_eq_true _ (Classical.propDecidable _) h
theorem sameS_no {s t : Sg} (h : s ≠ t) : sameS s t = false := @decide_eq_false _ (Classical.propDecidable _) h
theorem bytes_ne {S s : ByteArray} (h : ¬ S = s) : (S.toList == s.toList) = false := by
 refine beq_eq_false_iff_ne.2 fun e => h ?_
 rw [ByteArray.toList_eq, ByteArray.toList_eq] at e
 obtain ⟨⟨l⟩⟩ := S
 obtain ⟨⟨m⟩⟩ := s
 simp only at e
 rw [e]
def encV8 (s : Sg) : Value := if mayS s = true then .tuple #[.string (ofB (pk s)), .int .i64 0] else .tuple #[.string ⟨#[]⟩, .int .i64 2]
end Go.Proofs.YtpmnmnflaijaaaaGreat.PktCom
namespace Go.Proofs.YtpmnmnflaijaaaaGreat.PktOp
open Go.Proofs.YtpmnmnflaijaaaaGreat.Own
open Go.RowKit TupMath SumMath Litb Calm Rel RelT RelK IpMath OptMath OptRef OptPlc OptSame Boxes OptTake5 OptTk PktMath PktVal PktCom
open Cells (CellsAt Apart put_lit)
set_option linter.unusedVariables false
set_option linter.unusedSimpArgs false
set_option maxRecDepth 100000
attribute [local go_sem] Oper.semAt_some
abbrev xc (x : Sh) : Array Value := #[.int .u32 (x.sip : Int), .int .u16 (x.sport : Int), .int .u32 (x.dip : Int), .int .u16 (x.dport : Int), .int .u32 (x.seq : Int), .int .u32 (x.ack : Int), .int .u32 (x.val : Int), .int .u32 (x.echo : Int), .int .i64 x.up, .int .i64 x.down]
def shiftB (bl : Nat) (L : List (Nat × Nat)) : List (Nat × Nat) := L.map fun p => ((p.1 + bl) % 4294967296, (p.2 + bl) % 4294967296)
set_option maxHeartbeats 16000000 in
theorem optionsP (o : Opn) (A : Option Addr) (c : Nat) (x : Sh) (w : World) (hbk : BlkR w A o.blocks) (k : o.ok) (hl : o.blocks.length ≤ 1000) (xk : x.ok) :
   Calls Tryz.prog 33 #[ov o A c, xv x] w fun r w' => (∃ A' c', r = .returned (ov (turnedO x.ack x.val x.echo o) A' c') ∧ Row (fun b => w.heap.size ≤ b) w' A' (turnedO x.ack x.val x.echo o).blocks) ∧ Below w.heap.size w w' := by
 obtain ⟨mss, scale, sack, blocks, time, val, echo⟩ := o
 have kb := k.blocks
 have kv := k.val
 have ke := k.echo
 have xa := xk.ack
 have xvl := xk.val
 have xe := xk.echo
 simp only at kb kv ke hl hbk
 clear k xk
 obtain ⟨o2, ho2⟩ : ∃ o2, turnedO x.ack x.val x.echo ⟨mss, scale, sack, blocks, time, val, echo⟩ = o2 := ⟨_, rfl⟩
 rw [ho2]
 have HO2 := Lib.hid ho2
 have HKB := Lib.hid kb
 have HBK := Lib.hid hbk
 clear ho2 kb hbk
 have C0 := ((CellsAt.new w (oc ⟨mss, scale, sack, blocks, time, val, echo⟩ A c) 28).later ((Below.refl _ (w.alloc (.cells (oc ⟨mss, scale, sack, blocks, time, val, echo⟩ A c) 28))).alloc (Nat.le_refl _) (.cells (xc x) 32))).later ((Below.refl _ ((w.alloc (.cells (oc ⟨mss, scale, sack, blocks, time, val, echo⟩ A c) 28)).alloc (.cells (xc x) 32))).alloc (Nat.le_refl _) (.cells #[.int .u16 0, .int .i64 0, .bool false, .slice none 0 0, .bool false, .int .u32 0, .int .u32 0] 28))
 have X0 := (CellsAt.new (w.alloc (.cells (oc ⟨mss, scale, sack, blocks, time, val, echo⟩ A c) 28)) (xc x) 32).later ((Below.refl _ ((w.alloc (.cells (oc ⟨mss, scale, sack, blocks, time, val, echo⟩ A c) 28)).alloc (.cells (xc x) 32))).alloc (Nat.le_refl _) (.cells #[.int .u16 0, .int .i64 0, .bool false, .slice none 0 0, .bool false, .int .u32 0, .int .u32 0] 28))
 have D0 := CellsAt.new ((w.alloc (.cells (oc ⟨mss, scale, sack, blocks, time, val, echo⟩ A c) 28)).alloc (.cells (xc x) 32)) #[.int .u16 0, .int .i64 0, .bool false, .slice none 0 0, .bool false, .int .u32 0, .int .u32 0] 28
 simp only [World.size_alloc] at X0 D0
 have B0 := st_alloc (st_alloc (st_alloc (Below.refl _ w) (.cells (oc ⟨mss, scale, sack, blocks, time, val, echo⟩ A c) 28)) (.cells (xc x) 32)) (.cells #[.int .u16 0, .int .i64 0, .bool false, .slice none 0 0, .bool false, .int .u32 0, .int .u32 0] 28)
 have HC0 := Lib.hid C0
 have HX0 := Lib.hid X0
 have HD0 := Lib.hid D0
 have HB0 := Lib.hid B0
 clear C0 D0 B0 X0
 go_enter Tryz.func33, Tryz.ntmps33
 go_wp2_with fail
 go_loopw [5, 11] (fun lv i wr => ∃ (j : Nat) (A0 : Option Addr) (c0 : Nat) (L : List (Nat × Nat)), i = .int .i64 (j : Int) ∧ j ≤ blocks.length ∧ lv = .slice A0 L.length c0 ∧ L = shiftB x.ack (blocks.take j) ∧ CellsAt wr w.heap.size (oc ⟨mss, scale, sack, blocks, time, val, echo⟩ A c) ∧ CellsAt wr (w.heap.size + 1) (xc x) ∧ CellsAt wr (w.heap.size + 1 + 1) #[.int .u16 0, .int .i64 0, .bool false, .slice none 0 0, .bool false, .int .u32 0, .int .u32 0] ∧ OwnB wr (w.heap.size + 3) (.slice A0 L.length c0) L ∧ Below w.heap.size w wr) (fun _ i _ => blocks.length - (intOf i).toNat)
 case atStart => exact ⟨0, none, 0, [], rfl, by omega, rfl, rfl, HC0.out, HX0.out, HD0.out, ownB_nil _ _, HB0.out⟩
 case round =>
   obtain ⟨j, A0, c0, L, rfl, hj, rfl, hL, hC, hX, hD, hO, hB⟩ := hrel
   have HL := Lib.hid hL
   have hLl : L.length = min j blocks.length := by rw [hL]; unfold shiftB; rw [List.length_map, List.length_take]
   have HLL := Lib.hid hLl
   have HC := Lib.hid hC
   have HX := Lib.hid hX
   have HD := Lib.hid hD
   have HO := Lib.hid hO
   have HB := Lib.hid hB
   have hd1 := hD.lt
   clear hL hC hD hO hB hX
   by_cases hlt : j < blocks.length
   · have HLT := Lib.hid hlt
     have hli : (j : Int) < (blocks.length : Int) := by omega
     obtain ⟨g, off, rfl, hg, hgc⟩ := HBK.out (show 0 < blocks.length by omega)
     obtain ⟨⟨f, t⟩, hft⟩ : ∃ p, blocks[j]? = some p := ⟨_, List.getElem?_eq_getElem hlt⟩
     obtain ⟨d0, d1⟩ := hgc j (f, t) hft
     simp only at d0 d1
     have e0 := (HB.out.cell (p := ⟨g, off + j * 2, none⟩) hg).trans d0
     have e1 := (HB.out.cell (p := ⟨g, off + j * 2 + 1, none⟩) hg).trans d1
     obtain ⟨hf, ht⟩ := HKB.out (f, t) (List.mem_of_getElem? hft)
     simp only at hf ht
     obtain ⟨fx, hfx⟩ : ∃ y, (f + x.ack) % 4294967296 = y := ⟨_, rfl⟩
     obtain ⟨tx, htx⟩ : ∃ y, (t + x.ack) % 4294967296 = y := ⟨_, rfl⟩
     have hsn : shiftB x.ack (blocks.take (j + 1)) = shiftB x.ack (blocks.take j) ++ [(fx, tx)] := by
       unfold shiftB
       rw [take_snocG hft, List.map_append]
       simp only [List.map_cons, List.map_nil, hfx, htx]
     have HSN := Lib.hid hsn
     have wf : IntKind.u32.wrap ((f : Int) + (x.ack : Int)) = (fx : Int) := by rw [IntKind.wrap_u32]; omega
     have wt : IntKind.u32.wrap ((t : Int) + (x.ack : Int)) = (tx : Int) := by rw [IntKind.wrap_u32]; omega
     have wf2 : ((f : Int) + (x.ack : Int)) % 4294967296 = (fx : Int) := by omega
     have wt2 : ((t : Int) + (x.ack : Int)) % 4294967296 = (tx : Int) := by omega
     have hL4 : L.length ≤ 1000 := by omega
     have BN := st_alloc (st_alloc (Below.refl _ wr) (.cells #[.int .u32 (f : Int), .int .u32 (t : Int)] 74)) (.cells #[.int .u32 (fx : Int), .int .u32 (tx : Int)] 74)
     have C1 := Lib.hid (HC.out.later BN)
     have X1 := Lib.hid (HX.out.later BN)
     have D1 := Lib.hid (HD.out.later BN)
     have O1 := Lib.hid (HO.out.stays BN)
     have B1 := Lib.hid (st_call HB.out BN)
     have x5 := (HX.out.later ((Below.refl _ wr).alloc (Nat.le_refl _) (.cells #[.int .u32 (f : Int), .int .u32 (t : Int)] 74))).cell 5 _ rfl
     have hb0 := (box_new (wr.alloc (.cells #[.int .u32 (f : Int), .int .u32 (t : Int)] 74)) (.cells #[.int .u32 (fx : Int), .int .u32 (tx : Int)] 74))
     rw [World.size_alloc] at hb0
     have hblk := Lib.hid hb0
     clear hb0 d0 d1 hgc hft hsn hfx htx hLl BN
     go_wp2_with (at_builtin; refine stop_here ?_)
     refine stop_go (app_blk _ rfl _ _ rfl (w.heap.size + 3) _ L rfl O1.out fx tx _ rfl hblk.out (by have := D1.out.lt; omega) (by omega) ?_)
     intro A' c' w' hO' hB'
     have C2 := Lib.hid (C1.out.more (by omega) hB')
     have X2 := Lib.hid (X1.out.more (by omega) hB')
     have D2 := Lib.hid (D1.out.more (by omega) hB')
     have O2 := Lib.hid hO'
     have B2 := Lib.hid (B1.out.trans (hB'.mono (by omega)))
     clear hO' hB' x5 e0 e1
     go_wp2_with fail
     go_roundw
     case rel => exact ⟨j + 1, A', c', L ++ [(fx, tx)], by go_num, HLT.out, by rw [List.length_append]; rfl, by rw [HSN.out, HL.out], C2.out, X2.out, D2.out, by rw [List.length_append]; exact O2.out, B2.out⟩
     case measure => have := HLT.out; simp [intOf]; omega
   · obtain rfl : j = blocks.length := by omega
     have hli : ¬ ((blocks.length : Nat) : Int) < (blocks.length : Int) := by omega
     have hLL : L = shiftB x.ack blocks := by rw [HL.out, List.take_of_length_le (Nat.le_refl _)]
     have HLB := Lib.hid hLL
     clear hLL hLl
     cases time
     · have x0 := HC.out.cell 0 _ rfl
       have f0 := HC.out.free 0 (show 0 < 7 by decide)
       have x1 := HC.out.cell 1 _ rfl
       have f1 := HC.out.free 1 (show 1 < 7 by decide)
       have x2 := HC.out.cell 2 _ rfl
       have f2 := HC.out.free 2 (show 2 < 7 by decide)
       have x3 := HC.out.cell 3 _ rfl
       have f3 := HC.out.free 3 (show 3 < 7 by decide)
       have x4 := HC.out.cell 4 _ rfl
       have f4 := HC.out.free 4 (show 4 < 7 by decide)
       have x5 := HC.out.cell 5 _ rfl
       have f5 := HC.out.free 5 (show 5 < 7 by decide)
       have x6 := HC.out.cell 6 _ rfl
       have f6 := HC.out.free 6 (show 6 < 7 by decide)
       have d0 := HD.out.cell 0 _ rfl
       have g0 := HD.out.free 0 (show 0 < 7 by decide)
       have d1 := HD.out.cell 1 _ rfl
       have g1 := HD.out.free 1 (show 1 < 7 by decide)
       have d2 := HD.out.cell 2 _ rfl
       have g2 := HD.out.free 2 (show 2 < 7 by decide)
       have d3 := HD.out.cell 3 _ rfl
       have g3 := HD.out.free 3 (show 3 < 7 by decide)
       have d4 := HD.out.cell 4 _ rfl
       have g4 := HD.out.free 4 (show 4 < 7 by decide)
       have d5 := HD.out.cell 5 _ rfl
       have g5 := HD.out.free 5 (show 5 < 7 by decide)
       have d6 := HD.out.cell 6 _ rfl
       have g6 := HD.out.free 6 (show 6 < 7 by decide)
       have e2 : o2 = ⟨mss, scale, sack, L, false, val, echo⟩ := by rw [← HO2.out, HLB.out]; rfl
       have HE := Lib.hid e2
       clear e2
       go_wp2_with fail
       have O1 := Lib.hid (HO.out.put w.heap.size 3 (.slice A0 L.length c0) (by omega))
       have B1 := Lib.hid (HB.out.setCell (Nat.le_refl w.heap.size) (p := ⟨w.heap.size, 3, none⟩) (.slice A0 L.length c0))
       obtain ⟨W9, hW9, hC9, hA9, hb9⟩ := (HD.out.other w.heap.size 3 (.slice A0 L.length c0) (by omega)).anew rfl (.int .u16 (mss : Int)) (.int .i64 scale) (.bool sack) (.slice A0 L.length c0) (.bool false) (.int .u32 (val : Int)) (.int .u32 (echo : Int))
       rw [hW9]
       have e0 := hC9.cell 0 _ rfl
       have e1 := hC9.cell 1 _ rfl
       have e2 := hC9.cell 2 _ rfl
       have e3 := hC9.cell 3 _ rfl
       have e4 := hC9.cell 4 _ rfl
       have e5 := hC9.cell 5 _ rfl
       have e6 := hC9.cell 6 _ rfl
       have R9 := Lib.hid (((OwnB.row O1.out rfl).apart (w.heap.size + 1 + 1) (fun b hb => by omega) hA9).imp (Q := fun b => w.heap.size ≤ b) (fun b hb => by omega))
       have B9 := Lib.hid (B1.out.trans (hb9.mono (by omega)))
       rw [HE.out]
       refine bodyPost_ret (v := ov ⟨mss, scale, sack, L, false, val, echo⟩ A0 c0) ?_ rfl ⟨⟨A0, ⟨c0, rfl⟩, R9.out⟩, B9.out⟩
       simp [results, Tryz.f33, go_sem, e0, e1, e2, e3, e4, e5, e6]
     · have x0 := HC.out.cell 0 _ rfl
       have f0 := HC.out.free 0 (show 0 < 7 by decide)
       have x1 := HC.out.cell 1 _ rfl
       have f1 := HC.out.free 1 (show 1 < 7 by decide)
       have x2 := HC.out.cell 2 _ rfl
       have f2 := HC.out.free 2 (show 2 < 7 by decide)
       have x3 := HC.out.cell 3 _ rfl
       have f3 := HC.out.free 3 (show 3 < 7 by decide)
       have x4 := HC.out.cell 4 _ rfl
       have f4 := HC.out.free 4 (show 4 < 7 by decide)
       have x5 := HC.out.cell 5 _ rfl
       have f5 := HC.out.free 5 (show 5 < 7 by decide)
       have x6 := HC.out.cell 6 _ rfl
       have f6 := HC.out.free 6 (show 6 < 7 by decide)
       have d0 := HD.out.cell 0 _ rfl
       have g0 := HD.out.free 0 (show 0 < 7 by decide)
       have d1 := HD.out.cell 1 _ rfl
       have g1 := HD.out.free 1 (show 1 < 7 by decide)
       have d2 := HD.out.cell 2 _ rfl
       have g2 := HD.out.free 2 (show 2 < 7 by decide)
       have d3 := HD.out.cell 3 _ rfl
       have g3 := HD.out.free 3 (show 3 < 7 by decide)
       have d4 := HD.out.cell 4 _ rfl
       have g4 := HD.out.free 4 (show 4 < 7 by decide)
       have d5 := HD.out.cell 5 _ rfl
       have g5 := HD.out.free 5 (show 5 < 7 by decide)
       have d6 := HD.out.cell 6 _ rfl
       have g6 := HD.out.free 6 (show 6 < 7 by decide)
       have y6 := HX.out.cell 6 _ rfl
       have y7 := HX.out.cell 7 _ rfl
       have wv : IntKind.u32.wrap ((val : Int) + (x.val : Int)) = ((val : Int) + (x.val : Int)) % 4294967296 := by rw [IntKind.wrap_u32]
       have we : IntKind.u32.wrap ((echo : Int) + (x.echo : Int)) = ((echo : Int) + (x.echo : Int)) % 4294967296 := by rw [IntKind.wrap_u32]
       have e2 : o2 = ⟨mss, scale, sack, L, true, (val + x.val) % 4294967296, (echo + x.echo) % 4294967296⟩ := by rw [← HO2.out, HLB.out]; rfl
       have HE := Lib.hid e2
       clear e2
       go_wp2_with fail
       have O1 := Lib.hid (((HO.out.put w.heap.size 3 (.slice A0 L.length c0) (by omega)).put w.heap.size 5 (.int .u32 (((val : Int) + (x.val : Int)) % 4294967296)) (by omega)).put w.heap.size 6 (.int .u32 (((echo : Int) + (x.echo : Int)) % 4294967296)) (by omega))
       have B1 := Lib.hid (((HB.out.setCell (Nat.le_refl w.heap.size) (p := ⟨w.heap.size, 3, none⟩) (.slice A0 L.length c0)).setCell (Nat.le_refl w.heap.size) (p := ⟨w.heap.size, 5, none⟩) (.int .u32 (((val : Int) + (x.val : Int)) % 4294967296))).setCell (Nat.le_refl w.heap.size) (p := ⟨w.heap.size, 6, none⟩) (.int .u32 (((echo : Int) + (x.echo : Int)) % 4294967296)))
       obtain ⟨W9, hW9, hC9, hA9, hb9⟩ := (((HD.out.other w.heap.size 3 (.slice A0 L.length c0) (by omega)).other w.heap.size 5 (.int .u32 (((val : Int) + (x.val : Int)) % 4294967296)) (by omega)).other w.heap.size 6 (.int .u32 (((echo : Int) + (x.echo : Int)) % 4294967296)) (by omega)).anew rfl (.int .u16 (mss : Int)) (.int .i64 scale) (.bool sack) (.slice A0 L.length c0) (.bool true) (.int .u32 (((val : Int) + (x.val : Int)) % 4294967296)) (.int .u32 (((echo : Int) + (x.echo : Int)) % 4294967296))
       rw [hW9]
       have e0 := hC9.cell 0 _ rfl
       have e1 := hC9.cell 1 _ rfl
       have e2 := hC9.cell 2 _ rfl
       have e3 := hC9.cell 3 _ rfl
       have e4 := hC9.cell 4 _ rfl
       have e5 := hC9.cell 5 _ rfl
       have e6 := hC9.cell 6 _ rfl
       have R9 := Lib.hid (((OwnB.row O1.out rfl).apart (w.heap.size + 1 + 1) (fun b hb => by omega) hA9).imp (Q := fun b => w.heap.size ≤ b) (fun b hb => by omega))
       have B9 := Lib.hid (B1.out.trans (hb9.mono (by omega)))
       rw [HE.out]
       refine bodyPost_ret (v := ov ⟨mss, scale, sack, L, true, (val + x.val) % 4294967296, (echo + x.echo) % 4294967296⟩ A0 c0) ?_ rfl ⟨⟨A0, ⟨c0, rfl⟩, R9.out⟩, B9.out⟩
       simp [results, Tryz.f33, go_sem, e0, e1, e2, e3, e4, e5, e6]
end Go.Proofs.YtpmnmnflaijaaaaGreat.PktOp
namespace Go.Proofs.YtpmnmnflaijaaaaGreat.PktWin
open Go.RowKit Own TupMath SumMath Litb Calm Rel RelT RelK IpMath IpRef OptMath OptRef OptPlc OptSame Boxes PktMath PktVal
open PktSmall (ret_n)
set_option linter.unusedVariables false
set_option linter.unusedSimpArgs false
set_option maxRecDepth 100000
theorem clamp_le (x : Int) : clamp x ≤ 14 := by unfold clamp; omega
theorem win_mid (n u d : Nat) (hn : n ≤ 65535) (hu : u ≤ 14) : IntKind.u64.wrap ((n : Int) * 2 ^ u) / 2 ^ d = ((n * 2 ^ u / 2 ^ d : Nat) : Int) := by
 have h1 : 2 ^ u ≤ 2 ^ 14 := Nat.pow_le_pow_right (by decide) hu
 have h2 : n * 2 ^ u ≤ 65535 * 2 ^ 14 := Nat.mul_le_mul hn h1
 have e : (n : Int) * 2 ^ u = ((n * 2 ^ u : Nat) : Int) := by push_cast; rfl
 rw [e]
 have e2 : IntKind.u64.wrap ((n * 2 ^ u : Nat) : Int) = ((n * 2 ^ u : Nat) : Int) := by
   rw [show ∀ x : Int, IntKind.u64.wrap x = x % 18446744073709551616 from fun x => rfl]
   generalize n * 2 ^ u = m at h2
   omega
 rw [e2, Int.natCast_ediv]
 push_cast
 rfl
theorem pow_c (n u : Nat) : (n : Int) * 2 ^ u = ((n * 2 ^ u : Nat) : Int) := by push_cast; rfl
theorem pow_q (n d : Nat) : (n : Int) / 2 ^ d = ((n / 2 ^ d : Nat) : Int) := by rw [Int.natCast_ediv, Int.natCast_pow]; rfl
theorem pow_q2 (n d : Nat) : (n : Int) * 16384 / 2 ^ d = ((n * 16384 / 2 ^ d : Nat) : Int) := by rw [Int.natCast_ediv, Int.natCast_pow, Int.natCast_mul]; rfl
theorem pow_b (n u : Nat) (hn : n ≤ 65535) (hu : u ≤ 14) : n * 2 ^ u ≤ 1073725440 := Nat.mul_le_mul hn (Nat.pow_le_pow_right (by decide) hu)
theorem wrap_s {m : Nat} (h : m ≤ 1073725440) : IntKind.u64.wrap (m : Int) = (m : Int) := by
 rw [show ∀ x : Int, IntKind.u64.wrap x = x % 18446744073709551616 from fun x => rfl]
 omega
theorem wrap16 (n : Int) : IntKind.u16.wrap n = n % 65536 := rfl
theorem wrap64u (n : Int) : IntKind.u64.wrap n = n % 18446744073709551616 := rfl
set_option maxHeartbeats 4000000 in
theorem windowR (n : Nat) (up down : Int) (w : World) (hn : n ≤ 65535) (u1 : -9223372036854775808 ≤ up) (u2 : up ≤ 9223372036854775807) (d1 : -9223372036854775808 ≤ down) (d2 : down ≤ 9223372036854775807) :
   Calls Tryz.prog 35 #[.int .u16 (n : Int), .int .i64 up, .int .i64 down] w fun e w' => e = .returned (.int .u16 (winT n up down : Int)) ∧ w = w' := by
 have hm := win_mid n (clamp up) (clamp down) hn (clamp_le up)
 have HW : Hid (winT n up down = min (n * 2 ^ clamp up / 2 ^ clamp down) 65535) := Lib.hid rfl
 have key : ∀ x : Int, (x < 0 ∧ clamp x = 0) ∨ (14 < x ∧ clamp x = 14) ∨ ∃ u : Nat, x = (u : Int) ∧ u ≤ 14 ∧ clamp x = u := by
   intro x
   unfold clamp
   by_cases h1 : x < 0
   · exact .inl ⟨h1, by omega⟩
   by_cases h2 : 14 < x
   · exact .inr (.inl ⟨h2, by omega⟩)
   · exact .inr (.inr ⟨x.toNat, by omega, by omega, by omega⟩)
 have kU := key up
 have kD := key down
 have hX := clamp_le up
 rw [HW.out]
 clear HW key
 have HM := Lib.hid hm
 clear hm
 generalize clamp up = cu at HM kU hX
 generalize clamp down = cd at HM kD
 rcases kU with ⟨hu, rfl⟩ | ⟨hu, rfl⟩ | ⟨u, rfl, hu, rfl⟩ <;> rcases kD with ⟨hd, rfl⟩ | ⟨hd, rfl⟩ | ⟨d, rfl, hd, rfl⟩
 all_goals (go_enter Tryz.func35, Tryz.ntmps35)
 all_goals (go_wp2_with fail)
 all_goals go_ret
 all_goals (refine ⟨ret_n ?_, rfl⟩)
 all_goals (have hm := HM.out; clear HM)
 all_goals first
   | (clear hm; (try simp only [wrap16, Nat.pow_zero, Nat.mul_one, Nat.div_one, Nat.reducePow]); omega)
   | (clear hm
      rw [pow_c n cu] at *
      have hb := pow_b n cu hn hX
      simp only [wrap16, wrap64u, wrap_s hb, Nat.pow_zero, Nat.mul_one, Nat.div_one, Nat.reducePow] at *
      generalize n * 2 ^ cu = P at *
      omega)
   | (have hq := pow_q n cd
      clear hm
      rw [hq] at h
      (try rw [hq])
      simp only [wrap16]
      generalize n / 2 ^ cd = Q at *
      omega)
   | (have hq := pow_q2 n cd
      clear hm
      rw [hq] at h
      (try rw [hq])
      simp only [wrap16]
      generalize n * 16384 / 2 ^ cd = Q at *
      omega)
   | (rw [hm] at h
      (try rw [hm])
      simp only [wrap16]
      clear hm
      generalize n * 2 ^ cu / 2 ^ cd = Q at *
      omega)
   | skip
end Go.Proofs.YtpmnmnflaijaaaaGreat.PktWin
namespace Go.Proofs.YtpmnmnflaijaaaaGreat.PktLaidR
open Go.Proofs.YtpmnmnflaijaaaaGreat.Own
open Go.RowKit TupMath SumMath Litb Calm Rel RelT RelK IpMath IpRef OptMath OptSame Boxes PktMath PktVal PktCom
open SumPlain (bz_extract)
open Cells (CellsAt Apart put_lit)
set_option linter.unusedVariables false
set_option linter.unusedSimpArgs false
set_option maxRecDepth 100000
attribute [local go_sem] Oper.semAt_some
def relL1 (S O X1 X2 X3 Y1 Y2 Y3 Y4 Y5 Y6 Y7 A1 A2 A3 A4 A5 A6 A7 A8 A9 A10 : ByteArray) (s : Sg) (b0 : Nat) : Nat → Value → World → Prop
 | 0 => fun v _ => v = .string S
 | 1 => fun v _ => v = .string X1
 | 2 => fun v _ => v = .pointer (some ⟨b0, 0, none⟩)
 | 3 => fun v _ => v = .pointer (some ⟨b0, 0, none⟩)
 | 4 => fun v _ => v = .int .u32 (s.sip : Int)
 | 5 => fun v _ => v = .string Y1
 | 6 => fun v _ => v = .string A1
 | 7 => fun v _ => v = .pointer (some ⟨b0, 2, none⟩)
 | 8 => fun v _ => v = .pointer (some ⟨b0, 2, none⟩)
 | 9 => fun v _ => v = .int .u32 (s.dip : Int)
 | 10 => fun v _ => v = .string Y2
 | 11 => fun v _ => v = .string A2
 | _ => fun _ _ => True
theorem relL1_more (S O X1 X2 X3 Y1 Y2 Y3 Y4 Y5 Y6 Y7 A1 A2 A3 A4 A5 A6 A7 A8 A9 A10 : ByteArray) (s : Sg) (b0 : Nat) (i : Nat) (v : Value) (w w' : World) (hr : relL1 S O X1 X2 X3 Y1 Y2 Y3 Y4 Y5 Y6 Y7 A1 A2 A3 A4 A5 A6 A7 A8 A9 A10 s b0 i v w) (hb : Below w.heap.size w w') : relL1 S O X1 X2 X3 Y1 Y2 Y3 Y4 Y5 Y6 Y7 A1 A2 A3 A4 A5 A6 A7 A8 A9 A10 s b0 i v w' := by
 unfold relL1 at hr ⊢
 split at hr <;> exact hr
def relL2 (S O X1 X2 X3 Y1 Y2 Y3 Y4 Y5 Y6 Y7 A1 A2 A3 A4 A5 A6 A7 A8 A9 A10 : ByteArray) (s : Sg) (b0 : Nat) : Nat → Value → World → Prop
 | 0 => fun v _ => v = .string A2
 | 1 => fun v _ => v = .pointer (some ⟨b0, 0, none⟩)
 | 2 => fun v _ => v = .pointer (some ⟨b0, 1, none⟩)
 | 3 => fun v _ => v = .int .u16 (s.sport : Int)
 | 4 => fun v _ => v = .string Y3
 | 5 => fun v _ => v = .string A3
 | 6 => fun v _ => v = .pointer (some ⟨b0, 2, none⟩)
 | 7 => fun v _ => v = .pointer (some ⟨b0, 3, none⟩)
 | 8 => fun v _ => v = .int .u16 (s.dport : Int)
 | 9 => fun v _ => v = .string Y4
 | 10 => fun v _ => v = .string A4
 | 11 => fun v _ => v = .pointer (some ⟨b0, 4, none⟩)
 | 12 => fun v _ => v = .int .u32 (s.seq : Int)
 | 13 => fun v _ => v = .string Y5
 | 14 => fun v _ => v = .string A5
 | 15 => fun v _ => v = .pointer (some ⟨b0, 5, none⟩)
 | 16 => fun v _ => v = .int .u32 (s.ack : Int)
 | 17 => fun v _ => v = .string Y6
 | 18 => fun v _ => v = .string A6
 | _ => fun _ _ => True
theorem relL2_more (S O X1 X2 X3 Y1 Y2 Y3 Y4 Y5 Y6 Y7 A1 A2 A3 A4 A5 A6 A7 A8 A9 A10 : ByteArray) (s : Sg) (b0 : Nat) (i : Nat) (v : Value) (w w' : World) (hr : relL2 S O X1 X2 X3 Y1 Y2 Y3 Y4 Y5 Y6 Y7 A1 A2 A3 A4 A5 A6 A7 A8 A9 A10 s b0 i v w) (hb : Below w.heap.size w w') : relL2 S O X1 X2 X3 Y1 Y2 Y3 Y4 Y5 Y6 Y7 A1 A2 A3 A4 A5 A6 A7 A8 A9 A10 s b0 i v w' := by
 unfold relL2 at hr ⊢
 split at hr <;> exact hr
def relL3 (S O X1 X2 X3 Y1 Y2 Y3 Y4 Y5 Y6 Y7 A1 A2 A3 A4 A5 A6 A7 A8 A9 A10 : ByteArray) (s : Sg) (b0 : Nat) : Nat → Value → World → Prop
 | 0 => fun v _ => v = .string A6
 | 1 => fun v _ => v = .string S
 | 2 => fun v _ => v = .string X2
 | 3 => fun v _ => v = .string A7
 | 4 => fun v _ => v = .pointer (some ⟨b0, 7, none⟩)
 | 5 => fun v _ => v = .int .u16 (s.win : Int)
 | 6 => fun v _ => v = .string Y7
 | 7 => fun v _ => v = .string A8
 | 8 => fun v _ => v = .string S
 | 9 => fun v _ => v = .string X3
 | 10 => fun v _ => v = .string A9
 | 11 => fun v _ => v = .string O
 | 12 => fun v _ => v = .string A10
 | _ => fun _ _ => True
theorem relL3_more (S O X1 X2 X3 Y1 Y2 Y3 Y4 Y5 Y6 Y7 A1 A2 A3 A4 A5 A6 A7 A8 A9 A10 : ByteArray) (s : Sg) (b0 : Nat) (i : Nat) (v : Value) (w w' : World) (hr : relL3 S O X1 X2 X3 Y1 Y2 Y3 Y4 Y5 Y6 Y7 A1 A2 A3 A4 A5 A6 A7 A8 A9 A10 s b0 i v w) (hb : Below w.heap.size w w') : relL3 S O X1 X2 X3 Y1 Y2 Y3 Y4 Y5 Y6 Y7 A1 A2 A3 A4 A5 A6 A7 A8 A9 A10 s b0 i v w' := by
 unfold relL3 at hr ⊢
 split at hr <;> exact hr
attribute [local go_sem] relUpon
def laidS (S : ByteArray) (s : Sg) (O : ByteArray) : ByteArray := S.extract 0 12 ++ ofB (w4 s.sip) ++ ofB (w4 s.dip) ++ ofB (w2 s.sport) ++ ofB (w2 s.dport) ++ ofB (w4 s.seq) ++ ofB (w4 s.ack) ++ S.extract 32 34 ++ ofB (w2 s.win) ++ S.extract 36 40 ++ O ++ S.extract (40 + O.size) S.size
set_option maxHeartbeats 16000000 in
theorem laidR (S : ByteArray) (s : Sg) (A : Option Addr) (c : Nat) (O : ByteArray) (w : World) (k : s.ok) (h40 : 40 + O.size ≤ S.size) (hs : S.size ≤ 1000000) :
   Calls Tryz.prog 27 #[.string S, sv s A c, .string O] w fun e w' => e = .returned (.string (laidS S s O)) ∧ Below w.heap.size w w' := by
 have HY1 := Lib.hid (fun W => fourR s.sip W k.sip)
 have HY2 := Lib.hid (fun W => fourR s.dip W k.dip)
 have HY3 := Lib.hid (fun W => wordR s.sport W k.sport)
 have HY4 := Lib.hid (fun W => wordR s.dport W k.dport)
 have HY5 := Lib.hid (fun W => fourR s.seq W k.seq)
 have HY6 := Lib.hid (fun W => fourR s.ack W k.ack)
 have HY7 := Lib.hid (fun W => wordR s.win W k.win)
 have y1 : (ofB (w4 s.sip)).size = 4 := ofB_size _
 have y2 : (ofB (w4 s.dip)).size = 4 := ofB_size _
 have y3 : (ofB (w2 s.sport)).size = 2 := ofB_size _
 have y4 : (ofB (w2 s.dport)).size = 2 := ofB_size _
 have y5 : (ofB (w4 s.seq)).size = 4 := ofB_size _
 have y6 : (ofB (w4 s.ack)).size = 4 := ofB_size _
 have y7 : (ofB (w2 s.win)).size = 2 := ofB_size _
 have HV : Hid (laidS S s O = S.extract 0 12 ++ ofB (w4 s.sip) ++ ofB (w4 s.dip) ++ ofB (w2 s.sport) ++ ofB (w2 s.dport) ++ ofB (w4 s.seq) ++ ofB (w4 s.ack) ++ S.extract 32 34 ++ ofB (w2 s.win) ++ S.extract 36 40 ++ O ++ S.extract (40 + O.size) S.size) := Lib.hid rfl
 generalize ofB (w4 s.sip) = Y1 at *
 generalize ofB (w4 s.dip) = Y2 at *
 generalize ofB (w2 s.sport) = Y3 at *
 generalize ofB (w2 s.dport) = Y4 at *
 generalize ofB (w4 s.seq) = Y5 at *
 generalize ofB (w4 s.ack) = Y6 at *
 generalize ofB (w2 s.win) = Y7 at *
 obtain ⟨X1, hX1⟩ : ∃ X, S.extract 0 12 = X := ⟨_, rfl⟩
 obtain ⟨X2, hX2⟩ : ∃ X, S.extract 32 34 = X := ⟨_, rfl⟩
 obtain ⟨X3, hX3⟩ : ∃ X, S.extract 36 40 = X := ⟨_, rfl⟩
 obtain ⟨X4, hX4⟩ : ∃ X, S.extract (40 + O.size) S.size = X := ⟨_, rfl⟩
 rw [hX1, hX2, hX3, hX4] at HV
 have x1 : X1.size = 12 := by rw [← hX1, ByteArray.size_extract]; omega
 have x2 : X2.size = 2 := by rw [← hX2, ByteArray.size_extract]; omega
 have x3 : X3.size = 4 := by rw [← hX3, ByteArray.size_extract]; omega
 have x4 : X4.size = S.size - (40 + O.size) := by rw [← hX4, ByteArray.size_extract]; omega
 obtain ⟨A1, hA1⟩ : ∃ Z, X1 ++ Y1 = Z := ⟨_, rfl⟩
 rw [hA1] at HV
 have a1 : A1.size = 16 := by rw [← hA1, ByteArray.size_append]; omega
 have z1 : X1.size + Y1.size ≤ 9223372036854775807 := by omega
 obtain ⟨A2, hA2⟩ : ∃ Z, A1 ++ Y2 = Z := ⟨_, rfl⟩
 rw [hA2] at HV
 have a2 : A2.size = 20 := by rw [← hA2, ByteArray.size_append]; omega
 have z2 : A1.size + Y2.size ≤ 9223372036854775807 := by omega
 obtain ⟨A3, hA3⟩ : ∃ Z, A2 ++ Y3 = Z := ⟨_, rfl⟩
 rw [hA3] at HV
 have a3 : A3.size = 22 := by rw [← hA3, ByteArray.size_append]; omega
 have z3 : A2.size + Y3.size ≤ 9223372036854775807 := by omega
 obtain ⟨A4, hA4⟩ : ∃ Z, A3 ++ Y4 = Z := ⟨_, rfl⟩
 rw [hA4] at HV
 have a4 : A4.size = 24 := by rw [← hA4, ByteArray.size_append]; omega
 have z4 : A3.size + Y4.size ≤ 9223372036854775807 := by omega
 obtain ⟨A5, hA5⟩ : ∃ Z, A4 ++ Y5 = Z := ⟨_, rfl⟩
 rw [hA5] at HV
 have a5 : A5.size = 28 := by rw [← hA5, ByteArray.size_append]; omega
 have z5 : A4.size + Y5.size ≤ 9223372036854775807 := by omega
 obtain ⟨A6, hA6⟩ : ∃ Z, A5 ++ Y6 = Z := ⟨_, rfl⟩
 rw [hA6] at HV
 have a6 : A6.size = 32 := by rw [← hA6, ByteArray.size_append]; omega
 have z6 : A5.size + Y6.size ≤ 9223372036854775807 := by omega
 obtain ⟨A7, hA7⟩ : ∃ Z, A6 ++ X2 = Z := ⟨_, rfl⟩
 rw [hA7] at HV
 have a7 : A7.size = 34 := by rw [← hA7, ByteArray.size_append]; omega
 have z7 : A6.size + X2.size ≤ 9223372036854775807 := by omega
 obtain ⟨A8, hA8⟩ : ∃ Z, A7 ++ Y7 = Z := ⟨_, rfl⟩
 rw [hA8] at HV
 have a8 : A8.size = 36 := by rw [← hA8, ByteArray.size_append]; omega
 have z8 : A7.size + Y7.size ≤ 9223372036854775807 := by omega
 obtain ⟨A9, hA9⟩ : ∃ Z, A8 ++ X3 = Z := ⟨_, rfl⟩
 rw [hA9] at HV
 have a9 : A9.size = 40 := by rw [← hA9, ByteArray.size_append]; omega
 have z9 : A8.size + X3.size ≤ 9223372036854775807 := by omega
 obtain ⟨A10, hA10⟩ : ∃ Z, A9 ++ O = Z := ⟨_, rfl⟩
 rw [hA10] at HV
 have a10 : A10.size = 40 + O.size := by rw [← hA10, ByteArray.size_append]; omega
 have z10 : A9.size + O.size ≤ 9223372036854775807 := by omega
 have z11 : A10.size + X4.size ≤ 9223372036854775807 := by omega
 have A10S := Lib.hid a10
 have l10 : A10.size ≤ S.size := by omega
 have HX5 := Lib.hid (show S.extract A10.size S.size = X4 by rw [a10]; exact hX4)
 have HA1 := Lib.hid hA1
 have HA2 := Lib.hid hA2
 have HA3 := Lib.hid hA3
 have HA4 := Lib.hid hA4
 have HA5 := Lib.hid hA5
 have HA6 := Lib.hid hA6
 have HA7 := Lib.hid hA7
 have HA8 := Lib.hid hA8
 have HA9 := Lib.hid hA9
 have HA10 := Lib.hid hA10
 have HX1 := Lib.hid hX1
 have HX2 := Lib.hid hX2
 have HX3 := Lib.hid hX3
 have HX4 := Lib.hid hX4
 clear y1 y2 y3 y4 y5 y6 y7 x1 hX1 x2 hX2 x3 hX3 x4 hX4 a1 hA1 a2 hA2 a3 hA3 a4 hA4 a5 hA5 a6 hA6 a7 hA7 a8 hA8 a9 hA9 a10 hA10
 have h12 : (12 : Int) ≤ (S.size : Int) := by omega
 have h34 : (34 : Int) ≤ (S.size : Int) := by omega
 have h44 : (40 : Int) ≤ (S.size : Int) := by omega
 have HC := Lib.hid (CellsAt.new w (sc s A c) 30)
 have HB := Lib.hid (st_alloc (Below.refl _ w) (.cells (sc s A c) 30))
 go_enter Tryz.func27, Tryz.ntmps27
 go_wp2_with fail
 refine wp_region_seeK 12 58 (relL1 S O X1 X2 X3 Y1 Y2 Y3 Y4 Y5 Y6 Y7 A1 A2 A3 A4 A5 A6 A7 A8 A9 A10 s w.heap.size) rfl (by kernel_rfl) (by kernel_rfl) (by kernel_rfl) (by kernel_rfl) (relL1_more S O X1 X2 X3 Y1 Y2 Y3 Y4 Y5 Y6 Y7 A1 A2 A3 A4 A5 A6 A7 A8 A9 A10 s w.heap.size) ?_ ?_
 · intro i hi
   have hi2 : i < 12 := by simpa using hi
   clear hi
   match i, hi2 with
   | 0, _ =>
     intro ρ W hb hc hg hf h0 hd
     have t0 := h0 0 (by kernel_rfl)
     clear hd h0
     go_simp
     exact ⟨rfl, Below.refl _ _⟩
   | 1, _ =>
     intro ρ W hb hc hg hf h0 hd
     have d0 : ρ (.tmp 8) = .string S := hd 0 8 (by kernel_rfl) (by kernel_rfl)
     clear hd h0
     go_simp
     rw [HX1.out]
     exact ⟨rfl, Below.refl _ _⟩
   | 2, _ =>
     intro ρ W hb hc hg hf h0 hd
     have t4 := h0 4 (by kernel_rfl)
     clear hd h0
     go_simp
     exact ⟨rfl, Below.refl _ _⟩
   | 3, _ =>
     intro ρ W hb hc hg hf h0 hd
     have d2 : ρ (.tmp 10) = .pointer (some ⟨w.heap.size, 0, none⟩) := hd 2 10 (by kernel_rfl) (by kernel_rfl)
     clear hd h0
     go_simp
     exact ⟨rfl, Below.refl _ _⟩
   | 4, _ =>
     intro ρ W hb hc hg hf h0 hd
     have d3 : ρ (.tmp 11) = .pointer (some ⟨w.heap.size, 0, none⟩) := hd 3 11 (by kernel_rfl) (by kernel_rfl)
     have c0 := (HC.out.later hb).cell 0 _ rfl
     clear hd h0
     go_simp
     exact ⟨rfl, Below.refl _ _⟩
   | 5, _ =>
     intro ρ W hb hc hg hf h0 hd
     have d4 : ρ (.tmp 12) = .int .u32 (s.sip : Int) := hd 4 12 (by kernel_rfl) (by kernel_rfl)
     clear hd h0
     go_simp
     exact (HY1.out W).mono fun e w' ⟨he, hb⟩ => ⟨_, he, rfl, hb⟩
   | 6, _ =>
     intro ρ W hb hc hg hf h0 hd
     have d1 : ρ (.tmp 9) = .string X1 := hd 1 9 (by kernel_rfl) (by kernel_rfl)
     have d5 : ρ (.tmp 13) = .string Y1 := hd 5 13 (by kernel_rfl) (by kernel_rfl)
     clear hd h0
     go_simp
     rw [HA1.out, if_neg (Nat.not_lt.2 z1)]
     exact ⟨rfl, Below.refl _ _⟩
   | 7, _ =>
     intro ρ W hb hc hg hf h0 hd
     have t4 := h0 4 (by kernel_rfl)
     clear hd h0
     go_simp
     exact ⟨rfl, Below.refl _ _⟩
   | 8, _ =>
     intro ρ W hb hc hg hf h0 hd
     have d7 : ρ (.tmp 15) = .pointer (some ⟨w.heap.size, 2, none⟩) := hd 7 15 (by kernel_rfl) (by kernel_rfl)
     clear hd h0
     go_simp
     exact ⟨rfl, Below.refl _ _⟩
   | 9, _ =>
     intro ρ W hb hc hg hf h0 hd
     have d8 : ρ (.tmp 16) = .pointer (some ⟨w.heap.size, 2, none⟩) := hd 8 16 (by kernel_rfl) (by kernel_rfl)
     have c2 := (HC.out.later hb).cell 2 _ rfl
     clear hd h0
     go_simp
     exact ⟨rfl, Below.refl _ _⟩
   | 10, _ =>
     intro ρ W hb hc hg hf h0 hd
     have d9 : ρ (.tmp 17) = .int .u32 (s.dip : Int) := hd 9 17 (by kernel_rfl) (by kernel_rfl)
     clear hd h0
     go_simp
     exact (HY2.out W).mono fun e w' ⟨he, hb⟩ => ⟨_, he, rfl, hb⟩
   | 11, _ =>
     intro ρ W hb hc hg hf h0 hd
     have d6 : ρ (.tmp 14) = .string A1 := hd 6 14 (by kernel_rfl) (by kernel_rfl)
     have d10 : ρ (.tmp 18) = .string Y2 := hd 10 18 (by kernel_rfl) (by kernel_rfl)
     clear hd h0
     go_simp
     rw [HA2.out, if_neg (Nat.not_lt.2 z2)]
     exact ⟨rfl, Below.refl _ _⟩
   | i + 12, hlt => exact absurd hlt (by omega)
 intro vs W1 hb hall
 have hl : vs 11 = .string A2 := hall 11 (by omega)
 clear hall
 rw [lexA_slots vs 12 [(some 8, 0), (some 9, 1), (some 10, 2), (some 11, 3), (some 12, 4), (some 13, 5), (some 14, 6), (some 15, 7), (some 16, 8), (some 17, 9), (some 18, 10), (some 19, 11)] (by kernel_rfl)]
 simp only [List.foldl_cons, List.foldl_nil, hl]
 show wpList _ _ _ [_] _ _
 simp only [put_lit, List.set_cons_succ, List.set_cons_zero]
 have HC1 := Lib.hid (HC.out.later hb)
 have HB1 := Lib.hid (st_call HB.out hb)
 clear HC HB hb hl
 have HC := HC1
 have HB := HB1
 clear HC1 HB1
 go_wp2_with fail
 refine wp_region_seeK 19 58 (relL2 S O X1 X2 X3 Y1 Y2 Y3 Y4 Y5 Y6 Y7 A1 A2 A3 A4 A5 A6 A7 A8 A9 A10 s w.heap.size) rfl (by kernel_rfl) (by kernel_rfl) (by kernel_rfl) (by kernel_rfl) (relL2_more S O X1 X2 X3 Y1 Y2 Y3 Y4 Y5 Y6 Y7 A1 A2 A3 A4 A5 A6 A7 A8 A9 A10 s w.heap.size) ?_ ?_
 · intro i hi
   have hi2 : i < 19 := by simpa using hi
   clear hi
   match i, hi2 with
   | 0, _ =>
     intro ρ W hb hc hg hf h0 hd
     have t7 := h0 7 (by kernel_rfl)
     clear hd h0
     go_simp
     exact ⟨rfl, Below.refl _ _⟩
   | 1, _ =>
     intro ρ W hb hc hg hf h0 hd
     have t4 := h0 4 (by kernel_rfl)
     clear hd h0
     go_simp
     exact ⟨rfl, Below.refl _ _⟩
   | 2, _ =>
     intro ρ W hb hc hg hf h0 hd
     have d1 : ρ (.tmp 21) = .pointer (some ⟨w.heap.size, 0, none⟩) := hd 1 21 (by kernel_rfl) (by kernel_rfl)
     clear hd h0
     go_simp
     exact ⟨rfl, Below.refl _ _⟩
   | 3, _ =>
     intro ρ W hb hc hg hf h0 hd
     have d2 : ρ (.tmp 22) = .pointer (some ⟨w.heap.size, 1, none⟩) := hd 2 22 (by kernel_rfl) (by kernel_rfl)
     have c1 := (HC.out.later hb).cell 1 _ rfl
     clear hd h0
     go_simp
     exact ⟨rfl, Below.refl _ _⟩
   | 4, _ =>
     intro ρ W hb hc hg hf h0 hd
     have d3 : ρ (.tmp 23) = .int .u16 (s.sport : Int) := hd 3 23 (by kernel_rfl) (by kernel_rfl)
     clear hd h0
     go_simp
     exact (HY3.out W).mono fun e w' ⟨he, hb⟩ => ⟨_, he, rfl, hb⟩
   | 5, _ =>
     intro ρ W hb hc hg hf h0 hd
     have d0 : ρ (.tmp 20) = .string A2 := hd 0 20 (by kernel_rfl) (by kernel_rfl)
     have d4 : ρ (.tmp 24) = .string Y3 := hd 4 24 (by kernel_rfl) (by kernel_rfl)
     clear hd h0
     go_simp
     rw [HA3.out, if_neg (Nat.not_lt.2 z3)]
     exact ⟨rfl, Below.refl _ _⟩
   | 6, _ =>
     intro ρ W hb hc hg hf h0 hd
     have t4 := h0 4 (by kernel_rfl)
     clear hd h0
     go_simp
     exact ⟨rfl, Below.refl _ _⟩
   | 7, _ =>
     intro ρ W hb hc hg hf h0 hd
     have d6 : ρ (.tmp 26) = .pointer (some ⟨w.heap.size, 2, none⟩) := hd 6 26 (by kernel_rfl) (by kernel_rfl)
     clear hd h0
     go_simp
     exact ⟨rfl, Below.refl _ _⟩
   | 8, _ =>
     intro ρ W hb hc hg hf h0 hd
     have d7 : ρ (.tmp 27) = .pointer (some ⟨w.heap.size, 3, none⟩) := hd 7 27 (by kernel_rfl) (by kernel_rfl)
     have c3 := (HC.out.later hb).cell 3 _ rfl
     clear hd h0
     go_simp
     exact ⟨rfl, Below.refl _ _⟩
   | 9, _ =>
     intro ρ W hb hc hg hf h0 hd
     have d8 : ρ (.tmp 28) = .int .u16 (s.dport : Int) := hd 8 28 (by kernel_rfl) (by kernel_rfl)
     clear hd h0
     go_simp
     exact (HY4.out W).mono fun e w' ⟨he, hb⟩ => ⟨_, he, rfl, hb⟩
   | 10, _ =>
     intro ρ W hb hc hg hf h0 hd
     have d5 : ρ (.tmp 25) = .string A3 := hd 5 25 (by kernel_rfl) (by kernel_rfl)
     have d9 : ρ (.tmp 29) = .string Y4 := hd 9 29 (by kernel_rfl) (by kernel_rfl)
     clear hd h0
     go_simp
     rw [HA4.out, if_neg (Nat.not_lt.2 z4)]
     exact ⟨rfl, Below.refl _ _⟩
   | 11, _ =>
     intro ρ W hb hc hg hf h0 hd
     have t4 := h0 4 (by kernel_rfl)
     clear hd h0
     go_simp
     exact ⟨rfl, Below.refl _ _⟩
   | 12, _ =>
     intro ρ W hb hc hg hf h0 hd
     have d11 : ρ (.tmp 31) = .pointer (some ⟨w.heap.size, 4, none⟩) := hd 11 31 (by kernel_rfl) (by kernel_rfl)
     have c4 := (HC.out.later hb).cell 4 _ rfl
     clear hd h0
     go_simp
     exact ⟨rfl, Below.refl _ _⟩
   | 13, _ =>
     intro ρ W hb hc hg hf h0 hd
     have d12 : ρ (.tmp 32) = .int .u32 (s.seq : Int) := hd 12 32 (by kernel_rfl) (by kernel_rfl)
     clear hd h0
     go_simp
     exact (HY5.out W).mono fun e w' ⟨he, hb⟩ => ⟨_, he, rfl, hb⟩
   | 14, _ =>
     intro ρ W hb hc hg hf h0 hd
     have d10 : ρ (.tmp 30) = .string A4 := hd 10 30 (by kernel_rfl) (by kernel_rfl)
     have d13 : ρ (.tmp 33) = .string Y5 := hd 13 33 (by kernel_rfl) (by kernel_rfl)
     clear hd h0
     go_simp
     rw [HA5.out, if_neg (Nat.not_lt.2 z5)]
     exact ⟨rfl, Below.refl _ _⟩
   | 15, _ =>
     intro ρ W hb hc hg hf h0 hd
     have t4 := h0 4 (by kernel_rfl)
     clear hd h0
     go_simp
     exact ⟨rfl, Below.refl _ _⟩
   | 16, _ =>
     intro ρ W hb hc hg hf h0 hd
     have d15 : ρ (.tmp 35) = .pointer (some ⟨w.heap.size, 5, none⟩) := hd 15 35 (by kernel_rfl) (by kernel_rfl)
     have c5 := (HC.out.later hb).cell 5 _ rfl
     clear hd h0
     go_simp
     exact ⟨rfl, Below.refl _ _⟩
   | 17, _ =>
     intro ρ W hb hc hg hf h0 hd
     have d16 : ρ (.tmp 36) = .int .u32 (s.ack : Int) := hd 16 36 (by kernel_rfl) (by kernel_rfl)
     clear hd h0
     go_simp
     exact (HY6.out W).mono fun e w' ⟨he, hb⟩ => ⟨_, he, rfl, hb⟩
   | 18, _ =>
     intro ρ W hb hc hg hf h0 hd
     have d14 : ρ (.tmp 34) = .string A5 := hd 14 34 (by kernel_rfl) (by kernel_rfl)
     have d17 : ρ (.tmp 37) = .string Y6 := hd 17 37 (by kernel_rfl) (by kernel_rfl)
     clear hd h0
     go_simp
     rw [HA6.out, if_neg (Nat.not_lt.2 z6)]
     exact ⟨rfl, Below.refl _ _⟩
   | i + 19, hlt => exact absurd hlt (by omega)
 intro vs W2 hb hall
 have hl : vs 18 = .string A6 := hall 18 (by omega)
 clear hall
 rw [lexA_slots vs 19 [(some 20, 0), (some 21, 1), (some 22, 2), (some 23, 3), (some 24, 4), (some 25, 5), (some 26, 6), (some 27, 7), (some 28, 8), (some 29, 9), (some 30, 10), (some 31, 11), (some 32, 12), (some 33, 13), (some 34, 14), (some 35, 15), (some 36, 16), (some 37, 17), (some 38, 18)] (by kernel_rfl)]
 simp only [List.foldl_cons, List.foldl_nil, hl]
 show wpList _ _ _ [_] _ _
 simp only [put_lit, List.set_cons_succ, List.set_cons_zero]
 have HC2 := Lib.hid (HC.out.later hb)
 have HB2 := Lib.hid (st_call HB.out hb)
 clear HC HB hb hl
 have HC := HC2
 have HB := HB2
 clear HC2 HB2
 go_wp2_with fail
 refine wp_region_seeK 13 58 (relL3 S O X1 X2 X3 Y1 Y2 Y3 Y4 Y5 Y6 Y7 A1 A2 A3 A4 A5 A6 A7 A8 A9 A10 s w.heap.size) rfl (by kernel_rfl) (by kernel_rfl) (by kernel_rfl) (by kernel_rfl) (relL3_more S O X1 X2 X3 Y1 Y2 Y3 Y4 Y5 Y6 Y7 A1 A2 A3 A4 A5 A6 A7 A8 A9 A10 s w.heap.size) ?_ ?_
 · intro i hi
   have hi2 : i < 13 := by simpa using hi
   clear hi
   match i, hi2 with
   | 0, _ =>
     intro ρ W hb hc hg hf h0 hd
     have t7 := h0 7 (by kernel_rfl)
     clear hd h0
     go_simp
     exact ⟨rfl, Below.refl _ _⟩
   | 1, _ =>
     intro ρ W hb hc hg hf h0 hd
     have t0 := h0 0 (by kernel_rfl)
     clear hd h0
     go_simp
     exact ⟨rfl, Below.refl _ _⟩
   | 2, _ =>
     intro ρ W hb hc hg hf h0 hd
     have d1 : ρ (.tmp 40) = .string S := hd 1 40 (by kernel_rfl) (by kernel_rfl)
     clear hd h0
     go_simp
     rw [HX2.out]
     exact ⟨rfl, Below.refl _ _⟩
   | 3, _ =>
     intro ρ W hb hc hg hf h0 hd
     have d0 : ρ (.tmp 39) = .string A6 := hd 0 39 (by kernel_rfl) (by kernel_rfl)
     have d2 : ρ (.tmp 41) = .string X2 := hd 2 41 (by kernel_rfl) (by kernel_rfl)
     clear hd h0
     go_simp
     rw [HA7.out, if_neg (Nat.not_lt.2 z7)]
     exact ⟨rfl, Below.refl _ _⟩
   | 4, _ =>
     intro ρ W hb hc hg hf h0 hd
     have t4 := h0 4 (by kernel_rfl)
     clear hd h0
     go_simp
     exact ⟨rfl, Below.refl _ _⟩
   | 5, _ =>
     intro ρ W hb hc hg hf h0 hd
     have d4 : ρ (.tmp 43) = .pointer (some ⟨w.heap.size, 7, none⟩) := hd 4 43 (by kernel_rfl) (by kernel_rfl)
     have c7 := (HC.out.later hb).cell 7 _ rfl
     clear hd h0
     go_simp
     exact ⟨rfl, Below.refl _ _⟩
   | 6, _ =>
     intro ρ W hb hc hg hf h0 hd
     have d5 : ρ (.tmp 44) = .int .u16 (s.win : Int) := hd 5 44 (by kernel_rfl) (by kernel_rfl)
     clear hd h0
     go_simp
     exact (HY7.out W).mono fun e w' ⟨he, hb⟩ => ⟨_, he, rfl, hb⟩
   | 7, _ =>
     intro ρ W hb hc hg hf h0 hd
     have d3 : ρ (.tmp 42) = .string A7 := hd 3 42 (by kernel_rfl) (by kernel_rfl)
     have d6 : ρ (.tmp 45) = .string Y7 := hd 6 45 (by kernel_rfl) (by kernel_rfl)
     clear hd h0
     go_simp
     rw [HA8.out, if_neg (Nat.not_lt.2 z8)]
     exact ⟨rfl, Below.refl _ _⟩
   | 8, _ =>
     intro ρ W hb hc hg hf h0 hd
     have t0 := h0 0 (by kernel_rfl)
     clear hd h0
     go_simp
     exact ⟨rfl, Below.refl _ _⟩
   | 9, _ =>
     intro ρ W hb hc hg hf h0 hd
     have d8 : ρ (.tmp 47) = .string S := hd 8 47 (by kernel_rfl) (by kernel_rfl)
     clear hd h0
     go_simp
     rw [HX3.out]
     exact ⟨rfl, Below.refl _ _⟩
   | 10, _ =>
     intro ρ W hb hc hg hf h0 hd
     have d7 : ρ (.tmp 46) = .string A8 := hd 7 46 (by kernel_rfl) (by kernel_rfl)
     have d9 : ρ (.tmp 48) = .string X3 := hd 9 48 (by kernel_rfl) (by kernel_rfl)
     clear hd h0
     go_simp
     rw [HA9.out, if_neg (Nat.not_lt.2 z9)]
     exact ⟨rfl, Below.refl _ _⟩
   | 11, _ =>
     intro ρ W hb hc hg hf h0 hd
     have t2 := h0 2 (by kernel_rfl)
     clear hd h0
     go_simp
     exact ⟨rfl, Below.refl _ _⟩
   | 12, _ =>
     intro ρ W hb hc hg hf h0 hd
     have d10 : ρ (.tmp 49) = .string A9 := hd 10 49 (by kernel_rfl) (by kernel_rfl)
     have d11 : ρ (.tmp 50) = .string O := hd 11 50 (by kernel_rfl) (by kernel_rfl)
     clear hd h0
     go_simp
     rw [HA10.out, if_neg (Nat.not_lt.2 z10)]
     exact ⟨rfl, Below.refl _ _⟩
   | i + 13, hlt => exact absurd hlt (by omega)
 intro vs W3 hb hall
 have hl : vs 12 = .string A10 := hall 12 (by omega)
 clear hall
 rw [lexA_slots vs 13 [(some 39, 0), (some 40, 1), (some 41, 2), (some 42, 3), (some 43, 4), (some 44, 5), (some 45, 6), (some 46, 7), (some 47, 8), (some 48, 9), (some 49, 10), (some 50, 11), (some 51, 12)] (by kernel_rfl)]
 simp only [List.foldl_cons, List.foldl_nil, hl]
 show wpList _ _ _ [_] _ _
 simp only [put_lit, List.set_cons_succ, List.set_cons_zero]
 have HC3 := Lib.hid (HC.out.later hb)
 have HB3 := Lib.hid (st_call HB.out hb)
 clear HC HB hb hl
 have HC := HC3
 have HB := HB3
 clear HC3 HB3
 go_wp2_with fail
 go_ret
 exact ⟨by rw [HV.out, ← HX5.out]; rfl, HB.out⟩
end Go.Proofs.YtpmnmnflaijaaaaGreat.PktLaidR
namespace Go.Proofs.YtpmnmnflaijaaaaGreat.OptTurn
open Go.RowKit Own TupMath SumMath Litb Calm Rel IpMath IpRef OptMath OptRef OptPlc OptSame Boxes OptTk OptDec OptTurnM
set_option linter.unusedVariables false
set_option maxRecDepth 100000
theorem c1_at {c c1 : List Nat} {p k v e n i : Nat} (h : (if k = 8 then addA (addA c (p + 2) v) (p + 6) e else c) = c1) (hk : k = 8 → p + 10 ≤ c.length) (hi : i < p + 2) : at0 c1 i = at0 c i := by
 rw [← h]
 by_cases c8 : k = 8
 · have := hk c8
   rw [if_pos c8, addA_at _ _ _ _ (by omega) (by rw [addA_len _ _ _ (by omega)]; omega), addA_at _ _ _ _ hi (by omega)]
 · rw [if_neg c8]
set_option maxHeartbeats 16000000 in
theorem turnR7 (s : ByteArray) (bl v e : Nat) (w : World) (hs : s.size ≤ 1000000) (hb : bl ≤ 4294967295) (hv : v ≤ 4294967295) (he : e ≤ 4294967295) :
   Calls Tryz.prog 26 #[.string s, .int .u32 (bl : Int), .int .u32 (v : Int), .int .u32 (e : Int)] w fun r w' => r = .returned (turnV bl v e (bz s)) ∧ Below w.heap.size w w' := by
 have HD := Lib.hid (fun W => decR7 s W hs)
 by_cases h0 : (dec7 (bz s)).1 = 0
 rotate_left
 · have HV := Lib.hid (show turnV bl v e (bz s) = .tuple #[.string ⟨#[]⟩, .int .i64 ((dec7 (bz s)).1 : Int)] from if_neg h0)
   unfold DecOut at HD
   generalize (dec7 (bz s)).1 = n at HD HV h0
   generalize (dec7 (bz s)).2 = o2 at HD
   have q1 : ((n : Int) == 0) = false := beq_eq_false_iff_ne.2 (by omega)
   have q2 : ((n : Int) != 0) = true := bne_iff_ne.2 (by omega)
   go_enter Tryz.func26, Tryz.ntmps26
   go_wp2_with fail
   refine (HD.out _).mono ?_
   rintro r wA ⟨⟨A, c, rfl, _⟩, hb1⟩
   have HB := Lib.hid (st_alloc hb1 (.cells (oc o2 A c) 28))
   clear hb1
   go_wp2_with fail
   go_ret2
   exact ⟨by rw [HV.out]; rfl, HB.out⟩
 obtain ⟨h40, ps, o2, hplc, hdec, ho2⟩ := dec7_zero h0
 have HV := Lib.hid (show turnV bl v e (bz s) = .tuple #[.string (ofB (turnS bl v e (bz s))), .int .i64 0] from if_pos h0)
 unfold DecOut at HD
 rw [h0, ho2] at HD
 have hs40 : s.size ≤ 40 := by rw [bz_len] at h40; omega
 have hp40 : ps.length ≤ 40 := by have := plc_few (bz s) (bz s).length 0 [] ps (by omega) hplc; omega
 have HPL := Lib.hid (fun W => placesR s W hs)
 have HIN := Lib.hid (plc_in (bz s) (bz s).length 0 [] ps (by omega) hplc)
 have HKEEP := Lib.hid (fun j p => turnTo_keep bl v e (j := j) (p := p) hplc)
 have HALL := Lib.hid (turnTo_all bl v e hplc)
 have HPLC := Lib.hid hplc
 clear h0 hdec ho2 hplc h40
 go_enter Tryz.func26, Tryz.ntmps26
 go_wp2_with fail
 refine (HD.out _).mono ?_
 rintro r wA ⟨⟨A, c, rfl, _⟩, hb1⟩
 have B1 := Lib.hid (st_alloc hb1 (.cells (oc o2 A c) 28))
 clear hb1
 go_wp2_with fail
 refine (HPL.out _).mono ?_
 rintro r wP ⟨hP, hb2⟩
 rw [HPLC.out] at hP
 obtain ⟨pv, rfl, A0, c0, rfl, hI⟩ := hP
 have HI := Lib.hid hI
 have B2 := Lib.hid (st_call B1.out hb2)
 clear hI hb2
 go_wp2_with fail
 go_loopw [0, 14] (fun sv i wr => ∃ (j : Nat) (S : ByteArray), i = .int .i64 (j : Int) ∧ j ≤ ps.length ∧ sv = .string S ∧ bz S = turnTo bl v e (bz s) ps j ∧ S.size = s.size ∧ Below wP.heap.size wP wr) (fun _ i _ => ps.length - (intOf i).toNat)
 case atStart => exact ⟨0, s, rfl, by omega, rfl, rfl, rfl, Below.refl _ _⟩
 case round =>
   obtain ⟨j, S, rfl, hj, rfl, hS, hSs, hB⟩ := hrel
   have HS := Lib.hid hS
   have HB := Lib.hid hB
   clear hS hB
   by_cases hlt : j < ps.length
   · obtain ⟨p, hpj⟩ : ∃ p, ps[j]? = some p := ⟨_, List.getElem?_eq_getElem hlt⟩
     have hli : (j : Int) < (ps.length : Int) := by omega
     have HLT := Lib.hid hlt
     obtain ⟨_, h1, h2, h3, h4, h6⟩ := HIN.out p (List.mem_of_getElem? hpj)
     rw [bz_len] at h1 h2
     obtain ⟨g, hg0, hgl, hgc⟩ := HI.out (by omega)
     subst hg0
     have cg : wr.cell? ⟨g, j, none⟩ = some (.int .i64 (p : Int)) := (HB.out.cell (p := ⟨g, j, none⟩) hgl).trans (hgc j p hpj)
     have hkp := HKEEP.out j p hpj
     have hsu := turnTo_succ bl v e (l := bz s) hpj
     rw [← HS.out] at hkp hsu
     have a0 := at_drop hkp (Nat.le_refl p)
     have a1 := at_drop hkp (show p ≤ p + 1 by omega)
     have HSU := Lib.hid hsu
     clear hkp hsu hgc
     rw [← a0, ← a1] at h3
     rw [← a1] at h2
     clear a0 a1 h4 h6
     have zk := at_byte S p (by omega)
     have qk := at_le S p
     have qm := at_le S (p + 1)
     obtain ⟨k, hk⟩ : ∃ k, at0 (bz S) p = k := ⟨_, rfl⟩
     obtain ⟨n, hn⟩ : ∃ n, at0 (bz S) (p + 1) = n := ⟨_, rfl⟩
     rw [hk] at zk qk h3
     rw [hn] at qm h2 h3
     have hn2 := right_ge h3
     obtain ⟨M, hM⟩ : ∃ M, (if k = 5 then (n - 2) / 4 else 0) = M := ⟨_, rfl⟩
     obtain ⟨c1, hc1⟩ : ∃ c1, (if k = 8 then addA (addA (bz S) (p + 2) v) (p + 6) e else bz S) = c1 := ⟨_, rfl⟩
     have hup : updP bl v e (bz S) p = addN bl c1 (p + 2) M := by
       unfold updP
       rw [hk, hn, ← hM, ← hc1]
       by_cases c8 : k = 8
       · rw [if_pos c8, if_pos c8, if_neg (by omega)]; rfl
       · rw [if_neg c8, if_neg c8]
         by_cases c5 : k = 5
         · rw [if_pos c5, if_pos c5]
         · rw [if_neg c5, if_neg c5]; rfl
     have hM5 : k = 5 → 4 * M + 2 = n := fun c5 => by rw [← hM, if_pos c5]; subst c5; simp [right] at h3; omega
     have hM0 : k ≠ 5 → M = 0 := fun c5 => by rw [← hM, if_neg c5]
     have h8 : k = 8 → n = 10 := fun c8 => by subst c8; simpa [right] using h3
     have HUP := Lib.hid hup
     have HK := Lib.hid hk
     have HN := Lib.hid hn
     have HC1 := Lib.hid hc1
     have HM5 := Lib.hid hM5
     have HM0 := Lib.hid hM0
     have H8 := Lib.hid h8
     have HSs := Lib.hid hSs
     clear hup hk hn hc1 hM hM5 hM0 h8 h3
     have i0 : (p : Int) < (S.size : Int) := by omega
     have i1 : (p : Int) + 1 < (S.size : Int) := by omega
     have i2 : (p : Int) + (n : Int) ≤ (S.size : Int) := by omega
     go_upto_if 44 with (fail)
     go_cut [0] (fun sv wx => ∃ S1, sv = .string S1 ∧ bz S1 = c1 ∧ S1.size = s.size ∧ Below wr.heap.size wr wx)
     case first =>
       by_cases c8 : k = 8
       · have hn10 := H8.out c8
         obtain ⟨S1, e1, z1, C1⟩ : ∃ S1, bz S1 = addA (bz S) (p + 2) v ∧ S1.size = S.size ∧ ∀ W, Calls Tryz.prog 58 #[.string S, .int .i64 ((p + 2 : Nat) : Int), .int .u32 (v : Int)] W fun e w' => e = .returned (.string S1) ∧ Below W.heap.size W w' :=
           ⟨ofB (addA (bz S) (p + 2) v), bz_ofB (addA_le _ _ (bz_le S)), by rw [ofB_size, addA_len _ _ _ (by rw [bz_len]; omega), bz_len], fun W => addR S (p + 2) v W (by omega) (by omega) hv⟩
         obtain ⟨S2, e2, z2, C2⟩ : ∃ S2, bz S2 = addA (bz S1) (p + 6) e ∧ S2.size = S1.size ∧ ∀ W, Calls Tryz.prog 58 #[.string S1, .int .i64 ((p + 6 : Nat) : Int), .int .u32 (e : Int)] W fun e w' => e = .returned (.string S2) ∧ Below W.heap.size W w' :=
           ⟨ofB (addA (bz S1) (p + 6) e), bz_ofB (addA_le _ _ (bz_le S1)), by rw [ofB_size, addA_len _ _ _ (by rw [bz_len]; omega), bz_len], fun W => addR S1 (p + 6) e W (by omega) (by omega) he⟩
         rw [show ((p + 2 : Nat) : Int) = (p : Int) + 2 by omega] at C1
         rw [show ((p + 6 : Nat) : Int) = (p : Int) + 6 by omega] at C2
         have HE1 := Lib.hid e1
         have HE2 := Lib.hid e2
         have HCA := Lib.hid C1
         have HCB := Lib.hid C2
         have HZ1 := Lib.hid z1
         have HZ2 := Lib.hid z2
         have q8 : ((k : Int) == 8) = true := beq_iff_eq.2 (by omega)
         have HK8 := Lib.hid c8
         clear e1 e2 C1 C2 z1 z2
         go_wp2_with fail
         refine (HCA.out _).mono ?_
         rintro r w1 ⟨rfl, hb3⟩
         have B3 := Lib.hid hb3
         clear hb3
         go_wp2_with fail
         refine (HCB.out _).mono ?_
         rintro r w2 ⟨rfl, hb4⟩
         have B4 := Lib.hid (st_call B3.out hb4)
         clear hb4
         go_wp2_with fail
         go_meet
         exact ⟨S2, rfl, by rw [HE2.out, HE1.out, ← HC1.out, if_pos HK8.out], by rw [HZ2.out, HZ1.out, HSs.out], B4.out⟩
       · have q8 : ((k : Int) == 8) = false := beq_eq_false_iff_ne.2 (by omega)
         have HK8 := Lib.hid c8
         go_wp2_with fail
         go_meet
         exact ⟨S, rfl, by rw [← HC1.out, if_neg HK8.out], HSs.out, Below.refl _ _⟩
     case rest =>
       obtain ⟨S1, rfl, hS1, hS1s, hb3⟩ := hcut
       have HS1 := Lib.hid hS1
       have B3 := Lib.hid (HB.out.trans (hb3.mono HB.out.size))
       have ek : at0 (bz S1) p = k := by rw [hS1, c1_at (n := n) HC1.out (fun c8 => by have := H8.out c8; rw [bz_len]; omega) (by omega)]; exact HK.out
       have en : at0 (bz S1) (p + 1) = n := by rw [hS1, c1_at (n := n) HC1.out (fun c8 => by have := H8.out c8; rw [bz_len]; omega) (by omega)]; exact HN.out
       have zn := at_byte S1 (p + 1) (by omega)
       rw [en] at zn
       have hcl : c1.length = s.size := by rw [← hS1, bz_len, hS1s]
       have hMb : 4 * M ≤ 255 := by
         by_cases c5 : k = 5
         · have := HM5.out c5; omega
         · rw [HM0.out c5]; omega
       have hMn : p + 2 + 4 * M ≤ s.size := by
         by_cases c5 : k = 5
         · have := HM5.out c5; omega
         · rw [HM0.out c5]; omega
       have HEK := Lib.hid ek
       have HCL := Lib.hid hcl
       have j1 : (p : Int) + 1 < (S1.size : Int) := by omega
       have w1 : IntKind.i64.wrap (n : Int) = (n : Int) := by rw [IntKind.wrap_i64]; omega
       clear hb3 hS1 ek en hcl
       go_wp2_with fail
       go_loopw [0, 17] (fun sv kv wq => ∃ (t : Nat) (S2 : ByteArray), kv = .int .i64 ((p : Int) + 2 + 4 * (t : Int)) ∧ t ≤ M ∧ sv = .string S2 ∧ bz S2 = addN bl c1 (p + 2) t ∧ S2.size = s.size ∧ Below wP.heap.size wP wq) (fun _ kv _ => p + 2 + 4 * M - (intOf kv).toNat)
       case atStart => exact ⟨0, S1, by simp, by omega, rfl, HS1.out, hS1s, B3.out⟩
       case round =>
         obtain ⟨t, S2, rfl, ht, rfl, hS2, hS2s, hBq⟩ := hrel
         have HS2 := Lib.hid hS2
         have HBq := Lib.hid hBq
         have ek2 : at0 (bz S2) p = k := by rw [hS2, addN_at bl c1 (p + 2) p (by omega) t (by rw [HCL.out]; omega), ← HS1.out]; exact HEK.out
         have zk2 := at_byte S2 p (by omega)
         rw [ek2] at zk2
         have j0 : (p : Int) < (S2.size : Int) := by omega
         clear hS2 hBq ek2
         by_cases htM : t < M
         · have c5 : k = 5 := Classical.byContradiction fun h => by have := HM0.out h; omega
           have hn5 := HM5.out c5
           have q5 : ((k : Int) == 5) = true := beq_iff_eq.2 (by omega)
           have q6 : (p : Int) + 2 + 4 * (t : Int) < (p : Int) + (n : Int) := by omega
           obtain ⟨S3, e3, z3, C3⟩ : ∃ S3, bz S3 = addA (bz S2) (p + 2 + 4 * t) bl ∧ S3.size = S2.size ∧ ∀ W, Calls Tryz.prog 58 #[.string S2, .int .i64 ((p + 2 + 4 * t : Nat) : Int), .int .u32 (bl : Int)] W fun e w' => e = .returned (.string S3) ∧ Below W.heap.size W w' :=
             ⟨ofB (addA (bz S2) (p + 2 + 4 * t) bl), bz_ofB (addA_le _ _ (bz_le S2)), by rw [ofB_size, addA_len _ _ _ (by rw [bz_len]; omega), bz_len], fun W => addR S2 (p + 2 + 4 * t) bl W (by omega) (by omega) hb⟩
           rw [show ((p + 2 + 4 * t : Nat) : Int) = (p : Int) + 2 + 4 * (t : Int) by omega] at C3
           have HE3 := Lib.hid e3
           have HC3 := Lib.hid C3
           have HZ3 := Lib.hid (z3.trans hS2s)
           have HTM := Lib.hid htM
           clear e3 C3 z3 c5
           go_wp2_with fail
           refine (HC3.out _).mono ?_
           rintro r w3 ⟨rfl, hb4⟩
           have B4 := Lib.hid (HBq.out.trans (hb4.mono HBq.out.size))
           clear hb4
           go_wp2_with fail
           go_roundw
           case rel => exact ⟨t + 1, S3, by go_num, HTM.out, rfl, by rw [HE3.out, HS2.out]; rfl, HZ3.out, B4.out⟩
           case measure => have := HTM.out; simp [intOf]; omega
         · obtain rfl : t = M := by omega
           have HTO := Lib.hid (show bz S2 = turnTo bl v e (bz s) ps (j + 1) by rw [HS2.out, HSU.out, HUP.out])
           have HZ := Lib.hid hS2s
           by_cases c5 : k = 5
           · have hn5 := HM5.out c5
             have q5 : ((k : Int) == 5) = true := beq_iff_eq.2 (by omega)
             have q6 : ¬ (p : Int) + 2 + 4 * (t : Int) < (p : Int) + (n : Int) := by omega
             clear c5
             go_wp2_with fail
             go_roundw
             case rel => exact ⟨j + 1, S2, by go_num, HLT.out, rfl, HTO.out, HZ.out, HBq.out⟩
             case measure => have := HLT.out; simp [intOf]; omega
           · have q5 : ((k : Int) == 5) = false := beq_eq_false_iff_ne.2 (by omega)
             go_wp2_with fail
             go_roundw
             case rel => exact ⟨j + 1, S2, by go_num, HLT.out, rfl, HTO.out, HZ.out, HBq.out⟩
             case measure => have := HLT.out; simp [intOf]; omega
   · obtain rfl : j = ps.length := by omega
     have hli : ¬ ((ps.length : Nat) : Int) < (ps.length : Int) := by omega
     have HRES := Lib.hid (show ofB (turnS bl v e (bz s)) = S from ofB_bzq (by rw [HS.out, HALL.out]))
     go_wp2_with fail
     go_ret2
     exact ⟨by rw [HV.out, HRES.out]; rfl, B2.out.trans (HB.out.mono B2.out.size)⟩
end Go.Proofs.YtpmnmnflaijaaaaGreat.OptTurn
