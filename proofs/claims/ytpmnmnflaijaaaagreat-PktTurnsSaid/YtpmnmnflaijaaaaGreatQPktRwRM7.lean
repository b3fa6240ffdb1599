/-
  Laws for a proof of package pkt: 7 texts in one.
-/
import Derived.Test.YtpmnmnflaijaaaaGreatQOptP2
import Derived.Test.YtpmnmnflaijaaaaGreatQOptTurn10
import Derived.Test.YtpmnmnflaijaaaaGreatQSumTurnsC2
import Derived.Test.YtpmnmnflaijaaaaGreatQNumA327
import Derived.Test.YtpmnmnflaijaaaaGreatQRelL3
import Derived.Test.YtpmnmnflaijaaaaGreatQSumPlainT5
namespace Go.Proofs.YtpmnmnflaijaaaaGreat.PktKp
open Go.Proofs.YtpmnmnflaijaaaaGreat.Own
open Cells (CellsAt Apart)
open Go.RowKit Go.Shelf TupMath SumMath Litb IpMath IpRef Num OptMath OptPU PktMath
set_option linter.unusedVariables false
set_option maxRecDepth 100000
structure Kept (b : Nat) (W W' : World) : Prop where
 size : W.heap.size ≤ W'.heap.size
 stay : ∀ p : Addr, p.block < W.heap.size → p.block ≠ b → W'.cell? p = W.cell? p ∧ W'.frozen? p = W.frozen? p
 below : Below b W W'
theorem Kept.refl (b : Nat) (W : World) : Kept b W W := ⟨Nat.le_refl _, fun _ _ _ => ⟨rfl, rfl⟩, Below.refl _ _⟩
theorem Kept.trans {b : Nat} {A B C : World} (h : Kept b A B) (h2 : Kept b B C) : Kept b A C :=
 ⟨Nat.le_trans h.size h2.size, fun p hp hn => ⟨(h2.stay p (Nat.lt_of_lt_of_le hp h.size) hn).1.trans (h.stay p hp hn).1, (h2.stay p (Nat.lt_of_lt_of_le hp h.size) hn).2.trans (h.stay p hp hn).2⟩, h.below.trans h2.below⟩
theorem Kept.of_below {b : Nat} {A B : World} (h : Below A.heap.size A B) (hb : b ≤ A.heap.size) : Kept b A B := ⟨h.size, fun p hp _ => ⟨h.cell hp, h.frozen hp⟩, h.mono hb⟩
theorem Kept.of_apart {b : Nat} {A B : World} (h : Apart b A B) (h2 : Below b A B) : Kept b A B := ⟨h.1, fun p _ hn => h.2 p hn, h2⟩
theorem Kept.cells {b k : Nat} {A B : World} {cs : Array Value} (h : Kept b A B) (hc : CellsAt A k cs) (hne : k ≠ b) : CellsAt B k cs :=
 ⟨Nat.lt_of_lt_of_le hc.1 h.size, fun j v hv => ⟨(h.stay ⟨k, j, none⟩ hc.1 hne).1.trans (hc.2 j v hv).1, (h.stay ⟨k, j, none⟩ hc.1 hne).2.trans (hc.2 j v hv).2⟩⟩
theorem part_string {W : World} {b : Nat} {c : List Nat} (h : Held8 W b c) (hc : ∀ x ∈ c, x ≤ 255) (o n cap : Nat) (hn : o + n ≤ c.length) :
   (convert 50 9 (.slice (some ⟨b, o, none⟩) n cap)).run Tryz.prog W = .ok (.string (ofB ((c.drop o).take n))) W := by
 have hl : ((c.drop o).take n).length = n := by rw [List.length_take, List.length_drop]; omega
 have hr := run_convert_bytes_back (P := Tryz.prog) W 50 9 5 ⟨b, o, none⟩ cap (((c.drop o).take n).map UInt8.ofNat) Tryz.underlying50 Tryz.underlying5 Tryz.underlying9 (fun j hj => by
   have hj' : j < n := by rw [List.length_map, hl] at hj; exact hj
   have hx : c[o + j]? = some c[o + j] := List.getElem?_eq_getElem (by omega)
   have h2 := hc c[o + j] (List.getElem_mem _)
   have h1 : (UInt8.ofNat c[o + j]).toNat = c[o + j] := by simp; omega
   rw [Go.WideShapes.add_plain]
   refine ((h.2 (o + j) _ hx).1).trans ?_
   rw [List.getElem_map, List.getElem_take, List.getElem_drop, h1])
 rw [List.length_map, hl] at hr
 exact hr
theorem at0_is {c : List Nat} {i : Nat} (h : i < c.length) : c[i]? = some (at0 c i) := by
 unfold at0
 rw [List.getElem?_eq_getElem h]
 rfl
theorem take2 {c : List Nat} {i : Nat} (h : i + 2 ≤ c.length) : (c.drop i).take 2 = [at0 c i, at0 c (i + 1)] := by
 refine List.ext_getElem? fun j => ?_
 match j with
 | 0 => rw [List.getElem?_take_of_lt (by decide), List.getElem?_drop]; exact at0_is (by omega)
 | 1 => rw [List.getElem?_take_of_lt (by decide), List.getElem?_drop]; exact at0_is (by omega)
 | j + 2 => rw [List.getElem?_eq_none (by rw [List.length_take]; omega)]; rfl
def alongL (c : List Nat) (i : Nat) (x y : List Nat) : List Nat := c.take i ++ (w2 (tur (at0 c i * 256 + at0 c (i + 1)) x y) ++ c.drop (i + 2))
theorem alongL_len {c : List Nat} {i : Nat} (h : i + 2 ≤ c.length) (x y : List Nat) : (alongL c i x y).length = c.length := by
 unfold alongL
 simp only [List.length_append, List.length_take, List.length_drop, w2, List.length_cons, List.length_nil]
 omega
theorem alongL_le {c : List Nat} (hc : ∀ z ∈ c, z ≤ 255) (i : Nat) (x y : List Nat) : ∀ z ∈ alongL c i x y, z ≤ 255 := by
 have h1 := at_le2 hc i
 have h2 := at_le2 hc (i + 1)
 exact app_le (fun z hz => hc z (List.mem_of_mem_take hz)) (app_le (w2_le2 (tur_le (by omega) x y)) (fun z hz => hc z (List.mem_of_mem_drop hz)))
def putL (c : List Nat) (i : Nat) (y : List Nat) : List Nat := c.take i ++ (y ++ c.drop (i + y.length))
theorem putL_len {c : List Nat} {i : Nat} {y : List Nat} (h : i + y.length ≤ c.length) : (putL c i y).length = c.length := by
 unfold putL
 simp only [List.length_append, List.length_take, List.length_drop]
 omega
theorem putL_le {c y : List Nat} (hc : ∀ z ∈ c, z ≤ 255) (hy : ∀ z ∈ y, z ≤ 255) (i : Nat) : ∀ z ∈ putL c i y, z ≤ 255 :=
 app_le (fun z hz => hc z (List.mem_of_mem_take hz)) (app_le hy (fun z hz => hc z (List.mem_of_mem_drop hz)))
theorem turnsP (s : Nat) (x y : ByteArray) (w : World) (hs : s ≤ 65535) (hx : x.size ≤ 1000000) (hxy : x.size = y.size) :
   Calls Tryz.prog 50 #[.int .u16 (s : Int), .string x, .string y] w fun e w' => e = .returned (.int .u16 ((tur s (bz x) (bz y) : Nat) : Int)) ∧ Below w.heap.size w w' := by
 have h := SumTurnsC.turns_any s x y w hs hx (by omega)
 rw [show min x.size y.size = x.size by omega, List.take_of_length_le (by rw [SumPlain.bz_len]; omega), List.take_of_length_le (by rw [SumPlain.bz_len]; omega)] at h
 unfold tur
 rw [bz_len]
 exact h
end Go.Proofs.YtpmnmnflaijaaaaGreat.PktKp
namespace Go.Proofs.YtpmnmnflaijaaaaGreat.PktRwM
open Go.RowKit
open TupMath SumMath IpMath IpRef TcpMath OptMath OptTk OptBackM PktMath PktKp
set_option linter.unusedVariables false
theorem wAt_app (a b : List Nat) (i : Nat) (h : i + 2 ≤ a.length) : wAt (a ++ b) i = wAt a i := by
 unfold wAt
 rw [List.getElem?_append_left (by omega), List.getElem?_append_left (by omega)]
theorem wAt_back (a b : List Nat) (i : Nat) : wAt (a ++ b) (a.length + i) = wAt b i := by
 unfold wAt
 rw [List.getElem?_append_right (by omega), List.getElem?_append_right (by omega), show a.length + i - a.length = i by omega, show a.length + i + 1 - a.length = i + 1 by omega]
theorem tus_front (s : Nat) (a b a2 b2 : List Nat) (hl : a.length = b.length) : ∀ k, 2 * k ≤ a.length → tus s (a ++ a2) (b ++ b2) k = tus s a b k
 | 0, _ => rfl
 | k + 1, h => by
   rw [tus, tus, tus_front s a b a2 b2 hl k (by omega), wAt_app a a2 _ (by omega), wAt_app b b2 _ (by omega)]
theorem tus_back (s : Nat) (a b a2 b2 : List Nat) (k : Nat) (ha : a.length = 2 * k) (hb : b.length = 2 * k) : ∀ j, tus s (a ++ a2) (b ++ b2) (k + j) = tus (tus s a b k) a2 b2 j
 | 0 => tus_front s a b a2 b2 (by omega) k (by omega)
 | j + 1 => by
   rw [← Nat.add_assoc, tus, tus, tus_back s a b a2 b2 k ha hb j]
   rw [show 2 * (k + j) = a.length + 2 * j by omega, wAt_back a a2, show a.length + 2 * j = b.length + 2 * j by omega, wAt_back b b2]
theorem tur_app (s : Nat) (a b a2 b2 : List Nat) (hl : a.length = b.length) (h2 : a.length % 2 = 0) : tur s (a ++ a2) (b ++ b2) = tur (tur s a b) a2 b2 := by
 unfold tur
 rw [List.length_append, show (a.length + a2.length + 1) / 2 = a.length / 2 + (a2.length + 1) / 2 by omega, show (a.length + 1) / 2 = a.length / 2 by omega]
 exact tus_back s a b a2 b2 (a.length / 2) (by omega) (by omega) _
theorem putL_mid (a m r y : List Nat) (i : Nat) (hi : i = a.length) (h : m.length = y.length) : putL (a ++ (m ++ r)) i y = a ++ (y ++ r) := by
 subst hi
 unfold putL
 rw [List.take_left' rfl, ← List.append_assoc a m r, List.drop_left' (by rw [List.length_append, h])]
theorem along_mid (a r x y : List Nat) (i k : Nat) (hi : i = a.length) (hk : k ≤ 65535) : alongL (a ++ (w2 k ++ r)) i x y = a ++ (w2 (tur k x y) ++ r) := by
 subst hi
 have e0 : at0 (a ++ (w2 k ++ r)) a.length = k / 256 := by
   unfold at0
   rw [List.getElem?_append_right (Nat.le_refl _), Nat.sub_self]
   rfl
 have e1 : at0 (a ++ (w2 k ++ r)) (a.length + 1) = k % 256 := by
   unfold at0
   rw [List.getElem?_append_right (by omega), show a.length + 1 - a.length = 1 by omega]
   rfl
 unfold alongL
 rw [e0, e1, show k / 256 * 256 + k % 256 = k by omega, List.take_left' rfl, ← List.append_assoc a (w2 k) r, List.drop_left' (by rw [List.length_append]; rfl)]
theorem part_mid (a m r : List Nat) (i n : Nat) (hi : i = a.length) (hn : n = m.length) : ((a ++ (m ++ r)).drop i).take n = m := by
 subst hi hn
 rw [List.drop_left' rfl, List.take_left' rfl]
def shp (h0 : List Nat) (c : Nat) (ad po sa fl wi : List Nat) (k : Nat) (ur op dd : List Nat) : List Nat := h0 ++ (w2 c ++ (ad ++ (po ++ (sa ++ (fl ++ (wi ++ (w2 k ++ (ur ++ (op ++ dd)))))))))
def h0L (h : Hd) (n : Nat) : List Nat := [69, h.tos] ++ w2 n ++ w2 h.id ++ [if h.df then 64 else 0, 0] ++ [h.ttl, h.proto]
theorem pk_shp (h : Hd) (n c : Nat) (t : Th) (d : List Nat) (k : Nat) : hd h n c ++ raw t d k = shp (h0L h n) c (w4 h.src ++ w4 h.dst) (w2 t.src ++ w2 t.dst) (w4 t.seq ++ w4 t.ack) [off t, t.flags] (w2 t.win) k (w2 t.urg) (bz t.opts) d := by
 unfold hd raw front shp h0L
 simp only [List.append_assoc]
structure Pcs (h0 ad po sa fl wi ur : List Nat) : Prop where
 h0 : h0.length = 10
 ad : ad.length = 8
 po : po.length = 4
 sa : sa.length = 8
 fl : fl.length = 2
 wi : wi.length = 2
 ur : ur.length = 2
section
variable {h0 ad po sa fl wi ur op dd : List Nat} {c k : Nat} (p : Pcs h0 ad po sa fl wi ur)
include p
theorem shp_len : (shp h0 c ad po sa fl wi k ur op dd).length = 40 + op.length + dd.length := by
 have := p.h0; have := p.ad; have := p.po; have := p.sa; have := p.fl; have := p.wi; have := p.ur
 unfold shp
 simp only [List.length_append, w2, List.length_cons, List.length_nil]
 omega
theorem shp_c (hc : c ≤ 65535) (x y : List Nat) : alongL (shp h0 c ad po sa fl wi k ur op dd) 10 x y = shp h0 (tur c x y) ad po sa fl wi k ur op dd := along_mid h0 _ x y 10 c p.h0.symm hc
theorem shp_k (hk : k ≤ 65535) (x y : List Nat) : alongL (shp h0 c ad po sa fl wi k ur op dd) 36 x y = shp h0 c ad po sa fl wi (tur k x y) ur op dd := by
 have e : ∀ z, shp h0 c ad po sa fl wi z ur op dd = (h0 ++ (w2 c ++ (ad ++ (po ++ (sa ++ (fl ++ wi)))))) ++ (w2 z ++ (ur ++ (op ++ dd))) := fun z => by unfold shp; simp only [List.append_assoc]
 rw [e, e]
 refine along_mid _ _ x y 36 k ?_ hk
 have := p.h0; have := p.ad; have := p.po; have := p.sa; have := p.fl; have := p.wi
 simp only [List.length_append, w2, List.length_cons, List.length_nil]
 omega
theorem shp_ad (y : List Nat) (hy : y.length = 8) : putL (shp h0 c ad po sa fl wi k ur op dd) 12 y = shp h0 c y po sa fl wi k ur op dd ∧ ((shp h0 c ad po sa fl wi k ur op dd).drop 12).take 8 = ad := by
 have e : ∀ z, shp h0 c z po sa fl wi k ur op dd = (h0 ++ w2 c) ++ (z ++ (po ++ (sa ++ (fl ++ (wi ++ (w2 k ++ (ur ++ (op ++ dd)))))))) := fun z => by unfold shp; simp only [List.append_assoc]
 have l : 12 = (h0 ++ w2 c).length := by rw [List.length_append, p.h0]; rfl
 rw [e, e]
 exact ⟨putL_mid _ ad _ y 12 l (by rw [p.ad, hy]), part_mid _ ad _ 12 8 l p.ad.symm⟩
theorem shp_po (y : List Nat) (hy : y.length = 4) : putL (shp h0 c ad po sa fl wi k ur op dd) 20 y = shp h0 c ad y sa fl wi k ur op dd ∧ ((shp h0 c ad po sa fl wi k ur op dd).drop 20).take 4 = po := by
 have e : ∀ z, shp h0 c ad z sa fl wi k ur op dd = (h0 ++ (w2 c ++ ad)) ++ (z ++ (sa ++ (fl ++ (wi ++ (w2 k ++ (ur ++ (op ++ dd))))))) := fun z => by unfold shp; simp only [List.append_assoc]
 have l : 20 = (h0 ++ (w2 c ++ ad)).length := by rw [List.length_append, List.length_append, p.h0, p.ad]; rfl
 rw [e, e]
 exact ⟨putL_mid _ po _ y 20 l (by rw [p.po, hy]), part_mid _ po _ 20 4 l p.po.symm⟩
theorem shp_sa (y : List Nat) (hy : y.length = 8) : putL (shp h0 c ad po sa fl wi k ur op dd) 24 y = shp h0 c ad po y fl wi k ur op dd ∧ ((shp h0 c ad po sa fl wi k ur op dd).drop 24).take 8 = sa := by
 have e : ∀ z, shp h0 c ad po z fl wi k ur op dd = (h0 ++ (w2 c ++ (ad ++ po))) ++ (z ++ (fl ++ (wi ++ (w2 k ++ (ur ++ (op ++ dd)))))) := fun z => by unfold shp; simp only [List.append_assoc]
 have l : 24 = (h0 ++ (w2 c ++ (ad ++ po))).length := by rw [List.length_append, List.length_append, List.length_append, p.h0, p.ad, p.po]; rfl
 rw [e, e]
 exact ⟨putL_mid _ sa _ y 24 l (by rw [p.sa, hy]), part_mid _ sa _ 24 8 l p.sa.symm⟩
theorem shp_wi (y : List Nat) (hy : y.length = 2) : putL (shp h0 c ad po sa fl wi k ur op dd) 34 y = shp h0 c ad po sa fl y k ur op dd ∧ ((shp h0 c ad po sa fl wi k ur op dd).drop 34).take 2 = wi := by
 have e : ∀ z, shp h0 c ad po sa fl z k ur op dd = (h0 ++ (w2 c ++ (ad ++ (po ++ (sa ++ fl))))) ++ (z ++ (w2 k ++ (ur ++ (op ++ dd)))) := fun z => by unfold shp; simp only [List.append_assoc]
 have l : 34 = (h0 ++ (w2 c ++ (ad ++ (po ++ (sa ++ fl))))).length := by
   have := p.h0; have := p.ad; have := p.po; have := p.sa; have := p.fl
   simp only [List.length_append, w2, List.length_cons, List.length_nil]
   omega
 rw [e, e]
 exact ⟨putL_mid _ wi _ y 34 l (by rw [p.wi, hy]), part_mid _ wi _ 34 2 l p.wi.symm⟩
theorem shp_op (y : List Nat) (n : Nat) (hy : y.length = op.length) (hn : n = op.length) : putL (shp h0 c ad po sa fl wi k ur op dd) 40 y = shp h0 c ad po sa fl wi k ur y dd ∧ ((shp h0 c ad po sa fl wi k ur op dd).drop 40).take n = op := by
 have e : ∀ z, shp h0 c ad po sa fl wi k ur z dd = (h0 ++ (w2 c ++ (ad ++ (po ++ (sa ++ (fl ++ (wi ++ (w2 k ++ ur)))))))) ++ (z ++ dd) := fun z => by unfold shp; simp only [List.append_assoc]
 have l : 40 = (h0 ++ (w2 c ++ (ad ++ (po ++ (sa ++ (fl ++ (wi ++ (w2 k ++ ur)))))))).length := by
   have := p.h0; have := p.ad; have := p.po; have := p.sa; have := p.fl; have := p.wi; have := p.ur
   simp only [List.length_append, w2, List.length_cons, List.length_nil]
   omega
 rw [e, e]
 exact ⟨putL_mid _ op _ y 40 l hy.symm, part_mid _ op _ 40 n l hn⟩
end
theorem pcs (h : Hd) (n : Nat) (t : Th) : Pcs (h0L h n) (w4 h.src ++ w4 h.dst) (w2 t.src ++ w2 t.dst) (w4 t.seq ++ w4 t.ack) [off t, t.flags] (w2 t.win) (w2 t.urg) := ⟨rfl, rfl, rfl, rfl, rfl, rfl, rfl⟩
theorem kT_pcs (h : Hd) (t : Th) (x : Sh) (k : Nat) : kT h t x k = tur (tur (tur (tur (tur k (w4 h.src ++ w4 h.dst) (w4 x.sip ++ w4 x.dip)) (w2 t.src ++ w2 t.dst) (w2 x.sport ++ w2 x.dport)) (w4 t.seq ++ w4 t.ack) (w4 ((t.seq + x.seq) % 4294967296) ++ w4 (ackT t.flags t.ack x.ack))) (w2 t.win) (w2 (winT t.win x.up x.down))) (bz t.opts) (turnS x.ack x.val x.echo (bz t.opts)) := by
 unfold kT
 have e : ∀ (h : Hd) (t : Th), fr h t = (w4 h.src ++ w4 h.dst) ++ ((w2 t.src ++ w2 t.dst) ++ (w4 t.seq ++ w4 t.ack)) := fun h t => by unfold fr; simp only [List.append_assoc]
 rw [e, e, tur_app k (w4 h.src ++ w4 h.dst) (w4 (hdT h x).src ++ w4 (hdT h x).dst) _ _ rfl (by simp [w4]), tur_app _ (w2 t.src ++ w2 t.dst) (w2 (thT t x).src ++ w2 (thT t x).dst) _ _ rfl (by simp [w2])]
 rfl
def rewS (S : ByteArray) (x : Sh) : List Nat := rew (rd (bz S)) (at0 (bz S) 10 * 256 + at0 (bz S) 11) (trd (ld S)) (at0 (bz S) 36 * 256 + at0 (bz S) 37) (dt S) x
theorem word_mid (a r : List Nat) (i k : Nat) (hi : i = a.length) : at0 (a ++ (w2 k ++ r)) i * 256 + at0 (a ++ (w2 k ++ r)) (i + 1) = k := by
 subst hi
 have e0 : at0 (a ++ (w2 k ++ r)) a.length = k / 256 := by
   unfold at0
   rw [List.getElem?_append_right (Nat.le_refl _), Nat.sub_self]
   rfl
 have e1 : at0 (a ++ (w2 k ++ r)) (a.length + 1) = k % 256 := by
   unfold at0
   rw [List.getElem?_append_right (by omega), show a.length + 1 - a.length = 1 by omega]
   rfl
 rw [e0, e1]
 omega
theorem rd_all {S : ByteArray} {h : Hd} {c : Nat} {t : Th} {k : Nat} {o : Opn} {d : ByteArray} (r : Rd S h c t k o d) : rd (bz S) = h ∧ trd (ld S) = t ∧ dt S = d ∧ at0 (bz S) 10 * 256 + at0 (bz S) 11 = c ∧ at0 (bz S) 36 * 256 + at0 (bz S) 37 = k := by
 obtain ⟨e3, e4⟩ := raw_trd t r.tok r.tmay (bz d) k (ld S) r.ld
 have p := pcs h (40 + t.opts.size + d.size) t
 refine ⟨by rw [r.bytes]; exact hd_rd h _ c _ r.hk, e3, bz_inj e4, ?_, ?_⟩
 · rw [r.bytes, pk_shp]
   exact word_mid (h0L h (40 + t.opts.size + d.size)) _ 10 c p.h0.symm
 · rw [r.bytes, pk_shp]
   have e : ∀ z, shp (h0L h (40 + t.opts.size + d.size)) c (w4 h.src ++ w4 h.dst) (w2 t.src ++ w2 t.dst) (w4 t.seq ++ w4 t.ack) [off t, t.flags] (w2 t.win) z (w2 t.urg) (bz t.opts) (bz d) = (h0L h (40 + t.opts.size + d.size) ++ (w2 c ++ ((w4 h.src ++ w4 h.dst) ++ ((w2 t.src ++ w2 t.dst) ++ ((w4 t.seq ++ w4 t.ack) ++ ([off t, t.flags] ++ w2 t.win)))))) ++ (w2 z ++ (w2 t.urg ++ (bz t.opts ++ bz d))) := fun z => by unfold shp; simp only [List.append_assoc]
   rw [e]
   exact word_mid _ _ 36 k rfl
theorem rewS_is {S : ByteArray} {h : Hd} {c : Nat} {t : Th} {k : Nat} {o : Opn} {d : ByteArray} (r : Rd S h c t k o d) (x : Sh) : rewS S x = rew h c t k d x := by
 obtain ⟨e1, e2, e3, e4, e5⟩ := rd_all r
 unfold rewS
 rw [e1, e2, e3, e4, e5]
theorem rew_pcs {S : ByteArray} {h : Hd} {c : Nat} {t : Th} {k : Nat} {o : Opn} {d : ByteArray} (r : Rd S h c t k o d) {x : Sh} (xk : x.ok) :
   ∃ h0 ad po sa fl wi ur op dd, Pcs h0 ad po sa fl wi ur ∧ bz S = shp h0 c ad po sa fl wi k ur op dd ∧ op.length = t.opts.size ∧ dd.length = d.size ∧ (turnS x.ack x.val x.echo (bz t.opts)).length = op.length ∧ S.extract 40 (S.size - d.size) = t.opts ∧
     rewS S x = shp h0 (tur c ad (w4 x.sip ++ w4 x.dip)) (w4 x.sip ++ w4 x.dip) (w2 x.sport ++ w2 x.dport) (w4 ((t.seq + x.seq) % 4294967296) ++ w4 (ackT t.flags t.ack x.ack)) fl (w2 (winT t.win x.up x.down))
       (tur (tur (tur (tur (tur k ad (w4 x.sip ++ w4 x.dip)) po (w2 x.sport ++ w2 x.dport)) sa (w4 ((t.seq + x.seq) % 4294967296) ++ w4 (ackT t.flags t.ack x.ack))) wi (w2 (winT t.win x.up x.down))) op (turnS x.ack x.val x.echo (bz t.opts))) ur (turnS x.ack x.val x.echo (bz t.opts)) dd := by
 have p := pcs h (40 + t.opts.size + d.size) t
 have tq := turn_ok r.opts x
 have e0 : bz S = _ := r.bytes
 rw [pk_shp] at e0
 have hsz := r.size
 refine ⟨_, _, _, _, _, _, _, _, _, p, e0, bz_len _, bz_len _, by rw [← tq.bytes, bz_len, bz_len, tq.size], ?_, ?_⟩
 · refine bz_inj ?_
   rw [bz_extract S 40 _ (Nat.sub_le _ _), e0]
   have l : S.size - d.size = 40 + t.opts.size := by omega
   rw [l, List.drop_take, show 40 + t.opts.size - 40 = t.opts.size by omega]
   exact (shp_op p (bz t.opts) t.opts.size rfl (bz_len _).symm).2
 · rw [rewS_is r]
   unfold rew
   rw [pk_shp, tq.bytes, kT_pcs]
   have eo : off (thT t x) = off t := by unfold off; rw [tq.size]
   rw [eo]
   rfl
def rwV (S : ByteArray) (x : Sh) : Value := if (dec8 S).1 = 0 then .tuple #[.string (ofB (rewS S x)), .int .i64 0] else .tuple #[.string ⟨#[]⟩, .int .i64 ((dec8 S).1 : Int)]
theorem shp_le {S : ByteArray} {h : Hd} {c : Nat} {t : Th} {k : Nat} {o : Opn} {d : ByteArray} (r : Rd S h c t k o d) {x : Sh} (xk : x.ok) : ∀ z ∈ rewS S x, z ≤ 255 := by
 rw [rewS_is r]
 have q := (rew_rd r xk).bytes
 have tq := turn_ok r.opts x
 obtain ⟨l3, _⟩ := kT_right r.hk r.tok r.tmay r.opts xk r.k16 r.tsum
 have hc : cT h x c ≤ 65535 := tur_le r.c16 _ _
 have hmost := r.tmay.most
 have hfew := r.few
 have tm : (thT t x).may := ⟨by rw [tq.size]; exact r.tmay.four, by rw [tq.size]; exact hmost, r.tmay.flags⟩
 exact app_le (hd_le _ (hdT_ok r.hk xk) _ _ (by omega) hc) (raw_le _ (thT_ok r.tok xk) tm _ _ (bz_le d) l3)
end Go.Proofs.YtpmnmnflaijaaaaGreat.PktRwM
namespace Go.Proofs.YtpmnmnflaijaaaaGreat.PktAlM
open Go.RowKit TupMath SumMath IpMath IpRef OptMath OptMay OptTk PktMath PktVal PktCom PktRwM
set_option linter.unusedVariables false
set_option maxRecDepth 100000
def asg : Sg := ⟨167772161, 4000, 167772162, 80, 7, 0, 2, 100, ⟨1460, -1, false, [], false, 0, 0⟩, ⟨#[]⟩⟩
def ash : Sh := ⟨1, 2, 3, 4, 5, 6, 0, 0, 1, 0⟩
def ahu : Sg := ⟨0, 0, 0, 0, 0, 0, 3, 0, none0, ⟨#[]⟩⟩
theorem ash_ok : ash.ok := ⟨by decide, by decide, by decide, by decide, by decide, by decide, by decide, by decide⟩
theorem asg_ok : asg.ok := ⟨by decide, by decide, by decide, by decide, by decide, by decide, by decide, by decide, ⟨by decide, (fun p hp => by cases hp), by decide, by decide⟩⟩
theorem ahu_ok : ahu.ok := ⟨by decide, by decide, by decide, by decide, by decide, by decide, by decide, by decide, ⟨by decide, (fun p hp => by cases hp), by decide, by decide⟩⟩
theorem asg_mayS : mayS asg = true := by decide +kernel
theorem ahu_mayS : mayS ahu = false := by decide +kernel
theorem asg_may : asg.may := of_mayS asg_mayS
theorem asg_enc : encV8 asg = .tuple #[.string (ofB (pk asg)), .int .i64 0] := if_pos asg_mayS
theorem ahu_enc : encV8 ahu = .tuple #[.string ⟨#[]⟩, .int .i64 2] := if_neg (by rw [ahu_mayS]; decide)
theorem asg_size : (ofB (pk asg)).size = 44 := by
 rw [ofB_size, pk_len, show (rawO asg.opts).length = 4 from by decide +kernel]
 rfl
theorem asg_dec : dec8 (ofB (pk asg)) = (0, asg) := pk_dec asg_ok asg_may
theorem none_dec : dec8 ⟨#[]⟩ = (50, zeroS) := by
 have e : err (bz ⟨#[]⟩) = 50 := by decide +kernel
 unfold dec8
 rw [e, if_pos (by decide)]
theorem asg_rew : rwV (ofB (pk asg)) ash = .tuple #[.string (ofB (rewS (ofB (pk asg)) ash)), .int .i64 0] := if_pos (by rw [asg_dec])
theorem rewS_dec {S : ByteArray} (h0 : (dec8 S).1 = 0) {x : Sh} (xk : x.ok) : dec8 (ofB (rewS S x)) = (0, turned (dec8 S).2 x) ∧ (ofB (rewS S x)).size = S.size := by
 obtain ⟨c, k, r, hd⟩ := dec_rd h0
 rw [rewS_is r, hd]
 exact ⟨rew_dec r xk, rew_len r xk⟩
theorem asg_redec : dec8 (ofB (rewS (ofB (pk asg)) ash)) = (0, turned asg ash) := by
 have h := (rewS_dec (S := ofB (pk asg)) (by rw [asg_dec]) ash_ok).1
 rw [asg_dec] at h
 exact h
theorem asg_size2 : (ofB (rewS (ofB (pk asg)) ash)).size = 44 := by
 have h := (rewS_dec (S := ofB (pk asg)) (by rw [asg_dec]) ash_ok).2
 rw [h, asg_size]
theorem asg_turned : (turned asg ash).seq = 12 ∧ (turned asg ash).ack = 0 ∧ (turned asg ash).win = 200 ∧ (turned asg ash).dport = 4 := by decide +kernel
end Go.Proofs.YtpmnmnflaijaaaaGreat.PktAlM
namespace Go.Proofs.YtpmnmnflaijaaaaGreat.PktAl
open Go.Proofs.YtpmnmnflaijaaaaGreat.Own
open Cells (CellsAt Apart put_lit)
open Go.RowKit Go.Shelf TupMath SumMath Litb Calm Rel RelT IpMath IpRef Num OptMath OptPU PktMath PktKp
set_option linter.unusedVariables false
set_option maxRecDepth 100000
attribute [local go_sem] Oper.semAt_some
def relAl (b i n cap ck tv : Nat) (x y z : ByteArray) : Nat → Value → World → Prop
 | 0 => fun v _ => v = .slice (some ⟨b, 0, none⟩) n cap
 | 1 => fun v _ => v = .int .i64 (i : Int)
 | 2 => fun v W => ∃ dc, v = .slice (some ⟨b, i, none⟩) (n - i) dc
 | 3 => fun v _ => v = .int .u16 (ck : Int)
 | 4 => fun v _ => v = .string x
 | 5 => fun v _ => v = .string y
 | 6 => fun v _ => v = .int .u16 (tv : Int)
 | 7 => HoldK .u16 [tv]
 | 8 => fun v _ => v = .string z
 | _ => fun _ _ => True
theorem relAl_more (b i n cap ck tv : Nat) (x y z : ByteArray) (j : Nat) (u : Value) (w w' : World) (hr : relAl b i n cap ck tv x y z j u w) (hb : Below w.heap.size w w') : relAl b i n cap ck tv x y z j u w' := by
 unfold relAl at hr ⊢
 split at hr <;> first | exact hr | exact hr.more hb
attribute [local go_sem] relUpon
set_option maxHeartbeats 8000000 in
theorem alongP (b k1 k2 i n cap : Nat) (c : List Nat) (x y : ByteArray) (w : World) (hH : Held8 w b c) (h1 : CellsAt w k1 #[.slice (some ⟨b, 0, none⟩) n cap]) (h2 : CellsAt w k2 #[.int .i64 (i : Int)])
   (hn : n = c.length) (hcap : n ≤ cap) (hi : i + 2 ≤ n) (hn6 : n ≤ 1000000) (hc8 : ∀ z ∈ c, z ≤ 255) (hx : x.size ≤ 1000000) (hxy : x.size = y.size) :
   Calls Tryz.prog 47 #[.string x, .string y, .pointer (some ⟨k1, 0, none⟩), .pointer (some ⟨k2, 0, none⟩)] w fun e w' => e = .returned (.tuple #[]) ∧ Held8 w' b (alongL c i (bz x) (bz y)) ∧ Kept b w w' := by
 have hb0 := at_le2 hc8 i
 have hb1 := at_le2 hc8 (i + 1)
 obtain ⟨ck, hck⟩ : ∃ ck, at0 c i * 256 + at0 c (i + 1) = ck := ⟨_, rfl⟩
 have hk16 : ck ≤ 65535 := by omega
 obtain ⟨tv, hv⟩ : ∃ tv, tur ck (bz x) (bz y) = tv := ⟨_, rfl⟩
 have hv16 : tv ≤ 65535 := by rw [← hv]; exact tur_le hk16 _ _
 have HT := Lib.hid (fun W => turnsP ck x y W hk16 hx hxy)
 rw [hv] at HT
 obtain ⟨z, hz⟩ : ∃ z, ofB (w2 tv) = z := ⟨_, rfl⟩
 have hbz : bz z = w2 tv := by rw [← hz]; exact bz_ofB (w2_le2 hv16)
 have hzs : z.size = 2 := by rw [← bz_len, hbz]; rfl
 have HL := Lib.hid (fun W u (hu : HoldK .u16 [tv] u W) => layH16 hu (by simp) (by simp) (by intro q hq; simp at hq; omega))
 have e2 : w2s [tv] = w2 tv := by show w2 tv ++ [] = _; rw [List.append_nil]
 rw [e2, hz] at HL
 have HR : Hid (c.take i ++ (bz z ++ c.drop (i + z.size)) = alongL c i (bz x) (bz y)) := Lib.hid (by rw [hbz, hzs]; unfold alongL; rw [hck, hv])
 have hcv := part_string (W := w) hH hc8 i 2 (cap - i) (by omega)
 have hX : bz (ofB ((c.drop i).take 2)) = [at0 c i, at0 c (i + 1)] := by
   rw [take2 (by omega)]
   exact bz_ofB (by intro q hq; simp at hq; omega)
 obtain ⟨X, hXe⟩ : ∃ X, ofB ((c.drop i).take 2) = X := ⟨_, rfl⟩
 rw [hXe] at hcv hX
 have hXs : X.size = 2 := by rw [← bz_len, hX]; rfl
 have HA := Lib.hid (fun W => (show Calls Tryz.prog 48 #[.string X, .int .i64 0] W fun e w' => e = .returned (.int .u16 (ck : Int)) ∧ Below W.heap.size W w' from by
   have q := at16 X 0 (at0 c i) (at0 c (i + 1)) W (by omega) (by omega) (by rw [hX]; rfl) (by rw [hX]; rfl)
   rw [hck] at q
   exact q))
 have H1 := Lib.hid h1
 have H2 := Lib.hid h2
 have HH := Lib.hid hH
 have hlt := hH.1
 have HLT := Lib.hid hlt
 have c7 := h1.cell 0 _ rfl
 have c8 := h2.cell 0 _ rfl
 have f11 : i ≤ n := by omega
 have hcl := Lib.hid hn
 clear hck hv hz hbz e2 hX hXe hXs h1 h2 hH hb0 hb1 hlt hc8 hxy hn
 have f1 : 0 ≤ (i : Int) := by omega
 have f3 : IntKind.i64.wrap ((i : Int) + 2) = (i : Int) + 2 := by rw [IntKind.wrap_i64]; omega
 have f4 : ((i : Int) + 2).toNat = i + 2 := by omega
 have f5 : 0 ≤ (i : Int) + 2 := by omega
 have f6 : (i : Int) + 2 ≤ (cap : Int) := by omega
 have f7 : (i : Int) ≤ (i : Int) + 2 := by omega
 have f8 : ¬ cap = i := by omega
 have f9 : i + 2 - i = 2 := by omega
 have f10 : (i : Int) ≤ (n : Int) := by omega
 go_enter Tryz.func47, Tryz.ntmps47
 go_wp2_with fail
 refine (HA.out _).mono ?_
 rintro e w1 ⟨rfl, hb⟩
 have J1 := Lib.hid (H1.out.later hb)
 have J2 := Lib.hid (H2.out.later hb)
 have JH := Lib.hid (held_more HH.out hb)
 have JK := Lib.hid (Kept.of_below (b := b) hb (Nat.le_of_lt HLT.out))
 clear c7 c8 hcv hb H1 H2 HH
 have H1 := J1
 have H2 := J2
 clear J1 J2
 go_wp2_with fail
 refine wp_region_see_tail 9 24 (relAl b i n cap ck tv x y z) rfl (by kernel_rfl) (by kernel_rfl) (by kernel_rfl) (by kernel_rfl) (relAl_more b i n cap ck tv x y z) ?_ ?_
 · intro j' hj'
   have hj2 : j' < 9 := by simpa using hj'
   clear hj'
   match j', hj2 with
   | 0, _ =>
     intro ρ W hb hc hg hf h0 hd
     have t2 := h0 2 (by kernel_rfl)
     have c7 := (H1.out.later hb).cell 0 _ rfl
     clear hd h0
     go_simp
     exact ⟨rfl, Below.refl _ _⟩
   | 1, _ =>
     intro ρ W hb hc hg hf h0 hd
     have t3 := h0 3 (by kernel_rfl)
     have c8 := (H2.out.later hb).cell 0 _ rfl
     clear hd h0
     go_simp
     exact ⟨rfl, Below.refl _ _⟩
   | 2, _ =>
     intro ρ W hb hc hg hf h0 hd
     have d0 : ρ (.tmp 14) = .slice (some ⟨b, 0, none⟩) n cap := hd 0 14 (by kernel_rfl) (by kernel_rfl)
     have d1 : ρ (.tmp 15) = .int .i64 (i : Int) := hd 1 15 (by kernel_rfl) (by kernel_rfl)
     clear hd h0
     go_simp
     exact ⟨⟨_, rfl⟩, Below.refl _ _⟩
   | 3, _ =>
     intro ρ W hb hc hg hf h0 hd
     have t6 := h0 6 (by kernel_rfl)
     clear hd h0
     go_simp
     exact ⟨rfl, Below.refl _ _⟩
   | 4, _ =>
     intro ρ W hb hc hg hf h0 hd
     have t0 := h0 0 (by kernel_rfl)
     clear hd h0
     go_simp
     exact ⟨rfl, Below.refl _ _⟩
   | 5, _ =>
     intro ρ W hb hc hg hf h0 hd
     have t1 := h0 1 (by kernel_rfl)
     clear hd h0
     go_simp
     exact ⟨rfl, Below.refl _ _⟩
   | 6, _ =>
     intro ρ W hb hc hg hf h0 hd
     have d3 : ρ (.tmp 17) = .int .u16 (ck : Int) := hd 3 17 (by kernel_rfl) (by kernel_rfl)
     have d4 : ρ (.tmp 18) = .string x := hd 4 18 (by kernel_rfl) (by kernel_rfl)
     have d5 : ρ (.tmp 19) = .string y := hd 5 19 (by kernel_rfl) (by kernel_rfl)
     clear hd h0
     go_simp
     exact (HT.out W).mono fun e w' ⟨he, hb⟩ => ⟨_, he, rfl, hb⟩
   | 7, _ =>
     intro ρ W hb hc hg hf h0 hd
     have d6 : ρ (.tmp 20) = .int .u16 (tv : Int) := hd 6 20 (by kernel_rfl) (by kernel_rfl)
     clear hd h0
     go_simp
     exact ⟨HoldK.new .u16 W [tv] _, st_alloc (Below.refl _ _) _⟩
   | 8, _ =>
     intro ρ W hb hc hg hf h0 hd
     have dh7 : HoldK .u16 [tv] (ρ (.tmp 21)) W := hd 7 21 (by kernel_rfl) (by kernel_rfl)
     clear hd h0
     go_simp
     exact (HL.out W _ dh7).mono fun e w' ⟨he, hb⟩ => ⟨_, he, rfl, hb⟩
   | i + 9, hlt => exact absurd hlt (by omega)
 · intro vs W1 hb hall
   have hd : ∃ dc, vs 2 = .slice (some ⟨b, i, none⟩) (n - i) dc := hall 2 (by omega)
   have hq : vs 8 = .string z := hall 8 (by omega)
   obtain ⟨dc, hd⟩ := hd
   clear hall
   rw [lexA_slots vs 9 [(some 14, 0), (some 15, 1), (some 16, 2), (some 17, 3), (some 18, 4), (some 19, 5), (some 20, 6), (some 21, 7), (some 22, 8)] (by kernel_rfl)]
   simp only [List.foldl_cons, List.foldl_nil, hd, hq]
   simp only [put_lit, List.set_cons_succ, List.set_cons_zero]
   show wpList _ _ _ [_] _ _
   obtain ⟨W2, hcp, hH2, hA2, hb2, hk2⟩ := copy_held (held_more JH.out hb) i (n - i) dc 3 z (by omega) (by have := hcl.out; omega)
   rw [HR.out] at hH2
   have RH := Lib.hid hH2
   have RK := Lib.hid ((JK.out.trans (Kept.of_below hb (by have := JH.out.1; omega))).trans (Kept.of_apart hA2 hb2))
   clear hH2 hA2 hb2 hk2 hd hq hb
   go_wp2
   go_end0
   exact ⟨rfl, RH.out, RK.out⟩
end Go.Proofs.YtpmnmnflaijaaaaGreat.PktAl
namespace Go.Proofs.YtpmnmnflaijaaaaGreat.PktLay
open Go.Proofs.YtpmnmnflaijaaaaGreat.Own
open Cells (CellsAt Apart put_lit)
open Go.RowKit Go.Shelf TupMath SumMath Litb Calm Rel RelT IpMath IpRef Num OptMath OptPU PktMath PktKp PktAl
set_option linter.unusedVariables false
set_option maxRecDepth 100000
attribute [local go_sem] Oper.semAt_some
set_option maxHeartbeats 4000000 in
theorem bothP (b kh ks k1 k2 k3 k4 i j n cap : Nat) (c : List Nat) (x y : ByteArray) (w : World) (hH : Held8 w b c)
   (hh : CellsAt w kh #[.func (.func 47) #[] #[.pointer (some ⟨k1, 0, none⟩), .pointer (some ⟨k2, 0, none⟩)]]) (hs : CellsAt w ks #[.func (.func 47) #[] #[.pointer (some ⟨k3, 0, none⟩), .pointer (some ⟨k4, 0, none⟩)]])
   (h1 : CellsAt w k1 #[.slice (some ⟨b, 0, none⟩) n cap]) (h2 : CellsAt w k2 #[.int .i64 (i : Int)]) (h3 : CellsAt w k3 #[.slice (some ⟨b, 0, none⟩) n cap]) (h4 : CellsAt w k4 #[.int .i64 (j : Int)])
   (hn : n = c.length) (hcap : n ≤ cap) (hi : i + 2 ≤ n) (hj : j + 2 ≤ n) (hn6 : n ≤ 1000000) (hc8 : ∀ z ∈ c, z ≤ 255) (hx : x.size ≤ 1000000) (hxy : x.size = y.size) (hne : kh ≠ b ∧ ks ≠ b ∧ k1 ≠ b ∧ k2 ≠ b ∧ k3 ≠ b ∧ k4 ≠ b) :
   Calls Tryz.prog 20 #[.string x, .string y, .pointer (some ⟨kh, 0, none⟩), .pointer (some ⟨ks, 0, none⟩)] w fun e w' => e = .returned (.tuple #[]) ∧ Held8 w' b (alongL (alongL c i (bz x) (bz y)) j (bz x) (bz y)) ∧ Kept b w w' := by
 have T1 := Lib.hid (alongP b k1 k2 i n cap c x y w hH h1 h2 hn hcap hi hn6 hc8 hx hxy)
 have T2 := Lib.hid (fun W (hH2 : Held8 W b (alongL c i (bz x) (bz y))) (hK : Kept b w W) => alongP b k3 k4 j n cap (alongL c i (bz x) (bz y)) x y W hH2 (hK.cells h3 hne.2.2.2.2.1) (hK.cells h4 hne.2.2.2.2.2) (by rw [alongL_len (by omega)]; exact hn) hcap hj hn6 (alongL_le hc8 _ _ _) hx hxy)
 have HS := Lib.hid (fun W (hK : Kept b w W) => hK.cells hs hne.2.1)
 have c6 := hh.cell 0 _ rfl
 clear hH hh hs h1 h2 h3 h4 hn hcap hi hj hn6 hc8 hx hxy hne
 go_enter Tryz.func20, Tryz.ntmps20
 go_wp2_with fail
 refine T1.out.mono ?_
 rintro e w1 ⟨rfl, hH1, hK1⟩
 have c10 := (HS.out w1 hK1).cell 0 _ rfl
 have T3 := Lib.hid (T2.out w1 hH1 hK1)
 have K1 := Lib.hid hK1
 clear hH1 hK1 c6 T1 T2
 go_wp2_with fail
 refine T3.out.mono ?_
 rintro e w2 ⟨rfl, hH2, hK2⟩
 have R := Lib.hid (And.intro hH2 (K1.out.trans hK2))
 clear hH2 hK2 c10
 go_wp2_with fail
 go_end0
 exact ⟨rfl, R.out.1, R.out.2⟩
set_option maxHeartbeats 8000000 in
theorem layB32 (b kh ks k1 k2 k3 k4 i jh j n cap : Nat) (c : List Nat) (lv : Value) (z : ByteArray) (w : World) (hL : Calls Tryz.prog 51 #[lv] w fun e w' => e = .returned (.string z) ∧ Below w.heap.size w w') (hH : Held8 w b c)
   (hh : CellsAt w kh #[.func (.func 47) #[] #[.pointer (some ⟨k1, 0, none⟩), .pointer (some ⟨k2, 0, none⟩)]]) (hs : CellsAt w ks #[.func (.func 47) #[] #[.pointer (some ⟨k3, 0, none⟩), .pointer (some ⟨k4, 0, none⟩)]])
   (h1 : CellsAt w k1 #[.slice (some ⟨b, 0, none⟩) n cap]) (h2 : CellsAt w k2 #[.int .i64 (jh : Int)]) (h3 : CellsAt w k3 #[.slice (some ⟨b, 0, none⟩) n cap]) (h4 : CellsAt w k4 #[.int .i64 (j : Int)]) (hjh : jh + 2 ≤ n)
   (hn : n = c.length) (hcap : n ≤ cap) (hi : i + z.size ≤ n) (hci : ¬ cap = i) (hj : j + 2 ≤ n) (hn6 : n ≤ 1000000) (hc8 : ∀ q ∈ c, q ≤ 255) (hne : kh ≠ b ∧ ks ≠ b ∧ k1 ≠ b ∧ k2 ≠ b ∧ k3 ≠ b ∧ k4 ≠ b) :
   Calls Tryz.prog 21 #[.slice (some ⟨b, 0, none⟩) n cap, .int .i64 (i : Int), .func (.func 20) #[] #[.pointer (some ⟨kh, 0, none⟩), .pointer (some ⟨ks, 0, none⟩)], lv] w fun e w' => e = .returned (.tuple #[]) ∧ Held8 w' b (alongL (alongL (putL c i (bz z)) jh ((c.drop i).take z.size) (bz z)) j ((c.drop i).take z.size) (bz z)) ∧ Kept b w w' := by
 have hle : ∀ q ∈ (c.drop i).take z.size, q ≤ 255 := fun q hq => hc8 q (List.mem_of_mem_drop (List.mem_of_mem_take hq))
 have hXb : bz (ofB ((c.drop i).take z.size)) = (c.drop i).take z.size := bz_ofB hle
 have hXs : (ofB ((c.drop i).take z.size)).size = z.size := by rw [ofB_size, List.length_take, List.length_drop]; omega
 have CV := Lib.hid (fun W (h : Held8 W b c) => part_string (W := W) h hc8 i z.size (cap - i) (by omega))
 skip
 obtain ⟨X, hX⟩ : ∃ X, ofB ((c.drop i).take z.size) = X := ⟨_, rfl⟩
 rw [hX] at hXb hXs CV
 have T := Lib.hid (fun W (hH2 : Held8 W b (putL c i (bz z))) (hK : Kept b w W) => bothP b kh ks k1 k2 k3 k4 jh j n cap (putL c i (bz z)) X z W hH2 (hK.cells hh hne.1) (hK.cells hs hne.2.1) (hK.cells h1 hne.2.2.1) (hK.cells h2 hne.2.2.2.1) (hK.cells h3 hne.2.2.2.2.1) (hK.cells h4 hne.2.2.2.2.2) (by rw [putL_len (by rw [bz_len]; omega)]; exact hn) hcap hjh hj hn6 (putL_le hc8 (bz_le z) i) (by omega) hXs hne)
 rw [hXb] at T
 have HL := Lib.hid hL
 have HH := Lib.hid hH
 have HLT := Lib.hid hH.1
 have HN := Lib.hid hn
 clear hle hXb hX hL hH hh hs h1 h2 h3 h4 hjh hn hc8 hne
 have g1 : 0 ≤ (i : Int) := by omega
 have g2 : IntKind.i64.wrap ((i : Int) + (z.size : Int)) = (i : Int) + (z.size : Int) := by rw [IntKind.wrap_i64]; omega
 have g3 : ((i : Int) + (z.size : Int)).toNat = i + z.size := by omega
 have g4 : 0 ≤ (i : Int) + (z.size : Int) := by omega
 have g5 : (i : Int) + (z.size : Int) ≤ (cap : Int) := by omega
 have g6 : (i : Int) ≤ (i : Int) + (z.size : Int) := by omega
 have g7 : i + z.size - i = z.size := by omega
 have g8 : (i : Int) ≤ (n : Int) := by omega
 have g9 : i ≤ n := by omega
 have g10 : i + z.size ≤ cap := by omega
 have g11 : i ≤ i + z.size := by omega
 go_enter Tryz.func21, Tryz.ntmps21
 go_wp2_with fail
 refine HL.out.mono ?_
 rintro e w1 ⟨rfl, hb⟩
 have hcv := CV.out w1 (held_more HH.out hb)
 obtain ⟨W2, hcp, hH2, hA2, hb2, hk2⟩ := copy_held (held_more HH.out hb) i (n - i) (cap - i) 3 z (by omega) (by have := HN.out; omega)
 skip
 have T2 := Lib.hid (T.out W2 (by unfold putL; rw [bz_len]; exact hH2) ((Kept.of_below hb (by have := HLT.out; omega)).trans (Kept.of_apart hA2 hb2)))
 have KK := Lib.hid ((Kept.of_below (b := b) hb (by have := HLT.out; omega)).trans (Kept.of_apart hA2 hb2))
 clear hH2 hA2 hb2 hk2 hb T CV
 go_wp2_with fail
 refine T2.out.mono ?_
 rintro e w3 ⟨rfl, hH3, hK3⟩
 have R := Lib.hid (And.intro hH3 (KK.out.trans hK3))
 clear hH3 hK3 hcp hcv
 go_wp2_with fail
 go_end0
 exact ⟨rfl, R.out.1, R.out.2⟩
set_option maxHeartbeats 8000000 in
theorem layS32 (b k1 k2 i j n cap : Nat) (c : List Nat) (lv : Value) (z : ByteArray) (w : World) (hL : Calls Tryz.prog 51 #[lv] w fun e w' => e = .returned (.string z) ∧ Below w.heap.size w w') (hH : Held8 w b c)
   (h1 : CellsAt w k1 #[.slice (some ⟨b, 0, none⟩) n cap]) (h2 : CellsAt w k2 #[.int .i64 (j : Int)])
   (hn : n = c.length) (hcap : n ≤ cap) (hi : i + z.size ≤ n) (hci : ¬ cap = i) (hj : j + 2 ≤ n) (hn6 : n ≤ 1000000) (hc8 : ∀ q ∈ c, q ≤ 255) (hne : k1 ≠ b ∧ k2 ≠ b) :
   Calls Tryz.prog 21 #[.slice (some ⟨b, 0, none⟩) n cap, .int .i64 (i : Int), .func (.func 47) #[] #[.pointer (some ⟨k1, 0, none⟩), .pointer (some ⟨k2, 0, none⟩)], lv] w fun e w' => e = .returned (.tuple #[]) ∧ Held8 w' b (alongL (putL c i (bz z)) j ((c.drop i).take z.size) (bz z)) ∧ Kept b w w' := by
 have hle : ∀ q ∈ (c.drop i).take z.size, q ≤ 255 := fun q hq => hc8 q (List.mem_of_mem_drop (List.mem_of_mem_take hq))
 have hXb : bz (ofB ((c.drop i).take z.size)) = (c.drop i).take z.size := bz_ofB hle
 have hXs : (ofB ((c.drop i).take z.size)).size = z.size := by rw [ofB_size, List.length_take, List.length_drop]; omega
 have CV := Lib.hid (fun W (h : Held8 W b c) => part_string (W := W) h hc8 i z.size (cap - i) (by omega))
 skip
 obtain ⟨X, hX⟩ : ∃ X, ofB ((c.drop i).take z.size) = X := ⟨_, rfl⟩
 rw [hX] at hXb hXs CV
 have T := Lib.hid (fun W (hH2 : Held8 W b (putL c i (bz z))) (hK : Kept b w W) => alongP b k1 k2 j n cap (putL c i (bz z)) X z W hH2 (hK.cells h1 hne.1) (hK.cells h2 hne.2) (by rw [putL_len (by rw [bz_len]; omega)]; exact hn) hcap hj hn6 (putL_le hc8 (bz_le z) i) (by omega) hXs)
 rw [hXb] at T
 have HL := Lib.hid hL
 have HH := Lib.hid hH
 have HLT := Lib.hid hH.1
 have HN := Lib.hid hn
 clear hle hXb hX hL hH h1 h2 hn hc8 hne
 have g1 : 0 ≤ (i : Int) := by omega
 have g2 : IntKind.i64.wrap ((i : Int) + (z.size : Int)) = (i : Int) + (z.size : Int) := by rw [IntKind.wrap_i64]; omega
 have g3 : ((i : Int) + (z.size : Int)).toNat = i + z.size := by omega
 have g4 : 0 ≤ (i : Int) + (z.size : Int) := by omega
 have g5 : (i : Int) + (z.size : Int) ≤ (cap : Int) := by omega
 have g6 : (i : Int) ≤ (i : Int) + (z.size : Int) := by omega
 have g7 : i + z.size - i = z.size := by omega
 have g8 : (i : Int) ≤ (n : Int) := by omega
 have g9 : i ≤ n := by omega
 have g10 : i + z.size ≤ cap := by omega
 have g11 : i ≤ i + z.size := by omega
 go_enter Tryz.func21, Tryz.ntmps21
 go_wp2_with fail
 refine HL.out.mono ?_
 rintro e w1 ⟨rfl, hb⟩
 have hcv := CV.out w1 (held_more HH.out hb)
 obtain ⟨W2, hcp, hH2, hA2, hb2, hk2⟩ := copy_held (held_more HH.out hb) i (n - i) (cap - i) 3 z (by omega) (by have := HN.out; omega)
 skip
 have T2 := Lib.hid (T.out W2 (by unfold putL; rw [bz_len]; exact hH2) ((Kept.of_below hb (by have := HLT.out; omega)).trans (Kept.of_apart hA2 hb2)))
 have KK := Lib.hid ((Kept.of_below (b := b) hb (by have := HLT.out; omega)).trans (Kept.of_apart hA2 hb2))
 clear hH2 hA2 hb2 hk2 hb T CV
 go_wp2_with fail
 refine T2.out.mono ?_
 rintro e w3 ⟨rfl, hH3, hK3⟩
 have R := Lib.hid (And.intro hH3 (KK.out.trans hK3))
 clear hH3 hK3 hcp hcv
 go_wp2_with fail
 go_end0
 exact ⟨rfl, R.out.1, R.out.2⟩
end Go.Proofs.YtpmnmnflaijaaaaGreat.PktLay
namespace Go.Proofs.YtpmnmnflaijaaaaGreat.PktLay
open Go.Proofs.YtpmnmnflaijaaaaGreat.Own
open Cells (CellsAt Apart put_lit)
open Go.RowKit Go.Shelf TupMath SumMath Litb Calm Rel RelT IpMath IpRef Num OptMath OptPU PktMath PktKp PktAl
set_option linter.unusedVariables false
set_option maxRecDepth 100000
attribute [local go_sem] Oper.semAt_some
set_option maxHeartbeats 8000000 in
theorem layS16 (b k1 k2 i j n cap : Nat) (c : List Nat) (lv : Value) (z : ByteArray) (w : World) (hL : Calls Tryz.prog 49 #[lv] w fun e w' => e = .returned (.string z) ∧ Below w.heap.size w w') (hH : Held8 w b c)
   (h1 : CellsAt w k1 #[.slice (some ⟨b, 0, none⟩) n cap]) (h2 : CellsAt w k2 #[.int .i64 (j : Int)])
   (hn : n = c.length) (hcap : n ≤ cap) (hi : i + z.size ≤ n) (hci : ¬ cap = i) (hj : j + 2 ≤ n) (hn6 : n ≤ 1000000) (hc8 : ∀ q ∈ c, q ≤ 255) (hne : k1 ≠ b ∧ k2 ≠ b) :
   Calls Tryz.prog 22 #[.slice (some ⟨b, 0, none⟩) n cap, .int .i64 (i : Int), .func (.func 47) #[] #[.pointer (some ⟨k1, 0, none⟩), .pointer (some ⟨k2, 0, none⟩)], lv] w fun e w' => e = .returned (.tuple #[]) ∧ Held8 w' b (alongL (putL c i (bz z)) j ((c.drop i).take z.size) (bz z)) ∧ Kept b w w' := by
 have hle : ∀ q ∈ (c.drop i).take z.size, q ≤ 255 := fun q hq => hc8 q (List.mem_of_mem_drop (List.mem_of_mem_take hq))
 have hXb : bz (ofB ((c.drop i).take z.size)) = (c.drop i).take z.size := bz_ofB hle
 have hXs : (ofB ((c.drop i).take z.size)).size = z.size := by rw [ofB_size, List.length_take, List.length_drop]; omega
 have CV := Lib.hid (fun W (h : Held8 W b c) => part_string (W := W) h hc8 i z.size (cap - i) (by omega))
 skip
 obtain ⟨X, hX⟩ : ∃ X, ofB ((c.drop i).take z.size) = X := ⟨_, rfl⟩
 rw [hX] at hXb hXs CV
 have T := Lib.hid (fun W (hH2 : Held8 W b (putL c i (bz z))) (hK : Kept b w W) => alongP b k1 k2 j n cap (putL c i (bz z)) X z W hH2 (hK.cells h1 hne.1) (hK.cells h2 hne.2) (by rw [putL_len (by rw [bz_len]; omega)]; exact hn) hcap hj hn6 (putL_le hc8 (bz_le z) i) (by omega) hXs)
 rw [hXb] at T
 have HL := Lib.hid hL
 have HH := Lib.hid hH
 have HLT := Lib.hid hH.1
 have HN := Lib.hid hn
 clear hle hXb hX hL hH h1 h2 hn hc8 hne
 have g1 : 0 ≤ (i : Int) := by omega
 have g2 : IntKind.i64.wrap ((i : Int) + (z.size : Int)) = (i : Int) + (z.size : Int) := by rw [IntKind.wrap_i64]; omega
 have g3 : ((i : Int) + (z.size : Int)).toNat = i + z.size := by omega
 have g4 : 0 ≤ (i : Int) + (z.size : Int) := by omega
 have g5 : (i : Int) + (z.size : Int) ≤ (cap : Int) := by omega
 have g6 : (i : Int) ≤ (i : Int) + (z.size : Int) := by omega
 have g7 : i + z.size - i = z.size := by omega
 have g8 : (i : Int) ≤ (n : Int) := by omega
 have g9 : i ≤ n := by omega
 have g10 : i + z.size ≤ cap := by omega
 have g11 : i ≤ i + z.size := by omega
 go_enter Tryz.func22, Tryz.ntmps22
 go_wp2_with fail
 refine HL.out.mono ?_
 rintro e w1 ⟨rfl, hb⟩
 have hcv := CV.out w1 (held_more HH.out hb)
 obtain ⟨W2, hcp, hH2, hA2, hb2, hk2⟩ := copy_held (held_more HH.out hb) i (n - i) (cap - i) 3 z (by omega) (by have := HN.out; omega)
 skip
 have T2 := Lib.hid (T.out W2 (by unfold putL; rw [bz_len]; exact hH2) ((Kept.of_below hb (by have := HLT.out; omega)).trans (Kept.of_apart hA2 hb2)))
 have KK := Lib.hid ((Kept.of_below (b := b) hb (by have := HLT.out; omega)).trans (Kept.of_apart hA2 hb2))
 clear hH2 hA2 hb2 hk2 hb T CV
 go_wp2_with fail
 refine T2.out.mono ?_
 rintro e w3 ⟨rfl, hH3, hK3⟩
 have R := Lib.hid (And.intro hH3 (KK.out.trans hK3))
 clear hH3 hK3 hcp hcv
 go_wp2_with fail
 go_end0
 exact ⟨rfl, R.out.1, R.out.2⟩
set_option maxHeartbeats 8000000 in
theorem layS8 (b k1 k2 i j n cap : Nat) (c : List Nat) (lv : Value) (z : ByteArray) (w : World) (hL : Calls Tryz.prog 52 #[lv] w fun e w' => e = .returned (.string z) ∧ Below w.heap.size w w') (hH : Held8 w b c)
   (h1 : CellsAt w k1 #[.slice (some ⟨b, 0, none⟩) n cap]) (h2 : CellsAt w k2 #[.int .i64 (j : Int)])
   (hn : n = c.length) (hcap : n ≤ cap) (hi : i + z.size ≤ n) (hci : ¬ cap = i) (hj : j + 2 ≤ n) (hn6 : n ≤ 1000000) (hc8 : ∀ q ∈ c, q ≤ 255) (hne : k1 ≠ b ∧ k2 ≠ b) :
   Calls Tryz.prog 23 #[.slice (some ⟨b, 0, none⟩) n cap, .int .i64 (i : Int), .func (.func 47) #[] #[.pointer (some ⟨k1, 0, none⟩), .pointer (some ⟨k2, 0, none⟩)], lv] w fun e w' => e = .returned (.tuple #[]) ∧ Held8 w' b (alongL (putL c i (bz z)) j ((c.drop i).take z.size) (bz z)) ∧ Kept b w w' := by
 have hle : ∀ q ∈ (c.drop i).take z.size, q ≤ 255 := fun q hq => hc8 q (List.mem_of_mem_drop (List.mem_of_mem_take hq))
 have hXb : bz (ofB ((c.drop i).take z.size)) = (c.drop i).take z.size := bz_ofB hle
 have hXs : (ofB ((c.drop i).take z.size)).size = z.size := by rw [ofB_size, List.length_take, List.length_drop]; omega
 have CV := Lib.hid (fun W (h : Held8 W b c) => part_string (W := W) h hc8 i z.size (cap - i) (by omega))
 skip
 obtain ⟨X, hX⟩ : ∃ X, ofB ((c.drop i).take z.size) = X := ⟨_, rfl⟩
 rw [hX] at hXb hXs CV
 have T := Lib.hid (fun W (hH2 : Held8 W b (putL c i (bz z))) (hK : Kept b w W) => alongP b k1 k2 j n cap (putL c i (bz z)) X z W hH2 (hK.cells h1 hne.1) (hK.cells h2 hne.2) (by rw [putL_len (by rw [bz_len]; omega)]; exact hn) hcap hj hn6 (putL_le hc8 (bz_le z) i) (by omega) hXs)
 rw [hXb] at T
 have HL := Lib.hid hL
 have HH := Lib.hid hH
 have HLT := Lib.hid hH.1
 have HN := Lib.hid hn
 clear hle hXb hX hL hH h1 h2 hn hc8 hne
 have g1 : 0 ≤ (i : Int) := by omega
 have g2 : IntKind.i64.wrap ((i : Int) + (z.size : Int)) = (i : Int) + (z.size : Int) := by rw [IntKind.wrap_i64]; omega
 have g3 : ((i : Int) + (z.size : Int)).toNat = i + z.size := by omega
 have g4 : 0 ≤ (i : Int) + (z.size : Int) := by omega
 have g5 : (i : Int) + (z.size : Int) ≤ (cap : Int) := by omega
 have g6 : (i : Int) ≤ (i : Int) + (z.size : Int) := by omega
 have g7 : i + z.size - i = z.size := by omega
 have g8 : (i : Int) ≤ (n : Int) := by omega
 have g9 : i ≤ n := by omega
 have g10 : i + z.size ≤ cap := by omega
 have g11 : i ≤ i + z.size := by omega
 go_enter Tryz.func23, Tryz.ntmps23
 go_wp2_with fail
 refine HL.out.mono ?_
 rintro e w1 ⟨rfl, hb⟩
 have hcv := CV.out w1 (held_more HH.out hb)
 obtain ⟨W2, hcp, hH2, hA2, hb2, hk2⟩ := copy_held (held_more HH.out hb) i (n - i) (cap - i) 3 z (by omega) (by have := HN.out; omega)
 skip
 have T2 := Lib.hid (T.out W2 (by unfold putL; rw [bz_len]; exact hH2) ((Kept.of_below hb (by have := HLT.out; omega)).trans (Kept.of_apart hA2 hb2)))
 have KK := Lib.hid ((Kept.of_below (b := b) hb (by have := HLT.out; omega)).trans (Kept.of_apart hA2 hb2))
 clear hH2 hA2 hb2 hk2 hb T CV
 go_wp2_with fail
 refine T2.out.mono ?_
 rintro e w3 ⟨rfl, hH3, hK3⟩
 have R := Lib.hid (And.intro hH3 (KK.out.trans hK3))
 clear hH3 hK3 hcp hcv
 go_wp2_with fail
 go_end0
 exact ⟨rfl, R.out.1, R.out.2⟩
set_option maxHeartbeats 8000000 in
theorem layS8e (b k1 k2 i j n cap : Nat) (c : List Nat) (lv : Value) (z : ByteArray) (w : World) (hL : Calls Tryz.prog 52 #[lv] w fun e w' => e = .returned (.string z) ∧ Below w.heap.size w w') (hH : Held8 w b c)
   (h1 : CellsAt w k1 #[.slice (some ⟨b, 0, none⟩) n cap]) (h2 : CellsAt w k2 #[.int .i64 (j : Int)])
   (hn : n = c.length) (hcap : n ≤ cap) (hi : i + z.size ≤ n) (hci : cap = i) (hz0 : z.size = 0) (hj : j + 2 ≤ n) (hn6 : n ≤ 1000000) (hc8 : ∀ q ∈ c, q ≤ 255) (hne : k1 ≠ b ∧ k2 ≠ b) :
   Calls Tryz.prog 23 #[.slice (some ⟨b, 0, none⟩) n cap, .int .i64 (i : Int), .func (.func 47) #[] #[.pointer (some ⟨k1, 0, none⟩), .pointer (some ⟨k2, 0, none⟩)], lv] w fun e w' => e = .returned (.tuple #[]) ∧ Held8 w' b (alongL (putL c i (bz z)) j ((c.drop i).take z.size) (bz z)) ∧ Kept b w w' := by
 have hle : ∀ q ∈ (c.drop i).take z.size, q ≤ 255 := fun q hq => hc8 q (List.mem_of_mem_drop (List.mem_of_mem_take hq))
 have hXb : bz (ofB ((c.drop i).take z.size)) = (c.drop i).take z.size := bz_ofB hle
 have hXs : (ofB ((c.drop i).take z.size)).size = z.size := by rw [ofB_size, List.length_take, List.length_drop]; omega
 have CV := Lib.hid (fun W (h : Held8 W b c) => part_string (W := W) h hc8 0 0 0 (by omega))
 have e00 : (c.drop 0).take 0 = (c.drop i).take z.size := by rw [hz0]; rfl
 rw [e00] at CV
 clear e00
 obtain ⟨X, hX⟩ : ∃ X, ofB ((c.drop i).take z.size) = X := ⟨_, rfl⟩
 rw [hX] at hXb hXs CV
 have T := Lib.hid (fun W (hH2 : Held8 W b (putL c i (bz z))) (hK : Kept b w W) => alongP b k1 k2 j n cap (putL c i (bz z)) X z W hH2 (hK.cells h1 hne.1) (hK.cells h2 hne.2) (by rw [putL_len (by rw [bz_len]; omega)]; exact hn) hcap hj hn6 (putL_le hc8 (bz_le z) i) (by omega) hXs)
 rw [hXb] at T
 have HL := Lib.hid hL
 have HH := Lib.hid hH
 have HLT := Lib.hid hH.1
 have HN := Lib.hid hn
 clear hle hXb hX hL hH h1 h2 hn hc8 hne
 have g1 : 0 ≤ (i : Int) := by omega
 have g2 : IntKind.i64.wrap ((i : Int) + (z.size : Int)) = (i : Int) + (z.size : Int) := by rw [IntKind.wrap_i64]; omega
 have g3 : ((i : Int) + (z.size : Int)).toNat = i + z.size := by omega
 have g4 : 0 ≤ (i : Int) + (z.size : Int) := by omega
 have g5 : (i : Int) + (z.size : Int) ≤ (cap : Int) := by omega
 have g6 : (i : Int) ≤ (i : Int) + (z.size : Int) := by omega
 have g7 : i + z.size - i = z.size := by omega
 have g8 : (i : Int) ≤ (n : Int) := by omega
 have g9 : i ≤ n := by omega
 have g10 : i + z.size ≤ cap := by omega
 have g11 : i ≤ i + z.size := by omega
 go_enter Tryz.func23, Tryz.ntmps23
 go_wp2_with fail
 refine HL.out.mono ?_
 rintro e w1 ⟨rfl, hb⟩
 have hcv := CV.out w1 (held_more HH.out hb)
 obtain ⟨W2, hcp, hH2, hA2, hb2, hk2⟩ := copy_held (held_more HH.out hb) 0 (n - i) 0 3 z (by omega) (by have := HN.out; omega)
 have e : c.take 0 ++ (bz z ++ c.drop (0 + z.size)) = putL c i (bz z) := by
   have hz : bz z = [] := List.eq_nil_of_length_eq_zero (by rw [bz_len]; exact hz0)
   unfold putL
   rw [hz, hz0]
   simp
 rw [e] at hH2
 clear e
 have T2 := Lib.hid (T.out W2 hH2 ((Kept.of_below hb (by have := HLT.out; omega)).trans (Kept.of_apart hA2 hb2)))
 have KK := Lib.hid ((Kept.of_below (b := b) hb (by have := HLT.out; omega)).trans (Kept.of_apart hA2 hb2))
 clear hH2 hA2 hb2 hk2 hb T CV
 go_wp2_with fail
 refine T2.out.mono ?_
 rintro e w3 ⟨rfl, hH3, hK3⟩
 have R := Lib.hid (And.intro hH3 (KK.out.trans hK3))
 clear hH3 hK3 hcp hcv
 go_wp2_with fail
 go_end0
 exact ⟨rfl, R.out.1, R.out.2⟩
end Go.Proofs.YtpmnmnflaijaaaaGreat.PktLay
namespace Go.Proofs.YtpmnmnflaijaaaaGreat.PktRwRM
open Go.RowKit
open TupMath SumMath IpMath IpRef TcpMath OptMath OptTk OptBackM PktMath PktVal PktKp PktRwM PktLaidR
set_option linter.unusedVariables false
set_option maxRecDepth 100000
theorem bzx (T : ByteArray) (a b : Nat) (h : b ≤ T.size) : bz (T.extract a b) = ((bz T).drop a).take (b - a) := by
 rw [bz_extract T a b h, List.drop_take]
section
variable {S : ByteArray} {h0 ad po sa fl wi ur op dd : List Nat} {c k : Nat} (p : Pcs h0 ad po sa fl wi ur) (hS : bz S = shp h0 c ad po sa fl wi k ur op dd)
include p hS
theorem size_of : S.size = 40 + op.length + dd.length := by rw [← bz_len, hS, shp_len p]
theorem x_head : bz (S.extract 0 12) = h0 ++ w2 c := by
 have hl := size_of p hS
 rw [bzx _ _ _ (by omega), hS]
 unfold shp
 rw [List.drop_zero, ← List.append_assoc h0 (w2 c)]
 exact List.take_left' (by rw [List.length_append, p.h0]; rfl)
theorem x_h0 : bz (S.extract 0 10) = h0 := by
 have hl := size_of p hS
 rw [bzx _ _ _ (by omega), hS]
 unfold shp
 rw [List.drop_zero]
 exact List.take_left' p.h0
theorem x_fl : bz (S.extract 32 34) = fl := by
 have hl := size_of p hS
 have e : shp h0 c ad po sa fl wi k ur op dd = (h0 ++ (w2 c ++ (ad ++ (po ++ sa)))) ++ (fl ++ (wi ++ (w2 k ++ (ur ++ (op ++ dd))))) := by unfold shp; simp only [List.append_assoc]
 rw [bzx _ _ _ (by omega), hS, e]
 refine part_mid _ fl _ 32 _ ?_ (by rw [p.fl])
 have := p.h0; have := p.ad; have := p.po; have := p.sa
 simp only [List.length_append, w2, List.length_cons, List.length_nil]
 omega
theorem x_wi : bz (S.extract 34 36) = wi := by
 have hl := size_of p hS
 rw [bzx _ _ _ (by omega), hS]
 exact (shp_wi p (w2 0) rfl).2
theorem x_ur : bz (S.extract 36 40) = w2 k ++ ur := by
 have hl := size_of p hS
 have e : shp h0 c ad po sa fl wi k ur op dd = (h0 ++ (w2 c ++ (ad ++ (po ++ (sa ++ (fl ++ wi)))))) ++ ((w2 k ++ ur) ++ (op ++ dd)) := by unfold shp; simp only [List.append_assoc]
 rw [bzx _ _ _ (by omega), hS, e]
 refine part_mid _ (w2 k ++ ur) _ 36 _ ?_ (by rw [List.length_append, p.ur]; rfl)
 have := p.h0; have := p.ad; have := p.po; have := p.sa; have := p.fl; have := p.wi
 simp only [List.length_append, w2, List.length_cons, List.length_nil]
 omega
theorem x_ad : bz (S.extract 12 20) = ad := by
 have hl := size_of p hS
 rw [bzx _ _ _ (by omega), hS]
 exact (shp_ad p (w4 0 ++ w4 0) rfl).2
theorem x_front : bz (S.extract 12 32) = ad ++ (po ++ sa) := by
 have hl := size_of p hS
 have e : shp h0 c ad po sa fl wi k ur op dd = (h0 ++ w2 c) ++ ((ad ++ (po ++ sa)) ++ (fl ++ (wi ++ (w2 k ++ (ur ++ (op ++ dd)))))) := by unfold shp; simp only [List.append_assoc]
 rw [bzx _ _ _ (by omega), hS, e]
 refine part_mid _ (ad ++ (po ++ sa)) _ 12 _ ?_ (by rw [List.length_append, List.length_append, p.ad, p.po, p.sa])
 rw [List.length_append, p.h0]
 rfl
theorem x_mid : bz (S.extract 12 36) = ad ++ (po ++ (sa ++ (fl ++ wi))) := by
 have hl := size_of p hS
 have e : shp h0 c ad po sa fl wi k ur op dd = (h0 ++ w2 c) ++ ((ad ++ (po ++ (sa ++ (fl ++ wi)))) ++ (w2 k ++ (ur ++ (op ++ dd)))) := by unfold shp; simp only [List.append_assoc]
 rw [bzx _ _ _ (by omega), hS, e]
 refine part_mid _ (ad ++ (po ++ (sa ++ (fl ++ wi)))) _ 12 _ ?_ (by simp only [List.length_append, p.ad, p.po, p.sa, p.fl, p.wi])
 rw [List.length_append, p.h0]
 rfl
theorem x_op (n : Nat) (hn : n = op.length) : bz (S.extract 40 (40 + n)) = op := by
 have hl := size_of p hS
 rw [bzx _ _ _ (by omega), hS]
 exact (shp_op p op (40 + n - 40) rfl (by omega)).2
theorem x_dd (n : Nat) (hn : n = op.length) : bz (S.extract (40 + n) S.size) = dd := by
 have hl := size_of p hS
 have e : shp h0 c ad po sa fl wi k ur op dd = (h0 ++ (w2 c ++ (ad ++ (po ++ (sa ++ (fl ++ (wi ++ (w2 k ++ (ur ++ op))))))))) ++ dd := by unfold shp; simp only [List.append_assoc]
 rw [bz_extract S _ _ (Nat.le_refl _), List.take_of_length_le (by rw [bz_len]; exact Nat.le_refl _), hS, e]
 refine List.drop_left' ?_
 have := p.h0; have := p.ad; have := p.po; have := p.sa; have := p.fl; have := p.wi; have := p.ur
 simp only [List.length_append, w2, List.length_cons, List.length_nil]
 omega
theorem x_tail : bz (S.extract 38 S.size) = ur ++ (op ++ dd) := by
 have hl := size_of p hS
 have e : shp h0 c ad po sa fl wi k ur op dd = (h0 ++ (w2 c ++ (ad ++ (po ++ (sa ++ (fl ++ (wi ++ w2 k))))))) ++ (ur ++ (op ++ dd)) := by unfold shp; simp only [List.append_assoc]
 rw [bz_extract S _ _ (Nat.le_refl _), List.take_of_length_le (by rw [bz_len]; exact Nat.le_refl _), hS, e]
 refine List.drop_left' ?_
 have := p.h0; have := p.ad; have := p.po; have := p.sa; have := p.fl; have := p.wi
 simp only [List.length_append, w2, List.length_cons, List.length_nil]
 omega
theorem x_c : at0 (bz S) 10 * 256 + at0 (bz S) (10 + 1) = c := by
 rw [hS]
 exact word_mid h0 _ 10 c p.h0.symm
theorem x_k : at0 (bz S) 36 * 256 + at0 (bz S) (36 + 1) = k := by
 have e : shp h0 c ad po sa fl wi k ur op dd = (h0 ++ (w2 c ++ (ad ++ (po ++ (sa ++ (fl ++ wi)))))) ++ (w2 k ++ (ur ++ (op ++ dd))) := by unfold shp; simp only [List.append_assoc]
 rw [hS, e]
 refine word_mid _ _ 36 k ?_
 have := p.h0; have := p.ad; have := p.po; have := p.sa; have := p.fl; have := p.wi
 simp only [List.length_append, w2, List.length_cons, List.length_nil]
 omega
theorem laid_pcs (s : Sg) (ks : s.ok) (O : ByteArray) (op2 : List Nat) (hO : bz O = op2) (lo : op2.length = op.length) :
   bz (laidS S s O) = shp h0 c (w4 s.sip ++ w4 s.dip) (w2 s.sport ++ w2 s.dport) (w4 s.seq ++ w4 s.ack) fl (w2 s.win) k ur op2 dd ∧ (laidS S s O).size = S.size := by
 have lO : O.size = op.length := by rw [← bz_len, hO, lo]
 have h1 : bz (laidS S s O) = shp h0 c (w4 s.sip ++ w4 s.dip) (w2 s.sport ++ w2 s.dport) (w4 s.seq ++ w4 s.ack) fl (w2 s.win) k ur op2 dd := by
   unfold laidS
   simp only [bz_append]
   rw [x_head p hS, x_fl p hS, x_ur p hS, x_dd p hS O.size lO, hO, bz_ofB (w4_le _ ks.sip), bz_ofB (w4_le _ ks.dip), bz_ofB (w2_le _ ks.sport), bz_ofB (w2_le _ ks.dport), bz_ofB (w4_le _ ks.seq), bz_ofB (w4_le _ ks.ack), bz_ofB (w2_le _ ks.win)]
   unfold shp
   simp only [List.append_assoc]
 refine ⟨h1, ?_⟩
 have p2 : Pcs h0 (w4 s.sip ++ w4 s.dip) (w2 s.sport ++ w2 s.dport) (w4 s.seq ++ w4 s.ack) fl (w2 s.win) ur := ⟨p.h0, rfl, rfl, rfl, p.fl, rfl, p.ur⟩
 rw [size_of p hS, ← bz_len, h1, shp_len p2, lo]
theorem fin_pcs (n m : Nat) (hn : n ≤ 65535) (hm : m ≤ 65535) : bz (S.extract 0 10 ++ ofB (w2 n) ++ S.extract 12 36 ++ ofB (w2 m) ++ S.extract 38 S.size) = shp h0 n ad po sa fl wi m ur op dd := by
 simp only [bz_append]
 rw [x_h0 p hS, x_mid p hS, x_tail p hS, bz_ofB (w2_le _ hn), bz_ofB (w2_le _ hm)]
 unfold shp
 simp only [List.append_assoc]
end
theorem turnsE (c : Nat) (x y : ByteArray) (a b : List Nat) (n : Nat) (W : World) (hc : c ≤ 65535) (hx : bz x = a) (hy : bz y = b) (hl : a.length = b.length) (hs : a.length ≤ 1000000) (hn : tur c a b = n) :
   Calls Tryz.prog 28 #[.int .u16 (c : Int), .string x, .string y] W fun e w' => e = .returned (.int .u16 (n : Int)) ∧ Below W.heap.size W w' := by
 have lx : x.size = a.length := by rw [← bz_len, hx]
 have ly : y.size = a.length := by rw [← bz_len, hy, hl]
 have h := SumPlain.turnsR_any c x y W hc (by omega) (by omega)
 refine h.mono ?_
 rintro e w' ⟨rfl, q, rfl⟩
 refine ⟨?_, Num.below_drewN (Below.refl _ _) _⟩
 rw [lx, ly, Nat.min_self, ← hn]
 have e1 : (SumPlain.bz x).take a.length = a := by
   have : SumPlain.bz x = a := hx
   rw [this, List.take_of_length_le (Nat.le_refl _)]
 have e2 : (SumPlain.bz y).take a.length = b := by
   have : SumPlain.bz y = b := hy
   rw [this, List.take_of_length_le (by omega)]
 rw [e1, e2]
 rfl
theorem hds_zero {S : ByteArray} (h0 : (dec8 S).1 = 0) : err (bz S) = 0 ∧ (rd (bz S)).proto = 6 ∧ terr (rd (bz S)).src (rd (bz S)).dst (bz (ld S)) = 0 := by
 unfold dec8 at h0
 by_cases c1 : err (bz S) ≠ 0
 · rw [if_pos c1] at h0; dsimp only at h0; exact (c1 h0).elim
 by_cases c2 : (rd (bz S)).proto ≠ 6
 · rw [if_neg c1, if_pos c2] at h0; dsimp only at h0; omega
 by_cases c3 : terr (rd (bz S)).src (rd (bz S)).dst (bz (ld S)) ≠ 0
 · rw [if_neg c1, if_neg c2, if_pos c3] at h0; dsimp only at h0; exact (c3 h0).elim
 exact ⟨Decidable.not_not.1 c1, Decidable.not_not.1 c2, Decidable.not_not.1 c3⟩
end Go.Proofs.YtpmnmnflaijaaaaGreat.PktRwRM
