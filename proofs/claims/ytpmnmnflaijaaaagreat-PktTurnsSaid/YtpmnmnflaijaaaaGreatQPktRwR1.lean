/-
  Laws for a proof of package pkt: 1 texts in one.
-/
import Derived.Test.YtpmnmnflaijaaaaGreatQPktTdR1
import Derived.Test.YtpmnmnflaijaaaaGreatQPktRwRM7
import Derived.Test.YtpmnmnflaijaaaaGreatQPktDecX5
import Derived.Test.YtpmnmnflaijaaaaGreatQPktHeadsB2
import Derived.Test.YtpmnmnflaijaaaaGreatQPktRw4
import Derived.Test.YtpmnmnflaijaaaaGreatQOptTurn10
namespace Go.Proofs.YtpmnmnflaijaaaaGreat.PktRwR
open Go.Proofs.YtpmnmnflaijaaaaGreat.Own
open Go.RowKit TupMath SumMath Litb Calm Rel RelT RelK IpMath IpHead IpRef IpDec TcpMath TcpRef TcpDec OptMath OptSame OptTake5 OptTk OptTurn OptBackM PktMath PktVal PktCom PktDecC PktDecR PktOp PktHeads PktKp PktRwM PktLaidR PktRwRM PktTdR PktBox Pkt16
open Cells (CellsAt Apart put_lit)
set_option linter.unusedVariables false
set_option linter.unusedSimpArgs false
set_option maxRecDepth 100000
attribute [local go_sem] Oper.semAt_some
def relQ7 (S U O E1 E2 E3 E4 E5 E6 E7 E8 E9 E10 F1 F2 F3 B1 B2 G1 G2 G3 G4 : ByteArray) (ck kk n1 m1 m2 m3 : Nat) : Nat → Value → World → Prop
 | 0 => fun v _ => v = .string S
 | 1 => fun v _ => v = .string E1
 | 2 => fun v _ => v = .int .u32 (ck : Int)
 | 3 => fun v _ => v = .int .u16 (ck : Int)
 | 4 => fun v _ => v = .string S
 | 5 => fun v _ => v = .string E2
 | 6 => fun v _ => v = .string U
 | 7 => fun v _ => v = .string E3
 | 8 => fun v _ => v = .int .u16 (n1 : Int)
 | _ => fun _ _ => True
theorem relQ7_more (S U O E1 E2 E3 E4 E5 E6 E7 E8 E9 E10 F1 F2 F3 B1 B2 G1 G2 G3 G4 : ByteArray) (ck kk n1 m1 m2 m3 : Nat) (i : Nat) (v : Value) (w w' : World) (hr : relQ7 S U O E1 E2 E3 E4 E5 E6 E7 E8 E9 E10 F1 F2 F3 B1 B2 G1 G2 G3 G4 ck kk n1 m1 m2 m3 i v w) (hb : Below w.heap.size w w') : relQ7 S U O E1 E2 E3 E4 E5 E6 E7 E8 E9 E10 F1 F2 F3 B1 B2 G1 G2 G3 G4 ck kk n1 m1 m2 m3 i v w' := by
 unfold relQ7 at hr ⊢
 split at hr <;> exact hr
def relQ8 (S U O E1 E2 E3 E4 E5 E6 E7 E8 E9 E10 F1 F2 F3 B1 B2 G1 G2 G3 G4 : ByteArray) (ck kk n1 m1 m2 m3 : Nat) : Nat → Value → World → Prop
 | 0 => fun v _ => v = .string S
 | 1 => fun v _ => v = .string E4
 | 2 => fun v _ => v = .int .u32 (kk : Int)
 | 3 => fun v _ => v = .int .u16 (kk : Int)
 | 4 => fun v _ => v = .string S
 | 5 => fun v _ => v = .string E5
 | 6 => fun v _ => v = .string U
 | 7 => fun v _ => v = .string E6
 | 8 => fun v _ => v = .int .u16 (m1 : Int)
 | _ => fun _ _ => True
theorem relQ8_more (S U O E1 E2 E3 E4 E5 E6 E7 E8 E9 E10 F1 F2 F3 B1 B2 G1 G2 G3 G4 : ByteArray) (ck kk n1 m1 m2 m3 : Nat) (i : Nat) (v : Value) (w w' : World) (hr : relQ8 S U O E1 E2 E3 E4 E5 E6 E7 E8 E9 E10 F1 F2 F3 B1 B2 G1 G2 G3 G4 ck kk n1 m1 m2 m3 i v w) (hb : Below w.heap.size w w') : relQ8 S U O E1 E2 E3 E4 E5 E6 E7 E8 E9 E10 F1 F2 F3 B1 B2 G1 G2 G3 G4 ck kk n1 m1 m2 m3 i v w' := by
 unfold relQ8 at hr ⊢
 split at hr <;> exact hr
def relQ9 (S U O E1 E2 E3 E4 E5 E6 E7 E8 E9 E10 F1 F2 F3 B1 B2 G1 G2 G3 G4 : ByteArray) (ck kk n1 m1 m2 m3 : Nat) : Nat → Value → World → Prop
 | 0 => fun v _ => v = .int .u16 (m1 : Int)
 | 1 => fun v _ => v = .string S
 | 2 => fun v _ => v = .string E7
 | 3 => fun v _ => v = .string U
 | 4 => fun v _ => v = .string E8
 | 5 => fun v _ => v = .int .u16 (m2 : Int)
 | _ => fun _ _ => True
theorem relQ9_more (S U O E1 E2 E3 E4 E5 E6 E7 E8 E9 E10 F1 F2 F3 B1 B2 G1 G2 G3 G4 : ByteArray) (ck kk n1 m1 m2 m3 : Nat) (i : Nat) (v : Value) (w w' : World) (hr : relQ9 S U O E1 E2 E3 E4 E5 E6 E7 E8 E9 E10 F1 F2 F3 B1 B2 G1 G2 G3 G4 ck kk n1 m1 m2 m3 i v w) (hb : Below w.heap.size w w') : relQ9 S U O E1 E2 E3 E4 E5 E6 E7 E8 E9 E10 F1 F2 F3 B1 B2 G1 G2 G3 G4 ck kk n1 m1 m2 m3 i v w' := by
 unfold relQ9 at hr ⊢
 split at hr <;> exact hr
def relQ10 (S U O E1 E2 E3 E4 E5 E6 E7 E8 E9 E10 F1 F2 F3 B1 B2 G1 G2 G3 G4 : ByteArray) (ck kk n1 m1 m2 m3 : Nat) : Nat → Value → World → Prop
 | 0 => fun v _ => v = .int .u16 (m2 : Int)
 | 1 => fun v _ => v = .string S
 | 2 => fun v _ => v = .string O
 | 3 => fun v _ => v = .int .i64 (O.size : Int)
 | 4 => fun v _ => v = .int .i64 (40 + (O.size : Int))
 | 5 => fun v _ => v = .string E9
 | 6 => fun v _ => v = .string U
 | 7 => fun v _ => v = .string O
 | 8 => fun v _ => v = .int .i64 (O.size : Int)
 | 9 => fun v _ => v = .int .i64 (40 + (O.size : Int))
 | 10 => fun v _ => v = .string E10
 | 11 => fun v _ => v = .int .u16 (m3 : Int)
 | _ => fun _ _ => True
theorem relQ10_more (S U O E1 E2 E3 E4 E5 E6 E7 E8 E9 E10 F1 F2 F3 B1 B2 G1 G2 G3 G4 : ByteArray) (ck kk n1 m1 m2 m3 : Nat) (i : Nat) (v : Value) (w w' : World) (hr : relQ10 S U O E1 E2 E3 E4 E5 E6 E7 E8 E9 E10 F1 F2 F3 B1 B2 G1 G2 G3 G4 ck kk n1 m1 m2 m3 i v w) (hb : Below w.heap.size w w') : relQ10 S U O E1 E2 E3 E4 E5 E6 E7 E8 E9 E10 F1 F2 F3 B1 B2 G1 G2 G3 G4 ck kk n1 m1 m2 m3 i v w' := by
 unfold relQ10 at hr ⊢
 split at hr <;> exact hr
def relQ11 (S U O E1 E2 E3 E4 E5 E6 E7 E8 E9 E10 F1 F2 F3 B1 B2 G1 G2 G3 G4 : ByteArray) (ck kk n1 m1 m2 m3 : Nat) : Nat → Value → World → Prop
 | 0 => fun v _ => v = .string U
 | 1 => fun v _ => v = .string F1
 | 2 => fun v _ => v = .int .u16 (n1 : Int)
 | 3 => fun v _ => v = .string B1
 | 4 => fun v _ => v = .string G1
 | 5 => fun v _ => v = .string U
 | 6 => fun v _ => v = .string F2
 | 7 => fun v _ => v = .string G2
 | 8 => fun v _ => v = .int .u16 (m3 : Int)
 | 9 => fun v _ => v = .string B2
 | 10 => fun v _ => v = .string G3
 | 11 => fun v _ => v = .string U
 | 12 => fun v _ => v = .string F3
 | 13 => fun v _ => v = .string G4
 | _ => fun _ _ => True
theorem relQ11_more (S U O E1 E2 E3 E4 E5 E6 E7 E8 E9 E10 F1 F2 F3 B1 B2 G1 G2 G3 G4 : ByteArray) (ck kk n1 m1 m2 m3 : Nat) (i : Nat) (v : Value) (w w' : World) (hr : relQ11 S U O E1 E2 E3 E4 E5 E6 E7 E8 E9 E10 F1 F2 F3 B1 B2 G1 G2 G3 G4 ck kk n1 m1 m2 m3 i v w) (hb : Below w.heap.size w w') : relQ11 S U O E1 E2 E3 E4 E5 E6 E7 E8 E9 E10 F1 F2 F3 B1 B2 G1 G2 G3 G4 ck kk n1 m1 m2 m3 i v w' := by
 unfold relQ11 at hr ⊢
 split at hr <;> exact hr
attribute [local go_sem] relUpon
set_option maxHeartbeats 8000000 in
theorem rewR_err (S : ByteArray) (x : Sh) (w : World) (hs : S.size ≤ 1000000) (h0 : (dec8 S).1 ≠ 0) :
   Calls Tryz.prog 7 #[.string S, xv x] w fun e w' => e = .returned (rwV S x) ∧ Below w.heap.size w w' := by
 have HV : Hid (rwV S x = .tuple #[.string ⟨#[]⟩, .int .i64 ((dec8 S).1 : Int)]) := Lib.hid (if_neg h0)
 have HD := Lib.hid (fun W => decR8 S W hs)
 have B0 := Lib.hid (st_alloc (Below.refl _ w) (.cells (xc x) 32))
 unfold DecOut8 at HD
 generalize (dec8 S).1 = n at HD HV h0
 generalize (dec8 S).2 = s at HD
 have q1 : ((n : Int) != 0) = true := bne_iff_ne.2 (by omega)
 go_enter Tryz.func7, Tryz.ntmps7
 go_wp2_with fail
 refine (HD.out _).mono ?_
 rintro e wA ⟨⟨A, c, rfl, hrow⟩, hb⟩
 have BA := Lib.hid (st_alloc (st_call B0.out hb) (.cells (sc s A c) 30))
 clear hrow hb
 go_wp2_with fail
 go_ret2
 exact ⟨by rw [HV.out]; rfl, BA.out⟩
set_option maxHeartbeats 16000000 in
theorem rewR_ok (S : ByteArray) (x : Sh) (w : World) (hs : S.size ≤ 1000000) (xk : x.ok) (u1 : -9223372036854775808 ≤ x.up) (u2 : x.up ≤ 9223372036854775807) (v1 : -9223372036854775808 ≤ x.down) (v2 : x.down ≤ 9223372036854775807) (h0 : (dec8 S).1 = 0) :
   Calls Tryz.prog 7 #[.string S, xv x] w fun e w' => e = .returned (rwV S x) ∧ Below w.heap.size w w' := by
 have HV : Hid (rwV S x = .tuple #[.string (ofB (rewS S x)), .int .i64 0]) := Lib.hid (if_pos h0)
 obtain ⟨z0, z1, z2⟩ := hds_zero h0
 obtain ⟨hH, tH, dH, hhd, hHD⟩ := PktHeads.headsR S hs
 have hz : hdsE S = 0 := by unfold hdsE; rw [if_neg (fun h => h z0), if_neg (fun h => h z1)]; exact z2
 obtain ⟨rfl, rfl, rfl⟩ := hhd hz
 rw [hz] at hHD
 clear hhd hz z0 z1 z2
 obtain ⟨ck, kk, r, hdec⟩ := dec_rd h0
 have HHD := Lib.hid hHD
 clear hHD
 generalize rd (bz S) = h at r hdec HHD
 generalize trd (ld S) = t at r hdec HHD
 generalize (dec7 (bz t.opts)).2 = o at r hdec
 generalize dt S = d at r hdec HHD
 have hsz := r.size
 have hmost := r.tmay.most
 have hfew := r.few
 have HD := Lib.hid (fun W => decR8 S W hs)
 unfold DecOut8 at HD
 rw [hdec] at HD
 simp only at HD
 have sok : (sgOf h t o d).ok := PktRw.rd_sok r
 have hbl : o.blocks.length ≤ 40 := PktRw.rd_few r
 obtain ⟨p0, pad, ppo, psa, pfl, pwi, pur, pop, pdd, hp, hS, lop, ldd, lot, hext, hrew⟩ := rew_pcs r xk
 have hle := shp_le r xk
 have hto : turnV x.ack x.val x.echo (bz t.opts) = .tuple #[.string (ofB (turnS x.ack x.val x.echo (bz t.opts))), .int .i64 0] := if_pos (by rw [r.opts])
 have TU := Lib.hid (fun W => OptTurn.turnR7 t.opts x.ack x.val x.echo W (by omega) xk.ack xk.val xk.echo)
 rw [hto] at TU
 have tle : ∀ y ∈ turnS x.ack x.val x.echo (bz t.opts), y ≤ 255 := turnS_le _ _ _ _ (bz t.opts) (Nat.le_refl _) (bz_le _)
 have hOb : bz (ofB (turnS x.ack x.val x.echo (bz t.opts))) = turnS x.ack x.val x.echo (bz t.opts) := bz_ofB tle
 generalize turnS x.ack x.val x.echo (bz t.opts) = op2 at TU hOb lot hrew
 generalize ofB op2 = O at TU hOb
 have lO : O.size = pop.length := by rw [← bz_len, hOb, lot]
 obtain ⟨s, hse⟩ : ∃ s, sgOf h t o d = s := ⟨_, rfl⟩
 rw [hse] at HD sok
 have TD := Lib.hid (fun W (A : Option Addr) (c : Nat) (hB : BlkR W A s.opts.blocks) => turnedR8 s A c x W hB sok (by rw [← hse]; show o.blocks.length ≤ 1000; omega) xk u1 u2 v1 v2)
 obtain ⟨s2, hs2⟩ : ∃ s2, turned s x = s2 := ⟨_, rfl⟩
 have sok2 : s2.ok := by rw [← hs2]; exact turned_ok sok xk
 rw [hs2] at TD
 have hs2e : s2.sip = x.sip ∧ s2.sport = x.sport ∧ s2.dip = x.dip ∧ s2.dport = x.dport ∧ s2.seq = (t.seq + x.seq) % 4294967296 ∧ s2.ack = ackT t.flags t.ack x.ack ∧ s2.win = winT t.win x.up x.down := by rw [← hs2, ← hse]; exact ⟨rfl, rfl, rfl, rfl, rfl, rfl, rfl⟩
 have h40 : 40 + O.size ≤ S.size := by rw [lO, lop]; omega
 have LD := Lib.hid (fun W A c => laidR S s2 A c O W sok2 h40 hs)
 obtain ⟨hU, lU⟩ := laid_pcs hp hS s2 sok2 O op2 hOb lot
 generalize laidS S s2 O = U at LD hU lU
 rw [hs2e.1, hs2e.2.1, hs2e.2.2.1, hs2e.2.2.2.1, hs2e.2.2.2.2.1, hs2e.2.2.2.2.2.1, hs2e.2.2.2.2.2.2] at hU
 clear hs2e hs2 hse
 obtain ⟨ad2, had2⟩ : ∃ l, w4 x.sip ++ w4 x.dip = l := ⟨_, rfl⟩
 obtain ⟨po2, hpo2⟩ : ∃ l, w2 x.sport ++ w2 x.dport = l := ⟨_, rfl⟩
 obtain ⟨sa2, hsa2⟩ : ∃ l, w4 ((t.seq + x.seq) % 4294967296) ++ w4 (ackT t.flags t.ack x.ack) = l := ⟨_, rfl⟩
 obtain ⟨wi2, hwi2⟩ : ∃ l, w2 (winT t.win x.up x.down) = l := ⟨_, rfl⟩
 rw [had2, hpo2, hsa2, hwi2] at hU hrew
 have l1 : ad2.length = 8 := by rw [← had2]; rfl
 have l2 : po2.length = 4 := by rw [← hpo2]; rfl
 have l3 : sa2.length = 8 := by rw [← hsa2]; rfl
 have l4 : wi2.length = 2 := by rw [← hwi2]; rfl
 have p2 : Pcs p0 ad2 po2 sa2 pfl wi2 pur := ⟨hp.h0, l1, l2, l3, hp.fl, l4, hp.ur⟩
 clear had2 hpo2 hsa2 hwi2
 have k16 := r.k16
 have c16 := r.c16
 have q1 := hp.ad
 have q2 := hp.po
 have q3 := hp.sa
 have q4 := hp.wi
 obtain ⟨n1, hn1⟩ : ∃ n, tur ck pad ad2 = n := ⟨_, rfl⟩
 obtain ⟨m1, hm1⟩ : ∃ n, tur kk (pad ++ (ppo ++ psa)) (ad2 ++ (po2 ++ sa2)) = n := ⟨_, rfl⟩
 obtain ⟨m2, hm2⟩ : ∃ n, tur m1 pwi wi2 = n := ⟨_, rfl⟩
 obtain ⟨m3, hm3⟩ : ∃ n, tur m2 pop op2 = n := ⟨_, rfl⟩
 have b1 : n1 ≤ 65535 := by rw [← hn1]; exact tur_le c16 _ _
 have b2 : m1 ≤ 65535 := by rw [← hm1]; exact tur_le k16 _ _
 have b3 : m2 ≤ 65535 := by rw [← hm2]; exact tur_le b2 _ _
 have b4 : m3 ≤ 65535 := by rw [← hm3]; exact tur_le b3 _ _
 have hm1e : tur (tur (tur kk pad ad2) ppo po2) psa sa2 = m1 := by
   rw [← hm1, tur_app kk pad ad2 _ _ (by omega) (by omega), tur_app _ ppo po2 _ _ (by omega) (by omega)]
 rw [hn1, hm1e, hm2, hm3] at hrew
 have hfin := fin_pcs p2 hU n1 m3 b1 b4
 have HFIN : Hid (U.extract 0 10 ++ ofB (w2 n1) ++ U.extract 12 36 ++ ofB (w2 m3) ++ U.extract 38 U.size = ofB (rewS S x)) := Lib.hid (bz_inj (by rw [hfin, bz_ofB hle, hrew]))
 have HT1 := Lib.hid (fun W => turnsE ck (S.extract 12 20) (U.extract 12 20) pad ad2 n1 W c16 (x_ad hp hS) (x_ad p2 hU) (by omega) (by omega) hn1)
 have HT2 := Lib.hid (fun W => turnsE kk (S.extract 12 32) (U.extract 12 32) _ _ m1 W k16 (x_front hp hS) (x_front p2 hU) (by simp only [List.length_append]; omega) (by simp only [List.length_append]; omega) hm1)
 have HT3 := Lib.hid (fun W => turnsE m1 (S.extract 34 36) (U.extract 34 36) pwi wi2 m2 W b2 (x_wi hp hS) (x_wi p2 hU) (by omega) (by omega) hm2)
 have HT4 := Lib.hid (fun W => turnsE m2 (S.extract 40 (40 + O.size)) (U.extract 40 (40 + O.size)) pop op2 m3 W b3 (x_op hp hS O.size lO) (x_op p2 hU O.size (by rw [lO, lot])) (by omega) (by omega) hm3)
 have HN1 := Lib.hid (fun W => num2 S 10 12 W rfl (by omega))
 have HN2 := Lib.hid (fun W => num2 S 36 38 W rfl (by omega))
 rw [x_c hp hS] at HN1
 rw [x_k hp hS] at HN2
 have HB1 := Lib.hid (fun W => wordR n1 W b1)
 have HB2 := Lib.hid (fun W => wordR m3 W b4)
 have wc : IntKind.u16.wrap (ck : Int) = (ck : Int) := by rw [IntKind.wrap_u16]; omega
 have wk : IntKind.u16.wrap (kk : Int) = (kk : Int) := by rw [IntKind.wrap_u16]; omega
 have wc2 : (ck : Int) % 65536 = (ck : Int) := by omega
 have wk2 : (kk : Int) % 65536 = (kk : Int) := by omega
 have HI : Hid (IntKind.i64.wrap (40 + (O.size : Int)) = 40 + (O.size : Int)) := Lib.hid (IntWalk.i64_in _ (by omega))
 obtain ⟨E1, hE1⟩ : ∃ X, S.extract 10 12 = X := ⟨_, rfl⟩
 obtain ⟨E2, hE2⟩ : ∃ X, S.extract 12 20 = X := ⟨_, rfl⟩
 obtain ⟨E3, hE3⟩ : ∃ X, U.extract 12 20 = X := ⟨_, rfl⟩
 obtain ⟨E4, hE4⟩ : ∃ X, S.extract 36 38 = X := ⟨_, rfl⟩
 obtain ⟨E5, hE5⟩ : ∃ X, S.extract 12 32 = X := ⟨_, rfl⟩
 obtain ⟨E6, hE6⟩ : ∃ X, U.extract 12 32 = X := ⟨_, rfl⟩
 obtain ⟨E7, hE7⟩ : ∃ X, S.extract 34 36 = X := ⟨_, rfl⟩
 obtain ⟨E8, hE8⟩ : ∃ X, U.extract 34 36 = X := ⟨_, rfl⟩
 obtain ⟨E9, hE9⟩ : ∃ X, S.extract 40 (40 + O.size) = X := ⟨_, rfl⟩
 obtain ⟨E10, hE10⟩ : ∃ X, U.extract 40 (40 + O.size) = X := ⟨_, rfl⟩
 obtain ⟨F1, hF1⟩ : ∃ X, U.extract 0 10 = X := ⟨_, rfl⟩
 obtain ⟨F2, hF2⟩ : ∃ X, U.extract 12 36 = X := ⟨_, rfl⟩
 obtain ⟨F3, hF3⟩ : ∃ X, U.extract 38 U.size = X := ⟨_, rfl⟩
 obtain ⟨B1, hB1⟩ : ∃ X, ofB (w2 n1) = X := ⟨_, rfl⟩
 obtain ⟨B2, hB2⟩ : ∃ X, ofB (w2 m3) = X := ⟨_, rfl⟩
 rw [hF1, hF2, hF3, hB1, hB2] at HFIN
 rw [hE1] at HN1
 rw [hE4] at HN2
 rw [hE2, hE3] at HT1
 rw [hE5, hE6] at HT2
 rw [hE7, hE8] at HT3
 rw [hE9, hE10] at HT4
 rw [hB1] at HB1
 rw [hB2] at HB2
 have f1 : F1.size = 10 := by rw [← hF1, ByteArray.size_extract]; omega
 have f2 : F2.size = 24 := by rw [← hF2, ByteArray.size_extract]; omega
 have f3 : F3.size = U.size - 38 := by rw [← hF3, ByteArray.size_extract]; omega
 have g1 : B1.size = 2 := by rw [← hB1]; exact ofB_size _
 have g2 : B2.size = 2 := by rw [← hB2]; exact ofB_size _
 obtain ⟨G1, hG1⟩ : ∃ X, F1 ++ B1 = X := ⟨_, rfl⟩
 rw [hG1] at HFIN
 obtain ⟨G2, hG2⟩ : ∃ X, G1 ++ F2 = X := ⟨_, rfl⟩
 rw [hG2] at HFIN
 obtain ⟨G3, hG3⟩ : ∃ X, G2 ++ B2 = X := ⟨_, rfl⟩
 rw [hG3] at HFIN
 obtain ⟨G4, hG4⟩ : ∃ X, G3 ++ F3 = X := ⟨_, rfl⟩
 rw [hG4] at HFIN
 have i1 : G1.size = 12 := by rw [← hG1, ByteArray.size_append]; omega
 have i2 : G2.size = 36 := by rw [← hG2, ByteArray.size_append]; omega
 have i3 : G3.size = 38 := by rw [← hG3, ByteArray.size_append]; omega
 have z1 : F1.size + B1.size ≤ 9223372036854775807 := by omega
 have z2 : G1.size + F2.size ≤ 9223372036854775807 := by omega
 have z3 : G2.size + B2.size ≤ 9223372036854775807 := by omega
 have z4 : G3.size + F3.size ≤ 9223372036854775807 := by omega
 have HE1 := Lib.hid hE1
 have HE2 := Lib.hid hE2
 have HE3 := Lib.hid hE3
 have HE4 := Lib.hid hE4
 have HE5 := Lib.hid hE5
 have HE6 := Lib.hid hE6
 have HE7 := Lib.hid hE7
 have HE8 := Lib.hid hE8
 have HE9 := Lib.hid hE9
 have HE10 := Lib.hid hE10
 have HF1 := Lib.hid hF1
 have HF2 := Lib.hid hF2
 have HF3 := Lib.hid hF3
 have HG1 := Lib.hid hG1
 have HG2 := Lib.hid hG2
 have HG3 := Lib.hid hG3
 have HG4 := Lib.hid hG4
 have lU2 : 40 + O.size ≤ U.size := by omega
 have s10 : (10 : Int) ≤ (S.size : Int) := by omega
 have t10 : (10 : Int) ≤ (U.size : Int) := by omega
 have s12 : (12 : Int) ≤ (S.size : Int) := by omega
 have t12 : (12 : Int) ≤ (U.size : Int) := by omega
 have s20 : (20 : Int) ≤ (S.size : Int) := by omega
 have t20 : (20 : Int) ≤ (U.size : Int) := by omega
 have s32 : (32 : Int) ≤ (S.size : Int) := by omega
 have t32 : (32 : Int) ≤ (U.size : Int) := by omega
 have s34 : (34 : Int) ≤ (S.size : Int) := by omega
 have t34 : (34 : Int) ≤ (U.size : Int) := by omega
 have s36 : (36 : Int) ≤ (S.size : Int) := by omega
 have t36 : (36 : Int) ≤ (U.size : Int) := by omega
 have s38 : (38 : Int) ≤ (S.size : Int) := by omega
 have t38 : (38 : Int) ≤ (U.size : Int) := by omega
 have s40 : (40 : Int) + (O.size : Int) ≤ (S.size : Int) := by omega
 have t40 : (40 : Int) + (O.size : Int) ≤ (U.size : Int) := by omega
 have j40 : (40 : Int) ≤ 40 + (O.size : Int) := by omega
 have k40 : 0 ≤ 40 + (O.size : Int) := by omega
 have n40 : (40 + (O.size : Int)).toNat = 40 + O.size := by omega
 have HRT := Lib.hid r.tmay
 clear hfin hle lO lU lU2 hU hS hrew hp p2 r hdec hOb lot lop ldd hext hto tle h0 sok hbl h40 hm1 hm2 hm3 hn1 hm1e f1 f2 f3 g1 g2 i1 i2 i3 hE1 hE2 hE3 hE4 hE5 hE6 hE7 hE8 hE9 hE10 hF1 hF2 hF3 hB1 hB2 hG1 hG2 hG3 hG4 l1 l2 l3 l4 q1 q2 q3 q4 b1 b2 b3 b4 k16 c16 hsz hmost hfew
 have B0 := st_alloc (Below.refl _ w) (.cells (xc x) 32)
 have X0 := CellsAt.new w (xc x) 32
 go_enter Tryz.func7, Tryz.ntmps7
 go_wp2_with fail
 refine (HD.out _).mono ?_
 rintro e wA ⟨⟨A, c, rfl, hrow⟩, hb⟩
 have XA := (X0.later hb).later ((Below.refl _ wA).alloc (Nat.le_refl _) (.cells (sc s A c) 30))
 have SA := CellsAt.new wA (sc s A c) 30
 have BA := st_alloc (st_call B0 hb) (.cells (sc s A c) 30)
 have RA := hrow.blk.more ((Below.refl _ wA).alloc (Nat.le_refl _) (.cells (sc s A c) 30))
 have lA : w.heap.size < wA.heap.size := (X0.later hb).lt
 go_wp2_with fail
 obtain ⟨g, hg⟩ : ∃ g, wA.heap.size = g := ⟨_, rfl⟩
 obtain ⟨W1, hW1⟩ : ∃ W1, (wA.alloc (.cells (sc s A c) 30)) = W1 := ⟨_, rfl⟩
 rw [hW1] at XA SA BA RA ⊢
 rw [hg] at SA lA ⊢
 clear B0 X0 hb hrow hW1 hg HD wA
 refine (HHD.out _).mono ?_
 rintro e wH ⟨rfl, hb⟩
 have XH := XA.later hb
 have SH := SA.later hb
 have BH := st_call BA hb
 have RH := RA.more hb
 clear hb XA SA BA RA
 go_upto_region 5 with fail
 have bI := (Below.refl _ wH).alloc (Nat.le_refl _) (.cells #[.int .u32 (h.src : Int), .int .u32 (h.dst : Int), .int .u8 (h.proto : Int), .int .u8 (h.ttl : Int), .int .u8 (h.tos : Int), .int .u16 (h.id : Int), .bool h.df] 59)
 have bT := (Below.refl _ (wH.alloc (.cells #[.int .u32 (h.src : Int), .int .u32 (h.dst : Int), .int .u8 (h.proto : Int), .int .u8 (h.ttl : Int), .int .u8 (h.tos : Int), .int .u16 (h.id : Int), .bool h.df] 59))).alloc (Nat.le_refl _) (.cells #[.int .u16 (t.src : Int), .int .u16 (t.dst : Int), .int .u32 (t.seq : Int), .int .u32 (t.ack : Int), .int .u8 (t.flags : Int), .int .u16 (t.win : Int), .int .u16 (t.urg : Int), .string t.opts] 61)
 have X4 := (XH.later bI).later bT
 have S4 := (SH.later bI).later bT
 have R4 := (RH.more bI).more bT
 have B4 := st_call (st_call BH bI) bT
 have T4 := CellsAt.new (wH.alloc (.cells #[.int .u32 (h.src : Int), .int .u32 (h.dst : Int), .int .u8 (h.proto : Int), .int .u8 (h.ttl : Int), .int .u8 (h.tos : Int), .int .u16 (h.id : Int), .bool h.df] 59)) #[.int .u16 (t.src : Int), .int .u16 (t.dst : Int), .int .u32 (t.seq : Int), .int .u32 (t.ack : Int), .int .u8 (t.flags : Int), .int .u16 (t.win : Int), .int .u16 (t.urg : Int), .string t.opts] 61
 rw [World.size_alloc] at T4
 obtain ⟨W4, hW4⟩ : ∃ W4, (wH.alloc (.cells #[.int .u32 (h.src : Int), .int .u32 (h.dst : Int), .int .u8 (h.proto : Int), .int .u8 (h.ttl : Int), .int .u8 (h.tos : Int), .int .u16 (h.id : Int), .bool h.df] 59)).alloc (.cells #[.int .u16 (t.src : Int), .int .u16 (t.dst : Int), .int .u32 (t.seq : Int), .int .u32 (t.ack : Int), .int .u8 (t.flags : Int), .int .u16 (t.win : Int), .int .u16 (t.urg : Int), .string t.opts] 61) = W4 := ⟨_, rfl⟩
 rw [hW4] at X4 S4 R4 B4 T4 ⊢
 clear bI bT XH SH RH BH hW4
 have y5 := X4.cell 5 _ rfl
 have y6 := X4.cell 6 _ rfl
 have y7 := X4.cell 7 _ rfl
 have t7 := T4.cell 7 _ rfl
 go_wp2_with fail
 refine (TU.out _).mono ?_
 rintro e wT ⟨rfl, hb⟩
 have X5 := X4.later hb
 have S5 := S4.later hb
 have R5 := Lib.hid (R4.more hb)
 have B5 := Lib.hid (st_call B4 hb)
 clear X4 S4 R4 B4 T4 hb y5 y6 y7 t7
 go_upto_region 6 with fail
 refine wp_region_lit ?_
 go_wp2_with (first | refine step_seg rfl _ rfl _ rfl _ _ _ S5 ?_ | refine step_shift rfl _ rfl _ rfl _ X5 ?_)
 refine (TD.out _ A c R5.out).mono ?_
 rintro e wD ⟨⟨A2, c2, rfl, hr2⟩, hb⟩
 have B6 := Lib.hid (st_call B5.out hb)
 clear X5 S5 R5 B5 hb hr2
 go_wp2_with fail
 refine (LD.out _ A2 c2).mono ?_
 rintro e wL ⟨rfl, hb⟩
 have HB := Lib.hid (st_call B6.out hb)
 clear B6 hb
 go_wp2_with fail
 refine wp_region_seeK 9 100 (relQ7 S U O E1 E2 E3 E4 E5 E6 E7 E8 E9 E10 F1 F2 F3 B1 B2 G1 G2 G3 G4 ck kk n1 m1 m2 m3) rfl (by kernel_rfl) (by kernel_rfl) (by kernel_rfl) (by kernel_rfl) (relQ7_more S U O E1 E2 E3 E4 E5 E6 E7 E8 E9 E10 F1 F2 F3 B1 B2 G1 G2 G3 G4 ck kk n1 m1 m2 m3) ?_ ?_
 · intro i hi
   have hi2 : i < 9 := by simpa using hi
   clear hi
   match i, hi2 with
   | 0, _ =>
     intro ρ W hb hc hg hf h0 hd
     have t0 := h0 0 (by kernel_rfl)
     clear hd h0
     go_simp
     exact ⟨rfl, Below.refl _ _⟩
   | 1, _ =>
     intro ρ W hb hc hg hf h0 hd
     have d0 : ρ (.tmp 50) = .string S := hd 0 50 (by kernel_rfl) (by kernel_rfl)
     clear hd h0
     go_simp
     rw [HE1.out]
     exact ⟨rfl, Below.refl _ _⟩
   | 2, _ =>
     intro ρ W hb hc hg hf h0 hd
     have d1 : ρ (.tmp 51) = .string E1 := hd 1 51 (by kernel_rfl) (by kernel_rfl)
     clear hd h0
     go_simp
     exact (HN1.out W).mono fun e w' ⟨he, hb⟩ => ⟨_, he, rfl, hb⟩
   | 3, _ =>
     intro ρ W hb hc hg hf h0 hd
     have d2 : ρ (.tmp 52) = .int .u32 (ck : Int) := hd 2 52 (by kernel_rfl) (by kernel_rfl)
     clear hd h0
     go_simp
     exact ⟨rfl, Below.refl _ _⟩
   | 4, _ =>
     intro ρ W hb hc hg hf h0 hd
     have t0 := h0 0 (by kernel_rfl)
     clear hd h0
     go_simp
     exact ⟨rfl, Below.refl _ _⟩
   | 5, _ =>
     intro ρ W hb hc hg hf h0 hd
     have d4 : ρ (.tmp 54) = .string S := hd 4 54 (by kernel_rfl) (by kernel_rfl)
     clear hd h0
     go_simp
     rw [HE2.out]
     exact ⟨rfl, Below.refl _ _⟩
   | 6, _ =>
     intro ρ W hb hc hg hf h0 hd
     have t14 := h0 14 (by kernel_rfl)
     clear hd h0
     go_simp
     exact ⟨rfl, Below.refl _ _⟩
   | 7, _ =>
     intro ρ W hb hc hg hf h0 hd
     have d6 : ρ (.tmp 56) = .string U := hd 6 56 (by kernel_rfl) (by kernel_rfl)
     clear hd h0
     go_simp
     rw [HE3.out]
     exact ⟨rfl, Below.refl _ _⟩
   | 8, _ =>
     intro ρ W hb hc hg hf h0 hd
     have d3 : ρ (.tmp 53) = .int .u16 (ck : Int) := hd 3 53 (by kernel_rfl) (by kernel_rfl)
     have d5 : ρ (.tmp 55) = .string E2 := hd 5 55 (by kernel_rfl) (by kernel_rfl)
     have d7 : ρ (.tmp 57) = .string E3 := hd 7 57 (by kernel_rfl) (by kernel_rfl)
     clear hd h0
     go_simp
     exact (HT1.out W).mono fun e w' ⟨he, hb⟩ => ⟨_, he, rfl, hb⟩
   | i + 9, hlt => exact absurd hlt (by omega)
 intro vs W7 hb hall
 have hl : vs 8 = .int .u16 (n1 : Int) := hall 8 (by omega)
 clear hall
 rw [lexA_slots vs 9 [(some 50, 0), (some 51, 1), (some 52, 2), (some 53, 3), (some 54, 4), (some 55, 5), (some 56, 6), (some 57, 7), (some 58, 8)] (by kernel_rfl)]
 simp only [List.foldl_cons, List.foldl_nil, hl]
 show wpList _ _ _ [_] _ _
 simp only [put_lit, List.set_cons_succ, List.set_cons_zero]
 have HB7x := Lib.hid (st_call HB.out hb)
 clear HB hb hl
 have HB := HB7x
 clear HB7x
 go_wp2_with fail
 refine wp_region_seeK 9 100 (relQ8 S U O E1 E2 E3 E4 E5 E6 E7 E8 E9 E10 F1 F2 F3 B1 B2 G1 G2 G3 G4 ck kk n1 m1 m2 m3) rfl (by kernel_rfl) (by kernel_rfl) (by kernel_rfl) (by kernel_rfl) (relQ8_more S U O E1 E2 E3 E4 E5 E6 E7 E8 E9 E10 F1 F2 F3 B1 B2 G1 G2 G3 G4 ck kk n1 m1 m2 m3) ?_ ?_
 · intro i hi
   have hi2 : i < 9 := by simpa using hi
   clear hi
   match i, hi2 with
   | 0, _ =>
     intro ρ W hb hc hg hf h0 hd
     have t0 := h0 0 (by kernel_rfl)
     clear hd h0
     go_simp
     exact ⟨rfl, Below.refl _ _⟩
   | 1, _ =>
     intro ρ W hb hc hg hf h0 hd
     have d0 : ρ (.tmp 59) = .string S := hd 0 59 (by kernel_rfl) (by kernel_rfl)
     clear hd h0
     go_simp
     rw [HE4.out]
     exact ⟨rfl, Below.refl _ _⟩
   | 2, _ =>
     intro ρ W hb hc hg hf h0 hd
     have d1 : ρ (.tmp 60) = .string E4 := hd 1 60 (by kernel_rfl) (by kernel_rfl)
     clear hd h0
     go_simp
     exact (HN2.out W).mono fun e w' ⟨he, hb⟩ => ⟨_, he, rfl, hb⟩
   | 3, _ =>
     intro ρ W hb hc hg hf h0 hd
     have d2 : ρ (.tmp 61) = .int .u32 (kk : Int) := hd 2 61 (by kernel_rfl) (by kernel_rfl)
     clear hd h0
     go_simp
     exact ⟨rfl, Below.refl _ _⟩
   | 4, _ =>
     intro ρ W hb hc hg hf h0 hd
     have t0 := h0 0 (by kernel_rfl)
     clear hd h0
     go_simp
     exact ⟨rfl, Below.refl _ _⟩
   | 5, _ =>
     intro ρ W hb hc hg hf h0 hd
     have d4 : ρ (.tmp 63) = .string S := hd 4 63 (by kernel_rfl) (by kernel_rfl)
     clear hd h0
     go_simp
     rw [HE5.out]
     exact ⟨rfl, Below.refl _ _⟩
   | 6, _ =>
     intro ρ W hb hc hg hf h0 hd
     have t14 := h0 14 (by kernel_rfl)
     clear hd h0
     go_simp
     exact ⟨rfl, Below.refl _ _⟩
   | 7, _ =>
     intro ρ W hb hc hg hf h0 hd
     have d6 : ρ (.tmp 65) = .string U := hd 6 65 (by kernel_rfl) (by kernel_rfl)
     clear hd h0
     go_simp
     rw [HE6.out]
     exact ⟨rfl, Below.refl _ _⟩
   | 8, _ =>
     intro ρ W hb hc hg hf h0 hd
     have d3 : ρ (.tmp 62) = .int .u16 (kk : Int) := hd 3 62 (by kernel_rfl) (by kernel_rfl)
     have d5 : ρ (.tmp 64) = .string E5 := hd 5 64 (by kernel_rfl) (by kernel_rfl)
     have d7 : ρ (.tmp 66) = .string E6 := hd 7 66 (by kernel_rfl) (by kernel_rfl)
     clear hd h0
     go_simp
     exact (HT2.out W).mono fun e w' ⟨he, hb⟩ => ⟨_, he, rfl, hb⟩
   | i + 9, hlt => exact absurd hlt (by omega)
 intro vs W8 hb hall
 have hl : vs 8 = .int .u16 (m1 : Int) := hall 8 (by omega)
 clear hall
 rw [lexA_slots vs 9 [(some 59, 0), (some 60, 1), (some 61, 2), (some 62, 3), (some 63, 4), (some 64, 5), (some 65, 6), (some 66, 7), (some 67, 8)] (by kernel_rfl)]
 simp only [List.foldl_cons, List.foldl_nil, hl]
 show wpList _ _ _ [_] _ _
 simp only [put_lit, List.set_cons_succ, List.set_cons_zero]
 have HB8x := Lib.hid (st_call HB.out hb)
 clear HB hb hl
 have HB := HB8x
 clear HB8x
 go_wp2_with fail
 refine wp_region_seeK 6 100 (relQ9 S U O E1 E2 E3 E4 E5 E6 E7 E8 E9 E10 F1 F2 F3 B1 B2 G1 G2 G3 G4 ck kk n1 m1 m2 m3) rfl (by kernel_rfl) (by kernel_rfl) (by kernel_rfl) (by kernel_rfl) (relQ9_more S U O E1 E2 E3 E4 E5 E6 E7 E8 E9 E10 F1 F2 F3 B1 B2 G1 G2 G3 G4 ck kk n1 m1 m2 m3) ?_ ?_
 · intro i hi
   have hi2 : i < 6 := by simpa using hi
   clear hi
   match i, hi2 with
   | 0, _ =>
     intro ρ W hb hc hg hf h0 hd
     have t16 := h0 16 (by kernel_rfl)
     clear hd h0
     go_simp
     exact ⟨rfl, Below.refl _ _⟩
   | 1, _ =>
     intro ρ W hb hc hg hf h0 hd
     have t0 := h0 0 (by kernel_rfl)
     clear hd h0
     go_simp
     exact ⟨rfl, Below.refl _ _⟩
   | 2, _ =>
     intro ρ W hb hc hg hf h0 hd
     have d1 : ρ (.tmp 69) = .string S := hd 1 69 (by kernel_rfl) (by kernel_rfl)
     clear hd h0
     go_simp
     rw [HE7.out]
     exact ⟨rfl, Below.refl _ _⟩
   | 3, _ =>
     intro ρ W hb hc hg hf h0 hd
     have t14 := h0 14 (by kernel_rfl)
     clear hd h0
     go_simp
     exact ⟨rfl, Below.refl _ _⟩
   | 4, _ =>
     intro ρ W hb hc hg hf h0 hd
     have d3 : ρ (.tmp 71) = .string U := hd 3 71 (by kernel_rfl) (by kernel_rfl)
     clear hd h0
     go_simp
     rw [HE8.out]
     exact ⟨rfl, Below.refl _ _⟩
   | 5, _ =>
     intro ρ W hb hc hg hf h0 hd
     have d0 : ρ (.tmp 68) = .int .u16 (m1 : Int) := hd 0 68 (by kernel_rfl) (by kernel_rfl)
     have d2 : ρ (.tmp 70) = .string E7 := hd 2 70 (by kernel_rfl) (by kernel_rfl)
     have d4 : ρ (.tmp 72) = .string E8 := hd 4 72 (by kernel_rfl) (by kernel_rfl)
     clear hd h0
     go_simp
     exact (HT3.out W).mono fun e w' ⟨he, hb⟩ => ⟨_, he, rfl, hb⟩
   | i + 6, hlt => exact absurd hlt (by omega)
 intro vs W9 hb hall
 have hl : vs 5 = .int .u16 (m2 : Int) := hall 5 (by omega)
 clear hall
 rw [lexA_slots vs 6 [(some 68, 0), (some 69, 1), (some 70, 2), (some 71, 3), (some 72, 4), (some 73, 5)] (by kernel_rfl)]
 simp only [List.foldl_cons, List.foldl_nil, hl]
 show wpList _ _ _ [_] _ _
 simp only [put_lit, List.set_cons_succ, List.set_cons_zero]
 have HB9x := Lib.hid (st_call HB.out hb)
 clear HB hb hl
 have HB := HB9x
 clear HB9x
 go_wp2_with fail
 refine wp_region_seeK 12 100 (relQ10 S U O E1 E2 E3 E4 E5 E6 E7 E8 E9 E10 F1 F2 F3 B1 B2 G1 G2 G3 G4 ck kk n1 m1 m2 m3) rfl (by kernel_rfl) (by kernel_rfl) (by kernel_rfl) (by kernel_rfl) (relQ10_more S U O E1 E2 E3 E4 E5 E6 E7 E8 E9 E10 F1 F2 F3 B1 B2 G1 G2 G3 G4 ck kk n1 m1 m2 m3) ?_ ?_
 · intro i hi
   have hi2 : i < 12 := by simpa using hi
   clear hi
   match i, hi2 with
   | 0, _ =>
     intro ρ W hb hc hg hf h0 hd
     have t16 := h0 16 (by kernel_rfl)
     clear hd h0
     go_simp
     exact ⟨rfl, Below.refl _ _⟩
   | 1, _ =>
     intro ρ W hb hc hg hf h0 hd
     have t0 := h0 0 (by kernel_rfl)
     clear hd h0
     go_simp
     exact ⟨rfl, Below.refl _ _⟩
   | 2, _ =>
     intro ρ W hb hc hg hf h0 hd
     have t12 := h0 12 (by kernel_rfl)
     clear hd h0
     go_simp
     exact ⟨rfl, Below.refl _ _⟩
   | 3, _ =>
     intro ρ W hb hc hg hf h0 hd
     have d2 : ρ (.tmp 76) = .string O := hd 2 76 (by kernel_rfl) (by kernel_rfl)
     clear hd h0
     go_simp
     exact ⟨rfl, Below.refl _ _⟩
   | 4, _ =>
     intro ρ W hb hc hg hf h0 hd
     have d3 : ρ (.tmp 77) = .int .i64 (O.size : Int) := hd 3 77 (by kernel_rfl) (by kernel_rfl)
     clear hd h0
     go_simp
     rw [HI.out]
     exact ⟨rfl, Below.refl _ _⟩
   | 5, _ =>
     intro ρ W hb hc hg hf h0 hd
     have d1 : ρ (.tmp 75) = .string S := hd 1 75 (by kernel_rfl) (by kernel_rfl)
     have d4 : ρ (.tmp 78) = .int .i64 (40 + (O.size : Int)) := hd 4 78 (by kernel_rfl) (by kernel_rfl)
     clear hd h0
     go_simp
     rw [HE9.out]
     exact ⟨rfl, Below.refl _ _⟩
   | 6, _ =>
     intro ρ W hb hc hg hf h0 hd
     have t14 := h0 14 (by kernel_rfl)
     clear hd h0
     go_simp
     exact ⟨rfl, Below.refl _ _⟩
   | 7, _ =>
     intro ρ W hb hc hg hf h0 hd
     have t12 := h0 12 (by kernel_rfl)
     clear hd h0
     go_simp
     exact ⟨rfl, Below.refl _ _⟩
   | 8, _ =>
     intro ρ W hb hc hg hf h0 hd
     have d7 : ρ (.tmp 81) = .string O := hd 7 81 (by kernel_rfl) (by kernel_rfl)
     clear hd h0
     go_simp
     exact ⟨rfl, Below.refl _ _⟩
   | 9, _ =>
     intro ρ W hb hc hg hf h0 hd
     have d8 : ρ (.tmp 82) = .int .i64 (O.size : Int) := hd 8 82 (by kernel_rfl) (by kernel_rfl)
     clear hd h0
     go_simp
     rw [HI.out]
     exact ⟨rfl, Below.refl _ _⟩
   | 10, _ =>
     intro ρ W hb hc hg hf h0 hd
     have d6 : ρ (.tmp 80) = .string U := hd 6 80 (by kernel_rfl) (by kernel_rfl)
     have d9 : ρ (.tmp 83) = .int .i64 (40 + (O.size : Int)) := hd 9 83 (by kernel_rfl) (by kernel_rfl)
     clear hd h0
     go_simp
     rw [HE10.out]
     exact ⟨rfl, Below.refl _ _⟩
   | 11, _ =>
     intro ρ W hb hc hg hf h0 hd
     have d0 : ρ (.tmp 74) = .int .u16 (m2 : Int) := hd 0 74 (by kernel_rfl) (by kernel_rfl)
     have d5 : ρ (.tmp 79) = .string E9 := hd 5 79 (by kernel_rfl) (by kernel_rfl)
     have d10 : ρ (.tmp 84) = .string E10 := hd 10 84 (by kernel_rfl) (by kernel_rfl)
     clear hd h0
     go_simp
     exact (HT4.out W).mono fun e w' ⟨he, hb⟩ => ⟨_, he, rfl, hb⟩
   | i + 12, hlt => exact absurd hlt (by omega)
 intro vs W10 hb hall
 have hl : vs 11 = .int .u16 (m3 : Int) := hall 11 (by omega)
 clear hall
 rw [lexA_slots vs 12 [(some 74, 0), (some 75, 1), (some 76, 2), (some 77, 3), (some 78, 4), (some 79, 5), (some 80, 6), (some 81, 7), (some 82, 8), (some 83, 9), (some 84, 10), (some 85, 11)] (by kernel_rfl)]
 simp only [List.foldl_cons, List.foldl_nil, hl]
 show wpList _ _ _ [_] _ _
 simp only [put_lit, List.set_cons_succ, List.set_cons_zero]
 have HB10x := Lib.hid (st_call HB.out hb)
 clear HB hb hl
 have HB := HB10x
 clear HB10x
 go_wp2_with fail
 refine wp_region_seeK 14 100 (relQ11 S U O E1 E2 E3 E4 E5 E6 E7 E8 E9 E10 F1 F2 F3 B1 B2 G1 G2 G3 G4 ck kk n1 m1 m2 m3) rfl (by kernel_rfl) (by kernel_rfl) (by kernel_rfl) (by kernel_rfl) (relQ11_more S U O E1 E2 E3 E4 E5 E6 E7 E8 E9 E10 F1 F2 F3 B1 B2 G1 G2 G3 G4 ck kk n1 m1 m2 m3) ?_ ?_
 · intro i hi
   have hi2 : i < 14 := by simpa using hi
   clear hi
   match i, hi2 with
   | 0, _ =>
     intro ρ W hb hc hg hf h0 hd
     have t14 := h0 14 (by kernel_rfl)
     clear hd h0
     go_simp
     exact ⟨rfl, Below.refl _ _⟩
   | 1, _ =>
     intro ρ W hb hc hg hf h0 hd
     have d0 : ρ (.tmp 86) = .string U := hd 0 86 (by kernel_rfl) (by kernel_rfl)
     clear hd h0
     go_simp
     rw [HF1.out]
     exact ⟨rfl, Below.refl _ _⟩
   | 2, _ =>
     intro ρ W hb hc hg hf h0 hd
     have t15 := h0 15 (by kernel_rfl)
     clear hd h0
     go_simp
     exact ⟨rfl, Below.refl _ _⟩
   | 3, _ =>
     intro ρ W hb hc hg hf h0 hd
     have d2 : ρ (.tmp 88) = .int .u16 (n1 : Int) := hd 2 88 (by kernel_rfl) (by kernel_rfl)
     clear hd h0
     go_simp
     exact (HB1.out W).mono fun e w' ⟨he, hb⟩ => ⟨_, he, rfl, hb⟩
   | 4, _ =>
     intro ρ W hb hc hg hf h0 hd
     have d1 : ρ (.tmp 87) = .string F1 := hd 1 87 (by kernel_rfl) (by kernel_rfl)
     have d3 : ρ (.tmp 89) = .string B1 := hd 3 89 (by kernel_rfl) (by kernel_rfl)
     clear hd h0
     go_simp
     rw [HG1.out, if_neg (Nat.not_lt.2 z1)]
     exact ⟨rfl, Below.refl _ _⟩
   | 5, _ =>
     intro ρ W hb hc hg hf h0 hd
     have t14 := h0 14 (by kernel_rfl)
     clear hd h0
     go_simp
     exact ⟨rfl, Below.refl _ _⟩
   | 6, _ =>
     intro ρ W hb hc hg hf h0 hd
     have d5 : ρ (.tmp 91) = .string U := hd 5 91 (by kernel_rfl) (by kernel_rfl)
     clear hd h0
     go_simp
     rw [HF2.out]
     exact ⟨rfl, Below.refl _ _⟩
   | 7, _ =>
     intro ρ W hb hc hg hf h0 hd
     have d4 : ρ (.tmp 90) = .string G1 := hd 4 90 (by kernel_rfl) (by kernel_rfl)
     have d6 : ρ (.tmp 92) = .string F2 := hd 6 92 (by kernel_rfl) (by kernel_rfl)
     clear hd h0
     go_simp
     rw [HG2.out, if_neg (Nat.not_lt.2 z2)]
     exact ⟨rfl, Below.refl _ _⟩
   | 8, _ =>
     intro ρ W hb hc hg hf h0 hd
     have t16 := h0 16 (by kernel_rfl)
     clear hd h0
     go_simp
     exact ⟨rfl, Below.refl _ _⟩
   | 9, _ =>
     intro ρ W hb hc hg hf h0 hd
     have d8 : ρ (.tmp 94) = .int .u16 (m3 : Int) := hd 8 94 (by kernel_rfl) (by kernel_rfl)
     clear hd h0
     go_simp
     exact (HB2.out W).mono fun e w' ⟨he, hb⟩ => ⟨_, he, rfl, hb⟩
   | 10, _ =>
     intro ρ W hb hc hg hf h0 hd
     have d7 : ρ (.tmp 93) = .string G2 := hd 7 93 (by kernel_rfl) (by kernel_rfl)
     have d9 : ρ (.tmp 95) = .string B2 := hd 9 95 (by kernel_rfl) (by kernel_rfl)
     clear hd h0
     go_simp
     rw [HG3.out, if_neg (Nat.not_lt.2 z3)]
     exact ⟨rfl, Below.refl _ _⟩
   | 11, _ =>
     intro ρ W hb hc hg hf h0 hd
     have t14 := h0 14 (by kernel_rfl)
     clear hd h0
     go_simp
     exact ⟨rfl, Below.refl _ _⟩
   | 12, _ =>
     intro ρ W hb hc hg hf h0 hd
     have d11 : ρ (.tmp 97) = .string U := hd 11 97 (by kernel_rfl) (by kernel_rfl)
     clear hd h0
     go_simp
     rw [HF3.out]
     exact ⟨rfl, Below.refl _ _⟩
   | 13, _ =>
     intro ρ W hb hc hg hf h0 hd
     have d10 : ρ (.tmp 96) = .string G3 := hd 10 96 (by kernel_rfl) (by kernel_rfl)
     have d12 : ρ (.tmp 98) = .string F3 := hd 12 98 (by kernel_rfl) (by kernel_rfl)
     clear hd h0
     go_simp
     rw [HG4.out, if_neg (Nat.not_lt.2 z4)]
     exact ⟨rfl, Below.refl _ _⟩
   | i + 14, hlt => exact absurd hlt (by omega)
 intro vs W11 hb hall
 have hl : vs 13 = .string G4 := hall 13 (by omega)
 clear hall
 rw [lexA_slots vs 14 [(some 86, 0), (some 87, 1), (some 88, 2), (some 89, 3), (some 90, 4), (some 91, 5), (some 92, 6), (some 93, 7), (some 94, 8), (some 95, 9), (some 96, 10), (some 97, 11), (some 98, 12), (some 99, 13)] (by kernel_rfl)]
 simp only [List.foldl_cons, List.foldl_nil, hl]
 show wpList _ _ _ [_, _] _ _
 simp only [put_lit, List.set_cons_succ, List.set_cons_zero]
 have HB11x := Lib.hid (st_call HB.out hb)
 clear HB hb hl
 have HB := HB11x
 clear HB11x
 go_wp2_with fail
 go_ret2
 exact ⟨by rw [HV.out, ← HFIN.out]; rfl, HB.out⟩
theorem rewR (S : ByteArray) (x : Sh) (w : World) (hs : S.size ≤ 1000000) (xk : x.ok) (u1 : -9223372036854775808 ≤ x.up) (u2 : x.up ≤ 9223372036854775807) (v1 : -9223372036854775808 ≤ x.down) (v2 : x.down ≤ 9223372036854775807) :
   Calls Tryz.prog 7 #[.string S, xv x] w fun e w' => e = .returned (rwV S x) ∧ Below w.heap.size w w' := by
 by_cases h0 : (dec8 S).1 = 0
 · exact rewR_ok S x w hs xk u1 u2 v1 v2 h0
 · exact rewR_err S x w hs h0
end Go.Proofs.YtpmnmnflaijaaaaGreat.PktRwR
