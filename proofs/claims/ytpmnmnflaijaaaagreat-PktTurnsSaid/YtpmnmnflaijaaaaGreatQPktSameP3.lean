/-
  Laws for a proof of package pkt: 3 texts in one.
-/
import Derived.Test.YtpmnmnflaijaaaaGreatQPktNx2
import Derived.Test.YtpmnmnflaijaaaaGreatQOptTurn10
import Derived.Test.YtpmnmnflaijaaaaGreatQOptP2
import Derived.Test.YtpmnmnflaijaaaaGreatQTcpSummed2
import Derived.Test.YtpmnmnflaijaaaaGreatQIpD2
import Derived.Test.YtpmnmnflaijaaaaGreatQTcpRef4
import Derived.Test.YtpmnmnflaijaaaaGreatQOptAdd3
namespace Go.Proofs.YtpmnmnflaijaaaaGreat.PktMayP
open Go.Proofs.YtpmnmnflaijaaaaGreat.Own
open Go.RowKit TupMath SumMath Litb Calm Rel RelT RelK IpMath IpRef OptMath OptRef OptPlc OptSame Boxes OptMay PktMath PktVal PktSmall PktCom
set_option linter.unusedVariables false
set_option linter.unusedSimpArgs false
set_option maxRecDepth 100000
attribute [local go_sem] Oper.semAt_some
set_option maxHeartbeats 8000000 in
theorem mayP8 (s : Sg) (A : Option Addr) (c : Nat) (w : World) (hbk : BlkR w A s.opts.blocks) (k : s.ok) (hd : s.data.size ≤ maxLen) :
   Calls Tryz.prog 17 #[sv s A c] w fun e w' => e = .returned (.bool (mayS s)) ∧ Below w.heap.size w w' := by
 have kf := k.flags
 have HD : Hid (s.data.size ≤ 9223372036854775807) := Lib.hid (Nat.le_trans hd (by decide))
 have HX := Lib.hid (fun (W : World) (hW : Below (w.alloc (.cells (sc s A c) 30)).heap.size (w.alloc (.cells (sc s A c) 30)) W) (j : Nat) (v : Value) (hv : (sc s A c)[j]? = some v) => ((hW.cell (p := ⟨w.heap.size, j, none⟩) (by simp)).trans (World.cell?_alloc_mark w _ _ (0, 0) j)).trans hv)
 have HBK := Lib.hid (fun (W : World) (hW : Below (w.alloc (.cells (sc s A c) 30)).heap.size (w.alloc (.cells (sc s A c) 30)) W) => (hbk.more (st_alloc (Below.refl _ w) (.cells (sc s A c) 30))).more hW)
 have HB0 := Lib.hid (st_alloc (Below.refl _ w) (.cells (sc s A c) 30))
 have HK := Lib.hid k.opts
 clear hbk
 cases hf : flg s.flags with
 | false =>
   have HV : Hid (mayS s = false) := Lib.hid (by unfold mayS; rw [hf]; rfl)
   go_enter Tryz.func17, Tryz.ntmps17
   go_wp2_with fail
   refine (PktP1.flagsP s.flags _ kf).mono ?_
   rintro e wA ⟨rfl, hb⟩
   have HB := Lib.hid (st_call HB0.out hb)
   rw [hf]
   clear hb
   go_wp2_with fail
   go_ret
   exact ⟨by rw [HV.out]; rfl, HB.out⟩
 | true =>
   go_enter Tryz.func17, Tryz.ntmps17
   go_wp2_with fail
   refine (PktP1.flagsP s.flags _ kf).mono ?_
   rintro e wA ⟨rfl, hb⟩
   have HB := Lib.hid (st_call HB0.out hb)
   have HA := Lib.hid hb
   rw [hf]
   have x8 : wA.cell? ⟨w.heap.size, 8, none⟩ = some (.int .u16 (s.opts.mss : Int)) := HX.out _ HA.out 8 _ rfl
   have x9 : wA.cell? ⟨w.heap.size, 9, none⟩ = some (.int .i64 s.opts.scale) := HX.out _ HA.out 9 _ rfl
   have x10 : wA.cell? ⟨w.heap.size, 10, none⟩ = some (.bool s.opts.sack) := HX.out _ HA.out 10 _ rfl
   have x11 : wA.cell? ⟨w.heap.size, 11, none⟩ = some (.slice A s.opts.blocks.length c) := HX.out _ HA.out 11 _ rfl
   have x12 : wA.cell? ⟨w.heap.size, 12, none⟩ = some (.bool s.opts.time) := HX.out _ HA.out 12 _ rfl
   have x13 : wA.cell? ⟨w.heap.size, 13, none⟩ = some (.int .u32 (s.opts.val : Int)) := HX.out _ HA.out 13 _ rfl
   have x14 : wA.cell? ⟨w.heap.size, 14, none⟩ = some (.int .u32 (s.opts.echo : Int)) := HX.out _ HA.out 14 _ rfl
   clear hb
   cases hm : mayO s.opts with
   | false =>
     have HV : Hid (mayS s = false) := Lib.hid (by unfold mayS; rw [hf, hm]; rfl)
     go_wp2_with fail
     refine (OptP.mayP s.opts A c _ (HBK.out _ HA.out) HK.out).mono ?_
     rintro e wB ⟨rfl, hb⟩
     have HB2 := Lib.hid (st_call HB.out hb)
     rw [hm]
     clear hb x8 x9 x10 x11 x12 x13 x14
     go_wp2_with fail
     go_ret
     exact ⟨by rw [HV.out]; rfl, HB2.out⟩
   | true =>
     have HV : Hid (mayS s = decide (s.data.size ≤ 1460)) := Lib.hid (by unfold mayS; rw [hf, hm]; rfl)
     go_wp2_with fail
     refine (OptP.mayP s.opts A c _ (HBK.out _ HA.out) HK.out).mono ?_
     rintro e wB ⟨rfl, hb⟩
     have HB2 := Lib.hid (st_call HB.out hb)
     have y15 : wB.cell? ⟨w.heap.size, 15, none⟩ = some (.string s.data) := HX.out _ (st_call HA.out hb) 15 _ rfl
     rw [hm]
     have hd2 := HD.out
     clear hb x8 x9 x10 x11 x12 x13 x14
     go_wp2_with fail
     go_ret
     exact ⟨by rw [HV.out]; exact congrArg (fun b => Ending.returned (.bool b)) (decide_eq_decide.2 (by omega)), HB2.out⟩
end Go.Proofs.YtpmnmnflaijaaaaGreat.PktMayP
namespace Go.Proofs.YtpmnmnflaijaaaaGreat.PktEncP
open Go.Proofs.YtpmnmnflaijaaaaGreat.Own
open Go.RowKit TupMath SumMath Litb Calm Rel RelT RelK IpMath IpRef OptMath OptRef OptPlc OptSame Boxes OptMay PktMath PktVal PktSmall PktCom IpHead IpEnc TcpMath TcpRef TcpEnc
set_option linter.unusedVariables false
set_option linter.unusedSimpArgs false
set_option maxRecDepth 100000
attribute [local go_sem] Oper.semAt_some
set_option maxHeartbeats 16000000 in
theorem encP8 (s : Sg) (A : Option Addr) (c : Nat) (w : World) (hbk : BlkR w A s.opts.blocks) (k : s.ok) (hd : s.data.size ≤ maxLen) :
   Calls Tryz.prog 11 #[sv s A c] w fun e w' => e = .returned (encV8 s) ∧ Below w.heap.size w w' := by
 have HD : Hid (s.data.size ≤ maxLen) := Lib.hid hd
 have HX := Lib.hid (fun (W : World) (hW : Below (w.alloc (.cells (sc s A c) 30)).heap.size (w.alloc (.cells (sc s A c) 30)) W) (j : Nat) (v : Value) (hv : (sc s A c)[j]? = some v) => ((hW.cell (p := ⟨w.heap.size, j, none⟩) (by simp)).trans (World.cell?_alloc_mark w _ _ (0, 0) j)).trans hv)
 have HBK := Lib.hid (fun (W : World) (hW : Below (w.alloc (.cells (sc s A c) 30)).heap.size (w.alloc (.cells (sc s A c) 30)) W) => (hbk.more (st_alloc (Below.refl _ w) (.cells (sc s A c) 30))).more hW)
 have HB0 := Lib.hid (st_alloc (Below.refl _ w) (.cells (sc s A c) 30))
 have HK := Lib.hid k
 clear hbk hd k
 cases hm : mayS s with
 | false =>
   have HV : Hid (encV8 s = .tuple #[.string ⟨#[]⟩, .int .i64 2]) := Lib.hid (by unfold encV8; rw [hm]; rfl)
   go_enter Tryz.func11, Tryz.ntmps11
   go_wp2_with fail
   refine (PktMayP.mayP8 s A c _ (HBK.out _ (Below.refl _ _)) HK.out HD.out).mono ?_
   rintro e wA ⟨rfl, hb⟩
   have HB := Lib.hid (st_call HB0.out hb)
   rw [hm]
   clear hb
   go_wp2_with fail
   refine bodyPost_ret (v := encV8 s) ?_ rfl ⟨rfl, HB.out⟩
   rw [HV.out]
   simp [results, Tryz.f11, go_sem]
 | true =>
   have m := of_mayS hm
   have HV : Hid (encV8 s = .tuple #[.string (ofB (pk s)), .int .i64 0]) := Lib.hid (by unfold encV8; rw [hm]; rfl)
   have H7 : Hid (encV7 s.opts = .tuple #[.string (th s).opts, .int .i64 0]) := Lib.hid (if_pos (of_may m.opts))
   have h40 : (th s).opts.size ≤ 40 := (th_may m).most
   have hfew := m.few
   have H6 : Hid (encV6 s.sip s.dip (th s) s.data = .tuple #[.string (ofB (seg s.sip s.dip (th s) (bz s.data))), .int .i64 0]) := Lib.hid (encV6_ok (th_may m) (by omega))
   have hsg : (ofB (seg s.sip s.dip (th s) (bz s.data))).size = 20 + (th s).opts.size + s.data.size := by rw [ofB_size, seg_len, bz_len]
   have H5 : Hid (encV (ihd s) (ofB (seg s.sip s.dip (th s) (bz s.data))) = .tuple #[.string (ofB (pk s)), .int .i64 0]) := Lib.hid (by
     unfold encV
     rw [if_pos (by omega), bz_ofB (sg_le HK.out m)]
     rfl)
   have T5 := Lib.hid (fun W => IpP.encP (ihd s) (ofB (seg s.sip s.dip (th s) (bz s.data))) W (ihd_ok HK.out) (by omega))
   have T6 := Lib.hid (fun W => TcpP.encP6 s.sip s.dip (th s) s.data W HK.out.sip HK.out.dip (th_ok HK.out) (by omega) (by omega))
   rw [H5.out] at T5
   rw [H6.out] at T6
   generalize ofB (seg s.sip s.dip (th s) (bz s.data)) = L at T5 T6
   generalize ofB (pk s) = P at T5 HV
   have ev : tv (th s) = .agg #[.int .u16 (s.sport : Int), .int .u16 (s.dport : Int), .int .u32 (s.seq : Int), .int .u32 (s.ack : Int), .int .u8 (s.flags : Int), .int .u16 (s.win : Int), .int .u16 0, .string (th s).opts] := rfl
   rw [ev] at T6
   have eh : hv (ihd s) = .agg #[.int .u32 (s.sip : Int), .int .u32 (s.dip : Int), .int .u8 6, .int .u8 64, .int .u8 0, .int .u16 0, .bool true] := rfl
   rw [eh] at T5
   generalize (th s).opts = O at H7 T6
   clear H5 H6 hsg h40 hfew m ev eh
   go_enter Tryz.func11, Tryz.ntmps11
   go_wp2_with fail
   refine (PktMayP.mayP8 s A c _ (HBK.out _ (Below.refl _ _)) HK.out HD.out).mono ?_
   rintro e wA ⟨rfl, hb⟩
   have HB := Lib.hid (st_call HB0.out hb)
   have HA := Lib.hid hb
   rw [hm]
   have x8 : wA.cell? ⟨w.heap.size, 8, none⟩ = some (.int .u16 (s.opts.mss : Int)) := HX.out _ HA.out 8 _ rfl
   have x9 : wA.cell? ⟨w.heap.size, 9, none⟩ = some (.int .i64 s.opts.scale) := HX.out _ HA.out 9 _ rfl
   have x10 : wA.cell? ⟨w.heap.size, 10, none⟩ = some (.bool s.opts.sack) := HX.out _ HA.out 10 _ rfl
   have x11 : wA.cell? ⟨w.heap.size, 11, none⟩ = some (.slice A s.opts.blocks.length c) := HX.out _ HA.out 11 _ rfl
   have x12 : wA.cell? ⟨w.heap.size, 12, none⟩ = some (.bool s.opts.time) := HX.out _ HA.out 12 _ rfl
   have x13 : wA.cell? ⟨w.heap.size, 13, none⟩ = some (.int .u32 (s.opts.val : Int)) := HX.out _ HA.out 13 _ rfl
   have x14 : wA.cell? ⟨w.heap.size, 14, none⟩ = some (.int .u32 (s.opts.echo : Int)) := HX.out _ HA.out 14 _ rfl
   clear hb
   go_wp2_with fail
   refine (OptP.encP7 s.opts A c _ (HBK.out _ HA.out) HK.out.opts).mono ?_
   rintro e wB ⟨rfl, hb⟩
   have HB2 := Lib.hid (st_call HB.out hb)
   have HA2 := Lib.hid (st_call HA.out hb)
   rw [H7.out]
   clear hb x8 x9 x10 x11 x12 x13 x14
   have y0 : wB.cell? ⟨w.heap.size, 0, none⟩ = some (.int .u32 (s.sip : Int)) := HX.out _ HA2.out 0 _ rfl
   have y1 : wB.cell? ⟨w.heap.size, 1, none⟩ = some (.int .u16 (s.sport : Int)) := HX.out _ HA2.out 1 _ rfl
   have y2 : wB.cell? ⟨w.heap.size, 2, none⟩ = some (.int .u32 (s.dip : Int)) := HX.out _ HA2.out 2 _ rfl
   have y3 : wB.cell? ⟨w.heap.size, 3, none⟩ = some (.int .u16 (s.dport : Int)) := HX.out _ HA2.out 3 _ rfl
   have y4 : wB.cell? ⟨w.heap.size, 4, none⟩ = some (.int .u32 (s.seq : Int)) := HX.out _ HA2.out 4 _ rfl
   have y5 : wB.cell? ⟨w.heap.size, 5, none⟩ = some (.int .u32 (s.ack : Int)) := HX.out _ HA2.out 5 _ rfl
   have y6 : wB.cell? ⟨w.heap.size, 6, none⟩ = some (.int .u8 (s.flags : Int)) := HX.out _ HA2.out 6 _ rfl
   have y7 : wB.cell? ⟨w.heap.size, 7, none⟩ = some (.int .u16 (s.win : Int)) := HX.out _ HA2.out 7 _ rfl
   have y15 : wB.cell? ⟨w.heap.size, 15, none⟩ = some (.string s.data) := HX.out _ HA2.out 15 _ rfl
   go_wp2_with fail
   refine (T6.out _).mono ?_
   rintro e wC ⟨rfl, hb⟩
   have HB3 := Lib.hid (st_call HB2.out hb)
   have HA3 := Lib.hid (st_call HA2.out hb)
   clear hb y0 y1 y2 y3 y4 y5 y6 y7 y15
   have z0 : wC.cell? ⟨w.heap.size, 0, none⟩ = some (.int .u32 (s.sip : Int)) := HX.out _ HA3.out 0 _ rfl
   have z2 : wC.cell? ⟨w.heap.size, 2, none⟩ = some (.int .u32 (s.dip : Int)) := HX.out _ HA3.out 2 _ rfl
   go_wp2_with fail
   refine (T5.out _).mono ?_
   rintro e wD ⟨rfl, hb⟩
   have HB4 := Lib.hid (st_call HB3.out hb)
   clear hb z0 z2
   go_wp2_with fail
   refine bodyPost_ret (v := encV8 s) ?_ rfl ⟨rfl, HB4.out⟩
   rw [HV.out]
   simp [results, Tryz.f11, go_sem]
end Go.Proofs.YtpmnmnflaijaaaaGreat.PktEncP
namespace Go.Proofs.YtpmnmnflaijaaaaGreat.PktSameP
open Go.Proofs.YtpmnmnflaijaaaaGreat.Own
open Go.RowKit TupMath SumMath Litb Calm Rel RelT RelK IpMath IpRef OptMath OptRef OptPlc OptSame Boxes OptMay PktMath PktVal PktSmall PktCom
set_option linter.unusedVariables false
set_option linter.unusedSimpArgs false
set_option maxRecDepth 100000
attribute [local go_sem] Oper.semAt_some
set_option maxHeartbeats 16000000 in
theorem sameP8 (s t : Sg) (A : Option Addr) (c : Nat) (Q : Option Addr) (q : Nat) (w : World) (hA : BlkR w A s.opts.blocks) (hQ : BlkR w Q t.opts.blocks) (lA : s.opts.blocks.length ≤ 1000000) (lQ : t.opts.blocks.length ≤ 1000000) :
   Calls Tryz.prog 15 #[sv s A c, sv t Q q] w fun e w' => e = .returned (.bool (sameS s t)) ∧ Below w.heap.size w w' := by
 have HBE := Lib.hid (st_alloc (st_alloc (Below.refl _ w) (.cells (sc s A c) 30)) (.cells (sc t Q q) 30))
 have HA := Lib.hid (hA.more HBE.out)
 have HQ := Lib.hid (hQ.more HBE.out)
 have HZ : Hid (((w.alloc (.cells (sc s A c) 30)).alloc (.cells (sc t Q q) 30)).heap.size = w.heap.size + 2) := Lib.hid (by simp)
 have HX := Lib.hid (fun (j : Nat) (v : Value) (hv : (sc s A c)[j]? = some v) => ((((Below.refl _ _).alloc (Nat.le_refl _) (.cells (sc t Q q) 30)).cell (p := ⟨w.heap.size, j, none⟩) (by simp)).trans (World.cell?_alloc_mark w (sc s A c) 30 (0, 0) j)).trans hv)
 have HY := Lib.hid (fun (j : Nat) (v : Value) (hv : (sc t Q q)[j]? = some v) => by
   have h := (World.cell?_alloc_mark (w.alloc (.cells (sc s A c) 30)) (sc t Q q) 30 (0, 0) j).trans hv
   rw [World.size_alloc] at h
   exact h)
 clear hA hQ
 by_cases c0 : s.sip = t.sip
 rotate_left
 · rw [sameS_no (s := s) (t := t) (fun e => c0 (by rw [e]))]
   have q0 : ((s.sip : Int) == (t.sip : Int)) = false := beq_eq_false_iff_ne.2 (by omega)
   clear c0
   go_enter Tryz.func15, Tryz.ntmps15
   go_wp2_with fail
   go_ret
   exact ⟨rfl, st_alloc (st_alloc (Below.refl _ _) _) _⟩
 have q0 : ((s.sip : Int) == (t.sip : Int)) = true := beq_iff_eq.2 (by omega)
 by_cases c1 : s.sport = t.sport
 rotate_left
 · rw [sameS_no (s := s) (t := t) (fun e => c1 (by rw [e]))]
   have q1 : ((s.sport : Int) == (t.sport : Int)) = false := beq_eq_false_iff_ne.2 (by omega)
   clear c1
   go_enter Tryz.func15, Tryz.ntmps15
   go_wp2_with fail
   go_ret
   exact ⟨rfl, st_alloc (st_alloc (Below.refl _ _) _) _⟩
 have q1 : ((s.sport : Int) == (t.sport : Int)) = true := beq_iff_eq.2 (by omega)
 by_cases c2 : s.dip = t.dip
 rotate_left
 · rw [sameS_no (s := s) (t := t) (fun e => c2 (by rw [e]))]
   have q2 : ((s.dip : Int) == (t.dip : Int)) = false := beq_eq_false_iff_ne.2 (by omega)
   clear c2
   go_enter Tryz.func15, Tryz.ntmps15
   go_wp2_with fail
   go_ret
   exact ⟨rfl, st_alloc (st_alloc (Below.refl _ _) _) _⟩
 have q2 : ((s.dip : Int) == (t.dip : Int)) = true := beq_iff_eq.2 (by omega)
 by_cases c3 : s.dport = t.dport
 rotate_left
 · rw [sameS_no (s := s) (t := t) (fun e => c3 (by rw [e]))]
   have q3 : ((s.dport : Int) == (t.dport : Int)) = false := beq_eq_false_iff_ne.2 (by omega)
   clear c3
   go_enter Tryz.func15, Tryz.ntmps15
   go_wp2_with fail
   go_ret
   exact ⟨rfl, st_alloc (st_alloc (Below.refl _ _) _) _⟩
 have q3 : ((s.dport : Int) == (t.dport : Int)) = true := beq_iff_eq.2 (by omega)
 by_cases c4 : s.seq = t.seq
 rotate_left
 · rw [sameS_no (s := s) (t := t) (fun e => c4 (by rw [e]))]
   have q4 : ((s.seq : Int) == (t.seq : Int)) = false := beq_eq_false_iff_ne.2 (by omega)
   clear c4
   go_enter Tryz.func15, Tryz.ntmps15
   go_wp2_with fail
   go_ret
   exact ⟨rfl, st_alloc (st_alloc (Below.refl _ _) _) _⟩
 have q4 : ((s.seq : Int) == (t.seq : Int)) = true := beq_iff_eq.2 (by omega)
 by_cases c5 : s.ack = t.ack
 rotate_left
 · rw [sameS_no (s := s) (t := t) (fun e => c5 (by rw [e]))]
   have q5 : ((s.ack : Int) == (t.ack : Int)) = false := beq_eq_false_iff_ne.2 (by omega)
   clear c5
   go_enter Tryz.func15, Tryz.ntmps15
   go_wp2_with fail
   go_ret
   exact ⟨rfl, st_alloc (st_alloc (Below.refl _ _) _) _⟩
 have q5 : ((s.ack : Int) == (t.ack : Int)) = true := beq_iff_eq.2 (by omega)
 by_cases c6 : s.flags = t.flags
 rotate_left
 · rw [sameS_no (s := s) (t := t) (fun e => c6 (by rw [e]))]
   have q6 : ((s.flags : Int) == (t.flags : Int)) = false := beq_eq_false_iff_ne.2 (by omega)
   clear c6
   go_enter Tryz.func15, Tryz.ntmps15
   go_wp2_with fail
   go_ret
   exact ⟨rfl, st_alloc (st_alloc (Below.refl _ _) _) _⟩
 have q6 : ((s.flags : Int) == (t.flags : Int)) = true := beq_iff_eq.2 (by omega)
 by_cases c7 : s.win = t.win
 rotate_left
 · rw [sameS_no (s := s) (t := t) (fun e => c7 (by rw [e]))]
   have q7 : ((s.win : Int) == (t.win : Int)) = false := beq_eq_false_iff_ne.2 (by omega)
   clear c7
   go_enter Tryz.func15, Tryz.ntmps15
   go_wp2_with fail
   go_ret
   exact ⟨rfl, st_alloc (st_alloc (Below.refl _ _) _) _⟩
 have q7 : ((s.win : Int) == (t.win : Int)) = true := beq_iff_eq.2 (by omega)
 have HC := Lib.hid (And.intro c0 (And.intro c1 (And.intro c2 (And.intro c3 (And.intro c4 (And.intro c5 (And.intro c6 c7)))))))
 have HM : Hid (s.opts = t.opts → s.data = t.data → sameS s t = true) := Lib.hid (fun h1 h2 => sameS_yes (by
   obtain ⟨a1, a2, a3, a4, a5, a6, a7, a8, a9, a10⟩ := s
   obtain ⟨b1, b2, b3, b4, b5, b6, b7, b8, b9, b10⟩ := t
   simp only at c0 c1 c2 c3 c4 c5 c6 c7 h1 h2
   subst c0 c1 c2 c3 c4 c5 c6 c7 h1 h2
   rfl))
 clear c0 c1 c2 c3 c4 c5 c6 c7 HC
 have x8 : ((w.alloc (.cells (sc s A c) 30)).alloc (.cells (sc t Q q) 30)).cell? ⟨w.heap.size, 8, none⟩ = some (.int .u16 (s.opts.mss : Int)) := HX.out 8 _ rfl
 have x9 : ((w.alloc (.cells (sc s A c) 30)).alloc (.cells (sc t Q q) 30)).cell? ⟨w.heap.size, 9, none⟩ = some (.int .i64 s.opts.scale) := HX.out 9 _ rfl
 have x10 : ((w.alloc (.cells (sc s A c) 30)).alloc (.cells (sc t Q q) 30)).cell? ⟨w.heap.size, 10, none⟩ = some (.bool s.opts.sack) := HX.out 10 _ rfl
 have x11 : ((w.alloc (.cells (sc s A c) 30)).alloc (.cells (sc t Q q) 30)).cell? ⟨w.heap.size, 11, none⟩ = some (.slice A s.opts.blocks.length c) := HX.out 11 _ rfl
 have x12 : ((w.alloc (.cells (sc s A c) 30)).alloc (.cells (sc t Q q) 30)).cell? ⟨w.heap.size, 12, none⟩ = some (.bool s.opts.time) := HX.out 12 _ rfl
 have x13 : ((w.alloc (.cells (sc s A c) 30)).alloc (.cells (sc t Q q) 30)).cell? ⟨w.heap.size, 13, none⟩ = some (.int .u32 (s.opts.val : Int)) := HX.out 13 _ rfl
 have x14 : ((w.alloc (.cells (sc s A c) 30)).alloc (.cells (sc t Q q) 30)).cell? ⟨w.heap.size, 14, none⟩ = some (.int .u32 (s.opts.echo : Int)) := HX.out 14 _ rfl
 have y8 : ((w.alloc (.cells (sc s A c) 30)).alloc (.cells (sc t Q q) 30)).cell? ⟨w.heap.size + 1, 8, none⟩ = some (.int .u16 (t.opts.mss : Int)) := HY.out 8 _ rfl
 have y9 : ((w.alloc (.cells (sc s A c) 30)).alloc (.cells (sc t Q q) 30)).cell? ⟨w.heap.size + 1, 9, none⟩ = some (.int .i64 t.opts.scale) := HY.out 9 _ rfl
 have y10 : ((w.alloc (.cells (sc s A c) 30)).alloc (.cells (sc t Q q) 30)).cell? ⟨w.heap.size + 1, 10, none⟩ = some (.bool t.opts.sack) := HY.out 10 _ rfl
 have y11 : ((w.alloc (.cells (sc s A c) 30)).alloc (.cells (sc t Q q) 30)).cell? ⟨w.heap.size + 1, 11, none⟩ = some (.slice Q t.opts.blocks.length q) := HY.out 11 _ rfl
 have y12 : ((w.alloc (.cells (sc s A c) 30)).alloc (.cells (sc t Q q) 30)).cell? ⟨w.heap.size + 1, 12, none⟩ = some (.bool t.opts.time) := HY.out 12 _ rfl
 have y13 : ((w.alloc (.cells (sc s A c) 30)).alloc (.cells (sc t Q q) 30)).cell? ⟨w.heap.size + 1, 13, none⟩ = some (.int .u32 (t.opts.val : Int)) := HY.out 13 _ rfl
 have y14 : ((w.alloc (.cells (sc s A c) 30)).alloc (.cells (sc t Q q) 30)).cell? ⟨w.heap.size + 1, 14, none⟩ = some (.int .u32 (t.opts.echo : Int)) := HY.out 14 _ rfl
 have z := HZ.out
 go_enter Tryz.func15, Tryz.ntmps15
 go_wp2_with fail
 refine (OptP.sameP s.opts t.opts A c Q q _ HA.out HQ.out lA lQ).mono ?_
 rintro e wB ⟨rfl, hb⟩
 have HB2 := Lib.hid (st_call HBE.out hb)
 have u15 : wB.cell? ⟨w.heap.size, 15, none⟩ = some (.string s.data) := (hb.cell (p := ⟨w.heap.size, 15, none⟩) (by rw [HZ.out]; show w.heap.size < w.heap.size + 2; omega)).trans (HX.out 15 _ rfl)
 have v15 : wB.cell? ⟨w.heap.size + 1, 15, none⟩ = some (.string t.data) := (hb.cell (p := ⟨w.heap.size + 1, 15, none⟩) (by rw [HZ.out]; show w.heap.size + 1 < w.heap.size + 2; omega)).trans (HY.out 15 _ rfl)
 clear hb x8 x9 x10 x11 x12 x13 x14 y8 y9 y10 y11 y12 y13 y14
 by_cases co : s.opts = t.opts
 · rw [decide_eq_true co]
   by_cases cd : s.data = t.data
   · have HV := Lib.hid (HM.out co cd)
     have hq : (s.data.toList == t.data.toList) = true := by rw [cd]; exact beq_self_eq_true _
     clear co cd HM
     go_wp2_with fail
     go_ret
     exact ⟨by rw [HV.out]; rfl, HB2.out⟩
   · have HV := Lib.hid (sameS_no (s := s) (t := t) (fun e => cd (by rw [e])))
     have hq : (s.data.toList == t.data.toList) = false := bytes_ne cd
     clear co cd HM
     go_wp2_with fail
     go_ret
     exact ⟨by rw [HV.out]; rfl, HB2.out⟩
 · have HV := Lib.hid (sameS_no (s := s) (t := t) (fun e => co (by rw [e])))
   rw [decide_eq_false co]
   clear co HM
   go_wp2_with fail
   go_ret
   exact ⟨by rw [HV.out]; rfl, HB2.out⟩
end Go.Proofs.YtpmnmnflaijaaaaGreat.PktSameP
