/-
  Laws for a proof of package pkt: 2 texts in one.
-/
import Derived.Test.YtpmnmnflaijaaaaQPktNx2
import Derived.Test.YtpmnmnflaijaaaaQPktOp7
import Derived.Test.YtpmnmnflaijaaaaQOptP2
import Derived.Test.YtpmnmnflaijaaaaQTcpSummed2
import Derived.Test.YtpmnmnflaijaaaaQIpD2
import Derived.Test.YtpmnmnflaijaaaaQTcpRef4
import Derived.Test.YtpmnmnflaijaaaaQTcpEnc2
namespace Go.Proofs.Ytpmnmnflaijaaaa.PktMayP
open Go.Proofs.Ytpmnmnflaijaaaa.Own
open Go.RowKit TupMath SumMath Litb Calm Rel RelT RelK IpMath IpRef OptMath OptRef OptPlc OptSame Boxes OptMay PktMath PktVal PktSmall PktCom
set_option linter.unusedVariables false
set_option linter.unusedSimpArgs false
set_option maxRecDepth 100000
attribute [local go_sem] Oper.semAt_some

set_option maxHeartbeats 8000000 in
theorem mayP8 (s : Sg) (A : Option Addr) (c : Nat) (w : World) (hbk : BlkR w A s.opts.blocks) (k : s.ok) (hd : s.data.size ≤ maxLen) :
    Calls Try.prog 12 #[sv s A c] w fun e w' => e = .returned (.bool (mayS s)) ∧ Below w.heap.size w w' := by
  have kf := k.flags
  have HD : Hid (s.data.size ≤ 9223372036854775807) := Lib.hid (Nat.le_trans hd (by decide))
  have HX := Lib.hid (fun (W : World) (hW : Below (w.alloc (.cells (sc s A c) 30)).heap.size (w.alloc (.cells (sc s A c) 30)) W) (j : Nat) (v : Value) (hv : (sc s A c)[j]? = some v) => ((hW.cell (p := ⟨w.heap.size, j, none⟩) (by simp)).trans (World.cell?_alloc_mark w _ _ (0, 0) j)).trans hv)
  have HBK := Lib.hid (fun (W : World) (hW : Below (w.alloc (.cells (sc s A c) 30)).heap.size (w.alloc (.cells (sc s A c) 30)) W) => (hbk.more (st_alloc (Below.refl _ w) (.cells (sc s A c) 30))).more hW)
  have HB0 := Lib.hid (st_alloc (Below.refl _ w) (.cells (sc s A c) 30))
  have HK := Lib.hid k.opts
  clear hbk
  cases hf : flg s.flags with
  | false =>
    have HV : Hid (mayS s = false) := Lib.hid (by unfold mayS; rw [hf]; rfl)
    go_enter Try.func12, Try.ntmps12
    go_wp2_with fail
    refine (PktP1.flagsP s.flags _ kf).mono ?_
    rintro e wA ⟨rfl, hb⟩
    have HB := Lib.hid (st_call HB0.out hb)
    rw [hf]
    clear hb
    go_wp2_with fail
    go_ret
    exact ⟨by rw [HV.out]; rfl, HB.out⟩
  | true =>
    go_enter Try.func12, Try.ntmps12
    go_wp2_with fail
    refine (PktP1.flagsP s.flags _ kf).mono ?_
    rintro e wA ⟨rfl, hb⟩
    have HB := Lib.hid (st_call HB0.out hb)
    have HA := Lib.hid hb
    rw [hf]
    have x8 : wA.cell? ⟨w.heap.size, 8, none⟩ = some (.int .u16 (s.opts.mss : Int)) := HX.out _ HA.out 8 _ rfl
    have x9 : wA.cell? ⟨w.heap.size, 9, none⟩ = some (.int .i64 s.opts.scale) := HX.out _ HA.out 9 _ rfl
    have x10 : wA.cell? ⟨w.heap.size, 10, none⟩ = some (.bool s.opts.sack) := HX.out _ HA.out 10 _ rfl
    have x11 : wA.cell? ⟨w.heap.size, 11, none⟩ = some (.slice A s.opts.blocks.length c) := HX.out _ HA.out 11 _ rfl
    have x12 : wA.cell? ⟨w.heap.size, 12, none⟩ = some (.bool s.opts.time) := HX.out _ HA.out 12 _ rfl
    have x13 : wA.cell? ⟨w.heap.size, 13, none⟩ = some (.int .u32 (s.opts.val : Int)) := HX.out _ HA.out 13 _ rfl
    have x14 : wA.cell? ⟨w.heap.size, 14, none⟩ = some (.int .u32 (s.opts.echo : Int)) := HX.out _ HA.out 14 _ rfl
    clear hb
    cases hm : mayO s.opts with
    | false =>
      have HV : Hid (mayS s = false) := Lib.hid (by unfold mayS; rw [hf, hm]; rfl)
      go_wp2_with fail
      refine (OptP.mayP s.opts A c _ (HBK.out _ HA.out) HK.out).mono ?_
      rintro e wB ⟨rfl, hb⟩
      have HB2 := Lib.hid (st_call HB.out hb)
      rw [hm]
      clear hb x8 x9 x10 x11 x12 x13 x14
      go_wp2_with fail
      go_ret
      exact ⟨by rw [HV.out]; rfl, HB2.out⟩
    | true =>
      have HV : Hid (mayS s = decide (s.data.size ≤ 1460)) := Lib.hid (by unfold mayS; rw [hf, hm]; rfl)
      go_wp2_with fail
      refine (OptP.mayP s.opts A c _ (HBK.out _ HA.out) HK.out).mono ?_
      rintro e wB ⟨rfl, hb⟩
      have HB2 := Lib.hid (st_call HB.out hb)
      have y15 : wB.cell? ⟨w.heap.size, 15, none⟩ = some (.string s.data) := HX.out _ (st_call HA.out hb) 15 _ rfl
      rw [hm]
      have hd2 := HD.out
      clear hb x8 x9 x10 x11 x12 x13 x14
      go_wp2_with fail
      go_ret
      exact ⟨by rw [HV.out]; exact congrArg (fun b => Ending.returned (.bool b)) (decide_eq_decide.2 (by omega)), HB2.out⟩
end Go.Proofs.Ytpmnmnflaijaaaa.PktMayP

namespace Go.Proofs.Ytpmnmnflaijaaaa.PktEncP
open Go.Proofs.Ytpmnmnflaijaaaa.Own
open Go.RowKit TupMath SumMath Litb Calm Rel RelT RelK IpMath IpRef OptMath OptRef OptPlc OptSame Boxes OptMay PktMath PktVal PktSmall PktCom IpHead IpEnc TcpMath TcpRef TcpEnc
set_option linter.unusedVariables false
set_option linter.unusedSimpArgs false
set_option maxRecDepth 100000
attribute [local go_sem] Oper.semAt_some

set_option maxHeartbeats 16000000 in
theorem encP8 (s : Sg) (A : Option Addr) (c : Nat) (w : World) (hbk : BlkR w A s.opts.blocks) (k : s.ok) (hd : s.data.size ≤ maxLen) :
    Calls Try.prog 10 #[sv s A c] w fun e w' => e = .returned (encV8 s) ∧ Below w.heap.size w w' := by
  have HD : Hid (s.data.size ≤ maxLen) := Lib.hid hd
  have HX := Lib.hid (fun (W : World) (hW : Below (w.alloc (.cells (sc s A c) 30)).heap.size (w.alloc (.cells (sc s A c) 30)) W) (j : Nat) (v : Value) (hv : (sc s A c)[j]? = some v) => ((hW.cell (p := ⟨w.heap.size, j, none⟩) (by simp)).trans (World.cell?_alloc_mark w _ _ (0, 0) j)).trans hv)
  have HBK := Lib.hid (fun (W : World) (hW : Below (w.alloc (.cells (sc s A c) 30)).heap.size (w.alloc (.cells (sc s A c) 30)) W) => (hbk.more (st_alloc (Below.refl _ w) (.cells (sc s A c) 30))).more hW)
  have HB0 := Lib.hid (st_alloc (Below.refl _ w) (.cells (sc s A c) 30))
  have HK := Lib.hid k
  clear hbk hd k
  cases hm : mayS s with
  | false =>
    have HV : Hid (encV8 s = .tuple #[.string ⟨#[]⟩, .int .i64 2]) := Lib.hid (by unfold encV8; rw [hm]; rfl)
    go_enter Try.func10, Try.ntmps10
    go_wp2_with fail
    refine (PktMayP.mayP8 s A c _ (HBK.out _ (Below.refl _ _)) HK.out HD.out).mono ?_
    rintro e wA ⟨rfl, hb⟩
    have HB := Lib.hid (st_call HB0.out hb)
    rw [hm]
    clear hb
    go_wp2_with fail
    refine bodyPost_ret (v := encV8 s) ?_ rfl ⟨rfl, HB.out⟩
    rw [HV.out]
    simp [results, Try.f10, go_sem]
  | true =>
    have m := of_mayS hm
    have HV : Hid (encV8 s = .tuple #[.string (ofB (pk s)), .int .i64 0]) := Lib.hid (by unfold encV8; rw [hm]; rfl)
    have H7 : Hid (encV7 s.opts = .tuple #[.string (th s).opts, .int .i64 0]) := Lib.hid (if_pos (of_may m.opts))
    have h40 : (th s).opts.size ≤ 40 := (th_may m).most
    have hfew := m.few
    have H6 : Hid (encV6 s.sip s.dip (th s) s.data = .tuple #[.string (ofB (seg s.sip s.dip (th s) (bz s.data))), .int .i64 0]) := Lib.hid (encV6_ok (th_may m) (by omega))
    have hsg : (ofB (seg s.sip s.dip (th s) (bz s.data))).size = 20 + (th s).opts.size + s.data.size := by rw [ofB_size, seg_len, bz_len]
    have H5 : Hid (encV (ihd s) (ofB (seg s.sip s.dip (th s) (bz s.data))) = .tuple #[.string (ofB (pk s)), .int .i64 0]) := Lib.hid (by
      unfold encV
      rw [if_pos (by omega), bz_ofB (sg_le HK.out m)]
      rfl)
    have T5 := Lib.hid (fun W => IpP.encP (ihd s) (ofB (seg s.sip s.dip (th s) (bz s.data))) W (ihd_ok HK.out) (by omega))
    have T6 := Lib.hid (fun W => TcpP.encP6 s.sip s.dip (th s) s.data W HK.out.sip HK.out.dip (th_ok HK.out) (by omega) (by omega))
    rw [H5.out] at T5
    rw [H6.out] at T6
    generalize ofB (seg s.sip s.dip (th s) (bz s.data)) = L at T5 T6
    generalize ofB (pk s) = P at T5 HV
    have ev : tv (th s) = .agg #[.int .u16 (s.sport : Int), .int .u16 (s.dport : Int), .int .u32 (s.seq : Int), .int .u32 (s.ack : Int), .int .u8 (s.flags : Int), .int .u16 (s.win : Int), .int .u16 0, .string (th s).opts] := rfl
    rw [ev] at T6
    have eh : hv (ihd s) = .agg #[.int .u32 (s.sip : Int), .int .u32 (s.dip : Int), .int .u8 6, .int .u8 64, .int .u8 0, .int .u16 0, .bool true] := rfl
    rw [eh] at T5
    generalize (th s).opts = O at H7 T6
    clear H5 H6 hsg h40 hfew m ev eh
    go_enter Try.func10, Try.ntmps10
    go_wp2_with fail
    refine (PktMayP.mayP8 s A c _ (HBK.out _ (Below.refl _ _)) HK.out HD.out).mono ?_
    rintro e wA ⟨rfl, hb⟩
    have HB := Lib.hid (st_call HB0.out hb)
    have HA := Lib.hid hb
    rw [hm]
    have x8 : wA.cell? ⟨w.heap.size, 8, none⟩ = some (.int .u16 (s.opts.mss : Int)) := HX.out _ HA.out 8 _ rfl
    have x9 : wA.cell? ⟨w.heap.size, 9, none⟩ = some (.int .i64 s.opts.scale) := HX.out _ HA.out 9 _ rfl
    have x10 : wA.cell? ⟨w.heap.size, 10, none⟩ = some (.bool s.opts.sack) := HX.out _ HA.out 10 _ rfl
    have x11 : wA.cell? ⟨w.heap.size, 11, none⟩ = some (.slice A s.opts.blocks.length c) := HX.out _ HA.out 11 _ rfl
    have x12 : wA.cell? ⟨w.heap.size, 12, none⟩ = some (.bool s.opts.time) := HX.out _ HA.out 12 _ rfl
    have x13 : wA.cell? ⟨w.heap.size, 13, none⟩ = some (.int .u32 (s.opts.val : Int)) := HX.out _ HA.out 13 _ rfl
    have x14 : wA.cell? ⟨w.heap.size, 14, none⟩ = some (.int .u32 (s.opts.echo : Int)) := HX.out _ HA.out 14 _ rfl
    clear hb
    go_wp2_with fail
    refine (OptP.encP7 s.opts A c _ (HBK.out _ HA.out) HK.out.opts).mono ?_
    rintro e wB ⟨rfl, hb⟩
    have HB2 := Lib.hid (st_call HB.out hb)
    have HA2 := Lib.hid (st_call HA.out hb)
    rw [H7.out]
    clear hb x8 x9 x10 x11 x12 x13 x14
    have y0 : wB.cell? ⟨w.heap.size, 0, none⟩ = some (.int .u32 (s.sip : Int)) := HX.out _ HA2.out 0 _ rfl
    have y1 : wB.cell? ⟨w.heap.size, 1, none⟩ = some (.int .u16 (s.sport : Int)) := HX.out _ HA2.out 1 _ rfl
    have y2 : wB.cell? ⟨w.heap.size, 2, none⟩ = some (.int .u32 (s.dip : Int)) := HX.out _ HA2.out 2 _ rfl
    have y3 : wB.cell? ⟨w.heap.size, 3, none⟩ = some (.int .u16 (s.dport : Int)) := HX.out _ HA2.out 3 _ rfl
    have y4 : wB.cell? ⟨w.heap.size, 4, none⟩ = some (.int .u32 (s.seq : Int)) := HX.out _ HA2.out 4 _ rfl
    have y5 : wB.cell? ⟨w.heap.size, 5, none⟩ = some (.int .u32 (s.ack : Int)) := HX.out _ HA2.out 5 _ rfl
    have y6 : wB.cell? ⟨w.heap.size, 6, none⟩ = some (.int .u8 (s.flags : Int)) := HX.out _ HA2.out 6 _ rfl
    have y7 : wB.cell? ⟨w.heap.size, 7, none⟩ = some (.int .u16 (s.win : Int)) := HX.out _ HA2.out 7 _ rfl
    have y15 : wB.cell? ⟨w.heap.size, 15, none⟩ = some (.string s.data) := HX.out _ HA2.out 15 _ rfl
    go_wp2_with fail
    refine (T6.out _).mono ?_
    rintro e wC ⟨rfl, hb⟩
    have HB3 := Lib.hid (st_call HB2.out hb)
    have HA3 := Lib.hid (st_call HA2.out hb)
    clear hb y0 y1 y2 y3 y4 y5 y6 y7 y15
    have z0 : wC.cell? ⟨w.heap.size, 0, none⟩ = some (.int .u32 (s.sip : Int)) := HX.out _ HA3.out 0 _ rfl
    have z2 : wC.cell? ⟨w.heap.size, 2, none⟩ = some (.int .u32 (s.dip : Int)) := HX.out _ HA3.out 2 _ rfl
    go_wp2_with fail
    refine (T5.out _).mono ?_
    rintro e wD ⟨rfl, hb⟩
    have HB4 := Lib.hid (st_call HB3.out hb)
    clear hb z0 z2
    go_wp2_with fail
    refine bodyPost_ret (v := encV8 s) ?_ rfl ⟨rfl, HB4.out⟩
    rw [HV.out]
    simp [results, Try.f10, go_sem]
end Go.Proofs.Ytpmnmnflaijaaaa.PktEncP
