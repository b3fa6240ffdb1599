/-
  Laws for a proof of package pkt: 1 texts in one.
-/
import Derived.Test.YtpmnmnflaijaaaaQPktNx2
import Derived.Test.YtpmnmnflaijaaaaQPktDecC1
import Derived.Test.YtpmnmnflaijaaaaQPkt163
import Derived.Test.YtpmnmnflaijaaaaQOptP2
import Derived.Test.YtpmnmnflaijaaaaQIpDD1
import Derived.Test.YtpmnmnflaijaaaaQTcpD1
import Derived.Test.YtpmnmnflaijaaaaQOptDec1
namespace Go.Proofs.Ytpmnmnflaijaaaa.PktDecP
open Go.Proofs.Ytpmnmnflaijaaaa.Own
open Go.RowKit TupMath SumMath Litb Calm Rel RelT RelK IpMath IpRef OptMath OptRef OptPlc OptSame Boxes OptMay PktMath PktVal PktSmall PktCom IpHead IpDec TcpMath TcpRef TcpDec OptTake5 OptTk PktDecC Pkt16
open Cells (CellsAt Apart)
set_option linter.unusedVariables false
set_option linter.unusedSimpArgs false
set_option maxRecDepth 100000
attribute [local go_sem] Oper.semAt_some

set_option maxHeartbeats 16000000 in
theorem decP8_ip (S : ByteArray) (w : World) (hs : S.size ≤ 1000000) (g1 : err (bz S) ≠ 0) : Calls Try.prog 18 #[.string S] w (DecOut8 S w) := by
  have HV := Lib.hid (dec8_ip g1)
  have G1 := Lib.hid g1
  clear g1
  have D0 := Lib.hid (CellsAt.new w #[.int .u32 0, .int .u16 0, .int .u32 0, .int .u16 0, .int .u32 0, .int .u32 0, .int .u8 0, .int .u16 0, .int .u16 0, .int .i64 0, .bool false, .slice none 0 0, .bool false, .int .u32 0, .int .u32 0, .string ⟨#[]⟩] 30)
  have B0 := Lib.hid (st_alloc (Below.refl _ w) (.cells #[.int .u32 0, .int .u16 0, .int .u32 0, .int .u16 0, .int .u32 0, .int .u32 0, .int .u8 0, .int .u16 0, .int .u16 0, .int .i64 0, .bool false, .slice none 0 0, .bool false, .int .u32 0, .int .u32 0, .string ⟨#[]⟩] 30))
  obtain ⟨h, l, n, hV1, -, hn1, hok1⟩ := ipV S
  have T1 := Lib.hid (fun W => IpDD.decP S W hs)
  rw [hV1] at T1
  unfold DecOut8
  go_enter Try.func18, Try.ntmps18
  go_wp2_with fail
  refine (T1.out _).mono ?_
  rintro e wA ⟨rfl, hb⟩
  have BA := Lib.hid (st_alloc (st_call B0.out hb) (.cells #[.int .u32 (h.src : Int), .int .u32 (h.dst : Int), .int .u8 (h.proto : Int), .int .u8 (h.ttl : Int), .int .u8 (h.tos : Int), .int .u16 (h.id : Int), .bool h.df] 62))
  have DA := Lib.hid ((D0.out.later hb).later ((Below.refl _ wA).alloc (Nat.le_refl _) (.cells #[.int .u32 (h.src : Int), .int .u32 (h.dst : Int), .int .u8 (h.proto : Int), .int .u8 (h.ttl : Int), .int .u8 (h.tos : Int), .int .u16 (h.id : Int), .bool h.df] 62)))
  have CA := Lib.hid (CellsAt.new wA #[.int .u32 (h.src : Int), .int .u32 (h.dst : Int), .int .u8 (h.proto : Int), .int .u8 (h.ttl : Int), .int .u8 (h.tos : Int), .int .u16 (h.id : Int), .bool h.df] 62)
  clear hb hV1 T1
  rw [← hn1] at HV
  have c1 := G1.out
  rw [← hn1] at c1
  have q1 : ((n : Int) != 0) = true := bne_iff_ne.2 (by omega)
  clear hok1 hn1
  have d0 := DA.out.cell 0 _ rfl
  have f0 := DA.out.free 0 (by simp)
  have d1 := DA.out.cell 1 _ rfl
  have f1 := DA.out.free 1 (by simp)
  have d2 := DA.out.cell 2 _ rfl
  have f2 := DA.out.free 2 (by simp)
  have d3 := DA.out.cell 3 _ rfl
  have f3 := DA.out.free 3 (by simp)
  have d4 := DA.out.cell 4 _ rfl
  have f4 := DA.out.free 4 (by simp)
  have d5 := DA.out.cell 5 _ rfl
  have f5 := DA.out.free 5 (by simp)
  have d6 := DA.out.cell 6 _ rfl
  have f6 := DA.out.free 6 (by simp)
  have d7 := DA.out.cell 7 _ rfl
  have f7 := DA.out.free 7 (by simp)
  have d8 := DA.out.cell 8 _ rfl
  have f8 := DA.out.free 8 (by simp)
  have d9 := DA.out.cell 9 _ rfl
  have f9 := DA.out.free 9 (by simp)
  have d10 := DA.out.cell 10 _ rfl
  have f10 := DA.out.free 10 (by simp)
  have d11 := DA.out.cell 11 _ rfl
  have f11 := DA.out.free 11 (by simp)
  have d12 := DA.out.cell 12 _ rfl
  have f12 := DA.out.free 12 (by simp)
  have d13 := DA.out.cell 13 _ rfl
  have f13 := DA.out.free 13 (by simp)
  have d14 := DA.out.cell 14 _ rfl
  have f14 := DA.out.free 14 (by simp)
  have d15 := DA.out.cell 15 _ rfl
  have f15 := DA.out.free 15 (by simp)
  have z0 := DA.out.lt
  go_wp2_with fail
  obtain ⟨W9, hW9, hC9, _, hb9⟩ := anew16 DA.out rfl (.int .u32 0) (.int .u16 0) (.int .u32 0) (.int .u16 0) (.int .u32 0) (.int .u32 0) (.int .u8 0) (.int .u16 0) (.int .u16 0) (.int .i64 0) (.bool false) (.slice none 0 0) (.bool false) (.int .u32 0) (.int .u32 0) (.string ⟨#[]⟩)
  rw [hW9]
  clear d0 f0 d1 f1 d2 f2 d3 f3 d4 f4 d5 f5 d6 f6 d7 f7 d8 f8 d9 f9 d10 f10 d11 f11 d12 f12 d13 f13 d14 f14 d15 f15
  have e0 := hC9.cell 0 _ rfl
  have e1 := hC9.cell 1 _ rfl
  have e2 := hC9.cell 2 _ rfl
  have e3 := hC9.cell 3 _ rfl
  have e4 := hC9.cell 4 _ rfl
  have e5 := hC9.cell 5 _ rfl
  have e6 := hC9.cell 6 _ rfl
  have e7 := hC9.cell 7 _ rfl
  have e8 := hC9.cell 8 _ rfl
  have e9 := hC9.cell 9 _ rfl
  have e10 := hC9.cell 10 _ rfl
  have e11 := hC9.cell 11 _ rfl
  have e12 := hC9.cell 12 _ rfl
  have e13 := hC9.cell 13 _ rfl
  have e14 := hC9.cell 14 _ rfl
  have e15 := hC9.cell 15 _ rfl
  have B9 := Lib.hid (BA.out.trans hb9)
  refine bodyPost_ret (v := .tuple #[sv zeroS none 0, .int .i64 (n : Int)]) ?_ rfl ⟨⟨none, 0, by rw [HV.out]; try rfl, by rw [HV.out]; exact Row.nil _ _ _⟩, B9.out⟩
  simp [results, Try.f18, go_sem, zeroS, zeroO, e0, e1, e2, e3, e4, e5, e6, e7, e8, e9, e10, e11, e12, e13, e14, e15]

set_option maxHeartbeats 16000000 in
theorem decP8_proto (S : ByteArray) (w : World) (hs : S.size ≤ 1000000) (g1 : err (bz S) = 0) (g2 : (rd (bz S)).proto ≠ 6) : Calls Try.prog 18 #[.string S] w (DecOut8 S w) := by
  have HV := Lib.hid (dec8_proto g1 g2)
  have G1 := Lib.hid g1
  have G2 := Lib.hid g2
  clear g1 g2
  have D0 := Lib.hid (CellsAt.new w #[.int .u32 0, .int .u16 0, .int .u32 0, .int .u16 0, .int .u32 0, .int .u32 0, .int .u8 0, .int .u16 0, .int .u16 0, .int .i64 0, .bool false, .slice none 0 0, .bool false, .int .u32 0, .int .u32 0, .string ⟨#[]⟩] 30)
  have B0 := Lib.hid (st_alloc (Below.refl _ w) (.cells #[.int .u32 0, .int .u16 0, .int .u32 0, .int .u16 0, .int .u32 0, .int .u32 0, .int .u8 0, .int .u16 0, .int .u16 0, .int .i64 0, .bool false, .slice none 0 0, .bool false, .int .u32 0, .int .u32 0, .string ⟨#[]⟩] 30))
  obtain ⟨h, l, n, hV1, -, hn1, hok1⟩ := ipV S
  have T1 := Lib.hid (fun W => IpDD.decP S W hs)
  rw [hV1] at T1
  unfold DecOut8
  go_enter Try.func18, Try.ntmps18
  go_wp2_with fail
  refine (T1.out _).mono ?_
  rintro e wA ⟨rfl, hb⟩
  have BA := Lib.hid (st_alloc (st_call B0.out hb) (.cells #[.int .u32 (h.src : Int), .int .u32 (h.dst : Int), .int .u8 (h.proto : Int), .int .u8 (h.ttl : Int), .int .u8 (h.tos : Int), .int .u16 (h.id : Int), .bool h.df] 62))
  have DA := Lib.hid ((D0.out.later hb).later ((Below.refl _ wA).alloc (Nat.le_refl _) (.cells #[.int .u32 (h.src : Int), .int .u32 (h.dst : Int), .int .u8 (h.proto : Int), .int .u8 (h.ttl : Int), .int .u8 (h.tos : Int), .int .u16 (h.id : Int), .bool h.df] 62)))
  have CA := Lib.hid (CellsAt.new wA #[.int .u32 (h.src : Int), .int .u32 (h.dst : Int), .int .u8 (h.proto : Int), .int .u8 (h.ttl : Int), .int .u8 (h.tos : Int), .int .u16 (h.id : Int), .bool h.df] 62)
  clear hb hV1 T1
  have c1 : n = 0 := hn1.trans G1.out
  obtain ⟨hh, hl1⟩ := hok1 c1
  clear hok1 hn1
  subst c1
  have q1 : (((0 : Nat) : Int) != 0) = false := rfl
  have c2 := G2.out
  rw [← hh] at c2
  have q2 : ((h.proto : Int) != 6) = true := bne_iff_ne.2 (by omega)
  clear hh hl1 c2
  have d0 := DA.out.cell 0 _ rfl
  have f0 := DA.out.free 0 (by simp)
  have d1 := DA.out.cell 1 _ rfl
  have f1 := DA.out.free 1 (by simp)
  have d2 := DA.out.cell 2 _ rfl
  have f2 := DA.out.free 2 (by simp)
  have d3 := DA.out.cell 3 _ rfl
  have f3 := DA.out.free 3 (by simp)
  have d4 := DA.out.cell 4 _ rfl
  have f4 := DA.out.free 4 (by simp)
  have d5 := DA.out.cell 5 _ rfl
  have f5 := DA.out.free 5 (by simp)
  have d6 := DA.out.cell 6 _ rfl
  have f6 := DA.out.free 6 (by simp)
  have d7 := DA.out.cell 7 _ rfl
  have f7 := DA.out.free 7 (by simp)
  have d8 := DA.out.cell 8 _ rfl
  have f8 := DA.out.free 8 (by simp)
  have d9 := DA.out.cell 9 _ rfl
  have f9 := DA.out.free 9 (by simp)
  have d10 := DA.out.cell 10 _ rfl
  have f10 := DA.out.free 10 (by simp)
  have d11 := DA.out.cell 11 _ rfl
  have f11 := DA.out.free 11 (by simp)
  have d12 := DA.out.cell 12 _ rfl
  have f12 := DA.out.free 12 (by simp)
  have d13 := DA.out.cell 13 _ rfl
  have f13 := DA.out.free 13 (by simp)
  have d14 := DA.out.cell 14 _ rfl
  have f14 := DA.out.free 14 (by simp)
  have d15 := DA.out.cell 15 _ rfl
  have f15 := DA.out.free 15 (by simp)
  have z0 := DA.out.lt
  go_wp2_with fail
  obtain ⟨W9, hW9, hC9, _, hb9⟩ := anew16 DA.out rfl (.int .u32 0) (.int .u16 0) (.int .u32 0) (.int .u16 0) (.int .u32 0) (.int .u32 0) (.int .u8 0) (.int .u16 0) (.int .u16 0) (.int .i64 0) (.bool false) (.slice none 0 0) (.bool false) (.int .u32 0) (.int .u32 0) (.string ⟨#[]⟩)
  rw [hW9]
  clear d0 f0 d1 f1 d2 f2 d3 f3 d4 f4 d5 f5 d6 f6 d7 f7 d8 f8 d9 f9 d10 f10 d11 f11 d12 f12 d13 f13 d14 f14 d15 f15
  have e0 := hC9.cell 0 _ rfl
  have e1 := hC9.cell 1 _ rfl
  have e2 := hC9.cell 2 _ rfl
  have e3 := hC9.cell 3 _ rfl
  have e4 := hC9.cell 4 _ rfl
  have e5 := hC9.cell 5 _ rfl
  have e6 := hC9.cell 6 _ rfl
  have e7 := hC9.cell 7 _ rfl
  have e8 := hC9.cell 8 _ rfl
  have e9 := hC9.cell 9 _ rfl
  have e10 := hC9.cell 10 _ rfl
  have e11 := hC9.cell 11 _ rfl
  have e12 := hC9.cell 12 _ rfl
  have e13 := hC9.cell 13 _ rfl
  have e14 := hC9.cell 14 _ rfl
  have e15 := hC9.cell 15 _ rfl
  have B9 := Lib.hid (BA.out.trans hb9)
  refine bodyPost_ret (v := .tuple #[sv zeroS none 0, .int .i64 80]) ?_ rfl ⟨⟨none, 0, by rw [HV.out]; try rfl, by rw [HV.out]; exact Row.nil _ _ _⟩, B9.out⟩
  simp [results, Try.f18, go_sem, zeroS, zeroO, e0, e1, e2, e3, e4, e5, e6, e7, e8, e9, e10, e11, e12, e13, e14, e15]
end Go.Proofs.Ytpmnmnflaijaaaa.PktDecP
