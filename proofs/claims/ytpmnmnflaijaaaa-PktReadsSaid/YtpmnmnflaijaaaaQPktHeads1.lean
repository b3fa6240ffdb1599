/-
  Laws for a proof of package pkt: 1 texts in one.
-/
import Derived.Test.YtpmnmnflaijaaaaQPktDecC1
import Derived.Test.YtpmnmnflaijaaaaQPkt163
import Derived.Test.YtpmnmnflaijaaaaQIpDec1
import Derived.Test.YtpmnmnflaijaaaaQTcpDec1
import Derived.Test.YtpmnmnflaijaaaaQRelL3
import Derived.BigRegion
namespace Go.Proofs.Ytpmnmnflaijaaaa.PktHeads
open Go.Proofs.Ytpmnmnflaijaaaa.Own
open Go.RowKit TupMath SumMath Litb Calm Rel RelT IpMath IpHead IpRef IpDec TcpMath TcpRef TcpDec OptMath OptSame Boxes PktMath PktVal PktCom PktDecC
open Cells (CellsAt Apart)
set_option linter.unusedVariables false
set_option linter.unusedSimpArgs false
set_option maxRecDepth 100000
attribute [local go_sem] Oper.semAt_some

/-- what heads answers: heads, data, an error -/
def hdsE (S : ByteArray) : Nat := if err (bz S) ≠ 0 then err (bz S) else if (rd (bz S)).proto ≠ 6 then 80 else terr (rd (bz S)).src (rd (bz S)).dst (bz (ld S))
theorem seven {W : World} {b : Nat} (h : CellsAt W b #[.int .u32 0, .int .u32 0, .int .u8 0, .int .u8 0, .int .u8 0, .int .u16 0, .bool false]) (x0 x1 x2 x3 x4 x5 x6 : Value) :
    ∃ W', ((((((W.setCell ⟨b, 0, none⟩ x0).setCell ⟨b, 1, none⟩ x1).setCell ⟨b, 2, none⟩ x2).setCell ⟨b, 3, none⟩ x3).setCell ⟨b, 4, none⟩ x4).setCell ⟨b, 5, none⟩ x5).setCell ⟨b, 6, none⟩ x6 = W' ∧ CellsAt W' b #[x0, x1, x2, x3, x4, x5, x6] ∧ Apart b W W' ∧ Below b W W' := h.anew rfl x0 x1 x2 x3 x4 x5 x6
theorem eight {W : World} {b : Nat} {cs : Array Value} (h : CellsAt W b cs) (hs : cs.size = 8) (x0 x1 x2 x3 x4 x5 x6 x7 : Value) :
    ∃ W', (((((((W.setCell ⟨b, 0, none⟩ x0).setCell ⟨b, 1, none⟩ x1).setCell ⟨b, 2, none⟩ x2).setCell ⟨b, 3, none⟩ x3).setCell ⟨b, 4, none⟩ x4).setCell ⟨b, 5, none⟩ x5).setCell ⟨b, 6, none⟩ x6).setCell ⟨b, 7, none⟩ x7 = W' ∧ CellsAt W' b #[x0, x1, x2, x3, x4, x5, x6, x7] ∧ Apart b W W' ∧ Below b W W' := by
  obtain ⟨W', hW, h1, h2⟩ := set8 W b x0 x1 x2 x3 x4 x5 x6 x7 (fun j hj => h.some_ j (by omega))
  have ha : Apart b W W' := by rw [← hW]; exact (((((((((Apart.refl b W).put 0 x0).put 1 x1).put 2 x2).put 3 x3).put 4 x4).put 5 x5).put 6 x6).put 7 x7)
  refine ⟨W', hW, ⟨Nat.lt_of_lt_of_le h.1 ha.1, fun j v hv => ⟨h1 j v (by simpa using hv), ?_⟩⟩, ha, h2⟩
  have hj : j < 8 := by have := (Array.getElem?_eq_some_iff.1 hv).1; simpa using this
  have hf := h.free j (by omega)
  rw [← hW]
  simpa using hf

set_option maxHeartbeats 8000000 in
theorem heads_ip (S : ByteArray) (w : World) (h : Hd) (l : ByteArray) (n : Nat) (hV : ∀ W, Calls Try.prog 73 #[.string S] W fun e w' => e = .returned (.tuple #[hv h, .string l, .int .i64 (n : Int)]) ∧ Below W.heap.size W w') (c1 : n ≠ 0) :
    Calls Try.prog 39 #[.string S] w fun e w' => e = .returned (.tuple #[hv zero, tv zeroT, .string ⟨#[]⟩, .int .i64 (n : Int)]) ∧ Below w.heap.size w w' := by
  have T1 := Lib.hid hV
  clear hV
  have q1 : ((n : Int) != 0) = true := bne_iff_ne.2 (by omega)
  have D2 := (CellsAt.new w #[.int .u32 0, .int .u32 0, .int .u8 0, .int .u8 0, .int .u8 0, .int .u16 0, .bool false] 62).later ((Below.refl _ (w.alloc (.cells #[.int .u32 0, .int .u32 0, .int .u8 0, .int .u8 0, .int .u8 0, .int .u16 0, .bool false] 62))).alloc (Nat.le_refl _) (.cells #[.int .u16 0, .int .u16 0, .int .u32 0, .int .u32 0, .int .u8 0, .int .u16 0, .int .u16 0, .string ⟨#[]⟩] 59))
  have D3 := CellsAt.new (w.alloc (.cells #[.int .u32 0, .int .u32 0, .int .u8 0, .int .u8 0, .int .u8 0, .int .u16 0, .bool false] 62)) #[.int .u16 0, .int .u16 0, .int .u32 0, .int .u32 0, .int .u8 0, .int .u16 0, .int .u16 0, .string ⟨#[]⟩] 59
  rw [World.size_alloc] at D3
  have B0 := st_alloc (st_alloc (Below.refl _ w) (.cells #[.int .u32 0, .int .u32 0, .int .u8 0, .int .u8 0, .int .u8 0, .int .u16 0, .bool false] 62)) (.cells #[.int .u16 0, .int .u16 0, .int .u32 0, .int .u32 0, .int .u8 0, .int .u16 0, .int .u16 0, .string ⟨#[]⟩] 59)
  have HD2 := Lib.hid D2
  have HD3 := Lib.hid D3
  have HB0 := Lib.hid B0
  clear D2 D3 B0
  go_enter Try.func39, Try.ntmps39
  go_wp2_with fail
  refine (T1.out _).mono ?_
  rintro e wA ⟨rfl, hb⟩
  have BA := Lib.hid (st_alloc (st_call HB0.out hb) (.cells #[.int .u32 (h.src : Int), .int .u32 (h.dst : Int), .int .u8 (h.proto : Int), .int .u8 (h.ttl : Int), .int .u8 (h.tos : Int), .int .u16 (h.id : Int), .bool h.df] 62))
  have DA := Lib.hid ((HD2.out.later hb).later ((Below.refl _ wA).alloc (Nat.le_refl _) (.cells #[.int .u32 (h.src : Int), .int .u32 (h.dst : Int), .int .u8 (h.proto : Int), .int .u8 (h.ttl : Int), .int .u8 (h.tos : Int), .int .u16 (h.id : Int), .bool h.df] 62)))
  have EA := Lib.hid ((HD3.out.later hb).later ((Below.refl _ wA).alloc (Nat.le_refl _) (.cells #[.int .u32 (h.src : Int), .int .u32 (h.dst : Int), .int .u8 (h.proto : Int), .int .u8 (h.ttl : Int), .int .u8 (h.tos : Int), .int .u16 (h.id : Int), .bool h.df] 62)))
  have CA := Lib.hid (CellsAt.new wA #[.int .u32 (h.src : Int), .int .u32 (h.dst : Int), .int .u8 (h.proto : Int), .int .u8 (h.ttl : Int), .int .u8 (h.tos : Int), .int .u16 (h.id : Int), .bool h.df] 62)
  have lA := (HD3.out.later hb).lt
  clear hb T1 HD2 HD3 HB0
  have d0 := DA.out.cell 0 _ rfl
  have f0 := DA.out.free 0 (by simp)
  have d1 := DA.out.cell 1 _ rfl
  have f1 := DA.out.free 1 (by simp)
  have d2 := DA.out.cell 2 _ rfl
  have f2 := DA.out.free 2 (by simp)
  have d3 := DA.out.cell 3 _ rfl
  have f3 := DA.out.free 3 (by simp)
  have d4 := DA.out.cell 4 _ rfl
  have f4 := DA.out.free 4 (by simp)
  have d5 := DA.out.cell 5 _ rfl
  have f5 := DA.out.free 5 (by simp)
  have d6 := DA.out.cell 6 _ rfl
  have f6 := DA.out.free 6 (by simp)
  have u0 := EA.out.cell 0 _ rfl
  have v0 := EA.out.free 0 (by simp)
  have u1 := EA.out.cell 1 _ rfl
  have v1 := EA.out.free 1 (by simp)
  have u2 := EA.out.cell 2 _ rfl
  have v2 := EA.out.free 2 (by simp)
  have u3 := EA.out.cell 3 _ rfl
  have v3 := EA.out.free 3 (by simp)
  have u4 := EA.out.cell 4 _ rfl
  have v4 := EA.out.free 4 (by simp)
  have u5 := EA.out.cell 5 _ rfl
  have v5 := EA.out.free 5 (by simp)
  have u6 := EA.out.cell 6 _ rfl
  have v6 := EA.out.free 6 (by simp)
  have u7 := EA.out.cell 7 _ rfl
  have v7 := EA.out.free 7 (by simp)
  go_wp2_with fail
  obtain ⟨W8, hW8, hC8, hA8, hb8⟩ := DA.out.anew rfl (.int .u32 0) (.int .u32 0) (.int .u8 0) (.int .u8 0) (.int .u8 0) (.int .u16 0) (.bool false)
  rw [hW8]
  obtain ⟨W9, hW9, hC9, hA9, hb9⟩ := eight (EA.out.apart (by omega) hA8) rfl (.int .u16 0) (.int .u16 0) (.int .u32 0) (.int .u32 0) (.int .u8 0) (.int .u16 0) (.int .u16 0) (.string ⟨#[]⟩)
  rw [hW9]
  have C8 := hC8.apart (by omega) hA9
  have e0 := C8.cell 0 _ rfl
  have e1 := C8.cell 1 _ rfl
  have e2 := C8.cell 2 _ rfl
  have e3 := C8.cell 3 _ rfl
  have e4 := C8.cell 4 _ rfl
  have e5 := C8.cell 5 _ rfl
  have e6 := C8.cell 6 _ rfl
  have i0 := hC9.cell 0 _ rfl
  have i1 := hC9.cell 1 _ rfl
  have i2 := hC9.cell 2 _ rfl
  have i3 := hC9.cell 3 _ rfl
  have i4 := hC9.cell 4 _ rfl
  have i5 := hC9.cell 5 _ rfl
  have i6 := hC9.cell 6 _ rfl
  have i7 := hC9.cell 7 _ rfl
  have B9 := Lib.hid ((BA.out.trans hb8).trans (hb9.mono (by omega)))
  refine bodyPost_ret (v := .tuple #[hv zero, tv zeroT, .string ⟨#[]⟩, .int .i64 (n : Int)]) ?_ rfl ⟨by first | rfl | rw [rfl], B9.out⟩
  simp [results, Try.f39, go_sem, zero, zeroT, e0, e1, e2, e3, e4, e5, e6, i0, i1, i2, i3, i4, i5, i6, i7]

set_option maxHeartbeats 8000000 in
theorem heads_proto (S : ByteArray) (w : World) (h : Hd) (l : ByteArray) (hV : ∀ W, Calls Try.prog 73 #[.string S] W fun e w' => e = .returned (.tuple #[hv h, .string l, .int .i64 0]) ∧ Below W.heap.size W w') (c2 : h.proto ≠ 6) :
    Calls Try.prog 39 #[.string S] w fun e w' => e = .returned (.tuple #[hv zero, tv zeroT, .string ⟨#[]⟩, .int .i64 80]) ∧ Below w.heap.size w w' := by
  have T1 := Lib.hid hV
  clear hV
  have q2 : ((h.proto : Int) != 6) = true := bne_iff_ne.2 (by omega)
  clear c2
  have D2 := (CellsAt.new w #[.int .u32 0, .int .u32 0, .int .u8 0, .int .u8 0, .int .u8 0, .int .u16 0, .bool false] 62).later ((Below.refl _ (w.alloc (.cells #[.int .u32 0, .int .u32 0, .int .u8 0, .int .u8 0, .int .u8 0, .int .u16 0, .bool false] 62))).alloc (Nat.le_refl _) (.cells #[.int .u16 0, .int .u16 0, .int .u32 0, .int .u32 0, .int .u8 0, .int .u16 0, .int .u16 0, .string ⟨#[]⟩] 59))
  have D3 := CellsAt.new (w.alloc (.cells #[.int .u32 0, .int .u32 0, .int .u8 0, .int .u8 0, .int .u8 0, .int .u16 0, .bool false] 62)) #[.int .u16 0, .int .u16 0, .int .u32 0, .int .u32 0, .int .u8 0, .int .u16 0, .int .u16 0, .string ⟨#[]⟩] 59
  rw [World.size_alloc] at D3
  have B0 := st_alloc (st_alloc (Below.refl _ w) (.cells #[.int .u32 0, .int .u32 0, .int .u8 0, .int .u8 0, .int .u8 0, .int .u16 0, .bool false] 62)) (.cells #[.int .u16 0, .int .u16 0, .int .u32 0, .int .u32 0, .int .u8 0, .int .u16 0, .int .u16 0, .string ⟨#[]⟩] 59)
  have HD2 := Lib.hid D2
  have HD3 := Lib.hid D3
  have HB0 := Lib.hid B0
  clear D2 D3 B0
  go_enter Try.func39, Try.ntmps39
  go_wp2_with fail
  refine (T1.out _).mono ?_
  rintro e wA ⟨rfl, hb⟩
  have BA := Lib.hid (st_alloc (st_call HB0.out hb) (.cells #[.int .u32 (h.src : Int), .int .u32 (h.dst : Int), .int .u8 (h.proto : Int), .int .u8 (h.ttl : Int), .int .u8 (h.tos : Int), .int .u16 (h.id : Int), .bool h.df] 62))
  have DA := Lib.hid ((HD2.out.later hb).later ((Below.refl _ wA).alloc (Nat.le_refl _) (.cells #[.int .u32 (h.src : Int), .int .u32 (h.dst : Int), .int .u8 (h.proto : Int), .int .u8 (h.ttl : Int), .int .u8 (h.tos : Int), .int .u16 (h.id : Int), .bool h.df] 62)))
  have EA := Lib.hid ((HD3.out.later hb).later ((Below.refl _ wA).alloc (Nat.le_refl _) (.cells #[.int .u32 (h.src : Int), .int .u32 (h.dst : Int), .int .u8 (h.proto : Int), .int .u8 (h.ttl : Int), .int .u8 (h.tos : Int), .int .u16 (h.id : Int), .bool h.df] 62)))
  have CA := Lib.hid (CellsAt.new wA #[.int .u32 (h.src : Int), .int .u32 (h.dst : Int), .int .u8 (h.proto : Int), .int .u8 (h.ttl : Int), .int .u8 (h.tos : Int), .int .u16 (h.id : Int), .bool h.df] 62)
  have lA := (HD3.out.later hb).lt
  clear hb T1 HD2 HD3 HB0
  have d0 := DA.out.cell 0 _ rfl
  have f0 := DA.out.free 0 (by simp)
  have d1 := DA.out.cell 1 _ rfl
  have f1 := DA.out.free 1 (by simp)
  have d2 := DA.out.cell 2 _ rfl
  have f2 := DA.out.free 2 (by simp)
  have d3 := DA.out.cell 3 _ rfl
  have f3 := DA.out.free 3 (by simp)
  have d4 := DA.out.cell 4 _ rfl
  have f4 := DA.out.free 4 (by simp)
  have d5 := DA.out.cell 5 _ rfl
  have f5 := DA.out.free 5 (by simp)
  have d6 := DA.out.cell 6 _ rfl
  have f6 := DA.out.free 6 (by simp)
  have u0 := EA.out.cell 0 _ rfl
  have v0 := EA.out.free 0 (by simp)
  have u1 := EA.out.cell 1 _ rfl
  have v1 := EA.out.free 1 (by simp)
  have u2 := EA.out.cell 2 _ rfl
  have v2 := EA.out.free 2 (by simp)
  have u3 := EA.out.cell 3 _ rfl
  have v3 := EA.out.free 3 (by simp)
  have u4 := EA.out.cell 4 _ rfl
  have v4 := EA.out.free 4 (by simp)
  have u5 := EA.out.cell 5 _ rfl
  have v5 := EA.out.free 5 (by simp)
  have u6 := EA.out.cell 6 _ rfl
  have v6 := EA.out.free 6 (by simp)
  have u7 := EA.out.cell 7 _ rfl
  have v7 := EA.out.free 7 (by simp)
  go_wp2_with fail
  obtain ⟨W8, hW8, hC8, hA8, hb8⟩ := DA.out.anew rfl (.int .u32 0) (.int .u32 0) (.int .u8 0) (.int .u8 0) (.int .u8 0) (.int .u16 0) (.bool false)
  rw [hW8]
  obtain ⟨W9, hW9, hC9, hA9, hb9⟩ := eight (EA.out.apart (by omega) hA8) rfl (.int .u16 0) (.int .u16 0) (.int .u32 0) (.int .u32 0) (.int .u8 0) (.int .u16 0) (.int .u16 0) (.string ⟨#[]⟩)
  rw [hW9]
  have C8 := hC8.apart (by omega) hA9
  have e0 := C8.cell 0 _ rfl
  have e1 := C8.cell 1 _ rfl
  have e2 := C8.cell 2 _ rfl
  have e3 := C8.cell 3 _ rfl
  have e4 := C8.cell 4 _ rfl
  have e5 := C8.cell 5 _ rfl
  have e6 := C8.cell 6 _ rfl
  have i0 := hC9.cell 0 _ rfl
  have i1 := hC9.cell 1 _ rfl
  have i2 := hC9.cell 2 _ rfl
  have i3 := hC9.cell 3 _ rfl
  have i4 := hC9.cell 4 _ rfl
  have i5 := hC9.cell 5 _ rfl
  have i6 := hC9.cell 6 _ rfl
  have i7 := hC9.cell 7 _ rfl
  have B9 := Lib.hid ((BA.out.trans hb8).trans (hb9.mono (by omega)))
  refine bodyPost_ret (v := .tuple #[hv zero, tv zeroT, .string ⟨#[]⟩, .int .i64 80]) ?_ rfl ⟨by first | rfl | rw [rfl], B9.out⟩
  simp [results, Try.f39, go_sem, zero, zeroT, e0, e1, e2, e3, e4, e5, e6, i0, i1, i2, i3, i4, i5, i6, i7]
end Go.Proofs.Ytpmnmnflaijaaaa.PktHeads
