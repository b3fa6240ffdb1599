/-
  Laws for a proof of package pkt: 2 texts in one.
-/
import Derived.Test.YtpmnmnflaijaaaaGreatQPktDecC1
import Derived.Test.YtpmnmnflaijaaaaGreatQPkt163
import Derived.Test.YtpmnmnflaijaaaaGreatQIpDec1
import Derived.Test.YtpmnmnflaijaaaaGreatQTcpDec1
import Derived.Test.YtpmnmnflaijaaaaGreatQRelL3
import Derived.Test.YtpmnmnflaijaaaaGreatQPktSee2
import Derived.BigRegion
namespace Go.Proofs.YtpmnmnflaijaaaaGreat.PktHeads
open Go.Proofs.YtpmnmnflaijaaaaGreat.Own
open Go.RowKit TupMath SumMath Litb Calm Rel RelT IpMath IpHead IpRef IpDec TcpMath TcpRef TcpDec OptMath OptSame Boxes PktMath PktVal PktCom PktDecC
open Cells (CellsAt Apart)
set_option linter.unusedVariables false
set_option linter.unusedSimpArgs false
set_option maxRecDepth 100000
attribute [local go_sem] Oper.semAt_some
def hdsE (S : ByteArray) : Nat := if err (bz S) ≠ 0 then err (bz S) else if (rd (bz S)).proto ≠ 6 then 80 else terr (rd (bz S)).src (rd (bz S)).dst (bz (ld S))
theorem seven {W : World} {b : Nat} (h : CellsAt W b #[.int .u32 0, .int .u32 0, .int .u8 0, .int .u8 0, .int .u8 0, .int .u16 0, .bool false]) (x0 x1 x2 x3 x4 x5 x6 : Value) :
   ∃ W', ((((((W.setCell ⟨b, 0, none⟩ x0).setCell ⟨b, 1, none⟩ x1).setCell ⟨b, 2, none⟩ x2).setCell ⟨b, 3, none⟩ x3).setCell ⟨b, 4, none⟩ x4).setCell ⟨b, 5, none⟩ x5).setCell ⟨b, 6, none⟩ x6 = W' ∧ CellsAt W' b #[x0, x1, x2, x3, x4, x5, x6] ∧ Apart b W W' ∧ Below b W W' := h.anew rfl x0 x1 x2 x3 x4 x5 x6
theorem eight {W : World} {b : Nat} {cs : Array Value} (h : CellsAt W b cs) (hs : cs.size = 8) (x0 x1 x2 x3 x4 x5 x6 x7 : Value) :
   ∃ W', (((((((W.setCell ⟨b, 0, none⟩ x0).setCell ⟨b, 1, none⟩ x1).setCell ⟨b, 2, none⟩ x2).setCell ⟨b, 3, none⟩ x3).setCell ⟨b, 4, none⟩ x4).setCell ⟨b, 5, none⟩ x5).setCell ⟨b, 6, none⟩ x6).setCell ⟨b, 7, none⟩ x7 = W' ∧ CellsAt W' b #[x0, x1, x2, x3, x4, x5, x6, x7] ∧ Apart b W W' ∧ Below b W W' := by
 obtain ⟨W', hW, h1, h2⟩ := set8 W b x0 x1 x2 x3 x4 x5 x6 x7 (fun j hj => h.some_ j (by omega))
 have ha : Apart b W W' := by rw [← hW]; exact (((((((((Apart.refl b W).put 0 x0).put 1 x1).put 2 x2).put 3 x3).put 4 x4).put 5 x5).put 6 x6).put 7 x7)
 refine ⟨W', hW, ⟨Nat.lt_of_lt_of_le h.1 ha.1, fun j v hv => ⟨h1 j v (by simpa using hv), ?_⟩⟩, ha, h2⟩
 have hj : j < 8 := by have := (Array.getElem?_eq_some_iff.1 hv).1; simpa using this
 have hf := h.free j (by omega)
 rw [← hW]
 simpa using hf
set_option maxHeartbeats 8000000 in
theorem heads_ip (S : ByteArray) (w : World) (h : Hd) (l : ByteArray) (n : Nat) (hV : ∀ W, Calls Tryz.prog 55 #[.string S] W fun e w' => e = .returned (.tuple #[hv h, .string l, .int .i64 (n : Int)]) ∧ Below W.heap.size W w') (c1 : n ≠ 0) :
   Calls Tryz.prog 25 #[.string S] w fun e w' => e = .returned (.tuple #[hv zero, tv zeroT, .string ⟨#[]⟩, .int .i64 (n : Int)]) ∧ Below w.heap.size w w' := by
 have T1 := Lib.hid hV
 clear hV
 have q1 : ((n : Int) != 0) = true := bne_iff_ne.2 (by omega)
 have D2 := (CellsAt.new w #[.int .u32 0, .int .u32 0, .int .u8 0, .int .u8 0, .int .u8 0, .int .u16 0, .bool false] 59).later ((Below.refl _ (w.alloc (.cells #[.int .u32 0, .int .u32 0, .int .u8 0, .int .u8 0, .int .u8 0, .int .u16 0, .bool false] 59))).alloc (Nat.le_refl _) (.cells #[.int .u16 0, .int .u16 0, .int .u32 0, .int .u32 0, .int .u8 0, .int .u16 0, .int .u16 0, .string ⟨#[]⟩] 61))
 have D3 := CellsAt.new (w.alloc (.cells #[.int .u32 0, .int .u32 0, .int .u8 0, .int .u8 0, .int .u8 0, .int .u16 0, .bool false] 59)) #[.int .u16 0, .int .u16 0, .int .u32 0, .int .u32 0, .int .u8 0, .int .u16 0, .int .u16 0, .string ⟨#[]⟩] 61
 rw [World.size_alloc] at D3
 have B0 := st_alloc (st_alloc (Below.refl _ w) (.cells #[.int .u32 0, .int .u32 0, .int .u8 0, .int .u8 0, .int .u8 0, .int .u16 0, .bool false] 59)) (.cells #[.int .u16 0, .int .u16 0, .int .u32 0, .int .u32 0, .int .u8 0, .int .u16 0, .int .u16 0, .string ⟨#[]⟩] 61)
 have HD2 := Lib.hid D2
 have HD3 := Lib.hid D3
 have HB0 := Lib.hid B0
 clear D2 D3 B0
 go_enter Tryz.func25, Tryz.ntmps25
 go_wp2_with fail
 refine (T1.out _).mono ?_
 rintro e wA ⟨rfl, hb⟩
 have BA := Lib.hid (st_alloc (st_call HB0.out hb) (.cells #[.int .u32 (h.src : Int), .int .u32 (h.dst : Int), .int .u8 (h.proto : Int), .int .u8 (h.ttl : Int), .int .u8 (h.tos : Int), .int .u16 (h.id : Int), .bool h.df] 59))
 have DA := Lib.hid ((HD2.out.later hb).later ((Below.refl _ wA).alloc (Nat.le_refl _) (.cells #[.int .u32 (h.src : Int), .int .u32 (h.dst : Int), .int .u8 (h.proto : Int), .int .u8 (h.ttl : Int), .int .u8 (h.tos : Int), .int .u16 (h.id : Int), .bool h.df] 59)))
 have EA := Lib.hid ((HD3.out.later hb).later ((Below.refl _ wA).alloc (Nat.le_refl _) (.cells #[.int .u32 (h.src : Int), .int .u32 (h.dst : Int), .int .u8 (h.proto : Int), .int .u8 (h.ttl : Int), .int .u8 (h.tos : Int), .int .u16 (h.id : Int), .bool h.df] 59)))
 have CA := Lib.hid (CellsAt.new wA #[.int .u32 (h.src : Int), .int .u32 (h.dst : Int), .int .u8 (h.proto : Int), .int .u8 (h.ttl : Int), .int .u8 (h.tos : Int), .int .u16 (h.id : Int), .bool h.df] 59)
 have lA := (HD3.out.later hb).lt
 clear hb T1 HD2 HD3 HB0
 have d0 := DA.out.cell 0 _ rfl
 have f0 := DA.out.free 0 (by simp)
 have d1 := DA.out.cell 1 _ rfl
 have f1 := DA.out.free 1 (by simp)
 have d2 := DA.out.cell 2 _ rfl
 have f2 := DA.out.free 2 (by simp)
 have d3 := DA.out.cell 3 _ rfl
 have f3 := DA.out.free 3 (by simp)
 have d4 := DA.out.cell 4 _ rfl
 have f4 := DA.out.free 4 (by simp)
 have d5 := DA.out.cell 5 _ rfl
 have f5 := DA.out.free 5 (by simp)
 have d6 := DA.out.cell 6 _ rfl
 have f6 := DA.out.free 6 (by simp)
 have u0 := EA.out.cell 0 _ rfl
 have v0 := EA.out.free 0 (by simp)
 have u1 := EA.out.cell 1 _ rfl
 have v1 := EA.out.free 1 (by simp)
 have u2 := EA.out.cell 2 _ rfl
 have v2 := EA.out.free 2 (by simp)
 have u3 := EA.out.cell 3 _ rfl
 have v3 := EA.out.free 3 (by simp)
 have u4 := EA.out.cell 4 _ rfl
 have v4 := EA.out.free 4 (by simp)
 have u5 := EA.out.cell 5 _ rfl
 have v5 := EA.out.free 5 (by simp)
 have u6 := EA.out.cell 6 _ rfl
 have v6 := EA.out.free 6 (by simp)
 have u7 := EA.out.cell 7 _ rfl
 have v7 := EA.out.free 7 (by simp)
 go_wp2_with fail
 obtain ⟨W8, hW8, hC8, hA8, hb8⟩ := DA.out.anew rfl (.int .u32 0) (.int .u32 0) (.int .u8 0) (.int .u8 0) (.int .u8 0) (.int .u16 0) (.bool false)
 rw [hW8]
 obtain ⟨W9, hW9, hC9, hA9, hb9⟩ := eight (EA.out.apart (by omega) hA8) rfl (.int .u16 0) (.int .u16 0) (.int .u32 0) (.int .u32 0) (.int .u8 0) (.int .u16 0) (.int .u16 0) (.string ⟨#[]⟩)
 rw [hW9]
 have C8 := hC8.apart (by omega) hA9
 have e0 := C8.cell 0 _ rfl
 have e1 := C8.cell 1 _ rfl
 have e2 := C8.cell 2 _ rfl
 have e3 := C8.cell 3 _ rfl
 have e4 := C8.cell 4 _ rfl
 have e5 := C8.cell 5 _ rfl
 have e6 := C8.cell 6 _ rfl
 have i0 := hC9.cell 0 _ rfl
 have i1 := hC9.cell 1 _ rfl
 have i2 := hC9.cell 2 _ rfl
 have i3 := hC9.cell 3 _ rfl
 have i4 := hC9.cell 4 _ rfl
 have i5 := hC9.cell 5 _ rfl
 have i6 := hC9.cell 6 _ rfl
 have i7 := hC9.cell 7 _ rfl
 have B9 := Lib.hid ((BA.out.trans hb8).trans (hb9.mono (by omega)))
 refine bodyPost_ret (v := .tuple #[hv zero, tv zeroT, .string ⟨#[]⟩, .int .i64 (n : Int)]) ?_ rfl ⟨by first | rfl | rw [rfl], B9.out⟩
 simp [results, Tryz.f25, go_sem, zero, zeroT, e0, e1, e2, e3, e4, e5, e6, i0, i1, i2, i3, i4, i5, i6, i7]
set_option maxHeartbeats 8000000 in
theorem heads_proto (S : ByteArray) (w : World) (h : Hd) (l : ByteArray) (hV : ∀ W, Calls Tryz.prog 55 #[.string S] W fun e w' => e = .returned (.tuple #[hv h, .string l, .int .i64 0]) ∧ Below W.heap.size W w') (c2 : h.proto ≠ 6) :
   Calls Tryz.prog 25 #[.string S] w fun e w' => e = .returned (.tuple #[hv zero, tv zeroT, .string ⟨#[]⟩, .int .i64 80]) ∧ Below w.heap.size w w' := by
 have T1 := Lib.hid hV
 clear hV
 have q2 : ((h.proto : Int) != 6) = true := bne_iff_ne.2 (by omega)
 clear c2
 have D2 := (CellsAt.new w #[.int .u32 0, .int .u32 0, .int .u8 0, .int .u8 0, .int .u8 0, .int .u16 0, .bool false] 59).later ((Below.refl _ (w.alloc (.cells #[.int .u32 0, .int .u32 0, .int .u8 0, .int .u8 0, .int .u8 0, .int .u16 0, .bool false] 59))).alloc (Nat.le_refl _) (.cells #[.int .u16 0, .int .u16 0, .int .u32 0, .int .u32 0, .int .u8 0, .int .u16 0, .int .u16 0, .string ⟨#[]⟩] 61))
 have D3 := CellsAt.new (w.alloc (.cells #[.int .u32 0, .int .u32 0, .int .u8 0, .int .u8 0, .int .u8 0, .int .u16 0, .bool false] 59)) #[.int .u16 0, .int .u16 0, .int .u32 0, .int .u32 0, .int .u8 0, .int .u16 0, .int .u16 0, .string ⟨#[]⟩] 61
 rw [World.size_alloc] at D3
 have B0 := st_alloc (st_alloc (Below.refl _ w) (.cells #[.int .u32 0, .int .u32 0, .int .u8 0, .int .u8 0, .int .u8 0, .int .u16 0, .bool false] 59)) (.cells #[.int .u16 0, .int .u16 0, .int .u32 0, .int .u32 0, .int .u8 0, .int .u16 0, .int .u16 0, .string ⟨#[]⟩] 61)
 have HD2 := Lib.hid D2
 have HD3 := Lib.hid D3
 have HB0 := Lib.hid B0
 clear D2 D3 B0
 go_enter Tryz.func25, Tryz.ntmps25
 go_wp2_with fail
 refine (T1.out _).mono ?_
 rintro e wA ⟨rfl, hb⟩
 have BA := Lib.hid (st_alloc (st_call HB0.out hb) (.cells #[.int .u32 (h.src : Int), .int .u32 (h.dst : Int), .int .u8 (h.proto : Int), .int .u8 (h.ttl : Int), .int .u8 (h.tos : Int), .int .u16 (h.id : Int), .bool h.df] 59))
 have DA := Lib.hid ((HD2.out.later hb).later ((Below.refl _ wA).alloc (Nat.le_refl _) (.cells #[.int .u32 (h.src : Int), .int .u32 (h.dst : Int), .int .u8 (h.proto : Int), .int .u8 (h.ttl : Int), .int .u8 (h.tos : Int), .int .u16 (h.id : Int), .bool h.df] 59)))
 have EA := Lib.hid ((HD3.out.later hb).later ((Below.refl _ wA).alloc (Nat.le_refl _) (.cells #[.int .u32 (h.src : Int), .int .u32 (h.dst : Int), .int .u8 (h.proto : Int), .int .u8 (h.ttl : Int), .int .u8 (h.tos : Int), .int .u16 (h.id : Int), .bool h.df] 59)))
 have CA := Lib.hid (CellsAt.new wA #[.int .u32 (h.src : Int), .int .u32 (h.dst : Int), .int .u8 (h.proto : Int), .int .u8 (h.ttl : Int), .int .u8 (h.tos : Int), .int .u16 (h.id : Int), .bool h.df] 59)
 have lA := (HD3.out.later hb).lt
 clear hb T1 HD2 HD3 HB0
 have d0 := DA.out.cell 0 _ rfl
 have f0 := DA.out.free 0 (by simp)
 have d1 := DA.out.cell 1 _ rfl
 have f1 := DA.out.free 1 (by simp)
 have d2 := DA.out.cell 2 _ rfl
 have f2 := DA.out.free 2 (by simp)
 have d3 := DA.out.cell 3 _ rfl
 have f3 := DA.out.free 3 (by simp)
 have d4 := DA.out.cell 4 _ rfl
 have f4 := DA.out.free 4 (by simp)
 have d5 := DA.out.cell 5 _ rfl
 have f5 := DA.out.free 5 (by simp)
 have d6 := DA.out.cell 6 _ rfl
 have f6 := DA.out.free 6 (by simp)
 have u0 := EA.out.cell 0 _ rfl
 have v0 := EA.out.free 0 (by simp)
 have u1 := EA.out.cell 1 _ rfl
 have v1 := EA.out.free 1 (by simp)
 have u2 := EA.out.cell 2 _ rfl
 have v2 := EA.out.free 2 (by simp)
 have u3 := EA.out.cell 3 _ rfl
 have v3 := EA.out.free 3 (by simp)
 have u4 := EA.out.cell 4 _ rfl
 have v4 := EA.out.free 4 (by simp)
 have u5 := EA.out.cell 5 _ rfl
 have v5 := EA.out.free 5 (by simp)
 have u6 := EA.out.cell 6 _ rfl
 have v6 := EA.out.free 6 (by simp)
 have u7 := EA.out.cell 7 _ rfl
 have v7 := EA.out.free 7 (by simp)
 go_wp2_with fail
 obtain ⟨W8, hW8, hC8, hA8, hb8⟩ := DA.out.anew rfl (.int .u32 0) (.int .u32 0) (.int .u8 0) (.int .u8 0) (.int .u8 0) (.int .u16 0) (.bool false)
 rw [hW8]
 obtain ⟨W9, hW9, hC9, hA9, hb9⟩ := eight (EA.out.apart (by omega) hA8) rfl (.int .u16 0) (.int .u16 0) (.int .u32 0) (.int .u32 0) (.int .u8 0) (.int .u16 0) (.int .u16 0) (.string ⟨#[]⟩)
 rw [hW9]
 have C8 := hC8.apart (by omega) hA9
 have e0 := C8.cell 0 _ rfl
 have e1 := C8.cell 1 _ rfl
 have e2 := C8.cell 2 _ rfl
 have e3 := C8.cell 3 _ rfl
 have e4 := C8.cell 4 _ rfl
 have e5 := C8.cell 5 _ rfl
 have e6 := C8.cell 6 _ rfl
 have i0 := hC9.cell 0 _ rfl
 have i1 := hC9.cell 1 _ rfl
 have i2 := hC9.cell 2 _ rfl
 have i3 := hC9.cell 3 _ rfl
 have i4 := hC9.cell 4 _ rfl
 have i5 := hC9.cell 5 _ rfl
 have i6 := hC9.cell 6 _ rfl
 have i7 := hC9.cell 7 _ rfl
 have B9 := Lib.hid ((BA.out.trans hb8).trans (hb9.mono (by omega)))
 refine bodyPost_ret (v := .tuple #[hv zero, tv zeroT, .string ⟨#[]⟩, .int .i64 80]) ?_ rfl ⟨by first | rfl | rw [rfl], B9.out⟩
 simp [results, Tryz.f25, go_sem, zero, zeroT, e0, e1, e2, e3, e4, e5, e6, i0, i1, i2, i3, i4, i5, i6, i7]
end Go.Proofs.YtpmnmnflaijaaaaGreat.PktHeads
namespace Go.Proofs.YtpmnmnflaijaaaaGreat.PktHeads
open Go.Proofs.YtpmnmnflaijaaaaGreat.Own
open Go.RowKit TupMath SumMath Litb Calm Rel RelT IpMath IpHead IpRef IpDec TcpMath TcpRef TcpDec OptMath OptSame Boxes PktMath PktVal PktCom PktDecC PktBox RelL
open Cells (CellsAt Apart put_lit)
set_option linter.unusedVariables false
set_option linter.unusedSimpArgs false
set_option maxRecDepth 100000
attribute [local go_sem] Oper.semAt_some
attribute [local go_sem] relUpon
set_option maxHeartbeats 8000000 in
theorem heads_ok (S : ByteArray) (w : World) (h : Hd) (l : ByteArray) (t : Th) (d : ByteArray) (n : Nat) (hV : ∀ W, Calls Tryz.prog 55 #[.string S] W fun e w' => e = .returned (.tuple #[hv h, .string l, .int .i64 0]) ∧ Below W.heap.size W w') (c2 : h.proto = 6)
   (hV2 : ∀ W, Calls Tryz.prog 56 #[.int .u32 (h.src : Int), .int .u32 (h.dst : Int), .string l] W fun e w' => e = .returned (.tuple #[tv t, .string d, .int .i64 (n : Int)]) ∧ Below W.heap.size W w') :
   Calls Tryz.prog 25 #[.string S] w fun e w' => e = .returned (.tuple #[hv h, tv t, .string d, .int .i64 (n : Int)]) ∧ Below w.heap.size w w' := by
 have T1 := Lib.hid hV
 have T2 := Lib.hid hV2
 clear hV hV2
 have q2 : ((h.proto : Int) != 6) = false := by rw [c2]; rfl
 clear c2
 have D2 := (CellsAt.new w #[.int .u32 0, .int .u32 0, .int .u8 0, .int .u8 0, .int .u8 0, .int .u16 0, .bool false] 59).later ((Below.refl _ (w.alloc (.cells #[.int .u32 0, .int .u32 0, .int .u8 0, .int .u8 0, .int .u8 0, .int .u16 0, .bool false] 59))).alloc (Nat.le_refl _) (.cells #[.int .u16 0, .int .u16 0, .int .u32 0, .int .u32 0, .int .u8 0, .int .u16 0, .int .u16 0, .string ⟨#[]⟩] 61))
 have D3 := CellsAt.new (w.alloc (.cells #[.int .u32 0, .int .u32 0, .int .u8 0, .int .u8 0, .int .u8 0, .int .u16 0, .bool false] 59)) #[.int .u16 0, .int .u16 0, .int .u32 0, .int .u32 0, .int .u8 0, .int .u16 0, .int .u16 0, .string ⟨#[]⟩] 61
 rw [World.size_alloc] at D3
 have B0 := st_alloc (st_alloc (Below.refl _ w) (.cells #[.int .u32 0, .int .u32 0, .int .u8 0, .int .u8 0, .int .u8 0, .int .u16 0, .bool false] 59)) (.cells #[.int .u16 0, .int .u16 0, .int .u32 0, .int .u32 0, .int .u8 0, .int .u16 0, .int .u16 0, .string ⟨#[]⟩] 61)
 have HD2 := Lib.hid D2
 have HD3 := Lib.hid D3
 have HB0 := Lib.hid B0
 clear D2 D3 B0
 go_enter Tryz.func25, Tryz.ntmps25
 go_wp2_with fail
 refine (T1.out _).mono ?_
 rintro e wA ⟨rfl, hb⟩
 have BA := Lib.hid (st_alloc (st_call HB0.out hb) (.cells #[.int .u32 (h.src : Int), .int .u32 (h.dst : Int), .int .u8 (h.proto : Int), .int .u8 (h.ttl : Int), .int .u8 (h.tos : Int), .int .u16 (h.id : Int), .bool h.df] 59))
 have DA := Lib.hid ((HD2.out.later hb).later ((Below.refl _ wA).alloc (Nat.le_refl _) (.cells #[.int .u32 (h.src : Int), .int .u32 (h.dst : Int), .int .u8 (h.proto : Int), .int .u8 (h.ttl : Int), .int .u8 (h.tos : Int), .int .u16 (h.id : Int), .bool h.df] 59)))
 have EA := Lib.hid ((HD3.out.later hb).later ((Below.refl _ wA).alloc (Nat.le_refl _) (.cells #[.int .u32 (h.src : Int), .int .u32 (h.dst : Int), .int .u8 (h.proto : Int), .int .u8 (h.ttl : Int), .int .u8 (h.tos : Int), .int .u16 (h.id : Int), .bool h.df] 59)))
 have CA := Lib.hid (CellsAt.new wA #[.int .u32 (h.src : Int), .int .u32 (h.dst : Int), .int .u8 (h.proto : Int), .int .u8 (h.ttl : Int), .int .u8 (h.tos : Int), .int .u16 (h.id : Int), .bool h.df] 59)
 have lA := (HD3.out.later hb).lt
 clear hb T1 HD2 HD3 HB0
 go_wp2_with fail
 refine (T2.out _).mono ?_
 rintro e wB ⟨rfl, hb⟩
 have BB := Lib.hid (st_alloc (st_call BA.out hb) (.cells #[.int .u16 (t.src : Int), .int .u16 (t.dst : Int), .int .u32 (t.seq : Int), .int .u32 (t.ack : Int), .int .u8 (t.flags : Int), .int .u16 (t.win : Int), .int .u16 (t.urg : Int), .string t.opts] 61))
 have DB := Lib.hid ((DA.out.later hb).later ((Below.refl _ wB).alloc (Nat.le_refl _) (.cells #[.int .u16 (t.src : Int), .int .u16 (t.dst : Int), .int .u32 (t.seq : Int), .int .u32 (t.ack : Int), .int .u8 (t.flags : Int), .int .u16 (t.win : Int), .int .u16 (t.urg : Int), .string t.opts] 61)))
 have EB := Lib.hid ((EA.out.later hb).later ((Below.refl _ wB).alloc (Nat.le_refl _) (.cells #[.int .u16 (t.src : Int), .int .u16 (t.dst : Int), .int .u32 (t.seq : Int), .int .u32 (t.ack : Int), .int .u8 (t.flags : Int), .int .u16 (t.win : Int), .int .u16 (t.urg : Int), .string t.opts] 61)))
 have CAB := Lib.hid ((CA.out.later hb).later ((Below.refl _ wB).alloc (Nat.le_refl _) (.cells #[.int .u16 (t.src : Int), .int .u16 (t.dst : Int), .int .u32 (t.seq : Int), .int .u32 (t.ack : Int), .int .u8 (t.flags : Int), .int .u16 (t.win : Int), .int .u16 (t.urg : Int), .string t.opts] 61)))
 have CB := Lib.hid (CellsAt.new wB #[.int .u16 (t.src : Int), .int .u16 (t.dst : Int), .int .u32 (t.seq : Int), .int .u32 (t.ack : Int), .int .u8 (t.flags : Int), .int .u16 (t.win : Int), .int .u16 (t.urg : Int), .string t.opts] 61)
 have lB := (EA.out.later hb).lt
 clear hb T2 DA EA CA BA
 go_upto_region 7 with fail
 obtain ⟨W0, hW0⟩ : ∃ W0, wB.alloc (.cells #[.int .u16 (t.src : Int), .int .u16 (t.dst : Int), .int .u32 (t.seq : Int), .int .u32 (t.ack : Int), .int .u8 (t.flags : Int), .int .u16 (t.win : Int), .int .u16 (t.urg : Int), .string t.opts] 61) = W0 := ⟨_, rfl⟩
 rw [hW0] at BB DB EB CAB CB ⊢
 clear hW0
 have a0 := CAB.out.cell 0 _ rfl
 have a1 := CAB.out.cell 1 _ rfl
 have a2 := CAB.out.cell 2 _ rfl
 have a3 := CAB.out.cell 3 _ rfl
 have a4 := CAB.out.cell 4 _ rfl
 have a5 := CAB.out.cell 5 _ rfl
 have a6 := CAB.out.cell 6 _ rfl
 have b0 := CB.out.cell 0 _ rfl
 have b1 := CB.out.cell 1 _ rfl
 have b2 := CB.out.cell 2 _ rfl
 have b3 := CB.out.cell 3 _ rfl
 have b4 := CB.out.cell 4 _ rfl
 have b5 := CB.out.cell 5 _ rfl
 have b6 := CB.out.cell 6 _ rfl
 have b7 := CB.out.cell 7 _ rfl
 have d0 := DB.out.cell 0 _ rfl
 have f0 := DB.out.free 0 (by simp)
 have d1 := DB.out.cell 1 _ rfl
 have f1 := DB.out.free 1 (by simp)
 have d2 := DB.out.cell 2 _ rfl
 have f2 := DB.out.free 2 (by simp)
 have d3 := DB.out.cell 3 _ rfl
 have f3 := DB.out.free 3 (by simp)
 have d4 := DB.out.cell 4 _ rfl
 have f4 := DB.out.free 4 (by simp)
 have d5 := DB.out.cell 5 _ rfl
 have f5 := DB.out.free 5 (by simp)
 have d6 := DB.out.cell 6 _ rfl
 have f6 := DB.out.free 6 (by simp)
 have u0 := EB.out.cell 0 _ rfl
 have v0 := EB.out.free 0 (by simp)
 have u1 := EB.out.cell 1 _ rfl
 have v1 := EB.out.free 1 (by simp)
 have u2 := EB.out.cell 2 _ rfl
 have v2 := EB.out.free 2 (by simp)
 have u3 := EB.out.cell 3 _ rfl
 have v3 := EB.out.free 3 (by simp)
 have u4 := EB.out.cell 4 _ rfl
 have v4 := EB.out.free 4 (by simp)
 have u5 := EB.out.cell 5 _ rfl
 have v5 := EB.out.free 5 (by simp)
 have u6 := EB.out.cell 6 _ rfl
 have v6 := EB.out.free 6 (by simp)
 have u7 := EB.out.cell 7 _ rfl
 have v7 := EB.out.free 7 (by simp)
 go_region
 obtain ⟨W8, hW8, hC8, hA8, hb8⟩ := DB.out.anew rfl (.int .u32 (h.src : Int)) (.int .u32 (h.dst : Int)) (.int .u8 (h.proto : Int)) (.int .u8 (h.ttl : Int)) (.int .u8 (h.tos : Int)) (.int .u16 (h.id : Int)) (.bool h.df)
 rw [hW8]
 obtain ⟨W9, hW9, hC9, hA9, hb9⟩ := eight (EB.out.apart (by omega) hA8) rfl (.int .u16 (t.src : Int)) (.int .u16 (t.dst : Int)) (.int .u32 (t.seq : Int)) (.int .u32 (t.ack : Int)) (.int .u8 (t.flags : Int)) (.int .u16 (t.win : Int)) (.int .u16 (t.urg : Int)) (.string t.opts)
 rw [hW9]
 have C8 := (hC8.apart (by omega) hA9).later ((Below.refl _ W9).drew)
 have C9 := hC9.later ((Below.refl _ W9).drew)
 have B9 := Lib.hid (((BB.out.trans hb8).trans (hb9.mono (by omega))).drew)
 clear a0 d0 f0 a1 d1 f1 a2 d2 f2 a3 d3 f3 a4 d4 f4 a5 d5 f5 a6 d6 f6 b0 u0 v0 b1 u1 v1 b2 u2 v2 b3 u3 v3 b4 u4 v4 b5 u5 v5 b6 u6 v6 b7 u7 v7
 have e0 := C8.cell 0 _ rfl
 have e1 := C8.cell 1 _ rfl
 have e2 := C8.cell 2 _ rfl
 have e3 := C8.cell 3 _ rfl
 have e4 := C8.cell 4 _ rfl
 have e5 := C8.cell 5 _ rfl
 have e6 := C8.cell 6 _ rfl
 have i0 := C9.cell 0 _ rfl
 have i1 := C9.cell 1 _ rfl
 have i2 := C9.cell 2 _ rfl
 have i3 := C9.cell 3 _ rfl
 have i4 := C9.cell 4 _ rfl
 have i5 := C9.cell 5 _ rfl
 have i6 := C9.cell 6 _ rfl
 have i7 := C9.cell 7 _ rfl
 go_wp2_with fail
 refine bodyPost_ret (v := .tuple #[hv h, tv t, .string d, .int .i64 (n : Int)]) ?_ rfl ⟨rfl, B9.out⟩
 simp [results, Tryz.f25, go_sem, e0, e1, e2, e3, e4, e5, e6, i0, i1, i2, i3, i4, i5, i6, i7]
theorem headsR (S : ByteArray) (hs : S.size ≤ 1000000) : ∃ (h : Hd) (t : Th) (d : ByteArray), (hdsE S = 0 → h = rd (bz S) ∧ t = trd (ld S) ∧ d = dt S) ∧ ∀ w, Calls Tryz.prog 25 #[.string S] w fun e w' => e = .returned (.tuple #[hv h, tv t, .string d, .int .i64 (hdsE S : Int)]) ∧ Below w.heap.size w w' := by
 obtain ⟨h, l, n, hV1, -, hn1, hok1⟩ := ipV S
 have T1 : ∀ W, Calls Tryz.prog 55 #[.string S] W fun e w' => e = .returned (.tuple #[hv h, .string l, .int .i64 (n : Int)]) ∧ Below W.heap.size W w' := fun W => by
   have q := IpDec.decR S W hs
   rw [hV1] at q
   exact q
 by_cases c1 : n = 0
 rotate_left
 · have e0 : hdsE S = n := by unfold hdsE; rw [if_pos (by rw [← hn1]; exact c1), hn1]
   refine ⟨zero, zeroT, ⟨#[]⟩, fun e => absurd (e0.symm.trans e) c1, fun w => ?_⟩
   rw [e0]
   exact heads_ip S w h l n T1 c1
 subst c1
 obtain ⟨hh, hl⟩ := hok1 rfl
 have hk := (rd_hd (bz S) (bz_le S) hn1.symm).1
 rw [← hh] at hk
 by_cases c2 : h.proto = 6
 rotate_left
 · have e0 : hdsE S = 80 := by unfold hdsE; rw [if_neg (by rw [← hn1]; exact fun q => q rfl), if_pos (by rw [← hh]; exact c2)]
   refine ⟨zero, zeroT, ⟨#[]⟩, fun e => absurd (e0.symm.trans e) (by decide), fun w => ?_⟩
   rw [e0]
   exact heads_proto S w h l T1 c2
 have hls : l.size ≤ 1000000 := by rw [hl]; exact Nat.le_trans (ld_size S) hs
 obtain ⟨t, d, n2, hV2, -, hn2, hok2⟩ := tcpV h.src h.dst l
 have T2 : ∀ W, Calls Tryz.prog 56 #[.int .u32 (h.src : Int), .int .u32 (h.dst : Int), .string l] W fun e w' => e = .returned (.tuple #[tv t, .string d, .int .i64 (n2 : Int)]) ∧ Below W.heap.size W w' := fun W => by
   have q := TcpDec.decR6 h.src h.dst l W hk.src hk.dst hls
   rw [hV2] at q
   exact q
 have e0 : hdsE S = n2 := by unfold hdsE; rw [if_neg (by rw [← hn1]; exact fun q => q rfl), if_neg (by rw [← hh]; exact fun q => q c2), hn2, hh, hl]
 refine ⟨h, t, d, fun e => ?_, fun w => ?_⟩
 · obtain ⟨i1, i2⟩ := hok2 (e0.symm.trans e)
   exact ⟨hh, by rw [i1, hl], by rw [i2, hl]; rfl⟩
 · rw [e0]
   exact heads_ok S w h l t d n2 T1 c2 T2
end Go.Proofs.YtpmnmnflaijaaaaGreat.PktHeads
