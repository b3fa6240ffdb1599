/-
  Laws for a proof of package pkt: 2 texts in one.
-/
import Derived.Test.YtpmnmnflaijaaaaQPktDecC1
import Derived.Test.YtpmnmnflaijaaaaQPktHeads1
import Derived.Test.YtpmnmnflaijaaaaQPktBox1
import Derived.Test.YtpmnmnflaijaaaaQRelL3
import Derived.Test.YtpmnmnflaijaaaaQPkt163
import Derived.Test.YtpmnmnflaijaaaaQIpDec1
import Derived.Test.YtpmnmnflaijaaaaQTcpDec1
import Derived.Test.YtpmnmnflaijaaaaQPktOp7
import Derived.Test.YtpmnmnflaijaaaaQOptDec1
import Derived.BigRegion
namespace Go.Proofs.Ytpmnmnflaijaaaa.PktHeads
open Go.Proofs.Ytpmnmnflaijaaaa.Own
open Go.RowKit TupMath SumMath Litb Calm Rel RelT IpMath IpHead IpRef IpDec TcpMath TcpRef TcpDec OptMath OptSame Boxes PktMath PktVal PktCom PktDecC PktBox RelL
open Cells (CellsAt Apart put_lit)
set_option linter.unusedVariables false
set_option linter.unusedSimpArgs false
set_option maxRecDepth 100000
attribute [local go_sem] Oper.semAt_some


def relHs (h : Hd) (t : Th) (d : ByteArray) (n : Nat) : Nat → Value → World → Prop
  | 0 => fun v _ => v = hv h
  | 1 => fun v _ => v = tv t
  | 2 => fun v _ => v = .string d
  | 3 => fun v _ => v = .int .i64 (n : Int)
  | _ => fun _ _ => True
theorem relHs_more (h : Hd) (t : Th) (d : ByteArray) (n : Nat) (i : Nat) (v : Value) (w w' : World) (hr : relHs h t d n i v w) (hb : Below w.heap.size w w') : relHs h t d n i v w' := by
  unfold relHs at hr ⊢
  split at hr <;> exact hr
attribute [local go_sem] relUpon

set_option maxHeartbeats 8000000 in
theorem heads_ok (S : ByteArray) (w : World) (h : Hd) (l : ByteArray) (t : Th) (d : ByteArray) (n : Nat) (hV : ∀ W, Calls Try.prog 73 #[.string S] W fun e w' => e = .returned (.tuple #[hv h, .string l, .int .i64 0]) ∧ Below W.heap.size W w') (c2 : h.proto = 6)
    (hV2 : ∀ W, Calls Try.prog 74 #[.int .u32 (h.src : Int), .int .u32 (h.dst : Int), .string l] W fun e w' => e = .returned (.tuple #[tv t, .string d, .int .i64 (n : Int)]) ∧ Below W.heap.size W w') :
    Calls Try.prog 39 #[.string S] w fun e w' => e = .returned (.tuple #[hv h, tv t, .string d, .int .i64 (n : Int)]) ∧ Below w.heap.size w w' := by
  have T1 := Lib.hid hV
  have T2 := Lib.hid hV2
  clear hV hV2
  have q2 : ((h.proto : Int) != 6) = false := by rw [c2]; rfl
  clear c2
  have D2 := (CellsAt.new w #[.int .u32 0, .int .u32 0, .int .u8 0, .int .u8 0, .int .u8 0, .int .u16 0, .bool false] 62).later ((Below.refl _ (w.alloc (.cells #[.int .u32 0, .int .u32 0, .int .u8 0, .int .u8 0, .int .u8 0, .int .u16 0, .bool false] 62))).alloc (Nat.le_refl _) (.cells #[.int .u16 0, .int .u16 0, .int .u32 0, .int .u32 0, .int .u8 0, .int .u16 0, .int .u16 0, .string ⟨#[]⟩] 59))
  have D3 := CellsAt.new (w.alloc (.cells #[.int .u32 0, .int .u32 0, .int .u8 0, .int .u8 0, .int .u8 0, .int .u16 0, .bool false] 62)) #[.int .u16 0, .int .u16 0, .int .u32 0, .int .u32 0, .int .u8 0, .int .u16 0, .int .u16 0, .string ⟨#[]⟩] 59
  rw [World.size_alloc] at D3
  have B0 := st_alloc (st_alloc (Below.refl _ w) (.cells #[.int .u32 0, .int .u32 0, .int .u8 0, .int .u8 0, .int .u8 0, .int .u16 0, .bool false] 62)) (.cells #[.int .u16 0, .int .u16 0, .int .u32 0, .int .u32 0, .int .u8 0, .int .u16 0, .int .u16 0, .string ⟨#[]⟩] 59)
  have HD2 := Lib.hid D2
  have HD3 := Lib.hid D3
  have HB0 := Lib.hid B0
  clear D2 D3 B0
  go_enter Try.func39, Try.ntmps39
  go_wp2_with fail
  refine (T1.out _).mono ?_
  rintro e wA ⟨rfl, hb⟩
  have BA := Lib.hid (st_alloc (st_call HB0.out hb) (.cells #[.int .u32 (h.src : Int), .int .u32 (h.dst : Int), .int .u8 (h.proto : Int), .int .u8 (h.ttl : Int), .int .u8 (h.tos : Int), .int .u16 (h.id : Int), .bool h.df] 62))
  have DA := Lib.hid ((HD2.out.later hb).later ((Below.refl _ wA).alloc (Nat.le_refl _) (.cells #[.int .u32 (h.src : Int), .int .u32 (h.dst : Int), .int .u8 (h.proto : Int), .int .u8 (h.ttl : Int), .int .u8 (h.tos : Int), .int .u16 (h.id : Int), .bool h.df] 62)))
  have EA := Lib.hid ((HD3.out.later hb).later ((Below.refl _ wA).alloc (Nat.le_refl _) (.cells #[.int .u32 (h.src : Int), .int .u32 (h.dst : Int), .int .u8 (h.proto : Int), .int .u8 (h.ttl : Int), .int .u8 (h.tos : Int), .int .u16 (h.id : Int), .bool h.df] 62)))
  have CA := Lib.hid (CellsAt.new wA #[.int .u32 (h.src : Int), .int .u32 (h.dst : Int), .int .u8 (h.proto : Int), .int .u8 (h.ttl : Int), .int .u8 (h.tos : Int), .int .u16 (h.id : Int), .bool h.df] 62)
  have lA := (HD3.out.later hb).lt
  clear hb T1 HD2 HD3 HB0
  go_wp2_with fail
  refine (T2.out _).mono ?_
  rintro e wB ⟨rfl, hb⟩
  have BB := Lib.hid (st_alloc (st_call BA.out hb) (.cells #[.int .u16 (t.src : Int), .int .u16 (t.dst : Int), .int .u32 (t.seq : Int), .int .u32 (t.ack : Int), .int .u8 (t.flags : Int), .int .u16 (t.win : Int), .int .u16 (t.urg : Int), .string t.opts] 59))
  have DB := Lib.hid ((DA.out.later hb).later ((Below.refl _ wB).alloc (Nat.le_refl _) (.cells #[.int .u16 (t.src : Int), .int .u16 (t.dst : Int), .int .u32 (t.seq : Int), .int .u32 (t.ack : Int), .int .u8 (t.flags : Int), .int .u16 (t.win : Int), .int .u16 (t.urg : Int), .string t.opts] 59)))
  have EB := Lib.hid ((EA.out.later hb).later ((Below.refl _ wB).alloc (Nat.le_refl _) (.cells #[.int .u16 (t.src : Int), .int .u16 (t.dst : Int), .int .u32 (t.seq : Int), .int .u32 (t.ack : Int), .int .u8 (t.flags : Int), .int .u16 (t.win : Int), .int .u16 (t.urg : Int), .string t.opts] 59)))
  have CAB := Lib.hid ((CA.out.later hb).later ((Below.refl _ wB).alloc (Nat.le_refl _) (.cells #[.int .u16 (t.src : Int), .int .u16 (t.dst : Int), .int .u32 (t.seq : Int), .int .u32 (t.ack : Int), .int .u8 (t.flags : Int), .int .u16 (t.win : Int), .int .u16 (t.urg : Int), .string t.opts] 59)))
  have CB := Lib.hid (CellsAt.new wB #[.int .u16 (t.src : Int), .int .u16 (t.dst : Int), .int .u32 (t.seq : Int), .int .u32 (t.ack : Int), .int .u8 (t.flags : Int), .int .u16 (t.win : Int), .int .u16 (t.urg : Int), .string t.opts] 59)
  have lB := (EA.out.later hb).lt
  clear hb T2 DA EA CA BA
  go_upto_region 7 with fail
  obtain ⟨W0, hW0⟩ : ∃ W0, wB.alloc (.cells #[.int .u16 (t.src : Int), .int .u16 (t.dst : Int), .int .u32 (t.seq : Int), .int .u32 (t.ack : Int), .int .u8 (t.flags : Int), .int .u16 (t.win : Int), .int .u16 (t.urg : Int), .string t.opts] 59) = W0 := ⟨_, rfl⟩
  rw [hW0] at BB DB EB CAB CB ⊢
  clear hW0
  have a0 := CAB.out.cell 0 _ rfl
  have a1 := CAB.out.cell 1 _ rfl
  have a2 := CAB.out.cell 2 _ rfl
  have a3 := CAB.out.cell 3 _ rfl
  have a4 := CAB.out.cell 4 _ rfl
  have a5 := CAB.out.cell 5 _ rfl
  have a6 := CAB.out.cell 6 _ rfl
  have b0 := CB.out.cell 0 _ rfl
  have b1 := CB.out.cell 1 _ rfl
  have b2 := CB.out.cell 2 _ rfl
  have b3 := CB.out.cell 3 _ rfl
  have b4 := CB.out.cell 4 _ rfl
  have b5 := CB.out.cell 5 _ rfl
  have b6 := CB.out.cell 6 _ rfl
  have b7 := CB.out.cell 7 _ rfl
  have d0 := DB.out.cell 0 _ rfl
  have f0 := DB.out.free 0 (by simp)
  have d1 := DB.out.cell 1 _ rfl
  have f1 := DB.out.free 1 (by simp)
  have d2 := DB.out.cell 2 _ rfl
  have f2 := DB.out.free 2 (by simp)
  have d3 := DB.out.cell 3 _ rfl
  have f3 := DB.out.free 3 (by simp)
  have d4 := DB.out.cell 4 _ rfl
  have f4 := DB.out.free 4 (by simp)
  have d5 := DB.out.cell 5 _ rfl
  have f5 := DB.out.free 5 (by simp)
  have d6 := DB.out.cell 6 _ rfl
  have f6 := DB.out.free 6 (by simp)
  have u0 := EB.out.cell 0 _ rfl
  have v0 := EB.out.free 0 (by simp)
  have u1 := EB.out.cell 1 _ rfl
  have v1 := EB.out.free 1 (by simp)
  have u2 := EB.out.cell 2 _ rfl
  have v2 := EB.out.free 2 (by simp)
  have u3 := EB.out.cell 3 _ rfl
  have v3 := EB.out.free 3 (by simp)
  have u4 := EB.out.cell 4 _ rfl
  have v4 := EB.out.free 4 (by simp)
  have u5 := EB.out.cell 5 _ rfl
  have v5 := EB.out.free 5 (by simp)
  have u6 := EB.out.cell 6 _ rfl
  have v6 := EB.out.free 6 (by simp)
  have u7 := EB.out.cell 7 _ rfl
  have v7 := EB.out.free 7 (by simp)
  go_region
  obtain ⟨W8, hW8, hC8, hA8, hb8⟩ := DB.out.anew rfl (.int .u32 (h.src : Int)) (.int .u32 (h.dst : Int)) (.int .u8 (h.proto : Int)) (.int .u8 (h.ttl : Int)) (.int .u8 (h.tos : Int)) (.int .u16 (h.id : Int)) (.bool h.df)
  rw [hW8]
  obtain ⟨W9, hW9, hC9, hA9, hb9⟩ := eight (EB.out.apart (by omega) hA8) rfl (.int .u16 (t.src : Int)) (.int .u16 (t.dst : Int)) (.int .u32 (t.seq : Int)) (.int .u32 (t.ack : Int)) (.int .u8 (t.flags : Int)) (.int .u16 (t.win : Int)) (.int .u16 (t.urg : Int)) (.string t.opts)
  rw [hW9]
  have C8 := (hC8.apart (by omega) hA9).later ((Below.refl _ W9).drew)
  have C9 := hC9.later ((Below.refl _ W9).drew)
  have B9 := Lib.hid (((BB.out.trans hb8).trans (hb9.mono (by omega))).drew)
  clear a0 d0 f0 a1 d1 f1 a2 d2 f2 a3 d3 f3 a4 d4 f4 a5 d5 f5 a6 d6 f6 b0 u0 v0 b1 u1 v1 b2 u2 v2 b3 u3 v3 b4 u4 v4 b5 u5 v5 b6 u6 v6 b7 u7 v7
  have e0 := C8.cell 0 _ rfl
  have e1 := C8.cell 1 _ rfl
  have e2 := C8.cell 2 _ rfl
  have e3 := C8.cell 3 _ rfl
  have e4 := C8.cell 4 _ rfl
  have e5 := C8.cell 5 _ rfl
  have e6 := C8.cell 6 _ rfl
  have i0 := C9.cell 0 _ rfl
  have i1 := C9.cell 1 _ rfl
  have i2 := C9.cell 2 _ rfl
  have i3 := C9.cell 3 _ rfl
  have i4 := C9.cell 4 _ rfl
  have i5 := C9.cell 5 _ rfl
  have i6 := C9.cell 6 _ rfl
  have i7 := C9.cell 7 _ rfl
  go_wp2_with fail
  refine bodyPost_ret (v := .tuple #[hv h, tv t, .string d, .int .i64 (n : Int)]) ?_ rfl ⟨rfl, B9.out⟩
  simp [results, Try.f39, go_sem, e0, e1, e2, e3, e4, e5, e6, i0, i1, i2, i3, i4, i5, i6, i7]

theorem headsR (S : ByteArray) (hs : S.size ≤ 1000000) : ∃ (h : Hd) (t : Th) (d : ByteArray), (hdsE S = 0 → h = rd (bz S) ∧ t = trd (ld S) ∧ d = dt S) ∧ ∀ w, Calls Try.prog 39 #[.string S] w fun e w' => e = .returned (.tuple #[hv h, tv t, .string d, .int .i64 (hdsE S : Int)]) ∧ Below w.heap.size w w' := by
  obtain ⟨h, l, n, hV1, -, hn1, hok1⟩ := ipV S
  have T1 : ∀ W, Calls Try.prog 73 #[.string S] W fun e w' => e = .returned (.tuple #[hv h, .string l, .int .i64 (n : Int)]) ∧ Below W.heap.size W w' := fun W => by
    have q := IpDec.decR S W hs
    rw [hV1] at q
    exact q
  by_cases c1 : n = 0
  rotate_left
  · have e0 : hdsE S = n := by unfold hdsE; rw [if_pos (by rw [← hn1]; exact c1), hn1]
    refine ⟨zero, zeroT, ⟨#[]⟩, fun e => absurd (e0.symm.trans e) c1, fun w => ?_⟩
    rw [e0]
    exact heads_ip S w h l n T1 c1
  subst c1
  obtain ⟨hh, hl⟩ := hok1 rfl
  have hk := (rd_hd (bz S) (bz_le S) hn1.symm).1
  rw [← hh] at hk
  by_cases c2 : h.proto = 6
  rotate_left
  · have e0 : hdsE S = 80 := by unfold hdsE; rw [if_neg (by rw [← hn1]; exact fun q => q rfl), if_pos (by rw [← hh]; exact c2)]
    refine ⟨zero, zeroT, ⟨#[]⟩, fun e => absurd (e0.symm.trans e) (by decide), fun w => ?_⟩
    rw [e0]
    exact heads_proto S w h l T1 c2
  have hls : l.size ≤ 1000000 := by rw [hl]; exact Nat.le_trans (ld_size S) hs
  obtain ⟨t, d, n2, hV2, -, hn2, hok2⟩ := tcpV h.src h.dst l
  have T2 : ∀ W, Calls Try.prog 74 #[.int .u32 (h.src : Int), .int .u32 (h.dst : Int), .string l] W fun e w' => e = .returned (.tuple #[tv t, .string d, .int .i64 (n2 : Int)]) ∧ Below W.heap.size W w' := fun W => by
    have q := TcpDec.decR6 h.src h.dst l W hk.src hk.dst hls
    rw [hV2] at q
    exact q
  have e0 : hdsE S = n2 := by unfold hdsE; rw [if_neg (by rw [← hn1]; exact fun q => q rfl), if_neg (by rw [← hh]; exact fun q => q c2), hn2, hh, hl]
  refine ⟨h, t, d, fun e => ?_, fun w => ?_⟩
  · obtain ⟨i1, i2⟩ := hok2 (e0.symm.trans e)
    exact ⟨hh, by rw [i1, hl], by rw [i2, hl]; rfl⟩
  · rw [e0]
    exact heads_ok S w h l t d n2 T1 c2 T2
end Go.Proofs.Ytpmnmnflaijaaaa.PktHeads

namespace Go.Proofs.Ytpmnmnflaijaaaa.PktDecR
open Go.Proofs.Ytpmnmnflaijaaaa.Own
open Go.RowKit TupMath SumMath Litb Calm Rel RelT RelK IpMath IpRef OptMath OptRef OptPlc OptSame Boxes OptMay PktMath PktVal PktSmall PktCom IpHead IpDec TcpMath TcpRef TcpDec OptTake5 OptTk PktDecC Pkt16
open Cells (CellsAt Apart)
set_option linter.unusedVariables false
set_option linter.unusedSimpArgs false
set_option maxRecDepth 100000
attribute [local go_sem] Oper.semAt_some

theorem hdsE_zero {S : ByteArray} (g : PktHeads.hdsE S = 0) : err (bz S) = 0 ∧ (rd (bz S)).proto = 6 ∧ terr (rd (bz S)).src (rd (bz S)).dst (bz (ld S)) = 0 := by
  unfold PktHeads.hdsE at g
  by_cases c1 : err (bz S) ≠ 0
  · rw [if_pos c1] at g; exact absurd g c1
  rw [if_neg c1] at g
  by_cases c2 : (rd (bz S)).proto ≠ 6
  · rw [if_pos c2] at g; cases g
  rw [if_neg c2] at g
  exact ⟨Decidable.not_not.1 c1, Decidable.not_not.1 c2, g⟩
theorem dec8_hds {S : ByteArray} (g : PktHeads.hdsE S ≠ 0) : dec8 S = (PktHeads.hdsE S, zeroS) := by
  unfold PktHeads.hdsE at g ⊢
  by_cases c1 : err (bz S) ≠ 0
  · rw [if_pos c1]; exact dec8_ip c1
  rw [if_neg c1] at g ⊢
  by_cases c2 : (rd (bz S)).proto ≠ 6
  · rw [if_pos c2]; exact dec8_proto (Decidable.not_not.1 c1) c2
  rw [if_neg c2] at g ⊢
  exact dec8_tcp (Decidable.not_not.1 c1) (Decidable.not_not.1 c2) g
end Go.Proofs.Ytpmnmnflaijaaaa.PktDecR
