/-
  Laws for a proof of package pkt: 2 texts in one.
-/
import Derived.Test.YtpmnmnflaijaaaaGreatQOptTurn10
import Derived.Test.YtpmnmnflaijaaaaGreatQPktDecC1
import Derived.Test.YtpmnmnflaijaaaaGreatQPkt163
import Derived.Test.YtpmnmnflaijaaaaGreatQPktHeadsB2
import Derived.Test.YtpmnmnflaijaaaaGreatQOptDec1
import Derived.Test.YtpmnmnflaijaaaaGreatQPktDecRZ1
namespace Go.Proofs.YtpmnmnflaijaaaaGreat.PktDecR
open Go.Proofs.YtpmnmnflaijaaaaGreat.Own
open Go.RowKit TupMath SumMath Litb Calm Rel RelT RelK IpMath IpRef OptMath OptRef OptPlc OptSame Boxes OptMay PktMath PktVal PktSmall PktCom IpHead IpDec TcpMath TcpRef TcpDec OptTake5 OptTk PktDecC Pkt16
open Cells (CellsAt Apart)
set_option linter.unusedVariables false
set_option linter.unusedSimpArgs false
set_option maxRecDepth 100000
attribute [local go_sem] Oper.semAt_some
set_option maxHeartbeats 16000000 in
theorem decR8_hd (S : ByteArray) (w : World) (hs : S.size ≤ 1000000) (g1 : PktHeads.hdsE S ≠ 0) : Calls Tryz.prog 24 #[.string S] w (DecOut8 S w) := by
 have HV := Lib.hid (dec8_hds g1)
 have G1 := Lib.hid g1
 clear g1
 have D0 := Lib.hid (CellsAt.new w #[.int .u32 0, .int .u16 0, .int .u32 0, .int .u16 0, .int .u32 0, .int .u32 0, .int .u8 0, .int .u16 0, .int .u16 0, .int .i64 0, .bool false, .slice none 0 0, .bool false, .int .u32 0, .int .u32 0, .string ⟨#[]⟩] 30)
 have B0 := Lib.hid (st_alloc (Below.refl _ w) (.cells #[.int .u32 0, .int .u16 0, .int .u32 0, .int .u16 0, .int .u32 0, .int .u32 0, .int .u8 0, .int .u16 0, .int .u16 0, .int .i64 0, .bool false, .slice none 0 0, .bool false, .int .u32 0, .int .u32 0, .string ⟨#[]⟩] 30))
 obtain ⟨h, t, d, hok, hT0⟩ := PktHeads.headsR S hs
 have T1 := Lib.hid hT0
 obtain ⟨n, hn⟩ : ∃ n, PktHeads.hdsE S = n := ⟨_, rfl⟩
 rw [hn] at T1 hok
 unfold DecOut8
 have HOK := Lib.hid hok
 have HN := Lib.hid hn
 clear hT0 hok hn
 go_enter Tryz.func24, Tryz.ntmps24
 go_wp2_with fail
 refine (T1.out _).mono ?_
 rintro e wA ⟨rfl, hb⟩
 have BA := Lib.hid (st_alloc (st_alloc (st_call B0.out hb) (.cells #[.int .u32 (h.src : Int), .int .u32 (h.dst : Int), .int .u8 (h.proto : Int), .int .u8 (h.ttl : Int), .int .u8 (h.tos : Int), .int .u16 (h.id : Int), .bool h.df] 59)) (.cells #[.int .u16 (t.src : Int), .int .u16 (t.dst : Int), .int .u32 (t.seq : Int), .int .u32 (t.ack : Int), .int .u8 (t.flags : Int), .int .u16 (t.win : Int), .int .u16 (t.urg : Int), .string t.opts] 61))
 have DA := Lib.hid (((D0.out.later hb).later ((Below.refl _ wA).alloc (Nat.le_refl _) (.cells #[.int .u32 (h.src : Int), .int .u32 (h.dst : Int), .int .u8 (h.proto : Int), .int .u8 (h.ttl : Int), .int .u8 (h.tos : Int), .int .u16 (h.id : Int), .bool h.df] 59))).later ((Below.refl _ (wA.alloc (.cells #[.int .u32 (h.src : Int), .int .u32 (h.dst : Int), .int .u8 (h.proto : Int), .int .u8 (h.ttl : Int), .int .u8 (h.tos : Int), .int .u16 (h.id : Int), .bool h.df] 59))).alloc (Nat.le_refl _) (.cells #[.int .u16 (t.src : Int), .int .u16 (t.dst : Int), .int .u32 (t.seq : Int), .int .u32 (t.ack : Int), .int .u8 (t.flags : Int), .int .u16 (t.win : Int), .int .u16 (t.urg : Int), .string t.opts] 61)))
 have CA := Lib.hid ((CellsAt.new wA #[.int .u32 (h.src : Int), .int .u32 (h.dst : Int), .int .u8 (h.proto : Int), .int .u8 (h.ttl : Int), .int .u8 (h.tos : Int), .int .u16 (h.id : Int), .bool h.df] 59).later ((Below.refl _ (wA.alloc (.cells #[.int .u32 (h.src : Int), .int .u32 (h.dst : Int), .int .u8 (h.proto : Int), .int .u8 (h.ttl : Int), .int .u8 (h.tos : Int), .int .u16 (h.id : Int), .bool h.df] 59))).alloc (Nat.le_refl _) (.cells #[.int .u16 (t.src : Int), .int .u16 (t.dst : Int), .int .u32 (t.seq : Int), .int .u32 (t.ack : Int), .int .u8 (t.flags : Int), .int .u16 (t.win : Int), .int .u16 (t.urg : Int), .string t.opts] 61)))
 have cB := CellsAt.new (wA.alloc (.cells #[.int .u32 (h.src : Int), .int .u32 (h.dst : Int), .int .u8 (h.proto : Int), .int .u8 (h.ttl : Int), .int .u8 (h.tos : Int), .int .u16 (h.id : Int), .bool h.df] 59)) #[.int .u16 (t.src : Int), .int .u16 (t.dst : Int), .int .u32 (t.seq : Int), .int .u32 (t.ack : Int), .int .u8 (t.flags : Int), .int .u16 (t.win : Int), .int .u16 (t.urg : Int), .string t.opts] 61
 rw [World.size_alloc] at cB
 have CB := Lib.hid cB
 have lA := (D0.out.later hb).lt
 clear hb T1 cB D0 B0
 go_upto_region 2 with fail
 obtain ⟨W1, hW1⟩ : ∃ W1, ((wA.alloc (.cells #[.int .u32 (h.src : Int), .int .u32 (h.dst : Int), .int .u8 (h.proto : Int), .int .u8 (h.ttl : Int), .int .u8 (h.tos : Int), .int .u16 (h.id : Int), .bool h.df] 59)).alloc (.cells #[.int .u16 (t.src : Int), .int .u16 (t.dst : Int), .int .u32 (t.seq : Int), .int .u32 (t.ack : Int), .int .u8 (t.flags : Int), .int .u16 (t.win : Int), .int .u16 (t.urg : Int), .string t.opts] 61)) = W1 := ⟨_, rfl⟩
 rw [hW1] at BA DA CA CB ⊢
 clear hW1
 rw [HN.out] at HV
 have c1 : n ≠ 0 := by rw [← HN.out]; exact G1.out
 have q1 : ((n : Int) != 0) = true := bne_iff_ne.2 (by omega)
 have d0 := DA.out.cell 0 _ rfl
 have f0 := DA.out.free 0 (by simp)
 have d1 := DA.out.cell 1 _ rfl
 have f1 := DA.out.free 1 (by simp)
 have d2 := DA.out.cell 2 _ rfl
 have f2 := DA.out.free 2 (by simp)
 have d3 := DA.out.cell 3 _ rfl
 have f3 := DA.out.free 3 (by simp)
 have d4 := DA.out.cell 4 _ rfl
 have f4 := DA.out.free 4 (by simp)
 have d5 := DA.out.cell 5 _ rfl
 have f5 := DA.out.free 5 (by simp)
 have d6 := DA.out.cell 6 _ rfl
 have f6 := DA.out.free 6 (by simp)
 have d7 := DA.out.cell 7 _ rfl
 have f7 := DA.out.free 7 (by simp)
 have d8 := DA.out.cell 8 _ rfl
 have f8 := DA.out.free 8 (by simp)
 have d9 := DA.out.cell 9 _ rfl
 have f9 := DA.out.free 9 (by simp)
 have d10 := DA.out.cell 10 _ rfl
 have f10 := DA.out.free 10 (by simp)
 have d11 := DA.out.cell 11 _ rfl
 have f11 := DA.out.free 11 (by simp)
 have d12 := DA.out.cell 12 _ rfl
 have f12 := DA.out.free 12 (by simp)
 have d13 := DA.out.cell 13 _ rfl
 have f13 := DA.out.free 13 (by simp)
 have d14 := DA.out.cell 14 _ rfl
 have f14 := DA.out.free 14 (by simp)
 have d15 := DA.out.cell 15 _ rfl
 have f15 := DA.out.free 15 (by simp)
 have z0 := DA.out.lt
 go_wp2_with fail
 obtain ⟨W9, hW9, hC9, _, hb9⟩ := anew16 DA.out rfl (.int .u32 0) (.int .u16 0) (.int .u32 0) (.int .u16 0) (.int .u32 0) (.int .u32 0) (.int .u8 0) (.int .u16 0) (.int .u16 0) (.int .i64 0) (.bool false) (.slice none 0 0) (.bool false) (.int .u32 0) (.int .u32 0) (.string ⟨#[]⟩)
 rw [hW9]
 clear d0 f0 d1 f1 d2 f2 d3 f3 d4 f4 d5 f5 d6 f6 d7 f7 d8 f8 d9 f9 d10 f10 d11 f11 d12 f12 d13 f13 d14 f14 d15 f15
 have e0 := hC9.cell 0 _ rfl
 have e1 := hC9.cell 1 _ rfl
 have e2 := hC9.cell 2 _ rfl
 have e3 := hC9.cell 3 _ rfl
 have e4 := hC9.cell 4 _ rfl
 have e5 := hC9.cell 5 _ rfl
 have e6 := hC9.cell 6 _ rfl
 have e7 := hC9.cell 7 _ rfl
 have e8 := hC9.cell 8 _ rfl
 have e9 := hC9.cell 9 _ rfl
 have e10 := hC9.cell 10 _ rfl
 have e11 := hC9.cell 11 _ rfl
 have e12 := hC9.cell 12 _ rfl
 have e13 := hC9.cell 13 _ rfl
 have e14 := hC9.cell 14 _ rfl
 have e15 := hC9.cell 15 _ rfl
 have B9 := Lib.hid (BA.out.trans hb9)
 refine bodyPost_ret (v := .tuple #[sv zeroS none 0, .int .i64 (n : Int)]) ?_ rfl ⟨⟨none, 0, by rw [HV.out]; try rfl, by rw [HV.out]; exact Row.nil _ _ _⟩, B9.out⟩
 simp [results, Tryz.f24, go_sem, zeroS, zeroO, e0, e1, e2, e3, e4, e5, e6, e7, e8, e9, e10, e11, e12, e13, e14, e15]
end Go.Proofs.YtpmnmnflaijaaaaGreat.PktDecR
namespace Go.Proofs.YtpmnmnflaijaaaaGreat.PktDecR
open Go.Proofs.YtpmnmnflaijaaaaGreat.Own
open Go.RowKit TupMath SumMath Litb Calm Rel RelT RelK IpMath IpRef OptMath OptRef OptPlc OptSame Boxes OptMay PktMath PktVal PktSmall PktCom IpHead IpDec TcpMath TcpRef TcpDec OptTake5 OptTk PktDecC Pkt16
open Cells (CellsAt Apart)
set_option linter.unusedVariables false
set_option linter.unusedSimpArgs false
set_option maxRecDepth 100000
attribute [local go_sem] Oper.semAt_some
set_option maxHeartbeats 16000000 in
theorem decR8_opt (S : ByteArray) (w : World) (hs : S.size ≤ 1000000) (g1 : PktHeads.hdsE S = 0) (g4 : (dec7 (bz (trd (ld S)).opts)).1 ≠ 0) : Calls Tryz.prog 24 #[.string S] w (DecOut8 S w) := by
 obtain ⟨z1, z2, z3⟩ := hdsE_zero g1
 have HV := Lib.hid (dec8_opt z1 z2 z3 g4)
 clear z1 z2 z3
 have G1 := Lib.hid g1
 have G4 := Lib.hid g4
 clear g1 g4
 have D0 := Lib.hid (CellsAt.new w #[.int .u32 0, .int .u16 0, .int .u32 0, .int .u16 0, .int .u32 0, .int .u32 0, .int .u8 0, .int .u16 0, .int .u16 0, .int .i64 0, .bool false, .slice none 0 0, .bool false, .int .u32 0, .int .u32 0, .string ⟨#[]⟩] 30)
 have B0 := Lib.hid (st_alloc (Below.refl _ w) (.cells #[.int .u32 0, .int .u16 0, .int .u32 0, .int .u16 0, .int .u32 0, .int .u32 0, .int .u8 0, .int .u16 0, .int .u16 0, .int .i64 0, .bool false, .slice none 0 0, .bool false, .int .u32 0, .int .u32 0, .string ⟨#[]⟩] 30))
 obtain ⟨h, t, d, hok, hT0⟩ := PktHeads.headsR S hs
 have T1 := Lib.hid hT0
 obtain ⟨n, hn⟩ : ∃ n, PktHeads.hdsE S = n := ⟨_, rfl⟩
 rw [hn] at T1 hok
 unfold DecOut8
 have HOK := Lib.hid hok
 have HN := Lib.hid hn
 clear hT0 hok hn
 go_enter Tryz.func24, Tryz.ntmps24
 go_wp2_with fail
 refine (T1.out _).mono ?_
 rintro e wA ⟨rfl, hb⟩
 have BA := Lib.hid (st_alloc (st_alloc (st_call B0.out hb) (.cells #[.int .u32 (h.src : Int), .int .u32 (h.dst : Int), .int .u8 (h.proto : Int), .int .u8 (h.ttl : Int), .int .u8 (h.tos : Int), .int .u16 (h.id : Int), .bool h.df] 59)) (.cells #[.int .u16 (t.src : Int), .int .u16 (t.dst : Int), .int .u32 (t.seq : Int), .int .u32 (t.ack : Int), .int .u8 (t.flags : Int), .int .u16 (t.win : Int), .int .u16 (t.urg : Int), .string t.opts] 61))
 have DA := Lib.hid (((D0.out.later hb).later ((Below.refl _ wA).alloc (Nat.le_refl _) (.cells #[.int .u32 (h.src : Int), .int .u32 (h.dst : Int), .int .u8 (h.proto : Int), .int .u8 (h.ttl : Int), .int .u8 (h.tos : Int), .int .u16 (h.id : Int), .bool h.df] 59))).later ((Below.refl _ (wA.alloc (.cells #[.int .u32 (h.src : Int), .int .u32 (h.dst : Int), .int .u8 (h.proto : Int), .int .u8 (h.ttl : Int), .int .u8 (h.tos : Int), .int .u16 (h.id : Int), .bool h.df] 59))).alloc (Nat.le_refl _) (.cells #[.int .u16 (t.src : Int), .int .u16 (t.dst : Int), .int .u32 (t.seq : Int), .int .u32 (t.ack : Int), .int .u8 (t.flags : Int), .int .u16 (t.win : Int), .int .u16 (t.urg : Int), .string t.opts] 61)))
 have CA := Lib.hid ((CellsAt.new wA #[.int .u32 (h.src : Int), .int .u32 (h.dst : Int), .int .u8 (h.proto : Int), .int .u8 (h.ttl : Int), .int .u8 (h.tos : Int), .int .u16 (h.id : Int), .bool h.df] 59).later ((Below.refl _ (wA.alloc (.cells #[.int .u32 (h.src : Int), .int .u32 (h.dst : Int), .int .u8 (h.proto : Int), .int .u8 (h.ttl : Int), .int .u8 (h.tos : Int), .int .u16 (h.id : Int), .bool h.df] 59))).alloc (Nat.le_refl _) (.cells #[.int .u16 (t.src : Int), .int .u16 (t.dst : Int), .int .u32 (t.seq : Int), .int .u32 (t.ack : Int), .int .u8 (t.flags : Int), .int .u16 (t.win : Int), .int .u16 (t.urg : Int), .string t.opts] 61)))
 have cB := CellsAt.new (wA.alloc (.cells #[.int .u32 (h.src : Int), .int .u32 (h.dst : Int), .int .u8 (h.proto : Int), .int .u8 (h.ttl : Int), .int .u8 (h.tos : Int), .int .u16 (h.id : Int), .bool h.df] 59)) #[.int .u16 (t.src : Int), .int .u16 (t.dst : Int), .int .u32 (t.seq : Int), .int .u32 (t.ack : Int), .int .u8 (t.flags : Int), .int .u16 (t.win : Int), .int .u16 (t.urg : Int), .string t.opts] 61
 rw [World.size_alloc] at cB
 have CB := Lib.hid cB
 have lA := (D0.out.later hb).lt
 clear hb T1 cB D0 B0
 go_upto_region 2 with fail
 obtain ⟨W1, hW1⟩ : ∃ W1, ((wA.alloc (.cells #[.int .u32 (h.src : Int), .int .u32 (h.dst : Int), .int .u8 (h.proto : Int), .int .u8 (h.ttl : Int), .int .u8 (h.tos : Int), .int .u16 (h.id : Int), .bool h.df] 59)).alloc (.cells #[.int .u16 (t.src : Int), .int .u16 (t.dst : Int), .int .u32 (t.seq : Int), .int .u32 (t.ack : Int), .int .u8 (t.flags : Int), .int .u16 (t.win : Int), .int .u16 (t.urg : Int), .string t.opts] 61)) = W1 := ⟨_, rfl⟩
 rw [hW1] at BA DA CA CB ⊢
 clear hW1
 have c1 : n = 0 := HN.out.symm.trans G1.out
 obtain ⟨hh, ht, hd1⟩ := HOK.out c1
 have hts : t.opts.size ≤ 1000000 := by rw [ht]; exact Nat.le_trans (trd_opts _) (Nat.le_trans (ld_size S) hs)
 have T3 := Lib.hid (fun W => OptDec.decR7 t.opts W hts)
 unfold DecOut at T3
 obtain ⟨n3, hn3⟩ : ∃ n3, (dec7 (bz t.opts)).1 = n3 := ⟨_, rfl⟩
 obtain ⟨o, ho⟩ : ∃ o, (dec7 (bz t.opts)).2 = o := ⟨_, rfl⟩
 rw [hn3, ho] at T3
 have HE := Lib.hid (show (dec7 (bz (trd (ld S)).opts)).1 = n3 ∧ (dec7 (bz (trd (ld S)).opts)).2 = o ∧ rd (bz S) = h ∧ trd (ld S) = t ∧ dt S = d from by
   subst hh ht hd1
   exact ⟨hn3, ho, rfl, rfl, rfl⟩)
 clear hh ht hd1 hn3 ho hts HOK HN
 subst c1
 have q1 : (((0 : Nat) : Int) != 0) = false := rfl
 have lt1 := CB.out.lt
 have r7 : W1.cell? ⟨wA.heap.size + 1, 7, none⟩ = some (.string t.opts) := CB.out.cell 7 _ rfl
 go_wp2_with fail
 refine (T3.out _).mono ?_
 rintro e wC ⟨⟨A, c, rfl, hrow⟩, hb⟩
 have BC := Lib.hid (st_alloc (st_call BA.out hb) (.cells (oc o A c) 28))
 have DC := Lib.hid ((DA.out.later hb).later ((Below.refl _ wC).alloc (Nat.le_refl _) (.cells (oc o A c) 28)))
 have CAC := Lib.hid ((CA.out.later hb).later ((Below.refl _ wC).alloc (Nat.le_refl _) (.cells (oc o A c) 28)))
 have CBC := Lib.hid ((CB.out.later hb).later ((Below.refl _ wC).alloc (Nat.le_refl _) (.cells (oc o A c) 28)))
 have CC := Lib.hid (CellsAt.new wC (oc o A c) 28)
 have HR := Lib.hid ((hrow.imp (Q := fun b => w.heap.size < b) (fun b h2 => Nat.lt_of_lt_of_le DA.out.lt h2)).more ((Below.refl _ wC).alloc (Nat.le_refl _) (.cells (oc o A c) 28)))
 clear hb T3 hrow DA CA CB lt1 r7
 have c4 := G4.out
 rw [HE.out.1] at c4 HV
 have q4 : ((n3 : Int) != 0) = true := bne_iff_ne.2 (by omega)
 have d0 := DC.out.cell 0 _ rfl
 have f0 := DC.out.free 0 (by simp)
 have d1 := DC.out.cell 1 _ rfl
 have f1 := DC.out.free 1 (by simp)
 have d2 := DC.out.cell 2 _ rfl
 have f2 := DC.out.free 2 (by simp)
 have d3 := DC.out.cell 3 _ rfl
 have f3 := DC.out.free 3 (by simp)
 have d4 := DC.out.cell 4 _ rfl
 have f4 := DC.out.free 4 (by simp)
 have d5 := DC.out.cell 5 _ rfl
 have f5 := DC.out.free 5 (by simp)
 have d6 := DC.out.cell 6 _ rfl
 have f6 := DC.out.free 6 (by simp)
 have d7 := DC.out.cell 7 _ rfl
 have f7 := DC.out.free 7 (by simp)
 have d8 := DC.out.cell 8 _ rfl
 have f8 := DC.out.free 8 (by simp)
 have d9 := DC.out.cell 9 _ rfl
 have f9 := DC.out.free 9 (by simp)
 have d10 := DC.out.cell 10 _ rfl
 have f10 := DC.out.free 10 (by simp)
 have d11 := DC.out.cell 11 _ rfl
 have f11 := DC.out.free 11 (by simp)
 have d12 := DC.out.cell 12 _ rfl
 have f12 := DC.out.free 12 (by simp)
 have d13 := DC.out.cell 13 _ rfl
 have f13 := DC.out.free 13 (by simp)
 have d14 := DC.out.cell 14 _ rfl
 have f14 := DC.out.free 14 (by simp)
 have d15 := DC.out.cell 15 _ rfl
 have f15 := DC.out.free 15 (by simp)
 have z0 := DC.out.lt
 go_wp2_with fail
 obtain ⟨W9, hW9, hC9, _, hb9⟩ := anew16 DC.out rfl (.int .u32 0) (.int .u16 0) (.int .u32 0) (.int .u16 0) (.int .u32 0) (.int .u32 0) (.int .u8 0) (.int .u16 0) (.int .u16 0) (.int .i64 0) (.bool false) (.slice none 0 0) (.bool false) (.int .u32 0) (.int .u32 0) (.string ⟨#[]⟩)
 rw [hW9]
 clear d0 f0 d1 f1 d2 f2 d3 f3 d4 f4 d5 f5 d6 f6 d7 f7 d8 f8 d9 f9 d10 f10 d11 f11 d12 f12 d13 f13 d14 f14 d15 f15
 have e0 := hC9.cell 0 _ rfl
 have e1 := hC9.cell 1 _ rfl
 have e2 := hC9.cell 2 _ rfl
 have e3 := hC9.cell 3 _ rfl
 have e4 := hC9.cell 4 _ rfl
 have e5 := hC9.cell 5 _ rfl
 have e6 := hC9.cell 6 _ rfl
 have e7 := hC9.cell 7 _ rfl
 have e8 := hC9.cell 8 _ rfl
 have e9 := hC9.cell 9 _ rfl
 have e10 := hC9.cell 10 _ rfl
 have e11 := hC9.cell 11 _ rfl
 have e12 := hC9.cell 12 _ rfl
 have e13 := hC9.cell 13 _ rfl
 have e14 := hC9.cell 14 _ rfl
 have e15 := hC9.cell 15 _ rfl
 have B9 := Lib.hid (BC.out.trans hb9)
 refine bodyPost_ret (v := .tuple #[sv zeroS none 0, .int .i64 (n3 : Int)]) ?_ rfl ⟨⟨none, 0, by rw [HV.out]; try rfl, by rw [HV.out]; exact Row.nil _ _ _⟩, B9.out⟩
 simp [results, Tryz.f24, go_sem, zeroS, zeroO, e0, e1, e2, e3, e4, e5, e6, e7, e8, e9, e10, e11, e12, e13, e14, e15]
end Go.Proofs.YtpmnmnflaijaaaaGreat.PktDecR
