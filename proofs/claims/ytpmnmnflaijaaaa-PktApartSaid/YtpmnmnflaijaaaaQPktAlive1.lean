/-
  Laws for a proof of package pkt: 1 texts in one.
-/
import Derived.Test.YtpmnmnflaijaaaaQPktLay26
import Derived.Test.YtpmnmnflaijaaaaQPktAliveA1
import Derived.Test.YtpmnmnflaijaaaaQPktBox1
import Derived.Test.YtpmnmnflaijaaaaQPktEncP2
import Derived.Test.YtpmnmnflaijaaaaQPktSameP1
import Derived.Test.YtpmnmnflaijaaaaQPktDecP2
import Derived.Test.YtpmnmnflaijaaaaQPktTdP2
import Derived.Test.YtpmnmnflaijaaaaQPktRw4
import Derived.Test.YtpmnmnflaijaaaaQPktNx2
import Derived.Test.YtpmnmnflaijaaaaQRelG2
namespace Go.Proofs.Ytpmnmnflaijaaaa.PktAlive
open Go.Proofs.Ytpmnmnflaijaaaa.Own
open Go.RowKit TupMath SumMath Litb Calm Rel RelG IpMath IpRef OptMath OptSame OptMay OptTake5 OptTk PktMath PktVal PktSmall PktCom PktDecC PktOp PktRwM PktBox PktAlM
open Cells (CellsAt)
set_option linter.unusedVariables false
set_option linter.unusedSimpArgs false
set_option maxRecDepth 100000
attribute [local go_sem] Oper.semAt_some

set_option maxHeartbeats 16000000 in
theorem alive_any (w : World) : Calls Try.prog 9 #[] w fun e w' => e = .returned (.bool true) ∧ Below w.heap.size w w' := by
  have H0 := Lib.hid (fun W => segL W)
  have H1 := fun W => PktEncP.encP8 asg none 0 W (BlkR.nil _ _) asg_ok (by decide)
  rw [asg_enc] at H1
  have H1 := Lib.hid H1
  have hP := asg_size
  have H2 := Lib.hid (fun W => decX (ofB (pk asg)) 0 asg W (by rw [asg_size]; decide) asg_dec)
  have H3 : Hid (∀ W, Calls Try.prog 18 #[.string ⟨#[]⟩] W fun e w' => (∃ A c, e = .returned (.tuple #[sv zeroS A c, .int .i64 50]) ∧ BlkR w' A zeroS.opts.blocks) ∧ Below W.heap.size W w') := Lib.hid (fun W => decX ⟨#[]⟩ 50 zeroS W (by decide) none_dec)
  have H4 : Hid (∀ W, Calls Try.prog 23 #[] W fun e w' => e = .returned (.agg #[.int .u16 0, .int .i64 (-1), .bool false, .slice none 0 0, .bool false, .int .u32 0, .int .u32 0]) ∧ Below W.heap.size W w') := Lib.hid (fun W => OptP.noneP W)
  have H5 : Hid (∀ W, Calls Try.prog 10 #[.agg #[.int .u32 0, .int .u16 0, .int .u32 0, .int .u16 0, .int .u32 0, .int .u32 0, .int .u8 3, .int .u16 0, .int .u16 0, .int .i64 (-1), .bool false, .slice none 0 0, .bool false, .int .u32 0, .int .u32 0, .string ⟨#[]⟩]] W fun e w' => e = .returned (.tuple #[.string ⟨#[]⟩, .int .i64 2]) ∧ Below W.heap.size W w') := Lib.hid (fun W => by
    have q := PktEncP.encP8 ahu none 0 W (BlkR.nil _ _) ahu_ok (by decide)
    rw [ahu_enc] at q
    exact q)
  have H6 := fun W => PktRw.rewP (ofB (pk asg)) ash W (by rw [asg_size]; decide) ash_ok (by decide) (by decide) (by decide) (by decide)
  rw [asg_rew] at H6
  have H6 := Lib.hid H6
  have H7 := Lib.hid (fun W => decX (ofB (rewS (ofB (pk asg)) ash)) 0 (turned asg ash) W (by rw [asg_size2]; decide) asg_redec)
  have H9 := Lib.hid (fun W => PktTdP.turnedP8 asg none 0 ash W (BlkR.nil _ _) asg_ok (by decide) (by decide) ash_ok (by decide) (by decide) (by decide) (by decide))
  have H8 := fun A c W => PktSameP.sameP8 asg asg A c none 0 W (BlkR.nil _ _) (BlkR.nil _ _) (by decide) (by decide)
  rw [sameS_yes rfl] at H8
  have H8 := Lib.hid H8
  have H10 := fun A c A' c' W => PktSameP.sameP8 (turned asg ash) (turned asg ash) A c A' c' W (BlkR.nil _ _) (BlkR.nil _ _) (by decide) (by decide)
  rw [sameS_yes rfl] at H10
  have H10 := Lib.hid H10
  have H11 := fun W => PktNx.nextP asg none 0 W asg_ok (by decide)
  rw [show nxt asg = 8 from by decide +kernel] at H11
  have H11 := Lib.hid H11
  have H12 := fun W => PktMayP.mayP8 asg none 0 W (BlkR.nil _ _) asg_ok (by decide)
  rw [asg_mayS] at H12
  have H12 := Lib.hid H12
  obtain ⟨u1, u2, u3, u4⟩ := asg_turned
  have q44 : (((ofB (pk asg)).size : Int) == 44) = true := by rw [hP]; rfl
  have q12 : (((turned asg ash).seq : Int) == 12) = true := by rw [u1]; rfl
  have q0 : (((turned asg ash).ack : Int) == 0) = true := by rw [u2]; rfl
  have q200 : (((turned asg ash).win : Int) == 200) = true := by rw [u3]; rfl
  have q4 : (((turned asg ash).dport : Int) == 4) = true := by rw [u4]; rfl
  have hPs : (ofB (pk asg)).size ≤ 9223372036854775807 := by omega
  generalize turned asg ash = u at H7 H9 H10 q12 q0 q200 q4
  generalize ofB (rewS (ofB (pk asg)) ash) = T at H6 H7
  generalize ofB (pk asg) = P at H1 H2 H6 q44 hPs
  generalize asg = g at H0 H1 H2 H8 H9 H11 H12
  generalize zeroS = z at H3
  clear u1 u2 u3 u4 hP
  go_enter Try.func9, Try.ntmps9
  go_wp2_with fail
  refine (H0.out _).mono ?_
  rintro e w1 ⟨rfl, hb⟩
  have B1 := Lib.hid hb
  clear hb
  go_wp2_with fail
  refine (H1.out _).mono ?_
  rintro e w2 ⟨rfl, hb⟩
  have B2 := Lib.hid (st_call B1.out hb)
  clear hb
  go_wp2_with fail
  refine (H2.out _).mono ?_
  rintro e w3 ⟨⟨A3, c3, rfl, -⟩, hb⟩
  have B3 := Lib.hid (st_alloc (st_call B2.out hb) (.cells (sc g A3 c3) 30))
  have X3 := Lib.hid (CellsAt.new w3 (sc g A3 c3) 30)
  clear hb
  go_wp2_with fail
  refine (H3.out _).mono ?_
  rintro e w4 ⟨⟨A4, c4, rfl, -⟩, hb⟩
  have B4 := Lib.hid (st_alloc (st_call B3.out hb) (.cells (sc z A4 c4) 30))
  have X4 := Lib.hid ((X3.out.later hb).later ((Below.refl _ w4).alloc (Nat.le_refl _) (.cells (sc z A4 c4) 30)))
  clear hb
  go_wp2_with fail
  refine (H4.out _).mono ?_
  rintro e w5 ⟨rfl, hb⟩
  have B5 := Lib.hid (st_call B4.out hb)
  have X5 := Lib.hid (X4.out.later hb)
  clear hb
  go_wp2_with fail
  refine (H5.out _).mono ?_
  rintro e w6 ⟨rfl, hb⟩
  have B6 := Lib.hid (st_alloc (st_call B5.out hb) (.cells #[.int .u32 1, .int .u16 2, .int .u32 3, .int .u16 4, .int .u32 5, .int .u32 6, .int .u32 0, .int .u32 0, .int .i64 1, .int .i64 0] 46))
  have X6 := Lib.hid ((X5.out.later hb).later ((Below.refl _ w6).alloc (Nat.le_refl _) (.cells #[.int .u32 1, .int .u16 2, .int .u32 3, .int .u16 4, .int .u32 5, .int .u32 6, .int .u32 0, .int .u32 0, .int .i64 1, .int .i64 0] 46)))
  have Y6 : CellsAt (w6.alloc (.cells #[.int .u32 1, .int .u16 2, .int .u32 3, .int .u16 4, .int .u32 5, .int .u32 6, .int .u32 0, .int .u32 0, .int .i64 1, .int .i64 0] 46)) w6.heap.size (xc ash) := CellsAt.new w6 #[.int .u32 1, .int .u16 2, .int .u32 3, .int .u16 4, .int .u32 5, .int .u32 6, .int .u32 0, .int .u32 0, .int .i64 1, .int .i64 0] 46
  clear hb
  go_wp2_with (first | (refine step_seg rfl _ rfl _ rfl _ _ _ (by assumption) ?_) | (refine step_shift rfl _ rfl _ rfl _ (by assumption) ?_))
  refine (H6.out _).mono ?_
  rintro e w7 ⟨rfl, hb⟩
  have B7 := Lib.hid (st_call B6.out hb)
  have X7 := Lib.hid (X6.out.later hb)
  have Y7 := Lib.hid (Y6.later hb)
  clear hb Y6
  go_wp2_with fail
  refine (H7.out _).mono ?_
  rintro e w8 ⟨⟨A8, c8, rfl, -⟩, hb⟩
  have B8 := Lib.hid (st_alloc (st_call B7.out hb) (.cells (sc u A8 c8) 30))
  have X9 := Lib.hid ((X7.out.later hb).later ((Below.refl _ w8).alloc (Nat.le_refl _) (.cells (sc u A8 c8) 30)))
  have Y8 := Lib.hid ((Y7.out.later hb).later ((Below.refl _ w8).alloc (Nat.le_refl _) (.cells (sc u A8 c8) 30)))
  have Z8 := Lib.hid (CellsAt.new w8 (sc u A8 c8) 30)
  clear hb X4 X5 X6 X7 Y7
  obtain ⟨b3, hb3⟩ : ∃ b3, w3.heap.size = b3 := ⟨_, rfl⟩
  obtain ⟨b9, hb9⟩ : ∃ b9, w6.heap.size = b9 := ⟨_, rfl⟩
  obtain ⟨b12, hb12⟩ : ∃ b12, w8.heap.size = b12 := ⟨_, rfl⟩
  rw [hb3] at X9
  rw [hb9] at Y8
  rw [hb12] at Z8
  go_upto_region 8 with fail
  (try rw [hb3])
  (try rw [hb9])
  (try rw [hb12])
  obtain ⟨W8, hW8⟩ : ∃ W8, w8.alloc (.cells (sc u A8 c8) 30) = W8 := ⟨_, rfl⟩
  rw [hW8] at B8 X9 Y8 Z8 ⊢
  clear hW8 hb3 hb9 hb12
  refine alive_last P g u A3 A8 c3 c8 b3 b9 b12 W8 X9.out Y8.out Z8.out H0.out H8.out H9.out H10.out H11.out H12.out q44 q12 q0 q200 q4 hPs _ _ _ _ _ _ _ _ _ _ _ _ _ _ _ _ _ _ _ _ _ _ _ _ _ _ _ _ _ _ _ _ _ _ _ _ _ _ _ _ _ _ _ _ _ _ _ _ _ _ _ _ _ _ _ _ _ _ _ _ _ _ _ _ _ _ _ _ _ _ _ _ _ _ _ _ _ _ _ _ _ _ _ _ _ _ _ _ _ _ _ _ _ _ _ _ _ _ _ _ _ _ _ _ _ _ _ _ ?_
  intro a W ha hd hb
  have B9 := Lib.hid (st_call B8.out hb)
  clear hb
  show (_ : Act → World → Prop) a W
  rename_i hK
  refine hK _ _ ?_
  go_wp2
  refine bodyPost_ret (v := .bool true) ?_ hd ⟨rfl, B9.out⟩
  exact (results_tmp rfl _ _ _).trans (congrArg (Result.ok · W) ha)
end Go.Proofs.Ytpmnmnflaijaaaa.PktAlive
