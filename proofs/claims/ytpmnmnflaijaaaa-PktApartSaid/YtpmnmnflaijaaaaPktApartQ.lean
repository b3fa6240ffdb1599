/-
  Proved: the statement 'Rows.PktApartSaid': for every input the Go function transomlaw08.PktApart returns true, and each argument reads behind the call as it read before. Conditions: none of our own; those of the given row.
-/
import Derived.Test.YtpmnmnflaijaaaaQPktAlive1
import Derived.Test.YtpmnmnflaijaaaaQPktSee4
import Derived.Test.YtpmnmnflaijaaaaQPkt163
import Derived.Test.YtpmnmnflaijaaaaQRelL3
import Derived.Test.YtpmnmnflaijaaaaQRelG2
import Derived.Test.YtpmnmnflaijaaaaQCalm1
import Derived.Test.YtpmnmnflaijaaaaRows
import Derived.WalkKit
import Derived.ProofKit
import Derived.OpenShut
import Derived.ShutString
import Derived.ChangeOld
import Derived.Below
namespace Go.Proofs.Ytpmnmnflaijaaaa.pktApart
open Go.ChangeShapes Go.WideShapes Go.ChangeAt Go.RowKit
open Go.ChangeMaps (open_string shut_string)
open TupMath SumMath IpMath Litb Calm Rel RelT RelG IpRef OptMath OptSame OptTake5 OptTk OptBackM PktMath PktVal PktCom PktDecC PktOp PktSmall Pkt16 PktBox PktRwM PktAlM PktAlive
open Cells (CellsAt put_lit Apart)
set_option linter.unusedVariables false

theorem own : ownKnob Try.prog.godebug = none := by kernel_rfl
theorem laidOut : laidOutB Try.prog = true := by kernel_rfl

theorem encV8_form (s : Sg) : ∃ (S : ByteArray) (n : Int), encV8 s = .tuple #[.string S, .int .i64 n] := by
  unfold encV8
  split
  · exact ⟨_, _, rfl⟩
  · exact ⟨_, _, rfl⟩
theorem row_apart {P : Nat → Prop} {w w' : World} {A : Option Addr} {L : List (Nat × Nat)} (h : Row P w A L) (g : Nat) (x : Int) (hz : w.cell? ⟨g, 1, none⟩ = some (.int .u16 x)) (ha : Apart g w w') : Row P w' A L := fun h0 => by
  obtain ⟨b, e, hp, hlt, hc⟩ := h h0
  have hne : b ≠ g := fun q => by
    subst q
    have h1 := (hc 0 _ (List.getElem?_eq_getElem h0)).2
    rw [Nat.zero_mul, Nat.zero_add, hz] at h1
    cases h1
  exact ⟨b, e, hp, Nat.lt_of_lt_of_le hlt ha.1, fun j p hj => ⟨(ha.2 ⟨b, j * 2, none⟩ hne).1.trans (hc j p hj).1, (ha.2 ⟨b, j * 2 + 1, none⟩ hne).1.trans (hc j p hj).2⟩⟩
def relA8 (s0 : Sg) (A0 : Option Addr) (c0 : Nat) (x2 y2 : Sh) (u vv : Sg) (N0 : Nat) : Nat → Value → World → Prop
  | 0 => fun v _ => v = sv s0 A0 c0
  | 1 => fun v _ => v = xv x2
  | 2 => fun v W => ∃ A c, v = sv u A c ∧ BlkR W A u.opts.blocks
  | 3 => fun v _ => v = xv y2
  | 4 => fun v W => ∃ A c, v = sv vv A c ∧ Row (fun _ => True) W A vv.opts.blocks
  | 5 => fun v W => ∃ Bq, v = .pointer (some ⟨Bq, 0, none⟩) ∧ N0 ≤ Bq ∧ CellsAt W Bq #[.int .u32 0, .int .u16 0, .int .u32 0, .int .u16 0, .int .u32 0, .int .u32 0, .int .u8 0, .int .u16 0, .int .u16 0, .int .i64 0, .bool false, .slice none 0 0, .bool false, .int .u32 0, .int .u32 0, .string ⟨#[]⟩]
  | _ => fun _ _ => True
theorem relA8_more (s0 : Sg) (A0 : Option Addr) (c0 : Nat) (x2 y2 : Sh) (u vv : Sg) (N0 : Nat) (i : Nat) (v : Value) (w w' : World) (hr : relA8 s0 A0 c0 x2 y2 u vv N0 i v w) (hb : Below w.heap.size w w') : relA8 s0 A0 c0 x2 y2 u vv N0 i v w' := by
  unfold relA8 at hr ⊢
  split at hr <;> first
    | exact hr
    | (obtain ⟨A, c, e, hR⟩ := hr
       exact ⟨A, c, e, hR.more hb⟩)
    | (obtain ⟨Bq, e, hn, hC⟩ := hr
       exact ⟨Bq, e, hn, hC.later hb⟩)
def relC8 (s0 : Sg) (A0 : Option Addr) (c0 : Nat) (x3 : Sh) (u3 : Sg) (b0 : Nat) : Nat → Value → World → Prop
  | 0 => fun v _ => v = sv s0 A0 c0
  | 1 => fun v _ => v = xv x3
  | 2 => fun v W => ∃ A c, v = sv u3 A c
  | 3 => fun v _ => v = .int .u16 (s0.win : Int)
  | 4 => fun v _ => v = .pointer (some ⟨b0, 7, none⟩)
  | 5 => fun v _ => v = .int .u16 (s0.win : Int)
  | 6 => fun v _ => v = .bool true
  | 7 => fun v _ => v = .bool true
  | 8 => fun v _ => v = .bool true
  | 9 => fun v _ => v = .bool true
  | 10 => fun v _ => v = .bool true
  | 11 => fun v _ => v = .bool true
  | 12 => fun v _ => v = .bool true
  | _ => fun _ _ => True
theorem relC8_more (s0 : Sg) (A0 : Option Addr) (c0 : Nat) (x3 : Sh) (u3 : Sg) (b0 : Nat) (i : Nat) (v : Value) (w w' : World) (hr : relC8 s0 A0 c0 x3 u3 b0 i v w) (hb : Below w.heap.size w w') : relC8 s0 A0 c0 x3 u3 b0 i v w' := by
  unfold relC8 at hr ⊢
  split at hr <;> exact hr
attribute [local go_sem] relUpon

set_option maxRecDepth 100000 in
set_option maxHeartbeats 16000000 in
theorem apart_h0 (s0 : Sg) (A0 : Option Addr) (c0 : Nat) (s1 : Sg) (A1 : Option Addr) (c1 : Nat) (x2 : Sh) (w : World) (z0 : BlkR w A0 s0.opts.blocks) (g0 : s0.ok ∧ s0.opts.blocks.length ≤ maxLen ∧ -9223372036854775808 ≤ s0.opts.scale ∧ s0.opts.scale ≤ 9223372036854775807 ∧ s0.data.size ≤ maxLen) (z1 : BlkR w A1 s1.opts.blocks) (g1 : s1.ok ∧ s1.opts.blocks.length ≤ maxLen ∧ -9223372036854775808 ≤ s1.opts.scale ∧ s1.opts.scale ≤ 9223372036854775807 ∧ s1.data.size ≤ maxLen) (g2 : x2.ok ∧ -9223372036854775808 ≤ x2.up ∧ x2.up ≤ 9223372036854775807 ∧ -9223372036854775808 ≤ x2.down ∧ x2.down ≤ 9223372036854775807) (h : heavy s0 = true) : Calls Try.prog 7 #[sv s0 A0 c0, sv s1 A1 c1, xv x2] w fun e w' => e = .returned (.bool true) ∧ Below w.heap.size w w' := by
  have x0 := ((CellsAt.new w (sc s0 A0 c0) 30).later ((Below.refl _ (w.alloc (.cells (sc s0 A0 c0) 30))).alloc (Nat.le_refl _) (.cells (sc s1 A1 c1) 30))).later ((Below.refl _ ((w.alloc (.cells (sc s0 A0 c0) 30)).alloc (.cells (sc s1 A1 c1) 30))).alloc (Nat.le_refl _) (.cells (xc x2) 46))
  have y0 := (CellsAt.new (w.alloc (.cells (sc s0 A0 c0) 30)) (sc s1 A1 c1) 30).later ((Below.refl _ ((w.alloc (.cells (sc s0 A0 c0) 30)).alloc (.cells (sc s1 A1 c1) 30))).alloc (Nat.le_refl _) (.cells (xc x2) 46))
  have v0 := CellsAt.new ((w.alloc (.cells (sc s0 A0 c0) 30)).alloc (.cells (sc s1 A1 c1) 30)) (xc x2) 46
  simp only [World.size_alloc] at y0 v0
  have X0 := Lib.hid x0
  have Y0 := Lib.hid y0
  have V0 := Lib.hid v0
  clear x0 y0 v0
  have B0 := Lib.hid (st_alloc (st_alloc (st_alloc (Below.refl _ w) (.cells (sc s0 A0 c0) 30)) (.cells (sc s1 A1 c1) 30)) (.cells (xc x2) 46))
  have HH := Lib.hid (fun W => heavyL s0 A0 c0 W g0.2.2.2.2)
  have HG := Lib.hid (fun W => heavyL s1 A1 c1 W g1.2.2.2.2)
  rw [h] at HH
  go_enter Try.func7, Try.ntmps7
  have X1 := X0.out
  go_upto_region 1 with fail
  refine wp_region_lit ?_
  refine step_seg rfl _ rfl _ rfl _ _ _ X1 ?_
  go_wp2_with fail
  refine (HH.out _).mono ?_
  rintro e wL ⟨rfl, hb⟩
  have B1 := Lib.hid (st_call B0.out hb)
  have K1 := Lib.hid hb
  have X2 := Lib.hid (X0.out.later hb)
  have Y1 := Y0.out.later hb
  have V1 := Lib.hid (V0.out.later hb)
  clear hb X1
  clear Y1
  go_wp2_with fail
  refine (alive_any _).mono ?_
  rintro e w' ⟨rfl, hb⟩
  have HB := Lib.hid (st_call (B1.out) hb)
  clear hb
  go_wp2_with fail
  go_ret
  exact ⟨rfl, HB.out⟩

set_option maxRecDepth 100000 in
set_option maxHeartbeats 16000000 in
theorem apart_h1 (s0 : Sg) (A0 : Option Addr) (c0 : Nat) (s1 : Sg) (A1 : Option Addr) (c1 : Nat) (x2 : Sh) (w : World) (z0 : BlkR w A0 s0.opts.blocks) (g0 : s0.ok ∧ s0.opts.blocks.length ≤ maxLen ∧ -9223372036854775808 ≤ s0.opts.scale ∧ s0.opts.scale ≤ 9223372036854775807 ∧ s0.data.size ≤ maxLen) (z1 : BlkR w A1 s1.opts.blocks) (g1 : s1.ok ∧ s1.opts.blocks.length ≤ maxLen ∧ -9223372036854775808 ≤ s1.opts.scale ∧ s1.opts.scale ≤ 9223372036854775807 ∧ s1.data.size ≤ maxLen) (g2 : x2.ok ∧ -9223372036854775808 ≤ x2.up ∧ x2.up ≤ 9223372036854775807 ∧ -9223372036854775808 ≤ x2.down ∧ x2.down ≤ 9223372036854775807) (h0 : heavy s0 = false) (h : heavy s1 = true) : Calls Try.prog 7 #[sv s0 A0 c0, sv s1 A1 c1, xv x2] w fun e w' => e = .returned (.bool true) ∧ Below w.heap.size w w' := by
  have x0 := ((CellsAt.new w (sc s0 A0 c0) 30).later ((Below.refl _ (w.alloc (.cells (sc s0 A0 c0) 30))).alloc (Nat.le_refl _) (.cells (sc s1 A1 c1) 30))).later ((Below.refl _ ((w.alloc (.cells (sc s0 A0 c0) 30)).alloc (.cells (sc s1 A1 c1) 30))).alloc (Nat.le_refl _) (.cells (xc x2) 46))
  have y0 := (CellsAt.new (w.alloc (.cells (sc s0 A0 c0) 30)) (sc s1 A1 c1) 30).later ((Below.refl _ ((w.alloc (.cells (sc s0 A0 c0) 30)).alloc (.cells (sc s1 A1 c1) 30))).alloc (Nat.le_refl _) (.cells (xc x2) 46))
  have v0 := CellsAt.new ((w.alloc (.cells (sc s0 A0 c0) 30)).alloc (.cells (sc s1 A1 c1) 30)) (xc x2) 46
  simp only [World.size_alloc] at y0 v0
  have X0 := Lib.hid x0
  have Y0 := Lib.hid y0
  have V0 := Lib.hid v0
  clear x0 y0 v0
  have B0 := Lib.hid (st_alloc (st_alloc (st_alloc (Below.refl _ w) (.cells (sc s0 A0 c0) 30)) (.cells (sc s1 A1 c1) 30)) (.cells (xc x2) 46))
  have HH := Lib.hid (fun W => heavyL s0 A0 c0 W g0.2.2.2.2)
  have HG := Lib.hid (fun W => heavyL s1 A1 c1 W g1.2.2.2.2)
  rw [h0] at HH
  rw [h] at HG
  go_enter Try.func7, Try.ntmps7
  have X1 := X0.out
  go_upto_region 1 with fail
  refine wp_region_lit ?_
  refine step_seg rfl _ rfl _ rfl _ _ _ X1 ?_
  go_wp2_with fail
  refine (HH.out _).mono ?_
  rintro e wL ⟨rfl, hb⟩
  have B1 := Lib.hid (st_call B0.out hb)
  have K1 := Lib.hid hb
  have X2 := Lib.hid (X0.out.later hb)
  have Y1 := Y0.out.later hb
  have V1 := Lib.hid (V0.out.later hb)
  clear hb X1
  have y0 := Y1.cell 0 _ rfl
  have y1 := Y1.cell 1 _ rfl
  have y2 := Y1.cell 2 _ rfl
  have y3 := Y1.cell 3 _ rfl
  have y4 := Y1.cell 4 _ rfl
  have y5 := Y1.cell 5 _ rfl
  have y6 := Y1.cell 6 _ rfl
  have y7 := Y1.cell 7 _ rfl
  have y8 := Y1.cell 8 _ rfl
  have y9 := Y1.cell 9 _ rfl
  have y10 := Y1.cell 10 _ rfl
  have y11 := Y1.cell 11 _ rfl
  have y12 := Y1.cell 12 _ rfl
  have y13 := Y1.cell 13 _ rfl
  have y14 := Y1.cell 14 _ rfl
  have y15 := Y1.cell 15 _ rfl
  go_wp2_with fail
  refine (HG.out _).mono ?_
  rintro e wL2 ⟨rfl, hb⟩
  have B2 := Lib.hid (st_call B1.out hb)
  have K2 := Lib.hid (st_call K1.out hb)
  have X3 := X2.out.later hb
  have Y3 := Lib.hid (Y1.later hb)
  have V3 := Lib.hid (V1.out.later hb)
  clear hb Y1 y0 y1 y2 y3 y4 y5 y6 y7 y8 y9 y10 y11 y12 y13 y14 y15
  clear X3
  go_wp2_with fail
  refine (alive_any _).mono ?_
  rintro e w' ⟨rfl, hb⟩
  have HB := Lib.hid (st_call (B2.out) hb)
  clear hb
  go_wp2_with fail
  go_ret
  exact ⟨rfl, HB.out⟩

set_option maxRecDepth 100000 in
set_option maxHeartbeats 16000000 in
theorem apart_n (s0 : Sg) (A0 : Option Addr) (c0 : Nat) (s1 : Sg) (A1 : Option Addr) (c1 : Nat) (x2 : Sh) (w : World) (z0 : BlkR w A0 s0.opts.blocks) (g0 : s0.ok ∧ s0.opts.blocks.length ≤ maxLen ∧ -9223372036854775808 ≤ s0.opts.scale ∧ s0.opts.scale ≤ 9223372036854775807 ∧ s0.data.size ≤ maxLen) (z1 : BlkR w A1 s1.opts.blocks) (g1 : s1.ok ∧ s1.opts.blocks.length ≤ maxLen ∧ -9223372036854775808 ≤ s1.opts.scale ∧ s1.opts.scale ≤ 9223372036854775807 ∧ s1.data.size ≤ maxLen) (g2 : x2.ok ∧ -9223372036854775808 ≤ x2.up ∧ x2.up ≤ 9223372036854775807 ∧ -9223372036854775808 ≤ x2.down ∧ x2.down ≤ 9223372036854775807) (h0 : heavy s0 = false) (h1 : heavy s1 = false) (m0 : mayS s0 = false) : Calls Try.prog 7 #[sv s0 A0 c0, sv s1 A1 c1, xv x2] w fun e w' => e = .returned (.bool true) ∧ Below w.heap.size w w' := by
  have x0 := ((CellsAt.new w (sc s0 A0 c0) 30).later ((Below.refl _ (w.alloc (.cells (sc s0 A0 c0) 30))).alloc (Nat.le_refl _) (.cells (sc s1 A1 c1) 30))).later ((Below.refl _ ((w.alloc (.cells (sc s0 A0 c0) 30)).alloc (.cells (sc s1 A1 c1) 30))).alloc (Nat.le_refl _) (.cells (xc x2) 46))
  have y0 := (CellsAt.new (w.alloc (.cells (sc s0 A0 c0) 30)) (sc s1 A1 c1) 30).later ((Below.refl _ ((w.alloc (.cells (sc s0 A0 c0) 30)).alloc (.cells (sc s1 A1 c1) 30))).alloc (Nat.le_refl _) (.cells (xc x2) 46))
  have v0 := CellsAt.new ((w.alloc (.cells (sc s0 A0 c0) 30)).alloc (.cells (sc s1 A1 c1) 30)) (xc x2) 46
  simp only [World.size_alloc] at y0 v0
  have X0 := Lib.hid x0
  have Y0 := Lib.hid y0
  have V0 := Lib.hid v0
  clear x0 y0 v0
  have B0 := Lib.hid (st_alloc (st_alloc (st_alloc (Below.refl _ w) (.cells (sc s0 A0 c0) 30)) (.cells (sc s1 A1 c1) 30)) (.cells (xc x2) 46))
  have HH := Lib.hid (fun W => heavyL s0 A0 c0 W g0.2.2.2.2)
  have HG := Lib.hid (fun W => heavyL s1 A1 c1 W g1.2.2.2.2)
  rw [h0] at HH
  rw [h1] at HG
  obtain ⟨f1, f2⟩ := heavy_no h0
  obtain ⟨f3, f4⟩ := heavy_no h1
  have HE := Lib.hid (fun W (hb : Below (((w.alloc (.cells (sc s0 A0 c0) 30)).alloc (.cells (sc s1 A1 c1) 30)).alloc (.cells (xc x2) 46)).heap.size (((w.alloc (.cells (sc s0 A0 c0) 30)).alloc (.cells (sc s1 A1 c1) 30)).alloc (.cells (xc x2) 46)) W) => PktEncP.encP8 s0 A0 c0 W ((z0.more B0.out).more hb) g0.1 g0.2.2.2.2)
  have HF := Lib.hid (fun W (hb : Below (((w.alloc (.cells (sc s0 A0 c0) 30)).alloc (.cells (sc s1 A1 c1) 30)).alloc (.cells (xc x2) 46)).heap.size (((w.alloc (.cells (sc s0 A0 c0) 30)).alloc (.cells (sc s1 A1 c1) 30)).alloc (.cells (xc x2) 46)) W) => PktEncP.encP8 s1 A1 c1 W ((z1.more B0.out).more hb) g1.1 g1.2.2.2.2)
  have hv : encV8 s0 = .tuple #[.string ⟨#[]⟩, .int .i64 2] := if_neg (by rw [m0]; decide)
  obtain ⟨T, m, hTm⟩ := encV8_form s1
  rw [hv] at HE
  rw [hTm] at HF
  clear hv hTm h0 h1 m0
  go_enter Try.func7, Try.ntmps7
  have X1 := X0.out
  go_upto_region 1 with fail
  refine wp_region_lit ?_
  refine step_seg rfl _ rfl _ rfl _ _ _ X1 ?_
  go_wp2_with fail
  refine (HH.out _).mono ?_
  rintro e wL ⟨rfl, hb⟩
  have B1 := Lib.hid (st_call B0.out hb)
  have K1 := Lib.hid hb
  have X2 := Lib.hid (X0.out.later hb)
  have Y1 := Y0.out.later hb
  have V1 := Lib.hid (V0.out.later hb)
  clear hb X1
  have y0 := Y1.cell 0 _ rfl
  have y1 := Y1.cell 1 _ rfl
  have y2 := Y1.cell 2 _ rfl
  have y3 := Y1.cell 3 _ rfl
  have y4 := Y1.cell 4 _ rfl
  have y5 := Y1.cell 5 _ rfl
  have y6 := Y1.cell 6 _ rfl
  have y7 := Y1.cell 7 _ rfl
  have y8 := Y1.cell 8 _ rfl
  have y9 := Y1.cell 9 _ rfl
  have y10 := Y1.cell 10 _ rfl
  have y11 := Y1.cell 11 _ rfl
  have y12 := Y1.cell 12 _ rfl
  have y13 := Y1.cell 13 _ rfl
  have y14 := Y1.cell 14 _ rfl
  have y15 := Y1.cell 15 _ rfl
  go_wp2_with fail
  refine (HG.out _).mono ?_
  rintro e wL2 ⟨rfl, hb⟩
  have B2 := Lib.hid (st_call B1.out hb)
  have K2 := Lib.hid (st_call K1.out hb)
  have X3 := X2.out.later hb
  have Y3 := Lib.hid (Y1.later hb)
  have V3 := Lib.hid (V1.out.later hb)
  clear hb Y1 y0 y1 y2 y3 y4 y5 y6 y7 y8 y9 y10 y11 y12 y13 y14 y15
  go_upto_region 3 with fail
  refine wp_region_lit ?_
  refine step_seg rfl _ rfl _ rfl _ _ _ X3 ?_
  go_wp2_with fail
  refine (HE.out _ K2.out).mono ?_
  rintro e wM ⟨rfl, hb⟩
  have B3 := Lib.hid (st_call B2.out hb)
  have K3 := Lib.hid (st_call K2.out hb)
  have X4 := Lib.hid (X3.later hb)
  have Y4 := Y3.out.later hb
  have V4 := Lib.hid (V3.out.later hb)
  clear hb X3
  go_upto_region 4 with fail
  refine wp_region_lit ?_
  refine step_seg rfl _ rfl _ rfl _ _ _ Y4 ?_
  go_wp2_with fail
  refine (HF.out _ K3.out).mono ?_
  rintro e wN ⟨rfl, hb⟩
  have B5 := Lib.hid (st_call B3.out hb)
  have X5 := X4.out.later hb
  have Y5 := Y4.later hb
  have V5 := Lib.hid (V4.out.later hb)
  clear hb Y4
  obtain ⟨wO, hwO⟩ : ∃ wO, wN = wO := ⟨_, rfl⟩
  rw [hwO] at X5 Y5 B5 V5 ⊢
  clear hwO
  have B6 := B5
  have X6 := Lib.hid X5
  have V6 := V5
  clear X5 Y5 B5 V5
  have q0 := X6.out.cell 0 _ rfl
  have q1 := X6.out.cell 1 _ rfl
  have q2 := X6.out.cell 2 _ rfl
  have q3 := X6.out.cell 3 _ rfl
  have p4 := V6.out.cell 4 _ rfl
  have p5 := V6.out.cell 5 _ rfl
  have p6 := V6.out.cell 6 _ rfl
  have p7 := V6.out.cell 7 _ rfl
  have n1 : IntKind.u32.wrap (-(x2.seq : Int)) = (neg32 x2.seq : Int) := neg32_wrap g2.1.seq
  have n2 : IntKind.u32.wrap (-(x2.ack : Int)) = (neg32 x2.ack : Int) := neg32_wrap g2.1.ack
  have n3 : IntKind.u32.wrap (-(x2.val : Int)) = (neg32 x2.val : Int) := neg32_wrap g2.1.val
  have n4 : IntKind.u32.wrap (-(x2.echo : Int)) = (neg32 x2.echo : Int) := neg32_wrap g2.1.echo
  have m1 : -(x2.seq : Int) % 4294967296 = (neg32 x2.seq : Int) := by have h := n1; rw [IntKind.wrap_u32] at h; exact h
  have m2 : -(x2.ack : Int) % 4294967296 = (neg32 x2.ack : Int) := by have h := n2; rw [IntKind.wrap_u32] at h; exact h
  have m3 : -(x2.val : Int) % 4294967296 = (neg32 x2.val : Int) := by have h := n3; rw [IntKind.wrap_u32] at h; exact h
  have m4 : -(x2.echo : Int) % 4294967296 = (neg32 x2.echo : Int) := by have h := n4; rw [IntKind.wrap_u32] at h; exact h
  go_upto_region 8 with fail
  have x9 := (X6.out).later ((Below.refl _ wO).alloc (Nat.le_refl _) (.cells #[.int .u32 (s0.sip : Int), .int .u16 (s0.sport : Int), .int .u32 (s0.dip : Int), .int .u16 (s0.dport : Int), .int .u32 (neg32 x2.seq : Int), .int .u32 (neg32 x2.ack : Int), .int .u32 (neg32 x2.val : Int), .int .u32 (neg32 x2.echo : Int), .int .i64 0, .int .i64 0] 46))
  have v9 := (V6.out).later ((Below.refl _ wO).alloc (Nat.le_refl _) (.cells #[.int .u32 (s0.sip : Int), .int .u16 (s0.sport : Int), .int .u32 (s0.dip : Int), .int .u16 (s0.dport : Int), .int .u32 (neg32 x2.seq : Int), .int .u32 (neg32 x2.ack : Int), .int .u32 (neg32 x2.val : Int), .int .u32 (neg32 x2.echo : Int), .int .i64 0, .int .i64 0] 46))
  have y9 : CellsAt (wO.alloc (.cells #[.int .u32 (s0.sip : Int), .int .u16 (s0.sport : Int), .int .u32 (s0.dip : Int), .int .u16 (s0.dport : Int), .int .u32 (neg32 x2.seq : Int), .int .u32 (neg32 x2.ack : Int), .int .u32 (neg32 x2.val : Int), .int .u32 (neg32 x2.echo : Int), .int .i64 0, .int .i64 0] 46)) wO.heap.size (xc ⟨s0.sip, s0.sport, s0.dip, s0.dport, neg32 x2.seq, neg32 x2.ack, neg32 x2.val, neg32 x2.echo, 0, 0⟩) := CellsAt.new wO #[.int .u32 (s0.sip : Int), .int .u16 (s0.sport : Int), .int .u32 (s0.dip : Int), .int .u16 (s0.dport : Int), .int .u32 (neg32 x2.seq : Int), .int .u32 (neg32 x2.ack : Int), .int .u32 (neg32 x2.val : Int), .int .u32 (neg32 x2.echo : Int), .int .i64 0, .int .i64 0] 46
  have b9 := st_alloc B6.out (.cells #[.int .u32 (s0.sip : Int), .int .u16 (s0.sport : Int), .int .u32 (s0.dip : Int), .int .u16 (s0.dport : Int), .int .u32 (neg32 x2.seq : Int), .int .u32 (neg32 x2.ack : Int), .int .u32 (neg32 x2.val : Int), .int .u32 (neg32 x2.echo : Int), .int .i64 0, .int .i64 0] 46)
  obtain ⟨W9, hW9⟩ : ∃ W9, wO.alloc (.cells #[.int .u32 (s0.sip : Int), .int .u16 (s0.sport : Int), .int .u32 (s0.dip : Int), .int .u16 (s0.dport : Int), .int .u32 (neg32 x2.seq : Int), .int .u32 (neg32 x2.ack : Int), .int .u32 (neg32 x2.val : Int), .int .u32 (neg32 x2.echo : Int), .int .i64 0, .int .i64 0] 46) = W9 := ⟨_, rfl⟩
  rw [hW9] at x9 v9 y9 b9 ⊢
  obtain ⟨y2, hy2⟩ : ∃ y2 : Sh, ⟨s0.sip, s0.sport, s0.dip, s0.dport, neg32 x2.seq, neg32 x2.ack, neg32 x2.val, neg32 x2.echo, 0, 0⟩ = y2 := ⟨_, rfl⟩
  rw [hy2] at y9
  have hx3w := x9.lt
  have hv3w := v9.lt
  have X9 := Lib.hid x9
  have V9 := Lib.hid v9
  have Y9 := Lib.hid y9
  have B9 := Lib.hid b9
  clear x9 v9 y9 b9 hW9 q0 q1 q2 q3 p4 p5 p6 p7
  have y2k : y2.ok := by rw [← hy2]; exact ⟨g0.1.sip, g0.1.sport, g0.1.dip, g0.1.dport, neg32_le _, neg32_le _, neg32_le _, neg32_le _⟩
  have y2u : y2.up = 0 ∧ y2.down = 0 := by rw [← hy2]; exact ⟨rfl, rfl⟩
  have hback : { turned (turned s0 x2) y2 with win := s0.win } = s0 := by rw [← hy2]; exact turned_back g0.1 x2 g2.1
  have u_ok : (turned s0 x2).ok := turned_ok g0.1 g2.1
  have u_few : (turned s0 x2).opts.blocks.length ≤ 1000 := by show (s0.opts.blocks.map _).length ≤ _; rw [List.length_map]; omega
  have u_dat : (turned s0 x2).data.size ≤ 1000000 := by show s0.data.size ≤ _; omega
  obtain ⟨u, hu⟩ : ∃ u, turned s0 x2 = u := ⟨_, rfl⟩
  rw [hu] at hback u_ok u_few u_dat
  obtain ⟨vv, hvv⟩ : ∃ vv, turned u y2 = vv := ⟨_, rfl⟩
  rw [hvv] at hback
  have TU1 := Lib.hid (fun W (hb : Below W9.heap.size W9 W) => PktTdP.turnedP8 s0 A0 c0 x2 W ((z0.more B9.out).more hb) g0.1 (by omega) (by omega) g2.1 g2.2.1 g2.2.2.1 g2.2.2.2.1 g2.2.2.2.2)
  rw [hu] at TU1
  have TU2 := Lib.hid (fun W A c (hB : BlkR W A u.opts.blocks) => PktTdP.turnedP8 u A c y2 W hB u_ok u_few u_dat y2k (by rw [y2u.1]; decide) (by rw [y2u.1]; decide) (by rw [y2u.2]; decide) (by rw [y2u.2]; decide))
  rw [hvv] at TU2
  have HBK := Lib.hid hback
  have HSS := Lib.hid (fun W A c (hB : BlkR W A s0.opts.blocks) (hB' : BlkR W A0 s0.opts.blocks) => PktSameP.sameP8 s0 s0 A c A0 c0 W hB hB' (by omega) (by omega))
  rw [sameS_yes rfl] at HSS
  clear hy2 hu hvv hback
  refine wp_region_see_tail 6 88 (relA8 s0 A0 c0 x2 y2 u vv W9.heap.size) rfl (by kernel_rfl) (by kernel_rfl) (by kernel_rfl) (by kernel_rfl) (relA8_more s0 A0 c0 x2 y2 u vv W9.heap.size) ?_ ?_
  · intro i hi
    have hi2 : i < 6 := by simpa using hi
    clear hi
    match i, hi2 with
    | 0, _ =>
      intro ρ W hb hc hg hf h0 hd
      have t3 := h0 3 (by kernel_rfl)
      clear hd h0
      exact PktSee.see_seg _ rfl _ t3 _ _ _ (X9.out.later hb) rfl
    | 1, _ =>
      intro ρ W hb hc hg hf h0 hd
      have t5 := h0 5 (by kernel_rfl)
      clear hd h0
      exact PktSee.see_shift _ rfl _ t5 _ (V9.out.later hb) rfl
    | 2, _ =>
      intro ρ W hb hc hg hf h0 hd
      have d0 : ρ (.tmp 62) = sv s0 A0 c0 := hd 0 62 (by kernel_rfl) (by kernel_rfl)
      have d1 : ρ (.tmp 63) = xv x2 := hd 1 63 (by kernel_rfl) (by kernel_rfl)
      clear hd h0
      go_simp
      exact (TU1.out W hb).mono fun e w' hq => by obtain ⟨⟨A, c, he, hR⟩, hb⟩ := hq; exact ⟨_, he, ⟨A, c, rfl, hR.blk⟩, hb⟩
    | 3, _ =>
      intro ρ W hb hc hg hf h0 hd
      have t11 := h0 11 (by kernel_rfl)
      clear hd h0
      exact PktSee.see_shift _ rfl _ t11 _ (Y9.out.later hb) rfl
    | 4, _ =>
      intro ρ W hb hc hg hf h0 hd
      have dp2 : ∃ A c, (ρ (.tmp 64)) = sv u A c ∧ BlkR W A u.opts.blocks := hd 2 64 (by kernel_rfl) (by kernel_rfl)
      have d3 : ρ (.tmp 65) = xv y2 := hd 3 65 (by kernel_rfl) (by kernel_rfl)
      obtain ⟨A', c', dp2, hR2⟩ := dp2
      clear hd h0
      go_simp
      exact (TU2.out W A' c' hR2).mono fun e w' hq => by obtain ⟨⟨A, c, he, hR⟩, hb⟩ := hq; exact ⟨_, he, ⟨A, c, rfl, hR.imp (fun _ _ => trivial)⟩, hb⟩
    | 5, _ =>
      intro ρ W hb hc hg hf h0 hd
      clear hd h0
      go_simp
      exact ⟨⟨_, rfl, hb.size, CellsAt.new _ _ _⟩, st_alloc (Below.refl _ _) _⟩
    | i + 6, hlt => exact absurd hlt (by omega)
  · intro vs W hb hall
    obtain ⟨A7, c7, h4, hR7⟩ : ∃ A c, vs 4 = sv vv A c ∧ Row (fun _ => True) W A vv.opts.blocks := hall 4 (by omega)
    obtain ⟨Bq, h5, hBq, hCq⟩ : ∃ Bq, vs 5 = .pointer (some ⟨Bq, 0, none⟩) ∧ W9.heap.size ≤ Bq ∧ CellsAt W Bq #[.int .u32 0, .int .u16 0, .int .u32 0, .int .u16 0, .int .u32 0, .int .u32 0, .int .u8 0, .int .u16 0, .int .u16 0, .int .i64 0, .bool false, .slice none 0 0, .bool false, .int .u32 0, .int .u32 0, .string ⟨#[]⟩] := hall 5 (by omega)
    clear hall
    rw [lexA_slots vs 6 [(some 62, 0), (some 63, 1), (some 64, 2), (some 65, 3), (some 66, 4), (some 12, 5)] (by kernel_rfl)]
    simp only [List.foldl_cons, List.foldl_nil, h4, h5]
    simp only [put_lit, List.set_cons_succ, List.set_cons_zero]
    show wpList _ _ _ [_] _ _
    obtain ⟨c10, a10, b10⟩ := box_written hCq (sc vv A7 c7).toList rfl
    refine wpList_store_mid rfl 30 _ _ rfl Bq 0 (sc vv A7 c7) rfl rfl (there hCq 0 _ (Nat.le_refl _)) (by kernel_rfl) (by simp [Value.oneCell']) ?_
    have hR8 := row_apart hR7 Bq 0 (hCq.cell 1 _ rfl) a10
    obtain ⟨W10, hW10⟩ : ∃ W10, W.setCells Bq 0 (sc vv A7 c7).toList = W10 := ⟨_, rfl⟩
    rw [hW10] at c10 a10 b10 hR8 ⊢
    have C10 := Lib.hid (show CellsAt W10 Bq (sc vv A7 c7) from c10)
    have X10 := Lib.hid ((X9.out.later hb).apart (by omega) a10)
    have V10 := Lib.hid ((V9.out.later hb).apart (by omega) a10)
    have B10 := Lib.hid ((st_call B9.out hb).trans (b10.mono (by have := B9.out.size; omega)))
    have R10 := Lib.hid hR8
    clear c10 a10 b10 hR8 hW10 hCq hR7 h4 h5 hb
    have q7 := X10.out.cell 7 _ rfl
    have e7 := C10.out.cell 7 _ rfl
    have f7 := C10.out.free 7 (show 7 < 16 by decide)
    go_upto_region 10 with fail
    obtain ⟨W11, hW11, c11, a11, b11⟩ := putWin C10.out (.int .u16 (s0.win : Int))
    rw [hW11]
    have hR11 := row_apart R10.out Bq _ (C10.out.cell 1 _ rfl) a11
    have c11b : CellsAt W11 Bq (sc { vv with win := s0.win } A7 c7) := c11
    have hR11b : Row (fun _ => True) W11 A7 ({ vv with win := s0.win } : Sg).opts.blocks := hR11
    rw [HBK.out] at c11b hR11b
    have C11 := c11b
    have hw0 : w.heap.size + 1 + 1 < Bq := by have := V9.out.lt; omega
    have X11 := X10.out.apart (show w.heap.size ≠ Bq by omega) a11
    have V11 := V10.out.apart (show w.heap.size + 1 + 1 ≠ Bq by omega) a11
    have B11 := Lib.hid (B10.out.trans (b11.mono (show w.heap.size ≤ Bq by omega)))
    clear c11 a11 b11 hR11 q7 e7 f7 hW11 c11b
    refine wp_region_lit ?_
    refine step_seg rfl _ rfl _ rfl _ _ _ C11 ?_
    refine step_seg rfl _ rfl _ rfl _ _ _ X11 ?_
    go_wp2_with fail
    refine (HSS.out _ A7 c7 hR11b.blk (z0.more B11.out)).mono ?_
    rintro e wP ⟨rfl, hb⟩
    have B12 := Lib.hid (st_call B11.out hb)
    have X12 := Lib.hid (X11.later hb)
    have V12 := Lib.hid (V11.later hb)
    clear hb X11 V11 C11 hR11b
    have e8 := V12.out.cell 8 _ rfl
    have f8 := V12.out.free 8 (show 8 < 10 by decide)
    have e9 := V12.out.cell 9 _ rfl
    have f9 := V12.out.free 9 (show 9 < 10 by decide)
    go_upto_region 14 with fail
    have x13 := (X12.out.other (w.heap.size + 1 + 1) 8 (.int .i64 0) (by omega)).other (w.heap.size + 1 + 1) 9 (.int .i64 0) (by omega)
    have v13 : CellsAt _ _ (xc ⟨x2.sip, x2.sport, x2.dip, x2.dport, x2.seq, x2.ack, x2.val, x2.echo, 0, 0⟩) := (V12.out.put 8 (.int .i64 0) (show 8 < 10 by decide)).put 9 (.int .i64 0) (show 9 < 10 by decide)
    have b13 := (B12.out.setCell (show w.heap.size ≤ w.heap.size + 1 + 1 by omega) (p := ⟨w.heap.size + 1 + 1, 8, none⟩) (.int .i64 0)).setCell (show w.heap.size ≤ w.heap.size + 1 + 1 by omega) (p := ⟨w.heap.size + 1 + 1, 9, none⟩) (.int .i64 0)
    obtain ⟨W13, hW13⟩ : ∃ W13, (wP.setCell ⟨w.heap.size + 1 + 1, 8, none⟩ (.int .i64 0)).setCell ⟨w.heap.size + 1 + 1, 9, none⟩ (.int .i64 0) = W13 := ⟨_, rfl⟩
    rw [hW13] at x13 v13 b13 ⊢
    have X13 := Lib.hid x13
    have B13 := Lib.hid b13
    obtain ⟨x3, hx3⟩ : ∃ x3 : Sh, ⟨x2.sip, x2.sport, x2.dip, x2.dport, x2.seq, x2.ack, x2.val, x2.echo, 0, 0⟩ = x3 := ⟨_, rfl⟩
    rw [hx3] at v13
    have V13 := Lib.hid v13
    have x3k : x3.ok := by rw [← hx3]; exact ⟨g2.1.sip, g2.1.sport, g2.1.dip, g2.1.dport, g2.1.seq, g2.1.ack, g2.1.val, g2.1.echo⟩
    have x3u : x3.up = 0 ∧ x3.down = 0 := by rw [← hx3]; exact ⟨rfl, rfl⟩
    have TU3 := Lib.hid (fun W (hb : Below W13.heap.size W13 W) => PktTdP.turnedP8 s0 A0 c0 x3 W ((z0.more B13.out).more hb) g0.1 (by omega) (by omega) x3k (by rw [x3u.1]; decide) (by rw [x3u.1]; decide) (by rw [x3u.2]; decide) (by rw [x3u.2]; decide))
    have hu3 : (turned s0 x3).win = s0.win := by show winT s0.win x3.up x3.down = s0.win; rw [x3u.1, x3u.2]; exact winT_zero g0.1.win
    obtain ⟨u3, hu3e⟩ : ∃ u3, turned s0 x3 = u3 := ⟨_, rfl⟩
    rw [hu3e] at TU3 hu3
    have HU3 := Lib.hid hu3
    clear x13 v13 b13 hW13 hx3 x3k x3u hu3 hu3e e8 f8 e9 f9
    refine wp_region_seeG 88 [(9, true)] (relC8 s0 A0 c0 x3 u3 w.heap.size) rfl (by kernel_rfl) (by kernel_rfl) (by kernel_rfl) (by intro p hp v w h; simp only [List.mem_cons, List.not_mem_nil, or_false] at hp; rcases hp with rfl; exact h) (relC8_more s0 A0 c0 x3 u3 w.heap.size) ?_ ?_
    · intro i hi
      have hi2 : i < 13 := by simpa using hi
      clear hi
      match i, hi2 with
      | 0, _ =>
        intro ρ W hb hc hg hf h0 hd
        have t3 := h0 3 (by kernel_rfl)
        clear hd h0
        exact PktSee.see_seg _ rfl _ t3 _ _ _ (X13.out.later hb) rfl
      | 1, _ =>
        intro ρ W hb hc hg hf h0 hd
        have t5 := h0 5 (by kernel_rfl)
        clear hd h0
        exact PktSee.see_shift _ rfl _ t5 _ (V13.out.later hb) rfl
      | 2, _ =>
        intro ρ W hb hc hg hf h0 hd
        have d0 : ρ (.tmp 76) = sv s0 A0 c0 := hd 0 76 (by kernel_rfl) (by kernel_rfl)
        have d1 : ρ (.tmp 77) = xv x3 := hd 1 77 (by kernel_rfl) (by kernel_rfl)
        clear hd h0
        go_simp
        exact (TU3.out W hb).mono fun e w' hq => by obtain ⟨⟨A, c, he, hR⟩, hb⟩ := hq; exact ⟨_, he, ⟨A, c, rfl⟩, hb⟩
      | 3, _ =>
        intro ρ W hb hc hg hf h0 hd
        have dp2 : ∃ A c, (ρ (.tmp 78)) = sv u3 A c := hd 2 78 (by kernel_rfl) (by kernel_rfl)
        obtain ⟨A', c', dp2⟩ := dp2
        have hu3 := HU3.out
        clear hd h0
        go_simp
        exact ⟨by show Value.int .u16 (u3.win : Int) = Value.int .u16 (s0.win : Int); rw [hu3], Below.refl _ _⟩
      | 4, _ =>
        intro ρ W hb hc hg hf h0 hd
        have t3 := h0 3 (by kernel_rfl)
        clear hd h0
        go_simp
        exact ⟨rfl, Below.refl _ _⟩
      | 5, _ =>
        intro ρ W hb hc hg hf h0 hd
        have d4 : ρ (.tmp 80) = .pointer (some ⟨w.heap.size, 7, none⟩) := hd 4 80 (by kernel_rfl) (by kernel_rfl)
        have k7 := (X13.out.later hb).cell 7 _ rfl
        clear hd h0
        go_simp
        exact ⟨rfl, Below.refl _ _⟩
      | 6, _ =>
        intro ρ W hb hc hg hf h0 hd
        have d3 : ρ (.tmp 79) = .int .u16 (s0.win : Int) := hd 3 79 (by kernel_rfl) (by kernel_rfl)
        have d5 : ρ (.tmp 81) = .int .u16 (s0.win : Int) := hd 5 81 (by kernel_rfl) (by kernel_rfl)
        clear hd h0
        go_simp
        exact ⟨rfl, Below.refl _ _⟩
      | 7, _ =>
        intro ρ W hb hc hg hf h0 hd
        have d6 : ρ (.tmp 82) = .bool true := hd 6 82 (by kernel_rfl) (by kernel_rfl)
        clear hd h0
        go_simp
        exact ⟨rfl, Below.refl _ _⟩
      | 8, _ =>
        intro ρ W hb hc hg hf h0 hd
        have d7 : ρ (.tmp 83) = .bool true := hd 7 83 (by kernel_rfl) (by kernel_rfl)
        clear hd h0
        go_simp
        exact ⟨rfl, Below.refl _ _⟩
      | 9, _ =>
        intro ρ W hb hc hg hf h0 hd
        have d8 : ρ (.tmp 84) = .bool true := hd 8 84 (by kernel_rfl) (by kernel_rfl)
        clear hd h0
        go_simp
        exact ⟨rfl, Below.refl _ _⟩
      | 10, _ =>
        intro ρ W hb hc hg hf h0 hd
        clear hd h0
        go_simp
        exact (alive_any W).mono fun e w' ⟨he, hb⟩ => ⟨_, he, rfl, hb⟩
      | 11, _ =>
        intro ρ W hb hc hg hf h0 hd
        have d9 : ρ (.tmp 85) = .bool true := hd 9 85 (by kernel_rfl) (by kernel_rfl)
        have d10 : ρ (.tmp 86) = .bool true := hd 10 86 (by kernel_rfl) (by kernel_rfl)
        clear hd h0
        go_simp
        exact ⟨rfl, Below.refl _ _⟩
      | 12, _ =>
        intro ρ W hb hc hg hf h0 hd
        have d11 : ρ (.tmp 87) = .bool true := hd 11 87 (by kernel_rfl) (by kernel_rfl)
        clear hd h0
        go_simp
        exact ⟨rfl, Below.refl _ _⟩
      | i + 13, hlt => exact absurd hlt (by omega)
    · intro vs W hb hall
      have hl : vs 12 = .bool true := hall 12 (of_decide_eq_true (by kernel_rfl))
      have B14 := Lib.hid (st_call B13.out hb)
      clear hall hb
      rw [lexA_slots vs _ [(some 76, 0), (some 77, 1), (some 78, 2), (some 79, 3), (some 80, 4), (some 81, 5), (some 82, 6), (some 83, 7), (some 84, 8), (some 85, 9), (some 86, 10), (some 87, 11), (some 6, 12)] (by kernel_rfl)]
      simp only [List.foldl_cons, List.foldl_nil, hl]
      simp only [put_lit, List.set_cons_succ, List.set_cons_zero]
      go_wp2_with fail
      go_ret
      exact ⟨rfl, B14.out⟩

set_option maxRecDepth 100000 in
set_option maxHeartbeats 16000000 in
theorem apart_yn (s0 : Sg) (A0 : Option Addr) (c0 : Nat) (s1 : Sg) (A1 : Option Addr) (c1 : Nat) (x2 : Sh) (w : World) (z0 : BlkR w A0 s0.opts.blocks) (g0 : s0.ok ∧ s0.opts.blocks.length ≤ maxLen ∧ -9223372036854775808 ≤ s0.opts.scale ∧ s0.opts.scale ≤ 9223372036854775807 ∧ s0.data.size ≤ maxLen) (z1 : BlkR w A1 s1.opts.blocks) (g1 : s1.ok ∧ s1.opts.blocks.length ≤ maxLen ∧ -9223372036854775808 ≤ s1.opts.scale ∧ s1.opts.scale ≤ 9223372036854775807 ∧ s1.data.size ≤ maxLen) (g2 : x2.ok ∧ -9223372036854775808 ≤ x2.up ∧ x2.up ≤ 9223372036854775807 ∧ -9223372036854775808 ≤ x2.down ∧ x2.down ≤ 9223372036854775807) (h0 : heavy s0 = false) (h1 : heavy s1 = false) (m0 : mayS s0 = true) (m1 : mayS s1 = false) : Calls Try.prog 7 #[sv s0 A0 c0, sv s1 A1 c1, xv x2] w fun e w' => e = .returned (.bool true) ∧ Below w.heap.size w w' := by
  have x0 := ((CellsAt.new w (sc s0 A0 c0) 30).later ((Below.refl _ (w.alloc (.cells (sc s0 A0 c0) 30))).alloc (Nat.le_refl _) (.cells (sc s1 A1 c1) 30))).later ((Below.refl _ ((w.alloc (.cells (sc s0 A0 c0) 30)).alloc (.cells (sc s1 A1 c1) 30))).alloc (Nat.le_refl _) (.cells (xc x2) 46))
  have y0 := (CellsAt.new (w.alloc (.cells (sc s0 A0 c0) 30)) (sc s1 A1 c1) 30).later ((Below.refl _ ((w.alloc (.cells (sc s0 A0 c0) 30)).alloc (.cells (sc s1 A1 c1) 30))).alloc (Nat.le_refl _) (.cells (xc x2) 46))
  have v0 := CellsAt.new ((w.alloc (.cells (sc s0 A0 c0) 30)).alloc (.cells (sc s1 A1 c1) 30)) (xc x2) 46
  simp only [World.size_alloc] at y0 v0
  have X0 := Lib.hid x0
  have Y0 := Lib.hid y0
  have V0 := Lib.hid v0
  clear x0 y0 v0
  have B0 := Lib.hid (st_alloc (st_alloc (st_alloc (Below.refl _ w) (.cells (sc s0 A0 c0) 30)) (.cells (sc s1 A1 c1) 30)) (.cells (xc x2) 46))
  have HH := Lib.hid (fun W => heavyL s0 A0 c0 W g0.2.2.2.2)
  have HG := Lib.hid (fun W => heavyL s1 A1 c1 W g1.2.2.2.2)
  rw [h0] at HH
  rw [h1] at HG
  obtain ⟨f1, f2⟩ := heavy_no h0
  obtain ⟨f3, f4⟩ := heavy_no h1
  have HE := Lib.hid (fun W (hb : Below (((w.alloc (.cells (sc s0 A0 c0) 30)).alloc (.cells (sc s1 A1 c1) 30)).alloc (.cells (xc x2) 46)).heap.size (((w.alloc (.cells (sc s0 A0 c0) 30)).alloc (.cells (sc s1 A1 c1) 30)).alloc (.cells (xc x2) 46)) W) => PktEncP.encP8 s0 A0 c0 W ((z0.more B0.out).more hb) g0.1 g0.2.2.2.2)
  have HF := Lib.hid (fun W (hb : Below (((w.alloc (.cells (sc s0 A0 c0) 30)).alloc (.cells (sc s1 A1 c1) 30)).alloc (.cells (xc x2) 46)).heap.size (((w.alloc (.cells (sc s0 A0 c0) 30)).alloc (.cells (sc s1 A1 c1) 30)).alloc (.cells (xc x2) 46)) W) => PktEncP.encP8 s1 A1 c1 W ((z1.more B0.out).more hb) g1.1 g1.2.2.2.2)
  have hv : encV8 s0 = .tuple #[.string (ofB (pk s0)), .int .i64 0] := if_pos m0
  have hv2 : encV8 s1 = .tuple #[.string ⟨#[]⟩, .int .i64 2] := if_neg (by rw [m1]; decide)
  rw [hv] at HE
  rw [hv2] at HF
  generalize ofB (pk s0) = P at HE
  clear hv hv2 h0 h1 m0 m1
  go_enter Try.func7, Try.ntmps7
  have X1 := X0.out
  go_upto_region 1 with fail
  refine wp_region_lit ?_
  refine step_seg rfl _ rfl _ rfl _ _ _ X1 ?_
  go_wp2_with fail
  refine (HH.out _).mono ?_
  rintro e wL ⟨rfl, hb⟩
  have B1 := Lib.hid (st_call B0.out hb)
  have K1 := Lib.hid hb
  have X2 := Lib.hid (X0.out.later hb)
  have Y1 := Y0.out.later hb
  have V1 := Lib.hid (V0.out.later hb)
  clear hb X1
  have y0 := Y1.cell 0 _ rfl
  have y1 := Y1.cell 1 _ rfl
  have y2 := Y1.cell 2 _ rfl
  have y3 := Y1.cell 3 _ rfl
  have y4 := Y1.cell 4 _ rfl
  have y5 := Y1.cell 5 _ rfl
  have y6 := Y1.cell 6 _ rfl
  have y7 := Y1.cell 7 _ rfl
  have y8 := Y1.cell 8 _ rfl
  have y9 := Y1.cell 9 _ rfl
  have y10 := Y1.cell 10 _ rfl
  have y11 := Y1.cell 11 _ rfl
  have y12 := Y1.cell 12 _ rfl
  have y13 := Y1.cell 13 _ rfl
  have y14 := Y1.cell 14 _ rfl
  have y15 := Y1.cell 15 _ rfl
  go_wp2_with fail
  refine (HG.out _).mono ?_
  rintro e wL2 ⟨rfl, hb⟩
  have B2 := Lib.hid (st_call B1.out hb)
  have K2 := Lib.hid (st_call K1.out hb)
  have X3 := X2.out.later hb
  have Y3 := Lib.hid (Y1.later hb)
  have V3 := Lib.hid (V1.out.later hb)
  clear hb Y1 y0 y1 y2 y3 y4 y5 y6 y7 y8 y9 y10 y11 y12 y13 y14 y15
  go_upto_region 3 with fail
  refine wp_region_lit ?_
  refine step_seg rfl _ rfl _ rfl _ _ _ X3 ?_
  go_wp2_with fail
  refine (HE.out _ K2.out).mono ?_
  rintro e wM ⟨rfl, hb⟩
  have B3 := Lib.hid (st_call B2.out hb)
  have K3 := Lib.hid (st_call K2.out hb)
  have X4 := Lib.hid (X3.later hb)
  have Y4 := Y3.out.later hb
  have V4 := Lib.hid (V3.out.later hb)
  clear hb X3
  go_upto_region 4 with fail
  refine wp_region_lit ?_
  refine step_seg rfl _ rfl _ rfl _ _ _ Y4 ?_
  go_wp2_with fail
  refine (HF.out _ K3.out).mono ?_
  rintro e wN ⟨rfl, hb⟩
  have B5 := Lib.hid (st_call B3.out hb)
  have X5 := X4.out.later hb
  have Y5 := Y4.later hb
  have V5 := Lib.hid (V4.out.later hb)
  clear hb Y4
  obtain ⟨wO, hwO⟩ : ∃ wO, wN = wO := ⟨_, rfl⟩
  rw [hwO] at X5 Y5 B5 V5 ⊢
  clear hwO
  have B6 := B5
  have X6 := Lib.hid X5
  have V6 := V5
  clear X5 Y5 B5 V5
  have q0 := X6.out.cell 0 _ rfl
  have q1 := X6.out.cell 1 _ rfl
  have q2 := X6.out.cell 2 _ rfl
  have q3 := X6.out.cell 3 _ rfl
  have p4 := V6.out.cell 4 _ rfl
  have p5 := V6.out.cell 5 _ rfl
  have p6 := V6.out.cell 6 _ rfl
  have p7 := V6.out.cell 7 _ rfl
  have n1 : IntKind.u32.wrap (-(x2.seq : Int)) = (neg32 x2.seq : Int) := neg32_wrap g2.1.seq
  have n2 : IntKind.u32.wrap (-(x2.ack : Int)) = (neg32 x2.ack : Int) := neg32_wrap g2.1.ack
  have n3 : IntKind.u32.wrap (-(x2.val : Int)) = (neg32 x2.val : Int) := neg32_wrap g2.1.val
  have n4 : IntKind.u32.wrap (-(x2.echo : Int)) = (neg32 x2.echo : Int) := neg32_wrap g2.1.echo
  have m1 : -(x2.seq : Int) % 4294967296 = (neg32 x2.seq : Int) := by have h := n1; rw [IntKind.wrap_u32] at h; exact h
  have m2 : -(x2.ack : Int) % 4294967296 = (neg32 x2.ack : Int) := by have h := n2; rw [IntKind.wrap_u32] at h; exact h
  have m3 : -(x2.val : Int) % 4294967296 = (neg32 x2.val : Int) := by have h := n3; rw [IntKind.wrap_u32] at h; exact h
  have m4 : -(x2.echo : Int) % 4294967296 = (neg32 x2.echo : Int) := by have h := n4; rw [IntKind.wrap_u32] at h; exact h
  go_upto_region 8 with fail
  have x9 := (X6.out).later ((Below.refl _ wO).alloc (Nat.le_refl _) (.cells #[.int .u32 (s0.sip : Int), .int .u16 (s0.sport : Int), .int .u32 (s0.dip : Int), .int .u16 (s0.dport : Int), .int .u32 (neg32 x2.seq : Int), .int .u32 (neg32 x2.ack : Int), .int .u32 (neg32 x2.val : Int), .int .u32 (neg32 x2.echo : Int), .int .i64 0, .int .i64 0] 46))
  have v9 := (V6.out).later ((Below.refl _ wO).alloc (Nat.le_refl _) (.cells #[.int .u32 (s0.sip : Int), .int .u16 (s0.sport : Int), .int .u32 (s0.dip : Int), .int .u16 (s0.dport : Int), .int .u32 (neg32 x2.seq : Int), .int .u32 (neg32 x2.ack : Int), .int .u32 (neg32 x2.val : Int), .int .u32 (neg32 x2.echo : Int), .int .i64 0, .int .i64 0] 46))
  have y9 : CellsAt (wO.alloc (.cells #[.int .u32 (s0.sip : Int), .int .u16 (s0.sport : Int), .int .u32 (s0.dip : Int), .int .u16 (s0.dport : Int), .int .u32 (neg32 x2.seq : Int), .int .u32 (neg32 x2.ack : Int), .int .u32 (neg32 x2.val : Int), .int .u32 (neg32 x2.echo : Int), .int .i64 0, .int .i64 0] 46)) wO.heap.size (xc ⟨s0.sip, s0.sport, s0.dip, s0.dport, neg32 x2.seq, neg32 x2.ack, neg32 x2.val, neg32 x2.echo, 0, 0⟩) := CellsAt.new wO #[.int .u32 (s0.sip : Int), .int .u16 (s0.sport : Int), .int .u32 (s0.dip : Int), .int .u16 (s0.dport : Int), .int .u32 (neg32 x2.seq : Int), .int .u32 (neg32 x2.ack : Int), .int .u32 (neg32 x2.val : Int), .int .u32 (neg32 x2.echo : Int), .int .i64 0, .int .i64 0] 46
  have b9 := st_alloc B6.out (.cells #[.int .u32 (s0.sip : Int), .int .u16 (s0.sport : Int), .int .u32 (s0.dip : Int), .int .u16 (s0.dport : Int), .int .u32 (neg32 x2.seq : Int), .int .u32 (neg32 x2.ack : Int), .int .u32 (neg32 x2.val : Int), .int .u32 (neg32 x2.echo : Int), .int .i64 0, .int .i64 0] 46)
  obtain ⟨W9, hW9⟩ : ∃ W9, wO.alloc (.cells #[.int .u32 (s0.sip : Int), .int .u16 (s0.sport : Int), .int .u32 (s0.dip : Int), .int .u16 (s0.dport : Int), .int .u32 (neg32 x2.seq : Int), .int .u32 (neg32 x2.ack : Int), .int .u32 (neg32 x2.val : Int), .int .u32 (neg32 x2.echo : Int), .int .i64 0, .int .i64 0] 46) = W9 := ⟨_, rfl⟩
  rw [hW9] at x9 v9 y9 b9 ⊢
  obtain ⟨y2, hy2⟩ : ∃ y2 : Sh, ⟨s0.sip, s0.sport, s0.dip, s0.dport, neg32 x2.seq, neg32 x2.ack, neg32 x2.val, neg32 x2.echo, 0, 0⟩ = y2 := ⟨_, rfl⟩
  rw [hy2] at y9
  have hx3w := x9.lt
  have hv3w := v9.lt
  have X9 := Lib.hid x9
  have V9 := Lib.hid v9
  have Y9 := Lib.hid y9
  have B9 := Lib.hid b9
  clear x9 v9 y9 b9 hW9 q0 q1 q2 q3 p4 p5 p6 p7
  have y2k : y2.ok := by rw [← hy2]; exact ⟨g0.1.sip, g0.1.sport, g0.1.dip, g0.1.dport, neg32_le _, neg32_le _, neg32_le _, neg32_le _⟩
  have y2u : y2.up = 0 ∧ y2.down = 0 := by rw [← hy2]; exact ⟨rfl, rfl⟩
  have hback : { turned (turned s0 x2) y2 with win := s0.win } = s0 := by rw [← hy2]; exact turned_back g0.1 x2 g2.1
  have u_ok : (turned s0 x2).ok := turned_ok g0.1 g2.1
  have u_few : (turned s0 x2).opts.blocks.length ≤ 1000 := by show (s0.opts.blocks.map _).length ≤ _; rw [List.length_map]; omega
  have u_dat : (turned s0 x2).data.size ≤ 1000000 := by show s0.data.size ≤ _; omega
  obtain ⟨u, hu⟩ : ∃ u, turned s0 x2 = u := ⟨_, rfl⟩
  rw [hu] at hback u_ok u_few u_dat
  obtain ⟨vv, hvv⟩ : ∃ vv, turned u y2 = vv := ⟨_, rfl⟩
  rw [hvv] at hback
  have TU1 := Lib.hid (fun W (hb : Below W9.heap.size W9 W) => PktTdP.turnedP8 s0 A0 c0 x2 W ((z0.more B9.out).more hb) g0.1 (by omega) (by omega) g2.1 g2.2.1 g2.2.2.1 g2.2.2.2.1 g2.2.2.2.2)
  rw [hu] at TU1
  have TU2 := Lib.hid (fun W A c (hB : BlkR W A u.opts.blocks) => PktTdP.turnedP8 u A c y2 W hB u_ok u_few u_dat y2k (by rw [y2u.1]; decide) (by rw [y2u.1]; decide) (by rw [y2u.2]; decide) (by rw [y2u.2]; decide))
  rw [hvv] at TU2
  have HBK := Lib.hid hback
  have HSS := Lib.hid (fun W A c (hB : BlkR W A s0.opts.blocks) (hB' : BlkR W A0 s0.opts.blocks) => PktSameP.sameP8 s0 s0 A c A0 c0 W hB hB' (by omega) (by omega))
  rw [sameS_yes rfl] at HSS
  clear hy2 hu hvv hback
  refine wp_region_see_tail 6 88 (relA8 s0 A0 c0 x2 y2 u vv W9.heap.size) rfl (by kernel_rfl) (by kernel_rfl) (by kernel_rfl) (by kernel_rfl) (relA8_more s0 A0 c0 x2 y2 u vv W9.heap.size) ?_ ?_
  · intro i hi
    have hi2 : i < 6 := by simpa using hi
    clear hi
    match i, hi2 with
    | 0, _ =>
      intro ρ W hb hc hg hf h0 hd
      have t3 := h0 3 (by kernel_rfl)
      clear hd h0
      exact PktSee.see_seg _ rfl _ t3 _ _ _ (X9.out.later hb) rfl
    | 1, _ =>
      intro ρ W hb hc hg hf h0 hd
      have t5 := h0 5 (by kernel_rfl)
      clear hd h0
      exact PktSee.see_shift _ rfl _ t5 _ (V9.out.later hb) rfl
    | 2, _ =>
      intro ρ W hb hc hg hf h0 hd
      have d0 : ρ (.tmp 62) = sv s0 A0 c0 := hd 0 62 (by kernel_rfl) (by kernel_rfl)
      have d1 : ρ (.tmp 63) = xv x2 := hd 1 63 (by kernel_rfl) (by kernel_rfl)
      clear hd h0
      go_simp
      exact (TU1.out W hb).mono fun e w' hq => by obtain ⟨⟨A, c, he, hR⟩, hb⟩ := hq; exact ⟨_, he, ⟨A, c, rfl, hR.blk⟩, hb⟩
    | 3, _ =>
      intro ρ W hb hc hg hf h0 hd
      have t11 := h0 11 (by kernel_rfl)
      clear hd h0
      exact PktSee.see_shift _ rfl _ t11 _ (Y9.out.later hb) rfl
    | 4, _ =>
      intro ρ W hb hc hg hf h0 hd
      have dp2 : ∃ A c, (ρ (.tmp 64)) = sv u A c ∧ BlkR W A u.opts.blocks := hd 2 64 (by kernel_rfl) (by kernel_rfl)
      have d3 : ρ (.tmp 65) = xv y2 := hd 3 65 (by kernel_rfl) (by kernel_rfl)
      obtain ⟨A', c', dp2, hR2⟩ := dp2
      clear hd h0
      go_simp
      exact (TU2.out W A' c' hR2).mono fun e w' hq => by obtain ⟨⟨A, c, he, hR⟩, hb⟩ := hq; exact ⟨_, he, ⟨A, c, rfl, hR.imp (fun _ _ => trivial)⟩, hb⟩
    | 5, _ =>
      intro ρ W hb hc hg hf h0 hd
      clear hd h0
      go_simp
      exact ⟨⟨_, rfl, hb.size, CellsAt.new _ _ _⟩, st_alloc (Below.refl _ _) _⟩
    | i + 6, hlt => exact absurd hlt (by omega)
  · intro vs W hb hall
    obtain ⟨A7, c7, h4, hR7⟩ : ∃ A c, vs 4 = sv vv A c ∧ Row (fun _ => True) W A vv.opts.blocks := hall 4 (by omega)
    obtain ⟨Bq, h5, hBq, hCq⟩ : ∃ Bq, vs 5 = .pointer (some ⟨Bq, 0, none⟩) ∧ W9.heap.size ≤ Bq ∧ CellsAt W Bq #[.int .u32 0, .int .u16 0, .int .u32 0, .int .u16 0, .int .u32 0, .int .u32 0, .int .u8 0, .int .u16 0, .int .u16 0, .int .i64 0, .bool false, .slice none 0 0, .bool false, .int .u32 0, .int .u32 0, .string ⟨#[]⟩] := hall 5 (by omega)
    clear hall
    rw [lexA_slots vs 6 [(some 62, 0), (some 63, 1), (some 64, 2), (some 65, 3), (some 66, 4), (some 12, 5)] (by kernel_rfl)]
    simp only [List.foldl_cons, List.foldl_nil, h4, h5]
    simp only [put_lit, List.set_cons_succ, List.set_cons_zero]
    show wpList _ _ _ [_] _ _
    obtain ⟨c10, a10, b10⟩ := box_written hCq (sc vv A7 c7).toList rfl
    refine wpList_store_mid rfl 30 _ _ rfl Bq 0 (sc vv A7 c7) rfl rfl (there hCq 0 _ (Nat.le_refl _)) (by kernel_rfl) (by simp [Value.oneCell']) ?_
    have hR8 := row_apart hR7 Bq 0 (hCq.cell 1 _ rfl) a10
    obtain ⟨W10, hW10⟩ : ∃ W10, W.setCells Bq 0 (sc vv A7 c7).toList = W10 := ⟨_, rfl⟩
    rw [hW10] at c10 a10 b10 hR8 ⊢
    have C10 := Lib.hid (show CellsAt W10 Bq (sc vv A7 c7) from c10)
    have X10 := Lib.hid ((X9.out.later hb).apart (by omega) a10)
    have V10 := Lib.hid ((V9.out.later hb).apart (by omega) a10)
    have B10 := Lib.hid ((st_call B9.out hb).trans (b10.mono (by have := B9.out.size; omega)))
    have R10 := Lib.hid hR8
    clear c10 a10 b10 hR8 hW10 hCq hR7 h4 h5 hb
    have q7 := X10.out.cell 7 _ rfl
    have e7 := C10.out.cell 7 _ rfl
    have f7 := C10.out.free 7 (show 7 < 16 by decide)
    go_upto_region 10 with fail
    obtain ⟨W11, hW11, c11, a11, b11⟩ := putWin C10.out (.int .u16 (s0.win : Int))
    rw [hW11]
    have hR11 := row_apart R10.out Bq _ (C10.out.cell 1 _ rfl) a11
    have c11b : CellsAt W11 Bq (sc { vv with win := s0.win } A7 c7) := c11
    have hR11b : Row (fun _ => True) W11 A7 ({ vv with win := s0.win } : Sg).opts.blocks := hR11
    rw [HBK.out] at c11b hR11b
    have C11 := c11b
    have hw0 : w.heap.size + 1 + 1 < Bq := by have := V9.out.lt; omega
    have X11 := X10.out.apart (show w.heap.size ≠ Bq by omega) a11
    have V11 := V10.out.apart (show w.heap.size + 1 + 1 ≠ Bq by omega) a11
    have B11 := Lib.hid (B10.out.trans (b11.mono (show w.heap.size ≤ Bq by omega)))
    clear c11 a11 b11 hR11 q7 e7 f7 hW11 c11b
    refine wp_region_lit ?_
    refine step_seg rfl _ rfl _ rfl _ _ _ C11 ?_
    refine step_seg rfl _ rfl _ rfl _ _ _ X11 ?_
    go_wp2_with fail
    refine (HSS.out _ A7 c7 hR11b.blk (z0.more B11.out)).mono ?_
    rintro e wP ⟨rfl, hb⟩
    have B12 := Lib.hid (st_call B11.out hb)
    have X12 := Lib.hid (X11.later hb)
    have V12 := Lib.hid (V11.later hb)
    clear hb X11 V11 C11 hR11b
    have e8 := V12.out.cell 8 _ rfl
    have f8 := V12.out.free 8 (show 8 < 10 by decide)
    have e9 := V12.out.cell 9 _ rfl
    have f9 := V12.out.free 9 (show 9 < 10 by decide)
    go_upto_region 14 with fail
    have x13 := (X12.out.other (w.heap.size + 1 + 1) 8 (.int .i64 0) (by omega)).other (w.heap.size + 1 + 1) 9 (.int .i64 0) (by omega)
    have v13 : CellsAt _ _ (xc ⟨x2.sip, x2.sport, x2.dip, x2.dport, x2.seq, x2.ack, x2.val, x2.echo, 0, 0⟩) := (V12.out.put 8 (.int .i64 0) (show 8 < 10 by decide)).put 9 (.int .i64 0) (show 9 < 10 by decide)
    have b13 := (B12.out.setCell (show w.heap.size ≤ w.heap.size + 1 + 1 by omega) (p := ⟨w.heap.size + 1 + 1, 8, none⟩) (.int .i64 0)).setCell (show w.heap.size ≤ w.heap.size + 1 + 1 by omega) (p := ⟨w.heap.size + 1 + 1, 9, none⟩) (.int .i64 0)
    obtain ⟨W13, hW13⟩ : ∃ W13, (wP.setCell ⟨w.heap.size + 1 + 1, 8, none⟩ (.int .i64 0)).setCell ⟨w.heap.size + 1 + 1, 9, none⟩ (.int .i64 0) = W13 := ⟨_, rfl⟩
    rw [hW13] at x13 v13 b13 ⊢
    have X13 := Lib.hid x13
    have B13 := Lib.hid b13
    obtain ⟨x3, hx3⟩ : ∃ x3 : Sh, ⟨x2.sip, x2.sport, x2.dip, x2.dport, x2.seq, x2.ack, x2.val, x2.echo, 0, 0⟩ = x3 := ⟨_, rfl⟩
    rw [hx3] at v13
    have V13 := Lib.hid v13
    have x3k : x3.ok := by rw [← hx3]; exact ⟨g2.1.sip, g2.1.sport, g2.1.dip, g2.1.dport, g2.1.seq, g2.1.ack, g2.1.val, g2.1.echo⟩
    have x3u : x3.up = 0 ∧ x3.down = 0 := by rw [← hx3]; exact ⟨rfl, rfl⟩
    have TU3 := Lib.hid (fun W (hb : Below W13.heap.size W13 W) => PktTdP.turnedP8 s0 A0 c0 x3 W ((z0.more B13.out).more hb) g0.1 (by omega) (by omega) x3k (by rw [x3u.1]; decide) (by rw [x3u.1]; decide) (by rw [x3u.2]; decide) (by rw [x3u.2]; decide))
    have hu3 : (turned s0 x3).win = s0.win := by show winT s0.win x3.up x3.down = s0.win; rw [x3u.1, x3u.2]; exact winT_zero g0.1.win
    obtain ⟨u3, hu3e⟩ : ∃ u3, turned s0 x3 = u3 := ⟨_, rfl⟩
    rw [hu3e] at TU3 hu3
    have HU3 := Lib.hid hu3
    clear x13 v13 b13 hW13 hx3 x3k x3u hu3 hu3e e8 f8 e9 f9
    refine wp_region_seeG 88 [(9, true)] (relC8 s0 A0 c0 x3 u3 w.heap.size) rfl (by kernel_rfl) (by kernel_rfl) (by kernel_rfl) (by intro p hp v w h; simp only [List.mem_cons, List.not_mem_nil, or_false] at hp; rcases hp with rfl; exact h) (relC8_more s0 A0 c0 x3 u3 w.heap.size) ?_ ?_
    · intro i hi
      have hi2 : i < 13 := by simpa using hi
      clear hi
      match i, hi2 with
      | 0, _ =>
        intro ρ W hb hc hg hf h0 hd
        have t3 := h0 3 (by kernel_rfl)
        clear hd h0
        exact PktSee.see_seg _ rfl _ t3 _ _ _ (X13.out.later hb) rfl
      | 1, _ =>
        intro ρ W hb hc hg hf h0 hd
        have t5 := h0 5 (by kernel_rfl)
        clear hd h0
        exact PktSee.see_shift _ rfl _ t5 _ (V13.out.later hb) rfl
      | 2, _ =>
        intro ρ W hb hc hg hf h0 hd
        have d0 : ρ (.tmp 76) = sv s0 A0 c0 := hd 0 76 (by kernel_rfl) (by kernel_rfl)
        have d1 : ρ (.tmp 77) = xv x3 := hd 1 77 (by kernel_rfl) (by kernel_rfl)
        clear hd h0
        go_simp
        exact (TU3.out W hb).mono fun e w' hq => by obtain ⟨⟨A, c, he, hR⟩, hb⟩ := hq; exact ⟨_, he, ⟨A, c, rfl⟩, hb⟩
      | 3, _ =>
        intro ρ W hb hc hg hf h0 hd
        have dp2 : ∃ A c, (ρ (.tmp 78)) = sv u3 A c := hd 2 78 (by kernel_rfl) (by kernel_rfl)
        obtain ⟨A', c', dp2⟩ := dp2
        have hu3 := HU3.out
        clear hd h0
        go_simp
        exact ⟨by show Value.int .u16 (u3.win : Int) = Value.int .u16 (s0.win : Int); rw [hu3], Below.refl _ _⟩
      | 4, _ =>
        intro ρ W hb hc hg hf h0 hd
        have t3 := h0 3 (by kernel_rfl)
        clear hd h0
        go_simp
        exact ⟨rfl, Below.refl _ _⟩
      | 5, _ =>
        intro ρ W hb hc hg hf h0 hd
        have d4 : ρ (.tmp 80) = .pointer (some ⟨w.heap.size, 7, none⟩) := hd 4 80 (by kernel_rfl) (by kernel_rfl)
        have k7 := (X13.out.later hb).cell 7 _ rfl
        clear hd h0
        go_simp
        exact ⟨rfl, Below.refl _ _⟩
      | 6, _ =>
        intro ρ W hb hc hg hf h0 hd
        have d3 : ρ (.tmp 79) = .int .u16 (s0.win : Int) := hd 3 79 (by kernel_rfl) (by kernel_rfl)
        have d5 : ρ (.tmp 81) = .int .u16 (s0.win : Int) := hd 5 81 (by kernel_rfl) (by kernel_rfl)
        clear hd h0
        go_simp
        exact ⟨rfl, Below.refl _ _⟩
      | 7, _ =>
        intro ρ W hb hc hg hf h0 hd
        have d6 : ρ (.tmp 82) = .bool true := hd 6 82 (by kernel_rfl) (by kernel_rfl)
        clear hd h0
        go_simp
        exact ⟨rfl, Below.refl _ _⟩
      | 8, _ =>
        intro ρ W hb hc hg hf h0 hd
        have d7 : ρ (.tmp 83) = .bool true := hd 7 83 (by kernel_rfl) (by kernel_rfl)
        clear hd h0
        go_simp
        exact ⟨rfl, Below.refl _ _⟩
      | 9, _ =>
        intro ρ W hb hc hg hf h0 hd
        have d8 : ρ (.tmp 84) = .bool true := hd 8 84 (by kernel_rfl) (by kernel_rfl)
        clear hd h0
        go_simp
        exact ⟨rfl, Below.refl _ _⟩
      | 10, _ =>
        intro ρ W hb hc hg hf h0 hd
        clear hd h0
        go_simp
        exact (alive_any W).mono fun e w' ⟨he, hb⟩ => ⟨_, he, rfl, hb⟩
      | 11, _ =>
        intro ρ W hb hc hg hf h0 hd
        have d9 : ρ (.tmp 85) = .bool true := hd 9 85 (by kernel_rfl) (by kernel_rfl)
        have d10 : ρ (.tmp 86) = .bool true := hd 10 86 (by kernel_rfl) (by kernel_rfl)
        clear hd h0
        go_simp
        exact ⟨rfl, Below.refl _ _⟩
      | 12, _ =>
        intro ρ W hb hc hg hf h0 hd
        have d11 : ρ (.tmp 87) = .bool true := hd 11 87 (by kernel_rfl) (by kernel_rfl)
        clear hd h0
        go_simp
        exact ⟨rfl, Below.refl _ _⟩
      | i + 13, hlt => exact absurd hlt (by omega)
    · intro vs W hb hall
      have hl : vs 12 = .bool true := hall 12 (of_decide_eq_true (by kernel_rfl))
      have B14 := Lib.hid (st_call B13.out hb)
      clear hall hb
      rw [lexA_slots vs _ [(some 76, 0), (some 77, 1), (some 78, 2), (some 79, 3), (some 80, 4), (some 81, 5), (some 82, 6), (some 83, 7), (some 84, 8), (some 85, 9), (some 86, 10), (some 87, 11), (some 6, 12)] (by kernel_rfl)]
      simp only [List.foldl_cons, List.foldl_nil, hl]
      simp only [put_lit, List.set_cons_succ, List.set_cons_zero]
      go_wp2_with fail
      go_ret
      exact ⟨rfl, B14.out⟩

set_option maxRecDepth 100000 in
set_option maxHeartbeats 16000000 in
theorem apart_yy (s0 : Sg) (A0 : Option Addr) (c0 : Nat) (s1 : Sg) (A1 : Option Addr) (c1 : Nat) (x2 : Sh) (w : World) (z0 : BlkR w A0 s0.opts.blocks) (g0 : s0.ok ∧ s0.opts.blocks.length ≤ maxLen ∧ -9223372036854775808 ≤ s0.opts.scale ∧ s0.opts.scale ≤ 9223372036854775807 ∧ s0.data.size ≤ maxLen) (z1 : BlkR w A1 s1.opts.blocks) (g1 : s1.ok ∧ s1.opts.blocks.length ≤ maxLen ∧ -9223372036854775808 ≤ s1.opts.scale ∧ s1.opts.scale ≤ 9223372036854775807 ∧ s1.data.size ≤ maxLen) (g2 : x2.ok ∧ -9223372036854775808 ≤ x2.up ∧ x2.up ≤ 9223372036854775807 ∧ -9223372036854775808 ≤ x2.down ∧ x2.down ≤ 9223372036854775807) (h0 : heavy s0 = false) (h1 : heavy s1 = false) (m0 : mayS s0 = true) (m1 : mayS s1 = true) : Calls Try.prog 7 #[sv s0 A0 c0, sv s1 A1 c1, xv x2] w fun e w' => e = .returned (.bool true) ∧ Below w.heap.size w w' := by
  have x0 := ((CellsAt.new w (sc s0 A0 c0) 30).later ((Below.refl _ (w.alloc (.cells (sc s0 A0 c0) 30))).alloc (Nat.le_refl _) (.cells (sc s1 A1 c1) 30))).later ((Below.refl _ ((w.alloc (.cells (sc s0 A0 c0) 30)).alloc (.cells (sc s1 A1 c1) 30))).alloc (Nat.le_refl _) (.cells (xc x2) 46))
  have y0 := (CellsAt.new (w.alloc (.cells (sc s0 A0 c0) 30)) (sc s1 A1 c1) 30).later ((Below.refl _ ((w.alloc (.cells (sc s0 A0 c0) 30)).alloc (.cells (sc s1 A1 c1) 30))).alloc (Nat.le_refl _) (.cells (xc x2) 46))
  have v0 := CellsAt.new ((w.alloc (.cells (sc s0 A0 c0) 30)).alloc (.cells (sc s1 A1 c1) 30)) (xc x2) 46
  simp only [World.size_alloc] at y0 v0
  have X0 := Lib.hid x0
  have Y0 := Lib.hid y0
  have V0 := Lib.hid v0
  clear x0 y0 v0
  have B0 := Lib.hid (st_alloc (st_alloc (st_alloc (Below.refl _ w) (.cells (sc s0 A0 c0) 30)) (.cells (sc s1 A1 c1) 30)) (.cells (xc x2) 46))
  have HH := Lib.hid (fun W => heavyL s0 A0 c0 W g0.2.2.2.2)
  have HG := Lib.hid (fun W => heavyL s1 A1 c1 W g1.2.2.2.2)
  rw [h0] at HH
  rw [h1] at HG
  obtain ⟨f1, f2⟩ := heavy_no h0
  obtain ⟨f3, f4⟩ := heavy_no h1
  have HE := Lib.hid (fun W (hb : Below (((w.alloc (.cells (sc s0 A0 c0) 30)).alloc (.cells (sc s1 A1 c1) 30)).alloc (.cells (xc x2) 46)).heap.size (((w.alloc (.cells (sc s0 A0 c0) 30)).alloc (.cells (sc s1 A1 c1) 30)).alloc (.cells (xc x2) 46)) W) => PktEncP.encP8 s0 A0 c0 W ((z0.more B0.out).more hb) g0.1 g0.2.2.2.2)
  have HF := Lib.hid (fun W (hb : Below (((w.alloc (.cells (sc s0 A0 c0) 30)).alloc (.cells (sc s1 A1 c1) 30)).alloc (.cells (xc x2) 46)).heap.size (((w.alloc (.cells (sc s0 A0 c0) 30)).alloc (.cells (sc s1 A1 c1) 30)).alloc (.cells (xc x2) 46)) W) => PktEncP.encP8 s1 A1 c1 W ((z1.more B0.out).more hb) g1.1 g1.2.2.2.2)
  have hv : encV8 s0 = .tuple #[.string (ofB (pk s0)), .int .i64 0] := if_pos m0
  have hv2 : encV8 s1 = .tuple #[.string (ofB (pk s1)), .int .i64 0] := if_pos m1
  rw [hv] at HE
  rw [hv2] at HF
  have hpq : ((ofB (pk s0)).toList == (ofB (pk s1)).toList) = sameS s0 s1 := by
    by_cases e : s0 = s1
    · rw [sameS_yes e, e]; exact beq_self_eq_true _
    · rw [sameS_no e]
      exact bytes_ne fun h => e (pk_inj g0.1 (of_mayS m0) g1.1 (of_mayS m1) (by
        have h2 := congrArg bz h
        rwa [bz_ofB (pk_le g0.1 (of_mayS m0)), bz_ofB (pk_le g1.1 (of_mayS m1))] at h2))
  have HS := Lib.hid (fun W (hA : BlkR W A0 s0.opts.blocks) (hB : BlkR W A1 s1.opts.blocks) => PktSameP.sameP8 s0 s1 A0 c0 A1 c1 W hA hB (by omega) (by omega))
  generalize sameS s0 s1 = bs at HS hpq
  generalize ofB (pk s0) = P at HE hpq
  generalize ofB (pk s1) = Q at HF hpq
  clear hv hv2 h0 h1 m0 m1
  go_enter Try.func7, Try.ntmps7
  have X1 := X0.out
  go_upto_region 1 with fail
  refine wp_region_lit ?_
  refine step_seg rfl _ rfl _ rfl _ _ _ X1 ?_
  go_wp2_with fail
  refine (HH.out _).mono ?_
  rintro e wL ⟨rfl, hb⟩
  have B1 := Lib.hid (st_call B0.out hb)
  have K1 := Lib.hid hb
  have X2 := Lib.hid (X0.out.later hb)
  have Y1 := Y0.out.later hb
  have V1 := Lib.hid (V0.out.later hb)
  clear hb X1
  have y0 := Y1.cell 0 _ rfl
  have y1 := Y1.cell 1 _ rfl
  have y2 := Y1.cell 2 _ rfl
  have y3 := Y1.cell 3 _ rfl
  have y4 := Y1.cell 4 _ rfl
  have y5 := Y1.cell 5 _ rfl
  have y6 := Y1.cell 6 _ rfl
  have y7 := Y1.cell 7 _ rfl
  have y8 := Y1.cell 8 _ rfl
  have y9 := Y1.cell 9 _ rfl
  have y10 := Y1.cell 10 _ rfl
  have y11 := Y1.cell 11 _ rfl
  have y12 := Y1.cell 12 _ rfl
  have y13 := Y1.cell 13 _ rfl
  have y14 := Y1.cell 14 _ rfl
  have y15 := Y1.cell 15 _ rfl
  go_wp2_with fail
  refine (HG.out _).mono ?_
  rintro e wL2 ⟨rfl, hb⟩
  have B2 := Lib.hid (st_call B1.out hb)
  have K2 := Lib.hid (st_call K1.out hb)
  have X3 := X2.out.later hb
  have Y3 := Lib.hid (Y1.later hb)
  have V3 := Lib.hid (V1.out.later hb)
  clear hb Y1 y0 y1 y2 y3 y4 y5 y6 y7 y8 y9 y10 y11 y12 y13 y14 y15
  go_upto_region 3 with fail
  refine wp_region_lit ?_
  refine step_seg rfl _ rfl _ rfl _ _ _ X3 ?_
  go_wp2_with fail
  refine (HE.out _ K2.out).mono ?_
  rintro e wM ⟨rfl, hb⟩
  have B3 := Lib.hid (st_call B2.out hb)
  have K3 := Lib.hid (st_call K2.out hb)
  have X4 := Lib.hid (X3.later hb)
  have Y4 := Y3.out.later hb
  have V4 := Lib.hid (V3.out.later hb)
  clear hb X3
  go_upto_region 4 with fail
  refine wp_region_lit ?_
  refine step_seg rfl _ rfl _ rfl _ _ _ Y4 ?_
  go_wp2_with fail
  refine (HF.out _ K3.out).mono ?_
  rintro e wN ⟨rfl, hb⟩
  have B5 := Lib.hid (st_call B3.out hb)
  have X5 := X4.out.later hb
  have Y5 := Y4.later hb
  have V5 := Lib.hid (V4.out.later hb)
  clear hb Y4
  have q0 := X5.cell 0 _ rfl
  have p0 := Y5.cell 0 _ rfl
  have q1 := X5.cell 1 _ rfl
  have p1 := Y5.cell 1 _ rfl
  have q2 := X5.cell 2 _ rfl
  have p2 := Y5.cell 2 _ rfl
  have q3 := X5.cell 3 _ rfl
  have p3 := Y5.cell 3 _ rfl
  have q4 := X5.cell 4 _ rfl
  have p4 := Y5.cell 4 _ rfl
  have q5 := X5.cell 5 _ rfl
  have p5 := Y5.cell 5 _ rfl
  have q6 := X5.cell 6 _ rfl
  have p6 := Y5.cell 6 _ rfl
  have q7 := X5.cell 7 _ rfl
  have p7 := Y5.cell 7 _ rfl
  have q8 := X5.cell 8 _ rfl
  have p8 := Y5.cell 8 _ rfl
  have q9 := X5.cell 9 _ rfl
  have p9 := Y5.cell 9 _ rfl
  have q10 := X5.cell 10 _ rfl
  have p10 := Y5.cell 10 _ rfl
  have q11 := X5.cell 11 _ rfl
  have p11 := Y5.cell 11 _ rfl
  have q12 := X5.cell 12 _ rfl
  have p12 := Y5.cell 12 _ rfl
  have q13 := X5.cell 13 _ rfl
  have p13 := Y5.cell 13 _ rfl
  have q14 := X5.cell 14 _ rfl
  have p14 := Y5.cell 14 _ rfl
  have q15 := X5.cell 15 _ rfl
  have p15 := Y5.cell 15 _ rfl
  go_wp2_with fail
  refine (HS.out _ (z0.more B5.out) (z1.more B5.out)).mono ?_
  rintro e wO ⟨rfl, hb⟩
  have B6 := Lib.hid (st_call B5.out hb)
  have X6 := Lib.hid (X5.later hb)
  have V6 := Lib.hid (V5.out.later hb)
  clear hb X5 Y5 q0 p0 q1 p1 q2 p2 q3 p3 q4 p4 q5 p5 q6 p6 q7 p7 q8 p8 q9 p9 q10 p10 q11 p11 q12 p12 q13 p13 q14 p14 q15 p15
  have q0 := X6.out.cell 0 _ rfl
  have q1 := X6.out.cell 1 _ rfl
  have q2 := X6.out.cell 2 _ rfl
  have q3 := X6.out.cell 3 _ rfl
  have p4 := V6.out.cell 4 _ rfl
  have p5 := V6.out.cell 5 _ rfl
  have p6 := V6.out.cell 6 _ rfl
  have p7 := V6.out.cell 7 _ rfl
  have n1 : IntKind.u32.wrap (-(x2.seq : Int)) = (neg32 x2.seq : Int) := neg32_wrap g2.1.seq
  have n2 : IntKind.u32.wrap (-(x2.ack : Int)) = (neg32 x2.ack : Int) := neg32_wrap g2.1.ack
  have n3 : IntKind.u32.wrap (-(x2.val : Int)) = (neg32 x2.val : Int) := neg32_wrap g2.1.val
  have n4 : IntKind.u32.wrap (-(x2.echo : Int)) = (neg32 x2.echo : Int) := neg32_wrap g2.1.echo
  have m1 : -(x2.seq : Int) % 4294967296 = (neg32 x2.seq : Int) := by have h := n1; rw [IntKind.wrap_u32] at h; exact h
  have m2 : -(x2.ack : Int) % 4294967296 = (neg32 x2.ack : Int) := by have h := n2; rw [IntKind.wrap_u32] at h; exact h
  have m3 : -(x2.val : Int) % 4294967296 = (neg32 x2.val : Int) := by have h := n3; rw [IntKind.wrap_u32] at h; exact h
  have m4 : -(x2.echo : Int) % 4294967296 = (neg32 x2.echo : Int) := by have h := n4; rw [IntKind.wrap_u32] at h; exact h
  go_upto_region 8 with fail
  have x9 := (X6.out).later ((Below.refl _ wO).alloc (Nat.le_refl _) (.cells #[.int .u32 (s0.sip : Int), .int .u16 (s0.sport : Int), .int .u32 (s0.dip : Int), .int .u16 (s0.dport : Int), .int .u32 (neg32 x2.seq : Int), .int .u32 (neg32 x2.ack : Int), .int .u32 (neg32 x2.val : Int), .int .u32 (neg32 x2.echo : Int), .int .i64 0, .int .i64 0] 46))
  have v9 := (V6.out).later ((Below.refl _ wO).alloc (Nat.le_refl _) (.cells #[.int .u32 (s0.sip : Int), .int .u16 (s0.sport : Int), .int .u32 (s0.dip : Int), .int .u16 (s0.dport : Int), .int .u32 (neg32 x2.seq : Int), .int .u32 (neg32 x2.ack : Int), .int .u32 (neg32 x2.val : Int), .int .u32 (neg32 x2.echo : Int), .int .i64 0, .int .i64 0] 46))
  have y9 : CellsAt (wO.alloc (.cells #[.int .u32 (s0.sip : Int), .int .u16 (s0.sport : Int), .int .u32 (s0.dip : Int), .int .u16 (s0.dport : Int), .int .u32 (neg32 x2.seq : Int), .int .u32 (neg32 x2.ack : Int), .int .u32 (neg32 x2.val : Int), .int .u32 (neg32 x2.echo : Int), .int .i64 0, .int .i64 0] 46)) wO.heap.size (xc ⟨s0.sip, s0.sport, s0.dip, s0.dport, neg32 x2.seq, neg32 x2.ack, neg32 x2.val, neg32 x2.echo, 0, 0⟩) := CellsAt.new wO #[.int .u32 (s0.sip : Int), .int .u16 (s0.sport : Int), .int .u32 (s0.dip : Int), .int .u16 (s0.dport : Int), .int .u32 (neg32 x2.seq : Int), .int .u32 (neg32 x2.ack : Int), .int .u32 (neg32 x2.val : Int), .int .u32 (neg32 x2.echo : Int), .int .i64 0, .int .i64 0] 46
  have b9 := st_alloc B6.out (.cells #[.int .u32 (s0.sip : Int), .int .u16 (s0.sport : Int), .int .u32 (s0.dip : Int), .int .u16 (s0.dport : Int), .int .u32 (neg32 x2.seq : Int), .int .u32 (neg32 x2.ack : Int), .int .u32 (neg32 x2.val : Int), .int .u32 (neg32 x2.echo : Int), .int .i64 0, .int .i64 0] 46)
  obtain ⟨W9, hW9⟩ : ∃ W9, wO.alloc (.cells #[.int .u32 (s0.sip : Int), .int .u16 (s0.sport : Int), .int .u32 (s0.dip : Int), .int .u16 (s0.dport : Int), .int .u32 (neg32 x2.seq : Int), .int .u32 (neg32 x2.ack : Int), .int .u32 (neg32 x2.val : Int), .int .u32 (neg32 x2.echo : Int), .int .i64 0, .int .i64 0] 46) = W9 := ⟨_, rfl⟩
  rw [hW9] at x9 v9 y9 b9 ⊢
  obtain ⟨y2, hy2⟩ : ∃ y2 : Sh, ⟨s0.sip, s0.sport, s0.dip, s0.dport, neg32 x2.seq, neg32 x2.ack, neg32 x2.val, neg32 x2.echo, 0, 0⟩ = y2 := ⟨_, rfl⟩
  rw [hy2] at y9
  have hx3w := x9.lt
  have hv3w := v9.lt
  have X9 := Lib.hid x9
  have V9 := Lib.hid v9
  have Y9 := Lib.hid y9
  have B9 := Lib.hid b9
  clear x9 v9 y9 b9 hW9 q0 q1 q2 q3 p4 p5 p6 p7
  have y2k : y2.ok := by rw [← hy2]; exact ⟨g0.1.sip, g0.1.sport, g0.1.dip, g0.1.dport, neg32_le _, neg32_le _, neg32_le _, neg32_le _⟩
  have y2u : y2.up = 0 ∧ y2.down = 0 := by rw [← hy2]; exact ⟨rfl, rfl⟩
  have hback : { turned (turned s0 x2) y2 with win := s0.win } = s0 := by rw [← hy2]; exact turned_back g0.1 x2 g2.1
  have u_ok : (turned s0 x2).ok := turned_ok g0.1 g2.1
  have u_few : (turned s0 x2).opts.blocks.length ≤ 1000 := by show (s0.opts.blocks.map _).length ≤ _; rw [List.length_map]; omega
  have u_dat : (turned s0 x2).data.size ≤ 1000000 := by show s0.data.size ≤ _; omega
  obtain ⟨u, hu⟩ : ∃ u, turned s0 x2 = u := ⟨_, rfl⟩
  rw [hu] at hback u_ok u_few u_dat
  obtain ⟨vv, hvv⟩ : ∃ vv, turned u y2 = vv := ⟨_, rfl⟩
  rw [hvv] at hback
  have TU1 := Lib.hid (fun W (hb : Below W9.heap.size W9 W) => PktTdP.turnedP8 s0 A0 c0 x2 W ((z0.more B9.out).more hb) g0.1 (by omega) (by omega) g2.1 g2.2.1 g2.2.2.1 g2.2.2.2.1 g2.2.2.2.2)
  rw [hu] at TU1
  have TU2 := Lib.hid (fun W A c (hB : BlkR W A u.opts.blocks) => PktTdP.turnedP8 u A c y2 W hB u_ok u_few u_dat y2k (by rw [y2u.1]; decide) (by rw [y2u.1]; decide) (by rw [y2u.2]; decide) (by rw [y2u.2]; decide))
  rw [hvv] at TU2
  have HBK := Lib.hid hback
  have HSS := Lib.hid (fun W A c (hB : BlkR W A s0.opts.blocks) (hB' : BlkR W A0 s0.opts.blocks) => PktSameP.sameP8 s0 s0 A c A0 c0 W hB hB' (by omega) (by omega))
  rw [sameS_yes rfl] at HSS
  clear hy2 hu hvv hback
  refine wp_region_see_tail 6 88 (relA8 s0 A0 c0 x2 y2 u vv W9.heap.size) rfl (by kernel_rfl) (by kernel_rfl) (by kernel_rfl) (by kernel_rfl) (relA8_more s0 A0 c0 x2 y2 u vv W9.heap.size) ?_ ?_
  · intro i hi
    have hi2 : i < 6 := by simpa using hi
    clear hi
    match i, hi2 with
    | 0, _ =>
      intro ρ W hb hc hg hf h0 hd
      have t3 := h0 3 (by kernel_rfl)
      clear hd h0
      exact PktSee.see_seg _ rfl _ t3 _ _ _ (X9.out.later hb) rfl
    | 1, _ =>
      intro ρ W hb hc hg hf h0 hd
      have t5 := h0 5 (by kernel_rfl)
      clear hd h0
      exact PktSee.see_shift _ rfl _ t5 _ (V9.out.later hb) rfl
    | 2, _ =>
      intro ρ W hb hc hg hf h0 hd
      have d0 : ρ (.tmp 62) = sv s0 A0 c0 := hd 0 62 (by kernel_rfl) (by kernel_rfl)
      have d1 : ρ (.tmp 63) = xv x2 := hd 1 63 (by kernel_rfl) (by kernel_rfl)
      clear hd h0
      go_simp
      exact (TU1.out W hb).mono fun e w' hq => by obtain ⟨⟨A, c, he, hR⟩, hb⟩ := hq; exact ⟨_, he, ⟨A, c, rfl, hR.blk⟩, hb⟩
    | 3, _ =>
      intro ρ W hb hc hg hf h0 hd
      have t11 := h0 11 (by kernel_rfl)
      clear hd h0
      exact PktSee.see_shift _ rfl _ t11 _ (Y9.out.later hb) rfl
    | 4, _ =>
      intro ρ W hb hc hg hf h0 hd
      have dp2 : ∃ A c, (ρ (.tmp 64)) = sv u A c ∧ BlkR W A u.opts.blocks := hd 2 64 (by kernel_rfl) (by kernel_rfl)
      have d3 : ρ (.tmp 65) = xv y2 := hd 3 65 (by kernel_rfl) (by kernel_rfl)
      obtain ⟨A', c', dp2, hR2⟩ := dp2
      clear hd h0
      go_simp
      exact (TU2.out W A' c' hR2).mono fun e w' hq => by obtain ⟨⟨A, c, he, hR⟩, hb⟩ := hq; exact ⟨_, he, ⟨A, c, rfl, hR.imp (fun _ _ => trivial)⟩, hb⟩
    | 5, _ =>
      intro ρ W hb hc hg hf h0 hd
      clear hd h0
      go_simp
      exact ⟨⟨_, rfl, hb.size, CellsAt.new _ _ _⟩, st_alloc (Below.refl _ _) _⟩
    | i + 6, hlt => exact absurd hlt (by omega)
  · intro vs W hb hall
    obtain ⟨A7, c7, h4, hR7⟩ : ∃ A c, vs 4 = sv vv A c ∧ Row (fun _ => True) W A vv.opts.blocks := hall 4 (by omega)
    obtain ⟨Bq, h5, hBq, hCq⟩ : ∃ Bq, vs 5 = .pointer (some ⟨Bq, 0, none⟩) ∧ W9.heap.size ≤ Bq ∧ CellsAt W Bq #[.int .u32 0, .int .u16 0, .int .u32 0, .int .u16 0, .int .u32 0, .int .u32 0, .int .u8 0, .int .u16 0, .int .u16 0, .int .i64 0, .bool false, .slice none 0 0, .bool false, .int .u32 0, .int .u32 0, .string ⟨#[]⟩] := hall 5 (by omega)
    clear hall
    rw [lexA_slots vs 6 [(some 62, 0), (some 63, 1), (some 64, 2), (some 65, 3), (some 66, 4), (some 12, 5)] (by kernel_rfl)]
    simp only [List.foldl_cons, List.foldl_nil, h4, h5]
    simp only [put_lit, List.set_cons_succ, List.set_cons_zero]
    show wpList _ _ _ [_] _ _
    obtain ⟨c10, a10, b10⟩ := box_written hCq (sc vv A7 c7).toList rfl
    refine wpList_store_mid rfl 30 _ _ rfl Bq 0 (sc vv A7 c7) rfl rfl (there hCq 0 _ (Nat.le_refl _)) (by kernel_rfl) (by simp [Value.oneCell']) ?_
    have hR8 := row_apart hR7 Bq 0 (hCq.cell 1 _ rfl) a10
    obtain ⟨W10, hW10⟩ : ∃ W10, W.setCells Bq 0 (sc vv A7 c7).toList = W10 := ⟨_, rfl⟩
    rw [hW10] at c10 a10 b10 hR8 ⊢
    have C10 := Lib.hid (show CellsAt W10 Bq (sc vv A7 c7) from c10)
    have X10 := Lib.hid ((X9.out.later hb).apart (by omega) a10)
    have V10 := Lib.hid ((V9.out.later hb).apart (by omega) a10)
    have B10 := Lib.hid ((st_call B9.out hb).trans (b10.mono (by have := B9.out.size; omega)))
    have R10 := Lib.hid hR8
    clear c10 a10 b10 hR8 hW10 hCq hR7 h4 h5 hb
    have q7 := X10.out.cell 7 _ rfl
    have e7 := C10.out.cell 7 _ rfl
    have f7 := C10.out.free 7 (show 7 < 16 by decide)
    go_upto_region 10 with fail
    obtain ⟨W11, hW11, c11, a11, b11⟩ := putWin C10.out (.int .u16 (s0.win : Int))
    rw [hW11]
    have hR11 := row_apart R10.out Bq _ (C10.out.cell 1 _ rfl) a11
    have c11b : CellsAt W11 Bq (sc { vv with win := s0.win } A7 c7) := c11
    have hR11b : Row (fun _ => True) W11 A7 ({ vv with win := s0.win } : Sg).opts.blocks := hR11
    rw [HBK.out] at c11b hR11b
    have C11 := c11b
    have hw0 : w.heap.size + 1 + 1 < Bq := by have := V9.out.lt; omega
    have X11 := X10.out.apart (show w.heap.size ≠ Bq by omega) a11
    have V11 := V10.out.apart (show w.heap.size + 1 + 1 ≠ Bq by omega) a11
    have B11 := Lib.hid (B10.out.trans (b11.mono (show w.heap.size ≤ Bq by omega)))
    clear c11 a11 b11 hR11 q7 e7 f7 hW11 c11b
    refine wp_region_lit ?_
    refine step_seg rfl _ rfl _ rfl _ _ _ C11 ?_
    refine step_seg rfl _ rfl _ rfl _ _ _ X11 ?_
    go_wp2_with fail
    refine (HSS.out _ A7 c7 hR11b.blk (z0.more B11.out)).mono ?_
    rintro e wP ⟨rfl, hb⟩
    have B12 := Lib.hid (st_call B11.out hb)
    have X12 := Lib.hid (X11.later hb)
    have V12 := Lib.hid (V11.later hb)
    clear hb X11 V11 C11 hR11b
    have e8 := V12.out.cell 8 _ rfl
    have f8 := V12.out.free 8 (show 8 < 10 by decide)
    have e9 := V12.out.cell 9 _ rfl
    have f9 := V12.out.free 9 (show 9 < 10 by decide)
    go_upto_region 14 with fail
    have x13 := (X12.out.other (w.heap.size + 1 + 1) 8 (.int .i64 0) (by omega)).other (w.heap.size + 1 + 1) 9 (.int .i64 0) (by omega)
    have v13 : CellsAt _ _ (xc ⟨x2.sip, x2.sport, x2.dip, x2.dport, x2.seq, x2.ack, x2.val, x2.echo, 0, 0⟩) := (V12.out.put 8 (.int .i64 0) (show 8 < 10 by decide)).put 9 (.int .i64 0) (show 9 < 10 by decide)
    have b13 := (B12.out.setCell (show w.heap.size ≤ w.heap.size + 1 + 1 by omega) (p := ⟨w.heap.size + 1 + 1, 8, none⟩) (.int .i64 0)).setCell (show w.heap.size ≤ w.heap.size + 1 + 1 by omega) (p := ⟨w.heap.size + 1 + 1, 9, none⟩) (.int .i64 0)
    obtain ⟨W13, hW13⟩ : ∃ W13, (wP.setCell ⟨w.heap.size + 1 + 1, 8, none⟩ (.int .i64 0)).setCell ⟨w.heap.size + 1 + 1, 9, none⟩ (.int .i64 0) = W13 := ⟨_, rfl⟩
    rw [hW13] at x13 v13 b13 ⊢
    have X13 := Lib.hid x13
    have B13 := Lib.hid b13
    obtain ⟨x3, hx3⟩ : ∃ x3 : Sh, ⟨x2.sip, x2.sport, x2.dip, x2.dport, x2.seq, x2.ack, x2.val, x2.echo, 0, 0⟩ = x3 := ⟨_, rfl⟩
    rw [hx3] at v13
    have V13 := Lib.hid v13
    have x3k : x3.ok := by rw [← hx3]; exact ⟨g2.1.sip, g2.1.sport, g2.1.dip, g2.1.dport, g2.1.seq, g2.1.ack, g2.1.val, g2.1.echo⟩
    have x3u : x3.up = 0 ∧ x3.down = 0 := by rw [← hx3]; exact ⟨rfl, rfl⟩
    have TU3 := Lib.hid (fun W (hb : Below W13.heap.size W13 W) => PktTdP.turnedP8 s0 A0 c0 x3 W ((z0.more B13.out).more hb) g0.1 (by omega) (by omega) x3k (by rw [x3u.1]; decide) (by rw [x3u.1]; decide) (by rw [x3u.2]; decide) (by rw [x3u.2]; decide))
    have hu3 : (turned s0 x3).win = s0.win := by show winT s0.win x3.up x3.down = s0.win; rw [x3u.1, x3u.2]; exact winT_zero g0.1.win
    obtain ⟨u3, hu3e⟩ : ∃ u3, turned s0 x3 = u3 := ⟨_, rfl⟩
    rw [hu3e] at TU3 hu3
    have HU3 := Lib.hid hu3
    clear x13 v13 b13 hW13 hx3 x3k x3u hu3 hu3e e8 f8 e9 f9
    refine wp_region_seeG 88 [(9, true)] (relC8 s0 A0 c0 x3 u3 w.heap.size) rfl (by kernel_rfl) (by kernel_rfl) (by kernel_rfl) (by intro p hp v w h; simp only [List.mem_cons, List.not_mem_nil, or_false] at hp; rcases hp with rfl; exact h) (relC8_more s0 A0 c0 x3 u3 w.heap.size) ?_ ?_
    · intro i hi
      have hi2 : i < 13 := by simpa using hi
      clear hi
      match i, hi2 with
      | 0, _ =>
        intro ρ W hb hc hg hf h0 hd
        have t3 := h0 3 (by kernel_rfl)
        clear hd h0
        exact PktSee.see_seg _ rfl _ t3 _ _ _ (X13.out.later hb) rfl
      | 1, _ =>
        intro ρ W hb hc hg hf h0 hd
        have t5 := h0 5 (by kernel_rfl)
        clear hd h0
        exact PktSee.see_shift _ rfl _ t5 _ (V13.out.later hb) rfl
      | 2, _ =>
        intro ρ W hb hc hg hf h0 hd
        have d0 : ρ (.tmp 76) = sv s0 A0 c0 := hd 0 76 (by kernel_rfl) (by kernel_rfl)
        have d1 : ρ (.tmp 77) = xv x3 := hd 1 77 (by kernel_rfl) (by kernel_rfl)
        clear hd h0
        go_simp
        exact (TU3.out W hb).mono fun e w' hq => by obtain ⟨⟨A, c, he, hR⟩, hb⟩ := hq; exact ⟨_, he, ⟨A, c, rfl⟩, hb⟩
      | 3, _ =>
        intro ρ W hb hc hg hf h0 hd
        have dp2 : ∃ A c, (ρ (.tmp 78)) = sv u3 A c := hd 2 78 (by kernel_rfl) (by kernel_rfl)
        obtain ⟨A', c', dp2⟩ := dp2
        have hu3 := HU3.out
        clear hd h0
        go_simp
        exact ⟨by show Value.int .u16 (u3.win : Int) = Value.int .u16 (s0.win : Int); rw [hu3], Below.refl _ _⟩
      | 4, _ =>
        intro ρ W hb hc hg hf h0 hd
        have t3 := h0 3 (by kernel_rfl)
        clear hd h0
        go_simp
        exact ⟨rfl, Below.refl _ _⟩
      | 5, _ =>
        intro ρ W hb hc hg hf h0 hd
        have d4 : ρ (.tmp 80) = .pointer (some ⟨w.heap.size, 7, none⟩) := hd 4 80 (by kernel_rfl) (by kernel_rfl)
        have k7 := (X13.out.later hb).cell 7 _ rfl
        clear hd h0
        go_simp
        exact ⟨rfl, Below.refl _ _⟩
      | 6, _ =>
        intro ρ W hb hc hg hf h0 hd
        have d3 : ρ (.tmp 79) = .int .u16 (s0.win : Int) := hd 3 79 (by kernel_rfl) (by kernel_rfl)
        have d5 : ρ (.tmp 81) = .int .u16 (s0.win : Int) := hd 5 81 (by kernel_rfl) (by kernel_rfl)
        clear hd h0
        go_simp
        exact ⟨rfl, Below.refl _ _⟩
      | 7, _ =>
        intro ρ W hb hc hg hf h0 hd
        have d6 : ρ (.tmp 82) = .bool true := hd 6 82 (by kernel_rfl) (by kernel_rfl)
        clear hd h0
        go_simp
        exact ⟨rfl, Below.refl _ _⟩
      | 8, _ =>
        intro ρ W hb hc hg hf h0 hd
        have d7 : ρ (.tmp 83) = .bool true := hd 7 83 (by kernel_rfl) (by kernel_rfl)
        clear hd h0
        go_simp
        exact ⟨rfl, Below.refl _ _⟩
      | 9, _ =>
        intro ρ W hb hc hg hf h0 hd
        have d8 : ρ (.tmp 84) = .bool true := hd 8 84 (by kernel_rfl) (by kernel_rfl)
        clear hd h0
        go_simp
        exact ⟨rfl, Below.refl _ _⟩
      | 10, _ =>
        intro ρ W hb hc hg hf h0 hd
        clear hd h0
        go_simp
        exact (alive_any W).mono fun e w' ⟨he, hb⟩ => ⟨_, he, rfl, hb⟩
      | 11, _ =>
        intro ρ W hb hc hg hf h0 hd
        have d9 : ρ (.tmp 85) = .bool true := hd 9 85 (by kernel_rfl) (by kernel_rfl)
        have d10 : ρ (.tmp 86) = .bool true := hd 10 86 (by kernel_rfl) (by kernel_rfl)
        clear hd h0
        go_simp
        exact ⟨rfl, Below.refl _ _⟩
      | 12, _ =>
        intro ρ W hb hc hg hf h0 hd
        have d11 : ρ (.tmp 87) = .bool true := hd 11 87 (by kernel_rfl) (by kernel_rfl)
        clear hd h0
        go_simp
        exact ⟨rfl, Below.refl _ _⟩
      | i + 13, hlt => exact absurd hlt (by omega)
    · intro vs W hb hall
      have hl : vs 12 = .bool true := hall 12 (of_decide_eq_true (by kernel_rfl))
      have B14 := Lib.hid (st_call B13.out hb)
      clear hall hb
      rw [lexA_slots vs _ [(some 76, 0), (some 77, 1), (some 78, 2), (some 79, 3), (some 80, 4), (some 81, 5), (some 82, 6), (some 83, 7), (some 84, 8), (some 85, 9), (some 86, 10), (some 87, 11), (some 6, 12)] (by kernel_rfl)]
      simp only [List.foldl_cons, List.foldl_nil, hl]
      simp only [put_lit, List.set_cons_succ, List.set_cons_zero]
      go_wp2_with fail
      go_ret
      exact ⟨rfl, B14.out⟩

/-! The walk: the Go text returns true, and writes nothing that was there. -/
set_option maxRecDepth 100000 in
theorem walk (s0 : PktMath.Sg) (A0 : Option Addr) (c0 : Nat) (s1 : PktMath.Sg) (A1 : Option Addr) (c1 : Nat) (x2 : PktMath.Sh) (w : World) (z0 : OptSame.BlkR w A0 s0.opts.blocks) (g0 : s0.ok ∧ s0.opts.blocks.length ≤ maxLen ∧ -9223372036854775808 ≤ s0.opts.scale ∧ s0.opts.scale ≤ 9223372036854775807 ∧ s0.data.size ≤ maxLen) (z1 : OptSame.BlkR w A1 s1.opts.blocks) (g1 : s1.ok ∧ s1.opts.blocks.length ≤ maxLen ∧ -9223372036854775808 ≤ s1.opts.scale ∧ s1.opts.scale ≤ 9223372036854775807 ∧ s1.data.size ≤ maxLen) (g2 : x2.ok ∧ -9223372036854775808 ≤ x2.up ∧ x2.up ≤ 9223372036854775807 ∧ -9223372036854775808 ≤ x2.down ∧ x2.down ≤ 9223372036854775807) :
    Calls Try.prog 7 #[PktVal.sv s0 A0 c0, PktVal.sv s1 A1 c1, PktVal.xv x2] w fun e w' => e = .returned (.bool true) ∧ Below w.heap.size w w' := by
  cases h0 : heavy s0 with
  | true => exact apart_h0 s0 A0 c0 s1 A1 c1 x2 w z0 g0 z1 g1 g2 h0
  | false =>
    cases h1 : heavy s1 with
    | true => exact apart_h1 s0 A0 c0 s1 A1 c1 x2 w z0 g0 z1 g1 g2 h0 h1
    | false =>
      cases m0 : mayS s0 with
      | false => exact apart_n s0 A0 c0 s1 A1 c1 x2 w z0 g0 z1 g1 g2 h0 h1 m0
      | true =>
        cases m1 : mayS s1 with
        | false => exact apart_yn s0 A0 c0 s1 A1 c1 x2 w z0 g0 z1 g1 g2 h0 h1 m0 m1
        | true => exact apart_yy s0 A0 c0 s1 A1 c1 x2 w z0 g0 z1 g1 g2 h0 h1 m0 m1

/-! The row's step, after the guide's own way. -/
set_option maxRecDepth 100000 in
theorem lifted (os : Os) (started : os.Started) (H : Type) (enc : TypeId × Value → H) :
    ReturnsInHanded {} Try.checked os 7 .any (Rows.pktApartSpec.pre6 enc Try.prog Try.f7 Rows.pktApartRow.domain false) (Rows.pktApartSpec.post enc Try.prog Try.f7 false true false false) := by
  refine returnsInHanded_of_change (C := Try.checked) own started (by kernel_rfl) Try.func7
    (ChangeSpec.witness6 (enc := enc) (C := Try.checked) false ⟨#[], #[.agg #[.int .u32 0, .int .u16 0, .int .u32 0, .int .u16 0, .int .u32 0, .int .u32 0, .int .u8 0, .int .u16 0, .int .u16 0, .int .i64 0, .bool false, .slice none 0 0, .bool false, .int .u32 0, .int .u32 0, .string ByteArray.empty], .agg #[.int .u32 0, .int .u16 0, .int .u32 0, .int .u16 0, .int .u32 0, .int .u32 0, .int .u8 0, .int .u16 0, .int .u16 0, .int .i64 0, .bool false, .slice none 0 0, .bool false, .int .u32 0, .int .u32 0, .string ByteArray.empty], .agg #[.int .u32 0, .int .u16 0, .int .u32 0, .int .u16 0, .int .u32 0, .int .u32 0, .int .u32 0, .int .u32 0, .int .i64 0, .int .i64 0]], []⟩ 8 (by kernel_rfl) (by kernel_rfl) (by kernel_rfl) (by kernel_rfl)) ?_
  intro W base args ds gs before hval0 hW hcnd _
  have hval : ∀ (j : Nat) t v, Try.f7.params[j]? = some t → args[j]? = some v → Value.okWide Try.prog W .any base t v := hval0
  have hW' := hW
  obtain ⟨p, q, hA0, hV, rfl, hfz, hnd⟩ := hW
  have hA : DataW.TrodAll enc Try.prog W 0 (fun _ => true) true Try.f7.params.toList args.toList ds p := hA0
  rw [Try.params7] at hA hval
  obtain ⟨v0, vs0, d0, ds0, p0, q0, hargs, rfl, rfl, h0, r0⟩ := trodAll_cons hA
  obtain ⟨v1, vs1, d1, ds1, p1, q1, rfl, rfl, rfl, h1, r1⟩ := trodAll_cons r0
  obtain ⟨v2, vs2, d2, ds2, p2, q2, rfl, rfl, rfl, h2, r2⟩ := trodAll_cons r1
  obtain ⟨rfl, rfl, rfl⟩ := trodAll_nil r2
  obtain rfl : args = #[v0, v1, v2] := by cases args; simp_all
  obtain ⟨rfl, rfl⟩ := trodVars_none hV
  have k0 := h0
  have lt0 : ∀ x ∈ p0, x.block < W.heap.size := by obtain ⟨m, hm⟩ := k0; exact DataW.trod_lt m _ _ _ hm
  obtain ⟨s0, A0, c0, rfl, z0, g0⟩ := PktOpen.open_seg (hval 0 30 v0 rfl rfl) h0
  have k1 := h1
  have lt1 : ∀ x ∈ p1, x.block < W.heap.size := by obtain ⟨m, hm⟩ := k1; exact DataW.trod_lt m _ _ _ hm
  obtain ⟨s1, A1, c1, rfl, z1, g1⟩ := PktOpen.open_seg (hval 1 30 v1 rfl rfl) h1
  have k2 := h2
  have lt2 : ∀ x ∈ p2, x.block < W.heap.size := by obtain ⟨m, hm⟩ := k2; exact DataW.trod_lt m _ _ _ hm
  obtain ⟨x2, rfl, g2⟩ := PktOpen.open_shift (hval 2 46 v2 rfl rfl) h2
  clear hA0 hval0
  refine (walk s0 A0 c0 s1 A1 c1 x2 W z0 g0 z1 g1 g2).mono fun e W' ⟨he, bel⟩ => ?_
  subst he
  exact ⟨_, rfl, _, _, _, [], _, [], hW', trodAll_mk1 (shut_bool Try.underlying4 _), (trodAll_cons_mk (Below.trod laidOut (by kernel_rfl) (of_decide_eq_true (by kernel_rfl)) k0 bel lt0) (trodAll_cons_mk (Below.trod laidOut (by kernel_rfl) (of_decide_eq_true (by kernel_rfl)) k1 bel lt1) (trodAll_cons_mk (Below.trod laidOut (by kernel_rfl) (of_decide_eq_true (by kernel_rfl)) k2 bel lt2) trodAll_mk0))), rfl, bel.frame _, fun h => by cases h⟩

theorem over : Rows.pktApartRow.holds Try.pinned (OpenSpec.ofChange Rows.pktApartSpec) :=
  OpenClaim.holds_of_wide 7 Try.f7 rfl rfl rfl rfl rfl rfl rfl ⟨rfl, rfl, rfl, rfl, rfl⟩ rfl rfl rfl rfl rfl (by kernel_rfl) Try.func7 (by kernel_rfl)
    (of_decide_eq_true (by kernel_rfl)) (by unfold Func.isWrapper; first | (rw [if_pos (by decide +kernel)]; kernel_rfl) | (rw [if_neg (by decide +kernel)]; exact ⟨rfl, rfl⟩))
    (fun os started H enc _ => lifted os started H enc)

/-- The statement. -/
theorem proved : Rows.PktApartSaid := over
#print axioms proved
end Go.Proofs.Ytpmnmnflaijaaaa.pktApart
