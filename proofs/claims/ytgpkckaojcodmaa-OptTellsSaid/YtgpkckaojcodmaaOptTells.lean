/-
  Proved: the statement 'Rows.OptTellsSaid': for every input the Go function transomlaw07.OptTells returns true, and each argument reads behind the call as it read before. Conditions: none of our own; those of the given row.
-/
import Derived.Test.YtgpkckaojcodmaaRows
import Derived.Test.YtgpkckaojcodmaaOptOpen
import Derived.Test.YtgpkckaojcodmaaOptAlive
import Derived.Test.YtgpkckaojcodmaaOptFew
import Derived.Test.YtgpkckaojcodmaaCalm
import Derived.BigQuiet
import Derived.WalkKit
import Derived.ProofKit
import Derived.OpenShut
import Derived.ShutString
import Derived.ChangeOld
import Derived.Below
namespace Go.Proofs.Ytgpkckaojcodmaa.optTells
open Go.ChangeShapes Go.WideShapes Go.ChangeAt Go.RowKit
open Go.ChangeMaps (open_string shut_string)
open OptFew TupMath SumMath IpMath Litb Calm Rel IpRef OptMath OptRef OptSame OptMay OptTake5 OptTk OptDec OptTurnM OptTurn OptLaw OptP OptAlive
open Cells (CellsAt)
set_option linter.unusedVariables false

theorem own : ownKnob Try.prog.godebug = none := by kernel_rfl
theorem laidOut : laidOutB Try.prog = true := by kernel_rfl

theorem encV7_form (o : Opn) : ∃ (S : ByteArray) (n : Int), encV7 o = .tuple #[.string S, .int .i64 n] := by
  unfold encV7
  split
  · exact ⟨_, _, rfl⟩
  · exact ⟨_, _, rfl⟩

/-! The walk: the Go text returns true, and writes nothing that was there. -/
set_option maxRecDepth 100000 in
set_option maxHeartbeats 16000000 in
theorem walk (o0 : OptMath.Opn) (A0 : Option Addr) (c0 : Nat) (o1 : OptMath.Opn) (A1 : Option Addr) (c1 : Nat) (a2 : ByteArray) (w : World) (z0 : OptSame.BlkR w A0 o0.blocks) (g0 : o0.ok ∧ o0.blocks.length ≤ maxLen ∧ -9223372036854775808 ≤ o0.scale ∧ o0.scale ≤ 9223372036854775807) (z1 : OptSame.BlkR w A1 o1.blocks) (g1 : o1.ok ∧ o1.blocks.length ≤ maxLen ∧ -9223372036854775808 ≤ o1.scale ∧ o1.scale ≤ 9223372036854775807) (w2 : a2.size ≤ maxLen) :
    Calls Try.prog 3 #[OptSame.ov o0 A0 c0, OptSame.ov o1 A1 c1, .string a2] w fun e w' => e = .returned (.bool true) ∧ Below w.heap.size w w' := by
  unfold maxLen at w2
  have X0 := Lib.hid ((CellsAt.new w #[.int .u16 (o0.mss : Int), .int .i64 o0.scale, .bool o0.sack, .slice A0 o0.blocks.length c0, .bool o0.time, .int .u32 (o0.val : Int), .int .u32 (o0.echo : Int)] 26).later ((Below.refl _ _).alloc (Nat.le_refl _) (.cells #[.int .u16 (o1.mss : Int), .int .i64 o1.scale, .bool o1.sack, .slice A1 o1.blocks.length c1, .bool o1.time, .int .u32 (o1.val : Int), .int .u32 (o1.echo : Int)] 26)))
  have Y0 := Lib.hid (CellsAt.new (w.alloc (.cells #[.int .u16 (o0.mss : Int), .int .i64 o0.scale, .bool o0.sack, .slice A0 o0.blocks.length c0, .bool o0.time, .int .u32 (o0.val : Int), .int .u32 (o0.echo : Int)] 26)) #[.int .u16 (o1.mss : Int), .int .i64 o1.scale, .bool o1.sack, .slice A1 o1.blocks.length c1, .bool o1.time, .int .u32 (o1.val : Int), .int .u32 (o1.echo : Int)] 26)
  rw [World.size_alloc] at Y0
  have B0 := Lib.hid (st_alloc (st_alloc (Below.refl _ w) (.cells #[.int .u16 (o0.mss : Int), .int .i64 o0.scale, .bool o0.sack, .slice A0 o0.blocks.length c0, .bool o0.time, .int .u32 (o0.val : Int), .int .u32 (o0.echo : Int)] 26)) (.cells #[.int .u16 (o1.mss : Int), .int .i64 o1.scale, .bool o1.sack, .slice A1 o1.blocks.length c1, .bool o1.time, .int .u32 (o1.val : Int), .int .u32 (o1.echo : Int)] 26))
  by_cases hl0 : 100 < o0.blocks.length
  · go_enter Try.func3, Try.ntmps3
    go_wp2_with fail
    refine (longL o0 A0 c0 _ g0.2.1).mono ?_
    rintro e wL ⟨rfl, hb⟩
    have X1 := Lib.hid (X0.out.later hb)
    have Y1 := Y0.out.later hb
    have B1 := Lib.hid (st_call B0.out hb)
    clear hb
    rw [decide_eq_true hl0]
    clear Y1
    go_wp2_with fail
    refine (alive_any _).mono ?_
    rintro e w' ⟨rfl, hb⟩
    have HB := Lib.hid (st_call B1.out hb)
    clear hb
    go_wp2_with fail
    go_ret
    exact ⟨rfl, HB.out⟩
  by_cases hl1 : 100 < o1.blocks.length
  · go_enter Try.func3, Try.ntmps3
    go_wp2_with fail
    refine (longL o0 A0 c0 _ g0.2.1).mono ?_
    rintro e wL ⟨rfl, hb⟩
    have X1 := Lib.hid (X0.out.later hb)
    have Y1 := Y0.out.later hb
    have B1 := Lib.hid (st_call B0.out hb)
    clear hb
    rw [decide_eq_false hl0]
    have y0 : (wL).cell? ⟨w.heap.size + 1, 0, none⟩ = some (.int .u16 (o1.mss : Int)) := Y1.cell 0 _ rfl
    have y1 : (wL).cell? ⟨w.heap.size + 1, 1, none⟩ = some (.int .i64 o1.scale) := Y1.cell 1 _ rfl
    have y2 : (wL).cell? ⟨w.heap.size + 1, 2, none⟩ = some (.bool o1.sack) := Y1.cell 2 _ rfl
    have y3 : (wL).cell? ⟨w.heap.size + 1, 3, none⟩ = some (.slice A1 o1.blocks.length c1) := Y1.cell 3 _ rfl
    have y4 : (wL).cell? ⟨w.heap.size + 1, 4, none⟩ = some (.bool o1.time) := Y1.cell 4 _ rfl
    have y5 : (wL).cell? ⟨w.heap.size + 1, 5, none⟩ = some (.int .u32 (o1.val : Int)) := Y1.cell 5 _ rfl
    have y6 : (wL).cell? ⟨w.heap.size + 1, 6, none⟩ = some (.int .u32 (o1.echo : Int)) := Y1.cell 6 _ rfl
    have Y2 := Lib.hid Y1
    clear Y1
    go_wp2_with fail
    clear y0 y1 y2 y3 y4 y5 y6
    refine (longL o1 A1 c1 _ g1.2.1).mono ?_
    rintro e wM ⟨rfl, hb⟩
    have X2 := Lib.hid (X1.out.later hb)
    have Y3 := Lib.hid (Y2.out.later hb)
    have B2 := Lib.hid (st_call B1.out hb)
    clear hb
    rw [decide_eq_true hl1]
    go_wp2_with fail
    refine (alive_any _).mono ?_
    rintro e w' ⟨rfl, hb⟩
    have HB := Lib.hid (st_call B2.out hb)
    clear hb
    go_wp2_with fail
    go_ret
    exact ⟨rfl, HB.out⟩
  by_cases hx0 : 1024 < a2.size
  · go_enter Try.func3, Try.ntmps3
    go_wp2_with fail
    refine (longL o0 A0 c0 _ g0.2.1).mono ?_
    rintro e wL ⟨rfl, hb⟩
    have X1 := Lib.hid (X0.out.later hb)
    have Y1 := Y0.out.later hb
    have B1 := Lib.hid (st_call B0.out hb)
    clear hb
    rw [decide_eq_false hl0]
    have y0 : (wL).cell? ⟨w.heap.size + 1, 0, none⟩ = some (.int .u16 (o1.mss : Int)) := Y1.cell 0 _ rfl
    have y1 : (wL).cell? ⟨w.heap.size + 1, 1, none⟩ = some (.int .i64 o1.scale) := Y1.cell 1 _ rfl
    have y2 : (wL).cell? ⟨w.heap.size + 1, 2, none⟩ = some (.bool o1.sack) := Y1.cell 2 _ rfl
    have y3 : (wL).cell? ⟨w.heap.size + 1, 3, none⟩ = some (.slice A1 o1.blocks.length c1) := Y1.cell 3 _ rfl
    have y4 : (wL).cell? ⟨w.heap.size + 1, 4, none⟩ = some (.bool o1.time) := Y1.cell 4 _ rfl
    have y5 : (wL).cell? ⟨w.heap.size + 1, 5, none⟩ = some (.int .u32 (o1.val : Int)) := Y1.cell 5 _ rfl
    have y6 : (wL).cell? ⟨w.heap.size + 1, 6, none⟩ = some (.int .u32 (o1.echo : Int)) := Y1.cell 6 _ rfl
    have Y2 := Lib.hid Y1
    clear Y1
    go_wp2_with fail
    clear y0 y1 y2 y3 y4 y5 y6
    refine (longL o1 A1 c1 _ g1.2.1).mono ?_
    rintro e wM ⟨rfl, hb⟩
    have X2 := Lib.hid (X1.out.later hb)
    have Y3 := Lib.hid (Y2.out.later hb)
    have B2 := Lib.hid (st_call B1.out hb)
    clear hb
    rw [decide_eq_false hl1]
    go_wp2_with fail
    refine (alive_any _).mono ?_
    rintro e w' ⟨rfl, hb⟩
    have HB := Lib.hid (st_call B2.out hb)
    clear hb
    go_wp2_with fail
    go_ret
    exact ⟨rfl, HB.out⟩
  have C1 := fun W (hw : Below w.heap.size w W) => encP7 o0 A0 c0 W (z0.more hw) g0.1
  have C2 := fun W (hw : Below w.heap.size w W) => encR7 o0 A0 c0 W (z0.more hw) g0.1
  obtain ⟨S, n, hV⟩ := encV7_form o0
  rw [hV] at C1 C2
  clear hV
  have C3 := fun W => decP7 a2 W (by omega)
  have C4 := fun W => decR7 a2 W (by omega)
  unfold DecOut at C3 C4
  have hqf := dec7_few (bz a2)
  generalize (dec7 (bz a2)).2 = oq at C3 C4 hqf
  generalize (dec7 (bz a2)).1 = q at C3 C4
  have H1 := Lib.hid C1
  have H2 := Lib.hid C2
  have H3 := Lib.hid C3
  have H4 := Lib.hid C4
  have Z0 := Lib.hid z0
  have Z1 := Lib.hid z1
  clear C1 C2 C3 C4 z0 z1
  go_enter Try.func3, Try.ntmps3
  go_wp2_with fail
  refine (longL o0 A0 c0 _ g0.2.1).mono ?_
  rintro e wL ⟨rfl, hb⟩
  have X1 := Lib.hid (X0.out.later hb)
  have Y1 := Y0.out.later hb
  have B1 := Lib.hid (st_call B0.out hb)
  clear hb
  rw [decide_eq_false hl0]
  have y0 : (wL).cell? ⟨w.heap.size + 1, 0, none⟩ = some (.int .u16 (o1.mss : Int)) := Y1.cell 0 _ rfl
  have y1 : (wL).cell? ⟨w.heap.size + 1, 1, none⟩ = some (.int .i64 o1.scale) := Y1.cell 1 _ rfl
  have y2 : (wL).cell? ⟨w.heap.size + 1, 2, none⟩ = some (.bool o1.sack) := Y1.cell 2 _ rfl
  have y3 : (wL).cell? ⟨w.heap.size + 1, 3, none⟩ = some (.slice A1 o1.blocks.length c1) := Y1.cell 3 _ rfl
  have y4 : (wL).cell? ⟨w.heap.size + 1, 4, none⟩ = some (.bool o1.time) := Y1.cell 4 _ rfl
  have y5 : (wL).cell? ⟨w.heap.size + 1, 5, none⟩ = some (.int .u32 (o1.val : Int)) := Y1.cell 5 _ rfl
  have y6 : (wL).cell? ⟨w.heap.size + 1, 6, none⟩ = some (.int .u32 (o1.echo : Int)) := Y1.cell 6 _ rfl
  have Y2 := Lib.hid Y1
  clear Y1
  go_wp2_with fail
  clear y0 y1 y2 y3 y4 y5 y6
  refine (longL o1 A1 c1 _ g1.2.1).mono ?_
  rintro e wM ⟨rfl, hb⟩
  have X2 := Lib.hid (X1.out.later hb)
  have Y3 := Lib.hid (Y2.out.later hb)
  have B2 := Lib.hid (st_call B1.out hb)
  clear hb
  rw [decide_eq_false hl1]
  have x0 : (wM).cell? ⟨w.heap.size, 0, none⟩ = some (.int .u16 (o0.mss : Int)) := X2.out.cell 0 _ rfl
  have x1 : (wM).cell? ⟨w.heap.size, 1, none⟩ = some (.int .i64 o0.scale) := X2.out.cell 1 _ rfl
  have x2 : (wM).cell? ⟨w.heap.size, 2, none⟩ = some (.bool o0.sack) := X2.out.cell 2 _ rfl
  have x3 : (wM).cell? ⟨w.heap.size, 3, none⟩ = some (.slice A0 o0.blocks.length c0) := X2.out.cell 3 _ rfl
  have x4 : (wM).cell? ⟨w.heap.size, 4, none⟩ = some (.bool o0.time) := X2.out.cell 4 _ rfl
  have x5 : (wM).cell? ⟨w.heap.size, 5, none⟩ = some (.int .u32 (o0.val : Int)) := X2.out.cell 5 _ rfl
  have x6 : (wM).cell? ⟨w.heap.size, 6, none⟩ = some (.int .u32 (o0.echo : Int)) := X2.out.cell 6 _ rfl
  go_wp2_with fail
  clear x0 x1 x2 x3 x4 x5 x6
  refine (H1.out _ B2.out).mono ?_
  rintro e wA ⟨rfl, hb⟩
  have X3 := X2.out.later hb
  have Y4 := Lib.hid (Y3.out.later hb)
  have B3 := Lib.hid (st_call B2.out hb)
  clear hb
  have x0 : (wA).cell? ⟨w.heap.size, 0, none⟩ = some (.int .u16 (o0.mss : Int)) := X3.cell 0 _ rfl
  have x1 : (wA).cell? ⟨w.heap.size, 1, none⟩ = some (.int .i64 o0.scale) := X3.cell 1 _ rfl
  have x2 : (wA).cell? ⟨w.heap.size, 2, none⟩ = some (.bool o0.sack) := X3.cell 2 _ rfl
  have x3 : (wA).cell? ⟨w.heap.size, 3, none⟩ = some (.slice A0 o0.blocks.length c0) := X3.cell 3 _ rfl
  have x4 : (wA).cell? ⟨w.heap.size, 4, none⟩ = some (.bool o0.time) := X3.cell 4 _ rfl
  have x5 : (wA).cell? ⟨w.heap.size, 5, none⟩ = some (.int .u32 (o0.val : Int)) := X3.cell 5 _ rfl
  have x6 : (wA).cell? ⟨w.heap.size, 6, none⟩ = some (.int .u32 (o0.echo : Int)) := X3.cell 6 _ rfl
  have X4 := Lib.hid X3
  clear X3
  go_wp2_with fail
  clear x0 x1 x2 x3 x4 x5 x6
  refine (H2.out _ B3.out).mono ?_
  rintro e wB ⟨rfl, hb⟩
  have X5 := Lib.hid (X4.out.later hb)
  have Y5 := Lib.hid (Y4.out.later hb)
  have B4 := Lib.hid (st_call B3.out hb)
  clear hb
  go_wp2_with fail
  refine (H3.out _).mono ?_
  rintro e wC ⟨⟨A3, c3, rfl, hR3⟩, hb⟩
  have bl := (Below.refl _ wC).alloc (Nat.le_refl _) (.cells #[.int .u16 (oq.mss : Int), .int .i64 oq.scale, .bool oq.sack, .slice A3 oq.blocks.length c3, .bool oq.time, .int .u32 (oq.val : Int), .int .u32 (oq.echo : Int)] 26)
  have X6 := Lib.hid ((X5.out.later hb).later bl)
  have Y6 := Lib.hid ((Y5.out.later hb).later bl)
  have U0 := Lib.hid (CellsAt.new wC #[.int .u16 (oq.mss : Int), .int .i64 oq.scale, .bool oq.sack, .slice A3 oq.blocks.length c3, .bool oq.time, .int .u32 (oq.val : Int), .int .u32 (oq.echo : Int)] 26)
  have R3 := Lib.hid (hR3.blk.more bl)
  have B5 := Lib.hid (st_alloc (st_call B4.out hb) (.cells #[.int .u16 (oq.mss : Int), .int .i64 oq.scale, .bool oq.sack, .slice A3 oq.blocks.length c3, .bool oq.time, .int .u32 (oq.val : Int), .int .u32 (oq.echo : Int)] 26))
  clear bl hR3
  clear hb
  go_wp2_with fail
  refine (H4.out _).mono ?_
  rintro e wE ⟨⟨A4, c4, rfl, hR4⟩, hb⟩
  have bl := (Below.refl _ wE).alloc (Nat.le_refl _) (.cells #[.int .u16 (oq.mss : Int), .int .i64 oq.scale, .bool oq.sack, .slice A4 oq.blocks.length c4, .bool oq.time, .int .u32 (oq.val : Int), .int .u32 (oq.echo : Int)] 26)
  have X7 := (X6.out.later hb).later bl
  have Y7 := (Y6.out.later hb).later bl
  have U1 := (U0.out.later hb).later bl
  have V1 := CellsAt.new wE #[.int .u16 (oq.mss : Int), .int .i64 oq.scale, .bool oq.sack, .slice A4 oq.blocks.length c4, .bool oq.time, .int .u32 (oq.val : Int), .int .u32 (oq.echo : Int)] 26
  have R4 := Lib.hid (hR4.blk.more bl)
  have R5 := Lib.hid ((R3.out.more hb).more bl)
  have B6 := Lib.hid (st_alloc (st_call B5.out hb) (.cells #[.int .u16 (oq.mss : Int), .int .i64 oq.scale, .bool oq.sack, .slice A4 oq.blocks.length c4, .bool oq.time, .int .u32 (oq.val : Int), .int .u32 (oq.echo : Int)] 26))
  clear bl hR4
  clear hb
  go_wp2_with fail
  generalize wE.alloc (.cells #[.int .u16 (oq.mss : Int), .int .i64 oq.scale, .bool oq.sack, .slice A4 oq.blocks.length c4, .bool oq.time, .int .u32 (oq.val : Int), .int .u32 (oq.echo : Int)] 26) = wD at X7 Y7 U1 V1 R4 R5 B6 ⊢
  have x0 : ∀ i : Later wD.heap.size wD, i.w.cell? ⟨w.heap.size, 0, none⟩ = some (.int .u16 (o0.mss : Int)) := fun i => (X7.later i.h).cell 0 _ rfl
  have x1 : ∀ i : Later wD.heap.size wD, i.w.cell? ⟨w.heap.size, 1, none⟩ = some (.int .i64 o0.scale) := fun i => (X7.later i.h).cell 1 _ rfl
  have x2 : ∀ i : Later wD.heap.size wD, i.w.cell? ⟨w.heap.size, 2, none⟩ = some (.bool o0.sack) := fun i => (X7.later i.h).cell 2 _ rfl
  have x3 : ∀ i : Later wD.heap.size wD, i.w.cell? ⟨w.heap.size, 3, none⟩ = some (.slice A0 o0.blocks.length c0) := fun i => (X7.later i.h).cell 3 _ rfl
  have x4 : ∀ i : Later wD.heap.size wD, i.w.cell? ⟨w.heap.size, 4, none⟩ = some (.bool o0.time) := fun i => (X7.later i.h).cell 4 _ rfl
  have x5 : ∀ i : Later wD.heap.size wD, i.w.cell? ⟨w.heap.size, 5, none⟩ = some (.int .u32 (o0.val : Int)) := fun i => (X7.later i.h).cell 5 _ rfl
  have x6 : ∀ i : Later wD.heap.size wD, i.w.cell? ⟨w.heap.size, 6, none⟩ = some (.int .u32 (o0.echo : Int)) := fun i => (X7.later i.h).cell 6 _ rfl
  have y0 : ∀ i : Later wD.heap.size wD, i.w.cell? ⟨w.heap.size + 1, 0, none⟩ = some (.int .u16 (o1.mss : Int)) := fun i => (Y7.later i.h).cell 0 _ rfl
  have y1 : ∀ i : Later wD.heap.size wD, i.w.cell? ⟨w.heap.size + 1, 1, none⟩ = some (.int .i64 o1.scale) := fun i => (Y7.later i.h).cell 1 _ rfl
  have y2 : ∀ i : Later wD.heap.size wD, i.w.cell? ⟨w.heap.size + 1, 2, none⟩ = some (.bool o1.sack) := fun i => (Y7.later i.h).cell 2 _ rfl
  have y3 : ∀ i : Later wD.heap.size wD, i.w.cell? ⟨w.heap.size + 1, 3, none⟩ = some (.slice A1 o1.blocks.length c1) := fun i => (Y7.later i.h).cell 3 _ rfl
  have y4 : ∀ i : Later wD.heap.size wD, i.w.cell? ⟨w.heap.size + 1, 4, none⟩ = some (.bool o1.time) := fun i => (Y7.later i.h).cell 4 _ rfl
  have y5 : ∀ i : Later wD.heap.size wD, i.w.cell? ⟨w.heap.size + 1, 5, none⟩ = some (.int .u32 (o1.val : Int)) := fun i => (Y7.later i.h).cell 5 _ rfl
  have y6 : ∀ i : Later wD.heap.size wD, i.w.cell? ⟨w.heap.size + 1, 6, none⟩ = some (.int .u32 (o1.echo : Int)) := fun i => (Y7.later i.h).cell 6 _ rfl
  have u0 : ∀ i : Later wD.heap.size wD, i.w.cell? ⟨wC.heap.size, 0, none⟩ = some (.int .u16 (oq.mss : Int)) := fun i => (U1.later i.h).cell 0 _ rfl
  have u1 : ∀ i : Later wD.heap.size wD, i.w.cell? ⟨wC.heap.size, 1, none⟩ = some (.int .i64 oq.scale) := fun i => (U1.later i.h).cell 1 _ rfl
  have u2 : ∀ i : Later wD.heap.size wD, i.w.cell? ⟨wC.heap.size, 2, none⟩ = some (.bool oq.sack) := fun i => (U1.later i.h).cell 2 _ rfl
  have u3 : ∀ i : Later wD.heap.size wD, i.w.cell? ⟨wC.heap.size, 3, none⟩ = some (.slice A3 oq.blocks.length c3) := fun i => (U1.later i.h).cell 3 _ rfl
  have u4 : ∀ i : Later wD.heap.size wD, i.w.cell? ⟨wC.heap.size, 4, none⟩ = some (.bool oq.time) := fun i => (U1.later i.h).cell 4 _ rfl
  have u5 : ∀ i : Later wD.heap.size wD, i.w.cell? ⟨wC.heap.size, 5, none⟩ = some (.int .u32 (oq.val : Int)) := fun i => (U1.later i.h).cell 5 _ rfl
  have u6 : ∀ i : Later wD.heap.size wD, i.w.cell? ⟨wC.heap.size, 6, none⟩ = some (.int .u32 (oq.echo : Int)) := fun i => (U1.later i.h).cell 6 _ rfl
  have v0 : ∀ i : Later wD.heap.size wD, i.w.cell? ⟨wE.heap.size, 0, none⟩ = some (.int .u16 (oq.mss : Int)) := fun i => (V1.later i.h).cell 0 _ rfl
  have v1 : ∀ i : Later wD.heap.size wD, i.w.cell? ⟨wE.heap.size, 1, none⟩ = some (.int .i64 oq.scale) := fun i => (V1.later i.h).cell 1 _ rfl
  have v2 : ∀ i : Later wD.heap.size wD, i.w.cell? ⟨wE.heap.size, 2, none⟩ = some (.bool oq.sack) := fun i => (V1.later i.h).cell 2 _ rfl
  have v3 : ∀ i : Later wD.heap.size wD, i.w.cell? ⟨wE.heap.size, 3, none⟩ = some (.slice A4 oq.blocks.length c4) := fun i => (V1.later i.h).cell 3 _ rfl
  have v4 : ∀ i : Later wD.heap.size wD, i.w.cell? ⟨wE.heap.size, 4, none⟩ = some (.bool oq.time) := fun i => (V1.later i.h).cell 4 _ rfl
  have v5 : ∀ i : Later wD.heap.size wD, i.w.cell? ⟨wE.heap.size, 5, none⟩ = some (.int .u32 (oq.val : Int)) := fun i => (V1.later i.h).cell 5 _ rfl
  have v6 : ∀ i : Later wD.heap.size wD, i.w.cell? ⟨wE.heap.size, 6, none⟩ = some (.int .u32 (oq.echo : Int)) := fun i => (V1.later i.h).cell 6 _ rfl
  obtain ⟨bm, hbm⟩ : ∃ b, mayO o0 = b := ⟨_, rfl⟩
  obtain ⟨bs, hbs⟩ : ∃ b, decide (o0 = o1) = b := ⟨_, rfl⟩
  have hz := fun i : Later wD.heap.size wD => (B6.out.trans (i.h.mono B6.out.size) : Below w.heap.size w i.w)
  have KM : Hid (∀ i : Later wD.heap.size wD, Calls Try.prog 13 #[ov o0 A0 c0] i.w fun e w' => e = .returned (.bool bm) ∧ Below i.w.heap.size i.w w') := Lib.hid fun i => hbm ▸ mayP o0 A0 c0 i.w (Z0.out.more (hz i)) g0.1
  have KN : Hid (∀ i : Later wD.heap.size wD, Calls Try.prog 14 #[ov o0 A0 c0] i.w fun e w' => e = .returned (.bool bm) ∧ Below i.w.heap.size i.w w') := Lib.hid fun i => hbm ▸ mayR o0 A0 c0 i.w (Z0.out.more (hz i)) g0.1
  have KS : Hid (∀ i : Later wD.heap.size wD, Calls Try.prog 15 #[ov o0 A0 c0, ov o1 A1 c1] i.w fun e w' => e = .returned (.bool bs) ∧ Below i.w.heap.size i.w w') := Lib.hid fun i => hbs ▸ sameP o0 o1 A0 c0 A1 c1 i.w (Z0.out.more (hz i)) (Z1.out.more (hz i)) (by omega) (by omega)
  have KT : Hid (∀ i : Later wD.heap.size wD, Calls Try.prog 16 #[ov o0 A0 c0, ov o1 A1 c1] i.w fun e w' => e = .returned (.bool bs) ∧ Below i.w.heap.size i.w w') := Lib.hid fun i => hbs ▸ sameR o0 o1 A0 c0 A1 c1 i.w (Z0.out.more (hz i)) (Z1.out.more (hz i)) (by omega) (by omega)
  have KO : Hid (∀ i : Later wD.heap.size wD, Calls Try.prog 17 #[] i.w fun e w' => e = .returned (.agg #[.int .u16 0, .int .i64 (-1), .bool false, .slice none 0 0, .bool false, .int .u32 0, .int .u32 0]) ∧ Below i.w.heap.size i.w w') := Lib.hid fun i => noneP i.w
  have KP : Hid (∀ i : Later wD.heap.size wD, Calls Try.prog 18 #[] i.w fun e w' => e = .returned (.agg #[.int .u16 0, .int .i64 (-1), .bool false, .slice none 0 0, .bool false, .int .u32 0, .int .u32 0]) ∧ Below i.w.heap.size i.w w') := Lib.hid fun i => noneR i.w
  have KQ : Hid (∀ i : Later wD.heap.size wD, Calls Try.prog 15 #[.agg #[.int .u16 0, .int .i64 (-1), .bool false, .slice none 0 0, .bool false, .int .u32 0, .int .u32 0], .agg #[.int .u16 0, .int .i64 (-1), .bool false, .slice none 0 0, .bool false, .int .u32 0, .int .u32 0]] i.w fun e w' => e = .returned (.bool true) ∧ Below i.w.heap.size i.w w') := Lib.hid fun i => by
    have h := sameP none0 none0 none 0 none 0 i.w (BlkR.nil _ _) (BlkR.nil _ _) (by decide) (by decide)
    rw [decide_eq_true (rfl : none0 = none0)] at h
    exact h
  have KU : Hid (∀ i : Later wD.heap.size wD, Calls Try.prog 16 #[ov oq A3 c3, ov oq A4 c4] i.w fun e w' => e = .returned (.bool true) ∧ Below i.w.heap.size i.w w') := Lib.hid fun i => by
    have h := sameR oq oq A3 c3 A4 c4 i.w (R5.out.more i.h) (R4.out.more i.h) (by omega) (by omega)
    rw [decide_eq_true (rfl : oq = oq)] at h
    exact h
  have KA : Hid (∀ i : Later wD.heap.size wD, Calls Try.prog 8 #[] i.w fun e w' => e = .returned (.bool true) ∧ Below i.w.heap.size i.w w') := Lib.hid fun i => alive_any i.w
  clear X7 Y7 U1 V1 hbm hbs hz
  refine wp_region_later (n := wD.heap.size) wD (Below.refl _ _) (by kernel_rfl) (by kernel_rfl) ?_
  repeat (first | go_big_quiet_step (fail) | quiet_step (fail))
  quiet_step ((go_at_call 13; exact later_calls (Nat.le_refl _) _ (KM.out _)))
  repeat (first | go_big_quiet_step (fail) | quiet_step (fail))
  quiet_step ((go_at_call 14; exact later_calls (Nat.le_refl _) _ (KN.out _)))
  repeat (first | go_big_quiet_step (fail) | quiet_step (fail))
  quiet_step ((go_at_call 15; exact later_calls (Nat.le_refl _) _ (KS.out _)))
  repeat (first | go_big_quiet_step (fail) | quiet_step (fail))
  quiet_step ((go_at_call 16; exact later_calls (Nat.le_refl _) _ (KT.out _)))
  repeat (first | go_big_quiet_step (fail) | quiet_step (fail))
  quiet_step ((go_at_call 17; exact later_calls (Nat.le_refl _) _ (KO.out _)))
  repeat (first | go_big_quiet_step (fail) | quiet_step (fail))
  quiet_step ((go_at_call 18; exact later_calls (Nat.le_refl _) _ (KP.out _)))
  repeat (first | go_big_quiet_step (fail) | quiet_step (fail))
  quiet_step ((go_at_call 15; exact later_calls (Nat.le_refl _) _ (KQ.out _)))
  repeat (first | go_big_quiet_step (fail) | quiet_step (fail))
  quiet_step ((go_at_call 16; exact later_calls (Nat.le_refl _) _ (KU.out _)))
  repeat (first | go_big_quiet_step (fail) | quiet_step (fail))
  quiet_step ((go_at_call 8; exact later_calls (Nat.le_refl _) _ (KA.out _)))
  repeat (first | go_big_quiet_step (fail) | quiet_step (fail))
  refine wpQuiet_nil ?_
  rintro W ⟨⟨wj, hj⟩, rfl⟩
  go_wp2
  go_ret
  exact ⟨rfl, st_call B6.out hj⟩

/-! The row's step, after the guide's own way. -/
set_option maxRecDepth 100000 in
theorem lifted (os : Os) (started : os.Started) (H : Type) (enc : TypeId × Value → H) :
    ReturnsInHanded {} Try.checked os 3 .any (Rows.optTellsSpec.pre6 enc Try.prog Try.f3 Rows.optTellsRow.domain false) (Rows.optTellsSpec.post enc Try.prog Try.f3 false true false false) := by
  refine returnsInHanded_of_change (C := Try.checked) own started (by kernel_rfl) Try.func3
    (ChangeSpec.witness6 (enc := enc) (C := Try.checked) false ⟨#[], #[.agg #[.int .u16 0, .int .i64 0, .bool false, .slice none 0 0, .bool false, .int .u32 0, .int .u32 0], .agg #[.int .u16 0, .int .i64 0, .bool false, .slice none 0 0, .bool false, .int .u32 0, .int .u32 0], .string ByteArray.empty], []⟩ 8 (by kernel_rfl) (by kernel_rfl) (by kernel_rfl) (by kernel_rfl)) ?_
  intro W base args ds gs before hval0 hW hcnd _
  have hval : ∀ (j : Nat) t v, Try.f3.params[j]? = some t → args[j]? = some v → Value.okWide Try.prog W .any base t v := hval0
  have hW' := hW
  obtain ⟨p, q, hA0, hV, rfl, hfz, hnd⟩ := hW
  have hA : DataW.TrodAll enc Try.prog W 0 (fun _ => true) true Try.f3.params.toList args.toList ds p := hA0
  rw [Try.params3] at hA hval
  obtain ⟨v0, vs0, d0, ds0, p0, q0, hargs, rfl, rfl, h0, r0⟩ := trodAll_cons hA
  obtain ⟨v1, vs1, d1, ds1, p1, q1, rfl, rfl, rfl, h1, r1⟩ := trodAll_cons r0
  obtain ⟨v2, vs2, d2, ds2, p2, q2, rfl, rfl, rfl, h2, r2⟩ := trodAll_cons r1
  obtain ⟨rfl, rfl, rfl⟩ := trodAll_nil r2
  obtain rfl : args = #[v0, v1, v2] := by cases args; simp_all
  obtain ⟨rfl, rfl⟩ := trodVars_none hV
  have k0 := h0
  have lt0 : ∀ x ∈ p0, x.block < W.heap.size := by obtain ⟨m, hm⟩ := k0; exact DataW.trod_lt m _ _ _ hm
  obtain ⟨o0, A0, c0, rfl, z0, g0⟩ := OptOpen.open_opts (hval 0 26 v0 rfl rfl) h0
  have k1 := h1
  have lt1 : ∀ x ∈ p1, x.block < W.heap.size := by obtain ⟨m, hm⟩ := k1; exact DataW.trod_lt m _ _ _ hm
  obtain ⟨o1, A1, c1, rfl, z1, g1⟩ := OptOpen.open_opts (hval 1 26 v1 rfl rfl) h1
  have k2 := h2
  have lt2 : ∀ x ∈ p2, x.block < W.heap.size := by obtain ⟨m, hm⟩ := k2; exact DataW.trod_lt m _ _ _ hm
  obtain ⟨a2, rfl, _, _, w2⟩ := open_string Try.underlying9 (hval 2 9 v2 rfl rfl) h2
  clear hA0 hval0
  refine (walk o0 A0 c0 o1 A1 c1 a2 W z0 g0 z1 g1 w2).mono fun e W' ⟨he, bel⟩ => ?_
  subst he
  exact ⟨_, rfl, _, _, _, [], _, [], hW', trodAll_mk1 (shut_bool Try.underlying4 _), (trodAll_cons_mk (Below.trod laidOut (by kernel_rfl) (of_decide_eq_true (by kernel_rfl)) k0 bel lt0) (trodAll_cons_mk (Below.trod laidOut (by kernel_rfl) (of_decide_eq_true (by kernel_rfl)) k1 bel lt1) (trodAll_cons_mk (Below.trod laidOut (by kernel_rfl) (of_decide_eq_true (by kernel_rfl)) k2 bel lt2) trodAll_mk0))), rfl, bel.frame _, fun h => by cases h⟩

theorem over : Rows.optTellsRow.holds Try.pinned (OpenSpec.ofChange Rows.optTellsSpec) :=
  OpenClaim.holds_of_wide 3 Try.f3 rfl rfl rfl rfl rfl rfl rfl ⟨rfl, rfl, rfl, rfl, rfl⟩ rfl rfl rfl rfl rfl (by kernel_rfl) Try.func3 (by kernel_rfl)
    (of_decide_eq_true (by kernel_rfl)) (by unfold Func.isWrapper; first | (rw [if_pos (by decide +kernel)]; kernel_rfl) | (rw [if_neg (by decide +kernel)]; exact ⟨rfl, rfl⟩))
    (fun os started H enc _ => lifted os started H enc)

/-- The statement. -/
theorem proved : Rows.OptTellsSaid := over
#print axioms proved
end Go.Proofs.Ytgpkckaojcodmaa.optTells
