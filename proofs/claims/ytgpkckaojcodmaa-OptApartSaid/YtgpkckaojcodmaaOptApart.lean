/-
  Proved: the statement 'Rows.OptApartSaid': for every input the Go function transomlaw07.OptApart returns true, and each argument reads behind the call as it read before. Conditions: none of our own; those of the given row.
-/
import Derived.Test.YtgpkckaojcodmaaRows
import Derived.Test.YtgpkckaojcodmaaOptOpen
import Derived.Test.YtgpkckaojcodmaaOptAlive
import Derived.Test.YtgpkckaojcodmaaOptFew
import Derived.Test.YtgpkckaojcodmaaOptBackM
import Derived.Deep.DeepCutAuto
import Derived.WalkKit
import Derived.ProofKit
import Derived.OpenShut
import Derived.ShutString
import Derived.ChangeOld
import Derived.Below
namespace Go.Proofs.Ytgpkckaojcodmaa.optApart
open Go.ChangeShapes Go.WideShapes Go.ChangeAt Go.RowKit
open Go.ChangeMaps (open_string shut_string)
open OptBackM
open OptFew TupMath SumMath IpMath Litb Calm Rel IpRef OptMath OptRef OptSame OptMay OptTake5 OptTk OptDec OptTurnM OptTurn OptLaw OptP OptAlive
open Cells (CellsAt)
set_option linter.unusedVariables false

theorem own : ownKnob Try.prog.godebug = none := by kernel_rfl
theorem laidOut : laidOutB Try.prog = true := by kernel_rfl

theorem ba_ext {S T : ByteArray} (h : S.toList = T.toList) : S = T := by
  rw [ByteArray.toList_eq, ByteArray.toList_eq] at h
  exact ByteArray.ext (Array.ext' h)
/-- what Encode answers: the code tells whether the options may be -/
theorem enc_form (o : Opn) : ∃ (S : ByteArray) (n : Nat), encV7 o = .tuple #[.string S, .int .i64 (n : Int)] ∧ S.size ≤ 40 ∧ (n = 0 → OptMath.May o ∧ S = ofB (rawO o)) := by
  unfold encV7
  by_cases h : mayO o = true
  · rw [if_pos h]
    have m := may_of h
    exact ⟨_, 0, rfl, by rw [ofB_size]; exact m.most, fun _ => ⟨m, rfl⟩⟩
  · rw [if_neg h]
    exact ⟨_, 2, rfl, by decide, fun h => by cases h⟩
theorem same_raw {o p : Opn} (ko : o.ok) (kp : p.ok) (mo : OptMath.May o) (mp : OptMath.May p) : ((ofB (rawO o)).toList == (ofB (rawO p)).toList) = decide (o = p) := by
  rw [Bool.eq_iff_iff, beq_iff_eq, decide_eq_true_eq]
  constructor
  · intro h
    have e := congrArg bz (ba_ext h)
    rw [bz_ofB (raw_le o ko mo), bz_ofB (raw_le p kp mp)] at e
    exact raw_inj ko kp mo mp e
  · intro h; rw [h]
/-- unknown options ahead and behind, and what stands behind the end, say nothing -/
theorem dec_among (o : Opn) (k : o.ok) (m : OptMath.May o) (p b : List Nat) (hl : (30 :: (2 + p.length) :: p ++ rawO o ++ (30 :: (2 + p.length) :: p) ++ [0] ++ b).length ≤ 40) :
    dec7 (30 :: (2 + p.length) :: p ++ rawO o ++ (30 :: (2 + p.length) :: p) ++ [0] ++ b) = (0, o) := by
  refine dec7_some (by omega) ?_
  have hr : right 30 (2 + p.length) = true := by unfold right; simp
  have hk : known 30 = false := rfl
  have e : 30 :: (2 + p.length) :: p ++ rawO o ++ (30 :: (2 + p.length) :: p) ++ [0] ++ b = 30 :: (2 + p.length) :: (p ++ (rawO o ++ (30 :: (2 + p.length) :: (p ++ (0 :: b))))) := by simp
  unfold decO
  rw [e, its_ok (by decide) (by decide) hr (by omega) (fun h => by rw [hk] at h; cases h)]
  rw [its_raw o _ [30] m.few (fun k hk2 => by simp at hk2; rw [hk2]; rfl)]
  rw [its_ok (by decide) (by decide) hr (by omega) (fun h => by rw [hk] at h; cases h), its_zero]
  simp only [Option.map_some, Option.bind_some]
  have t30 : ∀ o : Opn, tk o (30, p) = some o := fun o => by unfold tk; simp
  have hraw : rawO o = rawO o := rfl
  rw [List.foldlM_cons, t30]
  show ((itsO o ++ [(30, p)]).foldlM tk none0 : Option Opn) = some o
  rw [List.foldlM_append, fold_raw o k m]
  show ([(30, p)].foldlM tk o : Option Opn) = some o
  rw [List.foldlM_cons, t30]
  rfl

/-! The walk: the Go text returns true, and writes nothing that was there. -/
set_option maxRecDepth 100000 in
set_option maxHeartbeats 16000000 in
theorem walk (o0 : OptMath.Opn) (A0 : Option Addr) (c0 : Nat) (o1 : OptMath.Opn) (A1 : Option Addr) (c1 : Nat) (a2 : ByteArray) (a3 : ByteArray) (w : World) (z0 : OptSame.BlkR w A0 o0.blocks) (g0 : o0.ok ∧ o0.blocks.length ≤ maxLen ∧ -9223372036854775808 ≤ o0.scale ∧ o0.scale ≤ 9223372036854775807) (z1 : OptSame.BlkR w A1 o1.blocks) (g1 : o1.ok ∧ o1.blocks.length ≤ maxLen ∧ -9223372036854775808 ≤ o1.scale ∧ o1.scale ≤ 9223372036854775807) (w2 : a2.size ≤ maxLen) (w3 : a3.size ≤ maxLen) :
    Calls Try.prog 6 #[OptSame.ov o0 A0 c0, OptSame.ov o1 A1 c1, .string a2, .string a3] w fun e w' => e = .returned (.bool true) ∧ Below w.heap.size w w' := by
  unfold maxLen at w2 w3
  have X0 := Lib.hid ((CellsAt.new w #[.int .u16 (o0.mss : Int), .int .i64 o0.scale, .bool o0.sack, .slice A0 o0.blocks.length c0, .bool o0.time, .int .u32 (o0.val : Int), .int .u32 (o0.echo : Int)] 26).later ((Below.refl _ _).alloc (Nat.le_refl _) (.cells #[.int .u16 (o1.mss : Int), .int .i64 o1.scale, .bool o1.sack, .slice A1 o1.blocks.length c1, .bool o1.time, .int .u32 (o1.val : Int), .int .u32 (o1.echo : Int)] 26)))
  have Y0 := Lib.hid (CellsAt.new (w.alloc (.cells #[.int .u16 (o0.mss : Int), .int .i64 o0.scale, .bool o0.sack, .slice A0 o0.blocks.length c0, .bool o0.time, .int .u32 (o0.val : Int), .int .u32 (o0.echo : Int)] 26)) #[.int .u16 (o1.mss : Int), .int .i64 o1.scale, .bool o1.sack, .slice A1 o1.blocks.length c1, .bool o1.time, .int .u32 (o1.val : Int), .int .u32 (o1.echo : Int)] 26)
  rw [World.size_alloc] at Y0
  have B0 := Lib.hid (st_alloc (st_alloc (Below.refl _ w) (.cells #[.int .u16 (o0.mss : Int), .int .i64 o0.scale, .bool o0.sack, .slice A0 o0.blocks.length c0, .bool o0.time, .int .u32 (o0.val : Int), .int .u32 (o0.echo : Int)] 26)) (.cells #[.int .u16 (o1.mss : Int), .int .i64 o1.scale, .bool o1.sack, .slice A1 o1.blocks.length c1, .bool o1.time, .int .u32 (o1.val : Int), .int .u32 (o1.echo : Int)] 26))
  by_cases hl0 : 100 < o0.blocks.length
  · go_enter Try.func6, Try.ntmps6
    go_wp2_with fail
    refine (longL o0 A0 c0 _ g0.2.1).mono ?_
    rintro e wL ⟨rfl, hb⟩
    have X1 := Lib.hid (X0.out.later hb)
    have Y1 := Y0.out.later hb
    have B1 := Lib.hid (st_call B0.out hb)
    clear hb
    rw [decide_eq_true hl0]
    clear Y1
    go_wp2_with fail
    refine (alive_any _).mono ?_
    rintro e w' ⟨rfl, hb⟩
    have HB := Lib.hid (st_call B1.out hb)
    clear hb
    go_wp2_with fail
    go_ret
    exact ⟨rfl, HB.out⟩
  by_cases hl1 : 100 < o1.blocks.length
  · go_enter Try.func6, Try.ntmps6
    go_wp2_with fail
    refine (longL o0 A0 c0 _ g0.2.1).mono ?_
    rintro e wL ⟨rfl, hb⟩
    have X1 := Lib.hid (X0.out.later hb)
    have Y1 := Y0.out.later hb
    have B1 := Lib.hid (st_call B0.out hb)
    clear hb
    rw [decide_eq_false hl0]
    have y0 : (wL).cell? ⟨w.heap.size + 1, 0, none⟩ = some (.int .u16 (o1.mss : Int)) := Y1.cell 0 _ rfl
    have y1 : (wL).cell? ⟨w.heap.size + 1, 1, none⟩ = some (.int .i64 o1.scale) := Y1.cell 1 _ rfl
    have y2 : (wL).cell? ⟨w.heap.size + 1, 2, none⟩ = some (.bool o1.sack) := Y1.cell 2 _ rfl
    have y3 : (wL).cell? ⟨w.heap.size + 1, 3, none⟩ = some (.slice A1 o1.blocks.length c1) := Y1.cell 3 _ rfl
    have y4 : (wL).cell? ⟨w.heap.size + 1, 4, none⟩ = some (.bool o1.time) := Y1.cell 4 _ rfl
    have y5 : (wL).cell? ⟨w.heap.size + 1, 5, none⟩ = some (.int .u32 (o1.val : Int)) := Y1.cell 5 _ rfl
    have y6 : (wL).cell? ⟨w.heap.size + 1, 6, none⟩ = some (.int .u32 (o1.echo : Int)) := Y1.cell 6 _ rfl
    have Y2 := Lib.hid Y1
    clear Y1
    go_wp2_with fail
    clear y0 y1 y2 y3 y4 y5 y6
    refine (longL o1 A1 c1 _ g1.2.1).mono ?_
    rintro e wM ⟨rfl, hb⟩
    have X2 := Lib.hid (X1.out.later hb)
    have Y3 := Lib.hid (Y2.out.later hb)
    have B2 := Lib.hid (st_call B1.out hb)
    clear hb
    rw [decide_eq_true hl1]
    go_wp2_with fail
    refine (alive_any _).mono ?_
    rintro e w' ⟨rfl, hb⟩
    have HB := Lib.hid (st_call B2.out hb)
    clear hb
    go_wp2_with fail
    go_ret
    exact ⟨rfl, HB.out⟩
  by_cases hx0 : 20 < a2.size
  · go_enter Try.func6, Try.ntmps6
    go_wp2_with fail
    refine (longL o0 A0 c0 _ g0.2.1).mono ?_
    rintro e wL ⟨rfl, hb⟩
    have X1 := Lib.hid (X0.out.later hb)
    have Y1 := Y0.out.later hb
    have B1 := Lib.hid (st_call B0.out hb)
    clear hb
    rw [decide_eq_false hl0]
    have y0 : (wL).cell? ⟨w.heap.size + 1, 0, none⟩ = some (.int .u16 (o1.mss : Int)) := Y1.cell 0 _ rfl
    have y1 : (wL).cell? ⟨w.heap.size + 1, 1, none⟩ = some (.int .i64 o1.scale) := Y1.cell 1 _ rfl
    have y2 : (wL).cell? ⟨w.heap.size + 1, 2, none⟩ = some (.bool o1.sack) := Y1.cell 2 _ rfl
    have y3 : (wL).cell? ⟨w.heap.size + 1, 3, none⟩ = some (.slice A1 o1.blocks.length c1) := Y1.cell 3 _ rfl
    have y4 : (wL).cell? ⟨w.heap.size + 1, 4, none⟩ = some (.bool o1.time) := Y1.cell 4 _ rfl
    have y5 : (wL).cell? ⟨w.heap.size + 1, 5, none⟩ = some (.int .u32 (o1.val : Int)) := Y1.cell 5 _ rfl
    have y6 : (wL).cell? ⟨w.heap.size + 1, 6, none⟩ = some (.int .u32 (o1.echo : Int)) := Y1.cell 6 _ rfl
    have Y2 := Lib.hid Y1
    clear Y1
    go_wp2_with fail
    clear y0 y1 y2 y3 y4 y5 y6
    refine (longL o1 A1 c1 _ g1.2.1).mono ?_
    rintro e wM ⟨rfl, hb⟩
    have X2 := Lib.hid (X1.out.later hb)
    have Y3 := Lib.hid (Y2.out.later hb)
    have B2 := Lib.hid (st_call B1.out hb)
    clear hb
    rw [decide_eq_false hl1]
    go_wp2_with fail
    refine (alive_any _).mono ?_
    rintro e w' ⟨rfl, hb⟩
    have HB := Lib.hid (st_call B2.out hb)
    clear hb
    go_wp2_with fail
    go_ret
    exact ⟨rfl, HB.out⟩
  by_cases hx1 : 20 < a3.size
  · go_enter Try.func6, Try.ntmps6
    go_wp2_with fail
    refine (longL o0 A0 c0 _ g0.2.1).mono ?_
    rintro e wL ⟨rfl, hb⟩
    have X1 := Lib.hid (X0.out.later hb)
    have Y1 := Y0.out.later hb
    have B1 := Lib.hid (st_call B0.out hb)
    clear hb
    rw [decide_eq_false hl0]
    have y0 : (wL).cell? ⟨w.heap.size + 1, 0, none⟩ = some (.int .u16 (o1.mss : Int)) := Y1.cell 0 _ rfl
    have y1 : (wL).cell? ⟨w.heap.size + 1, 1, none⟩ = some (.int .i64 o1.scale) := Y1.cell 1 _ rfl
    have y2 : (wL).cell? ⟨w.heap.size + 1, 2, none⟩ = some (.bool o1.sack) := Y1.cell 2 _ rfl
    have y3 : (wL).cell? ⟨w.heap.size + 1, 3, none⟩ = some (.slice A1 o1.blocks.length c1) := Y1.cell 3 _ rfl
    have y4 : (wL).cell? ⟨w.heap.size + 1, 4, none⟩ = some (.bool o1.time) := Y1.cell 4 _ rfl
    have y5 : (wL).cell? ⟨w.heap.size + 1, 5, none⟩ = some (.int .u32 (o1.val : Int)) := Y1.cell 5 _ rfl
    have y6 : (wL).cell? ⟨w.heap.size + 1, 6, none⟩ = some (.int .u32 (o1.echo : Int)) := Y1.cell 6 _ rfl
    have Y2 := Lib.hid Y1
    clear Y1
    go_wp2_with fail
    clear y0 y1 y2 y3 y4 y5 y6
    refine (longL o1 A1 c1 _ g1.2.1).mono ?_
    rintro e wM ⟨rfl, hb⟩
    have X2 := Lib.hid (X1.out.later hb)
    have Y3 := Lib.hid (Y2.out.later hb)
    have B2 := Lib.hid (st_call B1.out hb)
    clear hb
    rw [decide_eq_false hl1]
    go_wp2_with fail
    refine (alive_any _).mono ?_
    rintro e w' ⟨rfl, hb⟩
    have HB := Lib.hid (st_call B2.out hb)
    clear hb
    go_wp2_with fail
    go_ret
    exact ⟨rfl, HB.out⟩
  have C1 := fun W (hw : Below w.heap.size w W) => encP7 o0 A0 c0 W (z0.more hw) g0.1
  have C2 := fun W (hw : Below w.heap.size w W) => encP7 o1 A1 c1 W (z1.more hw) g1.1
  obtain ⟨S, n, hV, hSz, hSn⟩ := enc_form o0
  obtain ⟨S', n', hV', hSz', hSn'⟩ := enc_form o1
  rw [hV] at C1
  rw [hV'] at C2
  clear hV hV'
  have H1 := Lib.hid C1
  have H2 := Lib.hid C2
  have Z0 := Lib.hid z0
  have Z1 := Lib.hid z1
  have HSN := Lib.hid hSn
  have HSN' := Lib.hid hSn'
  clear C1 C2 z0 z1 hSn hSn'
  go_enter Try.func6, Try.ntmps6
  go_wp2_with fail
  refine (longL o0 A0 c0 _ g0.2.1).mono ?_
  rintro e wL ⟨rfl, hb⟩
  have X1 := Lib.hid (X0.out.later hb)
  have Y1 := Y0.out.later hb
  have B1 := Lib.hid (st_call B0.out hb)
  clear hb
  rw [decide_eq_false hl0]
  have y0 : (wL).cell? ⟨w.heap.size + 1, 0, none⟩ = some (.int .u16 (o1.mss : Int)) := Y1.cell 0 _ rfl
  have y1 : (wL).cell? ⟨w.heap.size + 1, 1, none⟩ = some (.int .i64 o1.scale) := Y1.cell 1 _ rfl
  have y2 : (wL).cell? ⟨w.heap.size + 1, 2, none⟩ = some (.bool o1.sack) := Y1.cell 2 _ rfl
  have y3 : (wL).cell? ⟨w.heap.size + 1, 3, none⟩ = some (.slice A1 o1.blocks.length c1) := Y1.cell 3 _ rfl
  have y4 : (wL).cell? ⟨w.heap.size + 1, 4, none⟩ = some (.bool o1.time) := Y1.cell 4 _ rfl
  have y5 : (wL).cell? ⟨w.heap.size + 1, 5, none⟩ = some (.int .u32 (o1.val : Int)) := Y1.cell 5 _ rfl
  have y6 : (wL).cell? ⟨w.heap.size + 1, 6, none⟩ = some (.int .u32 (o1.echo : Int)) := Y1.cell 6 _ rfl
  have Y2 := Lib.hid Y1
  clear Y1
  go_wp2_with fail
  clear y0 y1 y2 y3 y4 y5 y6
  refine (longL o1 A1 c1 _ g1.2.1).mono ?_
  rintro e wM ⟨rfl, hb⟩
  have X2 := Lib.hid (X1.out.later hb)
  have Y3 := Lib.hid (Y2.out.later hb)
  have B2 := Lib.hid (st_call B1.out hb)
  clear hb
  rw [decide_eq_false hl1]
  have x0 : (wM).cell? ⟨w.heap.size, 0, none⟩ = some (.int .u16 (o0.mss : Int)) := X2.out.cell 0 _ rfl
  have x1 : (wM).cell? ⟨w.heap.size, 1, none⟩ = some (.int .i64 o0.scale) := X2.out.cell 1 _ rfl
  have x2 : (wM).cell? ⟨w.heap.size, 2, none⟩ = some (.bool o0.sack) := X2.out.cell 2 _ rfl
  have x3 : (wM).cell? ⟨w.heap.size, 3, none⟩ = some (.slice A0 o0.blocks.length c0) := X2.out.cell 3 _ rfl
  have x4 : (wM).cell? ⟨w.heap.size, 4, none⟩ = some (.bool o0.time) := X2.out.cell 4 _ rfl
  have x5 : (wM).cell? ⟨w.heap.size, 5, none⟩ = some (.int .u32 (o0.val : Int)) := X2.out.cell 5 _ rfl
  have x6 : (wM).cell? ⟨w.heap.size, 6, none⟩ = some (.int .u32 (o0.echo : Int)) := X2.out.cell 6 _ rfl
  go_wp2_with fail
  clear x0 x1 x2 x3 x4 x5 x6
  refine (H1.out _ B2.out).mono ?_
  rintro e wA ⟨rfl, hb⟩
  have X3 := Lib.hid (X2.out.later hb)
  have Y4 := Y3.out.later hb
  have B3 := Lib.hid (st_call B2.out hb)
  clear hb
  have y0 : (wA).cell? ⟨w.heap.size + 1, 0, none⟩ = some (.int .u16 (o1.mss : Int)) := Y4.cell 0 _ rfl
  have y1 : (wA).cell? ⟨w.heap.size + 1, 1, none⟩ = some (.int .i64 o1.scale) := Y4.cell 1 _ rfl
  have y2 : (wA).cell? ⟨w.heap.size + 1, 2, none⟩ = some (.bool o1.sack) := Y4.cell 2 _ rfl
  have y3 : (wA).cell? ⟨w.heap.size + 1, 3, none⟩ = some (.slice A1 o1.blocks.length c1) := Y4.cell 3 _ rfl
  have y4 : (wA).cell? ⟨w.heap.size + 1, 4, none⟩ = some (.bool o1.time) := Y4.cell 4 _ rfl
  have y5 : (wA).cell? ⟨w.heap.size + 1, 5, none⟩ = some (.int .u32 (o1.val : Int)) := Y4.cell 5 _ rfl
  have y6 : (wA).cell? ⟨w.heap.size + 1, 6, none⟩ = some (.int .u32 (o1.echo : Int)) := Y4.cell 6 _ rfl
  have Y5 := Lib.hid Y4
  clear Y4
  go_wp2_with fail
  clear y0 y1 y2 y3 y4 y5 y6
  refine (H2.out _ B3.out).mono ?_
  rintro e wB ⟨rfl, hb⟩
  have X4 := X3.out.later hb
  have Y6 := Y5.out.later hb
  have B4 := Lib.hid (st_call B3.out hb)
  clear hb
  go_upto_region 5 with (fail)
  have x0 : (wB).cell? ⟨w.heap.size, 0, none⟩ = some (.int .u16 (o0.mss : Int)) := X4.cell 0 _ rfl
  have x1 : (wB).cell? ⟨w.heap.size, 1, none⟩ = some (.int .i64 o0.scale) := X4.cell 1 _ rfl
  have x2 : (wB).cell? ⟨w.heap.size, 2, none⟩ = some (.bool o0.sack) := X4.cell 2 _ rfl
  have x3 : (wB).cell? ⟨w.heap.size, 3, none⟩ = some (.slice A0 o0.blocks.length c0) := X4.cell 3 _ rfl
  have x4 : (wB).cell? ⟨w.heap.size, 4, none⟩ = some (.bool o0.time) := X4.cell 4 _ rfl
  have x5 : (wB).cell? ⟨w.heap.size, 5, none⟩ = some (.int .u32 (o0.val : Int)) := X4.cell 5 _ rfl
  have x6 : (wB).cell? ⟨w.heap.size, 6, none⟩ = some (.int .u32 (o0.echo : Int)) := X4.cell 6 _ rfl
  have y0 : (wB).cell? ⟨w.heap.size + 1, 0, none⟩ = some (.int .u16 (o1.mss : Int)) := Y6.cell 0 _ rfl
  have y1 : (wB).cell? ⟨w.heap.size + 1, 1, none⟩ = some (.int .i64 o1.scale) := Y6.cell 1 _ rfl
  have y2 : (wB).cell? ⟨w.heap.size + 1, 2, none⟩ = some (.bool o1.sack) := Y6.cell 2 _ rfl
  have y3 : (wB).cell? ⟨w.heap.size + 1, 3, none⟩ = some (.slice A1 o1.blocks.length c1) := Y6.cell 3 _ rfl
  have y4 : (wB).cell? ⟨w.heap.size + 1, 4, none⟩ = some (.bool o1.time) := Y6.cell 4 _ rfl
  have y5 : (wB).cell? ⟨w.heap.size + 1, 5, none⟩ = some (.int .u32 (o1.val : Int)) := Y6.cell 5 _ rfl
  have y6 : (wB).cell? ⟨w.heap.size + 1, 6, none⟩ = some (.int .u32 (o1.echo : Int)) := Y6.cell 6 _ rfl
  have X5 := Lib.hid X4
  clear X4 Y6
  go_cut [58] (fun d wx => d = .bool false ∧ Below wB.heap.size wB wx)
  case first =>
    by_cases h0 : n = 0
    rotate_left
    · have q0 : ((n : Int) == 0) = false := beq_eq_false_iff_ne.2 (by omega)
      go_wp2_with fail
      go_meet
      exact ⟨rfl, Below.refl _ _⟩
    by_cases h1 : n' = 0
    rotate_left
    · have q1 : ((n' : Int) == 0) = false := beq_eq_false_iff_ne.2 (by omega)
      subst h0
      go_wp2_with fail
      go_meet
      exact ⟨rfl, Below.refl _ _⟩
    obtain ⟨m0, e0⟩ := HSN.out h0
    obtain ⟨m1, e1⟩ := HSN'.out h1
    have hs := same_raw g0.1 g1.1 m0 m1
    rw [← e0, ← e1] at hs
    have hsm := sameP o0 o1 A0 c0 A1 c1 wB (Z0.out.more B4.out) (Z1.out.more B4.out) (by omega) (by omega)
    rw [← hs] at hsm
    have HSM := Lib.hid hsm
    clear hsm hs e0 e1 m0 m1
    subst h0 h1
    go_wp2_with fail
    refine HSM.out.mono ?_
    rintro e wS ⟨rfl, hb⟩
    have HB := Lib.hid hb
    clear hb
    go_wp2_with fail
    go_meet
    exact ⟨rfl, HB.out⟩
  case rest =>
    obtain ⟨rfl, hcut⟩ := hcut
    have X6 := Lib.hid (X5.out.later hcut)
    have B5 := Lib.hid (st_call B4.out hcut)
    clear hcut x0 y0 x1 y1 x2 y2 x3 y3 x4 y4 x5 y5 x6 y6
    obtain ⟨R1, hR1, hR1s, hcv⟩ := lit1_back Try.prog 46 9 5 Try.underlying46 Try.underlying5 Try.underlying9 (2 + a2.size) (by omega) (2 + (a2.size : Int)) (by omega) wc 5
    have w8 : IntKind.u8.wrap (2 + (a2.size : Int)) = 2 + (a2.size : Int) := by rw [IntKind.wrap_u8]; omega
    have HR1 := Lib.hid hR1
    clear hR1
    by_cases h0 : n = 0
    rotate_left
    · have q0 : ((n : Int) == 0) = false := beq_eq_false_iff_ne.2 (by omega)
      have q1 : ((n : Int) != 0) = true := bne_iff_ne.2 (by omega)
      go_wp2_with fail
      refine (alive_any _).mono ?_
      rintro e w' ⟨rfl, hb⟩
      have HB := Lib.hid (st_call (st_alloc B5.out _) hb)
      clear hb
      go_wp2_with fail
      go_ret
      exact ⟨rfl, HB.out⟩
    obtain ⟨m0, e0⟩ := HSN.out h0
    subst h0
    have hd1 : (⟨#[30]⟩ : ByteArray).size = 1 := rfl
    have hd0 : (⟨#[0]⟩ : ByteArray).size = 1 := rfl
    have hdec : ∀ (U : ByteArray), U = ⟨#[30]⟩ ++ R1 ++ a2 ++ S ++ (⟨#[30]⟩ ++ R1 ++ a2) ++ ⟨#[0]⟩ ++ a3 → U.size ≤ 40 → dec7 (bz U) = (0, o0) := by
      intro U hU hs
      have hb : bz U = 30 :: (2 + (bz a2).length) :: bz a2 ++ rawO o0 ++ (30 :: (2 + (bz a2).length) :: bz a2) ++ [0] ++ bz a3 := by
        rw [hU]
        simp only [bz_append]
        rw [HR1.out, e0, bz_ofB (raw_le o0 g0.1 m0), bz_len a2]
        rfl
      rw [hb]
      refine dec_among o0 g0.1 m0 (bz a2) (bz a3) ?_
      rw [← hb, bz_len]
      exact hs
    have HDEC := Lib.hid hdec
    have HE0 := Lib.hid e0
    clear hdec e0 m0
    go_wp2_with fail
    all_goals first
      | (refine (alive_any _).mono ?_
         rintro e w' ⟨rfl, hb⟩
         have HB := Lib.hid (st_call (st_alloc B5.out _) hb)
         clear hb
         go_wp2_with fail
         go_ret
         exact ⟨rfl, HB.out⟩)
      | (have hus : (⟨#[30]⟩ ++ R1 ++ a2 ++ S ++ (⟨#[30]⟩ ++ R1 ++ a2) ++ ⟨#[0]⟩ ++ a3 : ByteArray).size ≤ 40 := by
           simp only [ByteArray.size_append]
           omega
         have hd := HDEC.out _ rfl hus
         have C3 := decP7 (⟨#[30]⟩ ++ R1 ++ a2 ++ S ++ (⟨#[30]⟩ ++ R1 ++ a2) ++ ⟨#[0]⟩ ++ a3) (wc.alloc (.cells #[.int .u8 (2 + (a2.size : Int))] 5)) (by omega)
         unfold DecOut at C3
         rw [hd] at C3
         have X7 := Lib.hid (X6.out.later ((Below.refl _ wc).alloc (Nat.le_refl _) (.cells #[.int .u8 (2 + (a2.size : Int))] 5)))
         clear hd hus
         refine C3.mono ?_
         rintro e wD ⟨⟨A3, c3, rfl, hR3⟩, hb⟩
         have bl := (Below.refl _ wD).alloc (Nat.le_refl _) (.cells #[.int .u16 (o0.mss : Int), .int .i64 o0.scale, .bool o0.sack, .slice A3 o0.blocks.length c3, .bool o0.time, .int .u32 (o0.val : Int), .int .u32 (o0.echo : Int)] 26)
         have X8 := (X7.out.later hb).later bl
         have U0 := CellsAt.new wD #[.int .u16 (o0.mss : Int), .int .i64 o0.scale, .bool o0.sack, .slice A3 o0.blocks.length c3, .bool o0.time, .int .u32 (o0.val : Int), .int .u32 (o0.echo : Int)] 26
         have R3 := hR3.blk.more bl
         have B6 := st_alloc (st_call (st_alloc B5.out _) hb) (.cells #[.int .u16 (o0.mss : Int), .int .i64 o0.scale, .bool o0.sack, .slice A3 o0.blocks.length c3, .bool o0.time, .int .u32 (o0.val : Int), .int .u32 (o0.echo : Int)] 26)
         have hsm := sameP o0 o0 A3 c3 A0 c0 _ R3 (Z0.out.more B6) (by omega) (by omega)
         rw [decide_eq_true (rfl : o0 = o0)] at hsm
         have HSM := Lib.hid hsm
         have B7 := Lib.hid B6
         clear C3 bl R3 B6 hsm hb hR3
         have x0 : (wD.alloc (.cells #[.int .u16 (o0.mss : Int), .int .i64 o0.scale, .bool o0.sack, .slice A3 o0.blocks.length c3, .bool o0.time, .int .u32 (o0.val : Int), .int .u32 (o0.echo : Int)] 26)).cell? ⟨w.heap.size, 0, none⟩ = some (.int .u16 (o0.mss : Int)) := X8.cell 0 _ rfl
         have x1 : (wD.alloc (.cells #[.int .u16 (o0.mss : Int), .int .i64 o0.scale, .bool o0.sack, .slice A3 o0.blocks.length c3, .bool o0.time, .int .u32 (o0.val : Int), .int .u32 (o0.echo : Int)] 26)).cell? ⟨w.heap.size, 1, none⟩ = some (.int .i64 o0.scale) := X8.cell 1 _ rfl
         have x2 : (wD.alloc (.cells #[.int .u16 (o0.mss : Int), .int .i64 o0.scale, .bool o0.sack, .slice A3 o0.blocks.length c3, .bool o0.time, .int .u32 (o0.val : Int), .int .u32 (o0.echo : Int)] 26)).cell? ⟨w.heap.size, 2, none⟩ = some (.bool o0.sack) := X8.cell 2 _ rfl
         have x3 : (wD.alloc (.cells #[.int .u16 (o0.mss : Int), .int .i64 o0.scale, .bool o0.sack, .slice A3 o0.blocks.length c3, .bool o0.time, .int .u32 (o0.val : Int), .int .u32 (o0.echo : Int)] 26)).cell? ⟨w.heap.size, 3, none⟩ = some (.slice A0 o0.blocks.length c0) := X8.cell 3 _ rfl
         have x4 : (wD.alloc (.cells #[.int .u16 (o0.mss : Int), .int .i64 o0.scale, .bool o0.sack, .slice A3 o0.blocks.length c3, .bool o0.time, .int .u32 (o0.val : Int), .int .u32 (o0.echo : Int)] 26)).cell? ⟨w.heap.size, 4, none⟩ = some (.bool o0.time) := X8.cell 4 _ rfl
         have x5 : (wD.alloc (.cells #[.int .u16 (o0.mss : Int), .int .i64 o0.scale, .bool o0.sack, .slice A3 o0.blocks.length c3, .bool o0.time, .int .u32 (o0.val : Int), .int .u32 (o0.echo : Int)] 26)).cell? ⟨w.heap.size, 5, none⟩ = some (.int .u32 (o0.val : Int)) := X8.cell 5 _ rfl
         have x6 : (wD.alloc (.cells #[.int .u16 (o0.mss : Int), .int .i64 o0.scale, .bool o0.sack, .slice A3 o0.blocks.length c3, .bool o0.time, .int .u32 (o0.val : Int), .int .u32 (o0.echo : Int)] 26)).cell? ⟨w.heap.size, 6, none⟩ = some (.int .u32 (o0.echo : Int)) := X8.cell 6 _ rfl
         have u0 : (wD.alloc (.cells #[.int .u16 (o0.mss : Int), .int .i64 o0.scale, .bool o0.sack, .slice A3 o0.blocks.length c3, .bool o0.time, .int .u32 (o0.val : Int), .int .u32 (o0.echo : Int)] 26)).cell? ⟨wD.heap.size, 0, none⟩ = some (.int .u16 (o0.mss : Int)) := U0.cell 0 _ rfl
         have u1 : (wD.alloc (.cells #[.int .u16 (o0.mss : Int), .int .i64 o0.scale, .bool o0.sack, .slice A3 o0.blocks.length c3, .bool o0.time, .int .u32 (o0.val : Int), .int .u32 (o0.echo : Int)] 26)).cell? ⟨wD.heap.size, 1, none⟩ = some (.int .i64 o0.scale) := U0.cell 1 _ rfl
         have u2 : (wD.alloc (.cells #[.int .u16 (o0.mss : Int), .int .i64 o0.scale, .bool o0.sack, .slice A3 o0.blocks.length c3, .bool o0.time, .int .u32 (o0.val : Int), .int .u32 (o0.echo : Int)] 26)).cell? ⟨wD.heap.size, 2, none⟩ = some (.bool o0.sack) := U0.cell 2 _ rfl
         have u3 : (wD.alloc (.cells #[.int .u16 (o0.mss : Int), .int .i64 o0.scale, .bool o0.sack, .slice A3 o0.blocks.length c3, .bool o0.time, .int .u32 (o0.val : Int), .int .u32 (o0.echo : Int)] 26)).cell? ⟨wD.heap.size, 3, none⟩ = some (.slice A3 o0.blocks.length c3) := U0.cell 3 _ rfl
         have u4 : (wD.alloc (.cells #[.int .u16 (o0.mss : Int), .int .i64 o0.scale, .bool o0.sack, .slice A3 o0.blocks.length c3, .bool o0.time, .int .u32 (o0.val : Int), .int .u32 (o0.echo : Int)] 26)).cell? ⟨wD.heap.size, 4, none⟩ = some (.bool o0.time) := U0.cell 4 _ rfl
         have u5 : (wD.alloc (.cells #[.int .u16 (o0.mss : Int), .int .i64 o0.scale, .bool o0.sack, .slice A3 o0.blocks.length c3, .bool o0.time, .int .u32 (o0.val : Int), .int .u32 (o0.echo : Int)] 26)).cell? ⟨wD.heap.size, 5, none⟩ = some (.int .u32 (o0.val : Int)) := U0.cell 5 _ rfl
         have u6 : (wD.alloc (.cells #[.int .u16 (o0.mss : Int), .int .i64 o0.scale, .bool o0.sack, .slice A3 o0.blocks.length c3, .bool o0.time, .int .u32 (o0.val : Int), .int .u32 (o0.echo : Int)] 26)).cell? ⟨wD.heap.size, 6, none⟩ = some (.int .u32 (o0.echo : Int)) := U0.cell 6 _ rfl
         clear X8 U0
         go_wp2_with fail
         refine HSM.out.mono ?_
         rintro e wS ⟨rfl, hb⟩
         have B8 := Lib.hid (st_call B7.out hb)
         clear hb
         go_wp2_with fail
         refine (alive_any _).mono ?_
         rintro e w' ⟨rfl, hb⟩
         have HB := Lib.hid (st_call B8.out hb)
         clear hb
         go_wp2_with fail
         go_ret
         exact ⟨rfl, HB.out⟩)

/-! The row's step, after the guide's own way. -/
set_option maxRecDepth 100000 in
theorem lifted (os : Os) (started : os.Started) (H : Type) (enc : TypeId × Value → H) :
    ReturnsInHanded {} Try.checked os 6 .any (Rows.optApartSpec.pre6 enc Try.prog Try.f6 Rows.optApartRow.domain false) (Rows.optApartSpec.post enc Try.prog Try.f6 false true false false) := by
  refine returnsInHanded_of_change (C := Try.checked) own started (by kernel_rfl) Try.func6
    (ChangeSpec.witness6 (enc := enc) (C := Try.checked) false ⟨#[], #[.agg #[.int .u16 0, .int .i64 0, .bool false, .slice none 0 0, .bool false, .int .u32 0, .int .u32 0], .agg #[.int .u16 0, .int .i64 0, .bool false, .slice none 0 0, .bool false, .int .u32 0, .int .u32 0], .string ByteArray.empty, .string ByteArray.empty], []⟩ 8 (by kernel_rfl) (by kernel_rfl) (by kernel_rfl) (by kernel_rfl)) ?_
  intro W base args ds gs before hval0 hW hcnd _
  have hval : ∀ (j : Nat) t v, Try.f6.params[j]? = some t → args[j]? = some v → Value.okWide Try.prog W .any base t v := hval0
  have hW' := hW
  obtain ⟨p, q, hA0, hV, rfl, hfz, hnd⟩ := hW
  have hA : DataW.TrodAll enc Try.prog W 0 (fun _ => true) true Try.f6.params.toList args.toList ds p := hA0
  rw [Try.params6] at hA hval
  obtain ⟨v0, vs0, d0, ds0, p0, q0, hargs, rfl, rfl, h0, r0⟩ := trodAll_cons hA
  obtain ⟨v1, vs1, d1, ds1, p1, q1, rfl, rfl, rfl, h1, r1⟩ := trodAll_cons r0
  obtain ⟨v2, vs2, d2, ds2, p2, q2, rfl, rfl, rfl, h2, r2⟩ := trodAll_cons r1
  obtain ⟨v3, vs3, d3, ds3, p3, q3, rfl, rfl, rfl, h3, r3⟩ := trodAll_cons r2
  obtain ⟨rfl, rfl, rfl⟩ := trodAll_nil r3
  obtain rfl : args = #[v0, v1, v2, v3] := by cases args; simp_all
  obtain ⟨rfl, rfl⟩ := trodVars_none hV
  have k0 := h0
  have lt0 : ∀ x ∈ p0, x.block < W.heap.size := by obtain ⟨m, hm⟩ := k0; exact DataW.trod_lt m _ _ _ hm
  obtain ⟨o0, A0, c0, rfl, z0, g0⟩ := OptOpen.open_opts (hval 0 26 v0 rfl rfl) h0
  have k1 := h1
  have lt1 : ∀ x ∈ p1, x.block < W.heap.size := by obtain ⟨m, hm⟩ := k1; exact DataW.trod_lt m _ _ _ hm
  obtain ⟨o1, A1, c1, rfl, z1, g1⟩ := OptOpen.open_opts (hval 1 26 v1 rfl rfl) h1
  have k2 := h2
  have lt2 : ∀ x ∈ p2, x.block < W.heap.size := by obtain ⟨m, hm⟩ := k2; exact DataW.trod_lt m _ _ _ hm
  obtain ⟨a2, rfl, _, _, w2⟩ := open_string Try.underlying9 (hval 2 9 v2 rfl rfl) h2
  have k3 := h3
  have lt3 : ∀ x ∈ p3, x.block < W.heap.size := by obtain ⟨m, hm⟩ := k3; exact DataW.trod_lt m _ _ _ hm
  obtain ⟨a3, rfl, _, _, w3⟩ := open_string Try.underlying9 (hval 3 9 v3 rfl rfl) h3
  clear hA0 hval0
  refine (walk o0 A0 c0 o1 A1 c1 a2 a3 W z0 g0 z1 g1 w2 w3).mono fun e W' ⟨he, bel⟩ => ?_
  subst he
  exact ⟨_, rfl, _, _, _, [], _, [], hW', trodAll_mk1 (shut_bool Try.underlying4 _), (trodAll_cons_mk (Below.trod laidOut (by kernel_rfl) (of_decide_eq_true (by kernel_rfl)) k0 bel lt0) (trodAll_cons_mk (Below.trod laidOut (by kernel_rfl) (of_decide_eq_true (by kernel_rfl)) k1 bel lt1) (trodAll_cons_mk (Below.trod laidOut (by kernel_rfl) (of_decide_eq_true (by kernel_rfl)) k2 bel lt2) (trodAll_cons_mk (Below.trod laidOut (by kernel_rfl) (of_decide_eq_true (by kernel_rfl)) k3 bel lt3) trodAll_mk0)))), rfl, bel.frame _, fun h => by cases h⟩

theorem over : Rows.optApartRow.holds Try.pinned (OpenSpec.ofChange Rows.optApartSpec) :=
  OpenClaim.holds_of_wide 6 Try.f6 rfl rfl rfl rfl rfl rfl rfl ⟨rfl, rfl, rfl, rfl, rfl⟩ rfl rfl rfl rfl rfl (by kernel_rfl) Try.func6 (by kernel_rfl)
    (of_decide_eq_true (by kernel_rfl)) (by unfold Func.isWrapper; first | (rw [if_pos (by decide +kernel)]; kernel_rfl) | (rw [if_neg (by decide +kernel)]; exact ⟨rfl, rfl⟩))
    (fun os started H enc _ => lifted os started H enc)

/-- The statement. -/
theorem proved : Rows.OptApartSaid := over
#print axioms proved
end Go.Proofs.Ytgpkckaojcodmaa.optApart
