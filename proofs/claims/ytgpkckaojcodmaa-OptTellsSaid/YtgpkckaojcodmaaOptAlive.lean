/-
  The known answers of layer 7's statements.
-/
import Derived.Test.YtgpkckaojcodmaaOptLaw
import Derived.Test.YtgpkckaojcodmaaOptP
namespace Go.Proofs.Ytgpkckaojcodmaa.OptAlive
open Go.RowKit OptTake5 TupMath SumMath Litb Calm Rel IpMath IpRef OptMath OptRef OptSame OptMay OptTk OptDec OptTurnM OptTurn OptLaw OptP
open Cells (CellsAt)
set_option linter.unusedVariables false
set_option maxRecDepth 100000

def ao : Opn := ⟨1460, 7, true, [], false, 0, 0⟩
def ax : Opn := ⟨0, 15, false, [], false, 0, 0⟩
theorem ao_ok : ao.ok := ⟨by decide, (fun p hp => by cases hp), by decide, by decide⟩
theorem ax_ok : ax.ok := ⟨by decide, (fun p hp => by cases hp), by decide, by decide⟩
theorem ao_enc : encV7 ao = .tuple #[.string ⟨#[2, 4, 5, 180, 1, 3, 3, 7, 1, 1, 4, 2]⟩, .int .i64 0] := by
  have h1 : mayO ao = true := by decide +kernel
  have h2 : rawO ao = [2, 4, 5, 180, 1, 3, 3, 7, 1, 1, 4, 2] := by decide +kernel
  unfold encV7
  rw [if_pos h1, h2]
  rfl
theorem ax_enc : encV7 ax = .tuple #[.string ⟨#[]⟩, .int .i64 2] := by
  have h1 : ¬ mayO ax = true := by decide +kernel
  unfold encV7
  rw [if_neg h1]
theorem ao_may : mayO ao = true := by decide +kernel
theorem ao_dec : dec7 [2, 4, 5, 180, 1, 3, 3, 7, 1, 1, 4, 2, 30, 3, 120, 0, 2] = (0, ao) := by decide +kernel
theorem a2_dec : dec7 [4, 2, 4, 2] = (70, zeroO) := by decide +kernel
theorem at_turn : turnV 2 0 0 [1, 1, 5, 10, 0, 0, 0, 1, 0, 0, 0, 3] = .tuple #[.string ⟨#[1, 1, 5, 10, 0, 0, 0, 3, 0, 0, 0, 5]⟩, .int .i64 0] := by
  have h1 : (dec7 [1, 1, 5, 10, 0, 0, 0, 1, 0, 0, 0, 3]).1 = 0 := by decide +kernel
  have h2 : turnS 2 0 0 [1, 1, 5, 10, 0, 0, 0, 1, 0, 0, 0, 3] = [1, 1, 5, 10, 0, 0, 0, 3, 0, 0, 0, 5] := by decide +kernel
  unfold turnV
  rw [if_pos h1, h2]
  rfl

set_option maxHeartbeats 16000000 in
theorem alive_any (w : World) : Calls Try.prog 8 #[] w fun e w' => e = .returned (.bool true) ∧ Below w.heap.size w w' := by
  have C1 := fun W => encP7 ao none 0 W (BlkR.nil _ _) ao_ok
  rw [ao_enc] at C1
  have C4 := fun W => encP7 ax none 0 W (BlkR.nil _ _) ax_ok
  rw [ax_enc] at C4
  have C5 := fun W => turnP7 ⟨#[1, 1, 5, 10, 0, 0, 0, 1, 0, 0, 0, 3]⟩ 2 0 0 W (by decide) (by decide) (by decide) (by decide)
  rw [show bz ⟨#[1, 1, 5, 10, 0, 0, 0, 1, 0, 0, 0, 3]⟩ = [1, 1, 5, 10, 0, 0, 0, 1, 0, 0, 0, 3] from rfl, at_turn] at C5
  have C6 := fun A c W => sameP ao ao none 0 A c W (BlkR.nil _ _) (BlkR.nil _ _) (by decide) (by decide)
  rw [decide_eq_true (rfl : ao = ao)] at C6
  have C7 := fun W => noneP W
  have C8 := fun W => mayP ao none 0 W (BlkR.nil _ _) ao_ok
  rw [ao_may] at C8
  have hfld : ∀ W, (Instr.field 26 (.agg #[.int .u16 0, .int .i64 (-1), .bool false, .slice none 0 0, .bool false, .int .u32 0, .int .u32 0]) 1).run Try.prog W = .ok (.int .i64 (-1)) W := fun W => by kernel_rfl
  have H1 : Hid (∀ W, Calls Try.prog 9 #[.agg #[.int .u16 1460, .int .i64 7, .bool true, .slice none 0 0, .bool false, .int .u32 0, .int .u32 0]] W fun e w' => e = .returned (.tuple #[.string ⟨#[2, 4, 5, 180, 1, 3, 3, 7, 1, 1, 4, 2]⟩, .int .i64 0]) ∧ Below W.heap.size W w') := Lib.hid C1
  have H2 : Hid (∀ W, Calls Try.prog 11 #[.string ⟨#[2, 4, 5, 180, 1, 3, 3, 7, 1, 1, 4, 2, 30, 3, 120, 0, 2]⟩] W fun e w' => (∃ A c, e = .returned (.tuple #[.agg #[.int .u16 1460, .int .i64 7, .bool true, .slice A 0 c, .bool false, .int .u32 0, .int .u32 0], .int .i64 0])) ∧ Below W.heap.size W w') := Lib.hid fun W => (decP7 ⟨#[2, 4, 5, 180, 1, 3, 3, 7, 1, 1, 4, 2, 30, 3, 120, 0, 2]⟩ W (by decide)).mono fun e w' h => by
    obtain ⟨⟨A, c, he, _⟩, hb⟩ := h
    rw [show bz ⟨#[2, 4, 5, 180, 1, 3, 3, 7, 1, 1, 4, 2, 30, 3, 120, 0, 2]⟩ = [2, 4, 5, 180, 1, 3, 3, 7, 1, 1, 4, 2, 30, 3, 120, 0, 2] from rfl, ao_dec] at he
    exact ⟨⟨A, c, he⟩, hb⟩
  have H3 : Hid (∀ W, Calls Try.prog 11 #[.string ⟨#[4, 2, 4, 2]⟩] W fun e w' => (∃ A c, e = .returned (.tuple #[.agg #[.int .u16 0, .int .i64 0, .bool false, .slice A 0 c, .bool false, .int .u32 0, .int .u32 0], .int .i64 70])) ∧ Below W.heap.size W w') := Lib.hid fun W => (decP7 ⟨#[4, 2, 4, 2]⟩ W (by decide)).mono fun e w' h => by
    obtain ⟨⟨A, c, he, _⟩, hb⟩ := h
    rw [show bz ⟨#[4, 2, 4, 2]⟩ = [4, 2, 4, 2] from rfl, a2_dec] at he
    exact ⟨⟨A, c, he⟩, hb⟩
  have H4 : Hid (∀ W, Calls Try.prog 9 #[.agg #[.int .u16 0, .int .i64 15, .bool false, .slice none 0 0, .bool false, .int .u32 0, .int .u32 0]] W fun e w' => e = .returned (.tuple #[.string ⟨#[]⟩, .int .i64 2]) ∧ Below W.heap.size W w') := Lib.hid C4
  have H5 : Hid (∀ W, Calls Try.prog 19 #[.string ⟨#[1, 1, 5, 10, 0, 0, 0, 1, 0, 0, 0, 3]⟩, .int .u32 2, .int .u32 0, .int .u32 0] W fun e w' => e = .returned (.tuple #[.string ⟨#[1, 1, 5, 10, 0, 0, 0, 3, 0, 0, 0, 5]⟩, .int .i64 0]) ∧ Below W.heap.size W w') := Lib.hid C5
  have H6 : Hid (∀ A c W, Calls Try.prog 15 #[.agg #[.int .u16 1460, .int .i64 7, .bool true, .slice none 0 0, .bool false, .int .u32 0, .int .u32 0], .agg #[.int .u16 1460, .int .i64 7, .bool true, .slice A 0 c, .bool false, .int .u32 0, .int .u32 0]] W fun e w' => e = .returned (.bool true) ∧ Below W.heap.size W w') := Lib.hid C6
  have H7 : Hid (∀ W, Calls Try.prog 17 #[] W fun e w' => e = .returned (.agg #[.int .u16 0, .int .i64 (-1), .bool false, .slice none 0 0, .bool false, .int .u32 0, .int .u32 0]) ∧ Below W.heap.size W w') := Lib.hid C7
  have H8 : Hid (∀ W, Calls Try.prog 13 #[.agg #[.int .u16 1460, .int .i64 7, .bool true, .slice none 0 0, .bool false, .int .u32 0, .int .u32 0]] W fun e w' => e = .returned (.bool true) ∧ Below W.heap.size W w') := Lib.hid C8
  clear C1 C4 C5 C6 C7 C8
  have X0 := Lib.hid (CellsAt.new w #[.int .u16 1460, .int .i64 7, .bool true, .slice none 0 0, .bool false, .int .u32 0, .int .u32 0] 26)
  have B0 := Lib.hid (st_alloc (Below.refl _ w) (.cells #[.int .u16 1460, .int .i64 7, .bool true, .slice none 0 0, .bool false, .int .u32 0, .int .u32 0] 26))
  go_enter Try.func8, Try.ntmps8
  go_wp2_with fail
  refine (H1.out _).mono ?_
  rintro e w1 ⟨rfl, hb⟩
  have X1 := Lib.hid (X0.out.later hb)
  have B1 := Lib.hid (st_call B0.out hb)
  clear hb
  go_wp2_with fail
  refine (H2.out _).mono ?_
  rintro e w2 ⟨⟨A2, c2, rfl⟩, hb⟩
  have X2 := Lib.hid ((X1.out.later hb).later ((Below.refl _ w2).alloc (Nat.le_refl _) (.cells #[.int .u16 1460, .int .i64 7, .bool true, .slice A2 0 c2, .bool false, .int .u32 0, .int .u32 0] 26)))
  have Y2 := Lib.hid (CellsAt.new w2 #[.int .u16 1460, .int .i64 7, .bool true, .slice A2 0 c2, .bool false, .int .u32 0, .int .u32 0] 26)
  have B2 := Lib.hid (st_alloc (st_call B1.out hb) (.cells #[.int .u16 1460, .int .i64 7, .bool true, .slice A2 0 c2, .bool false, .int .u32 0, .int .u32 0] 26))
  clear hb
  go_wp2_with fail
  refine (H3.out _).mono ?_
  rintro e w3 ⟨⟨A3, c3, rfl⟩, hb⟩
  have X3 := Lib.hid ((X2.out.later hb).later ((Below.refl _ w3).alloc (Nat.le_refl _) (.cells #[.int .u16 0, .int .i64 0, .bool false, .slice A3 0 c3, .bool false, .int .u32 0, .int .u32 0] 26)))
  have Y3 := Lib.hid ((Y2.out.later hb).later ((Below.refl _ w3).alloc (Nat.le_refl _) (.cells #[.int .u16 0, .int .i64 0, .bool false, .slice A3 0 c3, .bool false, .int .u32 0, .int .u32 0] 26)))
  have B3 := Lib.hid (st_alloc (st_call B2.out hb) (.cells #[.int .u16 0, .int .i64 0, .bool false, .slice A3 0 c3, .bool false, .int .u32 0, .int .u32 0] 26))
  clear hb
  go_wp2_with fail
  refine (H4.out _).mono ?_
  rintro e w4 ⟨rfl, hb⟩
  have X4 := Lib.hid (X3.out.later hb)
  have Y4 := Lib.hid (Y3.out.later hb)
  have B4 := Lib.hid (st_call B3.out hb)
  clear hb
  go_wp2_with fail
  refine (H5.out _).mono ?_
  rintro e w5 ⟨rfl, hb⟩
  have X5 := X4.out.later hb
  have Y5 := Y4.out.later hb
  have B5 := Lib.hid (st_call B4.out hb)
  clear hb
  have x0 : (w5).cell? ⟨w.heap.size, 0, none⟩ = some (.int .u16 1460) := X5.cell 0 _ rfl
  have x1 : (w5).cell? ⟨w.heap.size, 1, none⟩ = some (.int .i64 7) := X5.cell 1 _ rfl
  have x2 : (w5).cell? ⟨w.heap.size, 2, none⟩ = some (.bool true) := X5.cell 2 _ rfl
  have x3 : (w5).cell? ⟨w.heap.size, 3, none⟩ = some (.slice none 0 0) := X5.cell 3 _ rfl
  have x4 : (w5).cell? ⟨w.heap.size, 4, none⟩ = some (.bool false) := X5.cell 4 _ rfl
  have x5 : (w5).cell? ⟨w.heap.size, 5, none⟩ = some (.int .u32 0) := X5.cell 5 _ rfl
  have x6 : (w5).cell? ⟨w.heap.size, 6, none⟩ = some (.int .u32 0) := X5.cell 6 _ rfl
  have y0 : (w5).cell? ⟨w2.heap.size, 0, none⟩ = some (.int .u16 1460) := Y5.cell 0 _ rfl
  have y1 : (w5).cell? ⟨w2.heap.size, 1, none⟩ = some (.int .i64 7) := Y5.cell 1 _ rfl
  have y2 : (w5).cell? ⟨w2.heap.size, 2, none⟩ = some (.bool true) := Y5.cell 2 _ rfl
  have y3 : (w5).cell? ⟨w2.heap.size, 3, none⟩ = some (.slice A2 0 c2) := Y5.cell 3 _ rfl
  have y4 : (w5).cell? ⟨w2.heap.size, 4, none⟩ = some (.bool false) := Y5.cell 4 _ rfl
  have y5 : (w5).cell? ⟨w2.heap.size, 5, none⟩ = some (.int .u32 0) := Y5.cell 5 _ rfl
  have y6 : (w5).cell? ⟨w2.heap.size, 6, none⟩ = some (.int .u32 0) := Y5.cell 6 _ rfl
  have X6 := Lib.hid X5
  clear X5 Y5
  go_wp2_with fail
  clear x0 x1 x2 x3 x4 x5 x6
  clear y0 y1 y2 y3 y4 y5 y6
  refine (H6.out _ _ _).mono ?_
  rintro e w6 ⟨rfl, hb⟩
  have X7 := Lib.hid (X6.out.later hb)
  have B6 := Lib.hid (st_call B5.out hb)
  clear hb
  go_wp2_with fail
  refine (H7.out _).mono ?_
  rintro e w7 ⟨rfl, hb⟩
  have X8 := X7.out.later hb
  have B7 := Lib.hid (st_call B6.out hb)
  clear hb
  have x0 : (w7).cell? ⟨w.heap.size, 0, none⟩ = some (.int .u16 1460) := X8.cell 0 _ rfl
  have x1 : (w7).cell? ⟨w.heap.size, 1, none⟩ = some (.int .i64 7) := X8.cell 1 _ rfl
  have x2 : (w7).cell? ⟨w.heap.size, 2, none⟩ = some (.bool true) := X8.cell 2 _ rfl
  have x3 : (w7).cell? ⟨w.heap.size, 3, none⟩ = some (.slice none 0 0) := X8.cell 3 _ rfl
  have x4 : (w7).cell? ⟨w.heap.size, 4, none⟩ = some (.bool false) := X8.cell 4 _ rfl
  have x5 : (w7).cell? ⟨w.heap.size, 5, none⟩ = some (.int .u32 0) := X8.cell 5 _ rfl
  have x6 : (w7).cell? ⟨w.heap.size, 6, none⟩ = some (.int .u32 0) := X8.cell 6 _ rfl
  clear X8
  go_wp2_with fail
  refine (H8.out _).mono ?_
  rintro e w8 ⟨rfl, hb⟩
  have B8 := Lib.hid (st_call B7.out hb)
  clear hb
  go_wp2_with fail
  go_ret
  exact ⟨rfl, B8.out⟩
end Go.Proofs.Ytgpkckaojcodmaa.OptAlive
