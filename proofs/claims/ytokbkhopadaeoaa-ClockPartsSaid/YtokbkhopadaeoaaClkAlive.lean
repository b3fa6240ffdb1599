/-
  Layer 9's statements' own example.
-/
import Derived.Test.YtokbkhopadaeoaaClkP
namespace Go.Proofs.Ytokbkhopadaeoaa.ClkAlive
open Go.RowKit ClkMath Ints ClkP
open Cells (CellsAt Apart)
set_option linter.unusedVariables false
set_option linter.unusedSimpArgs false

theorem st_two {w u v : World} (h : Below w.heap.size w u) (h2 : Below u.heap.size u v) : Below w.heap.size w v := h.trans (h2.mono h.size)
/-- a step of a clock that goes, its sum known -/
theorem go_to (b : Nat) (t s e n : Int) (W : World) (h : ClkAt W b t) (ht : 0 ≤ t ∧ t ≤ 17592186044416) (h1 : -9223372036854775808 ≤ s) (h2 : s ≤ 9223372036854775807) (he : addE t s = e) (hn : (if addE t s = 0 then addT t s else t) = n) :
    Calls Try.prog 14 #[.pointer (some ⟨b, 0, none⟩), .int .i64 s] W fun r w' => r = .returned (.int .i64 e) ∧ ClkAt w' b n ∧ Apart b W w' ∧ Below b W w' := by
  have h := goP b t s W h ht h1 h2
  rw [hn, he] at h
  exact h
set_option maxHeartbeats 1000000 in
theorem works_any (w : World) : Calls Try.prog 6 #[] w fun e w' => e = .returned (.bool true) ∧ Below w.heap.size w w' := by
  go_enter Try.func6, Try.ntmps6
  go_wp2_with fail
  refine (newP 5 w rfl).mono ?_
  rintro e w1 ⟨b, rfl, hc, hle, hb⟩
  have C1 := Lib.hid hc
  have B1 := Lib.hid hb
  clear hc hb
  go_wp2_with fail
  refine (go_to b 5 3 0 8 w1 C1.out (by omega) (by omega) (by omega) (by decide) (by decide)).mono ?_
  rintro e w2 ⟨rfl, hc, _, hb⟩
  have C2 := Lib.hid hc
  have B2 := Lib.hid (B1.out.trans (hb.mono hle))
  clear hc hb
  go_wp2_with fail
  refine (nowP b 8 w2 C2.out).mono ?_
  rintro e w3 ⟨rfl, rfl⟩
  go_wp2_with fail
  refine (leftP b 8 10 w2 C2.out (by omega) (by omega) (by omega)).mono ?_
  rintro e w2' ⟨rfl, hb⟩
  have C2' : Hid (ClkAt w2' b 8) := Lib.hid (CellsAt.later C2.out hb)
  have B2' := Lib.hid (st_two B2.out hb)
  clear hb
  go_wp2_with fail
  refine (go_to b 8 (-1) 2 8 w2' C2'.out (by omega) (by omega) (by omega) (by decide) (by decide)).mono ?_
  rintro e w3 ⟨rfl, hc, _, hb⟩
  have C3 := Lib.hid hc
  have B3 := Lib.hid (B2'.out.trans (hb.mono hle))
  clear hc hb
  go_wp2_with fail
  refine (nowP b 8 w3 C3.out).mono ?_
  rintro e w4 ⟨rfl, rfl⟩
  go_wp2_with fail
  refine (leastP _ 3 3 [9, -1, 4] _ (IntR.three .i64 w3 9 (-1) 4 _) (by decide)).mono ?_
  rintro e w4 ⟨rfl, hb⟩
  have B4 := Lib.hid (st_two (B3.out.alloc B3.out.size _) hb)
  clear hb
  go_wp2_with fail
  go_ret
  exact ⟨rfl, B4.out⟩
end Go.Proofs.Ytokbkhopadaeoaa.ClkAlive
