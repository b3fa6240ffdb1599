/-
  Proved: the statement 'Rows.ClockPartsSaid': for every input the Go function transomlaw09.ClockParts returns true, and each argument reads behind the call as it read before. Conditions: none of our own; those of the given row.
-/
import Derived.Test.YtokbkhopadaeoaaRows
import Derived.Test.YtokbkhopadaeoaaClkAlive
import Derived.Test.YtokbkhopadaeoaaClkRef
import Derived.WalkKit
import Derived.ProofKit
import Derived.OpenShut
import Derived.ShutString
import Derived.ChangeOld
import Derived.Below
namespace Go.Proofs.Ytokbkhopadaeoaa.clockParts
open Go.ChangeShapes Go.WideShapes Go.ChangeAt Go.RowKit
open Go.ChangeMaps (open_string shut_string)
open ClkMath Ints ClkP ClkRef ClkAlive
open Cells (CellsAt Apart)
set_option linter.unusedVariables false

theorem own : ownKnob Try.prog.godebug = none := by kernel_rfl
theorem laidOut : laidOutB Try.prog = true := by kernel_rfl

/-! The walk: the Go text returns true, and writes nothing that was there. -/
set_option maxRecDepth 100000 in
set_option maxHeartbeats 4000000 in
theorem walk (a0 : Int) (a1 : Int) (a2 : Int) (w : World) (w0 : (Lit.int .i64 a0).wf = true) (w1 : (Lit.int .u32 a1).wf = true) (w2 : (Lit.int .u32 a2).wf = true) :
    Calls Try.prog 5 #[.int .i64 a0, .int .u32 a1, .int .u32 a2] w fun e w' => e = .returned (.bool true) ∧ Below w.heap.size w w' := by
  have ⟨b0, b0'⟩ := bounds_i64 w0
  have ⟨b1, b1'⟩ := bounds_u32 w1
  have ⟨b2, b2'⟩ := bounds_u32 w2
  by_cases hm : mayT a0 = true
  rotate_left
  · have hm2 : mayT a0 = false := by cases h : mayT a0; rfl; exact absurd h hm
    have NN := Lib.hid (fun W => newN a0 W hm2)
    clear hm hm2
    go_enter Try.func5, Try.ntmps5
    go_wp2_with fail
    refine (NN.out _).mono ?_
    rintro e w' ⟨rfl, rfl⟩
    go_wp2_with fail
    refine (NN.out _).mono ?_
    rintro e w' ⟨rfl, rfl⟩
    go_wp2_with fail
    refine (works_any _).mono ?_
    rintro e w' ⟨rfl, hb⟩
    have HB := Lib.hid (hb)
    clear hb
    go_wp2_with fail
    go_ret
    exact ⟨rfl, HB.out⟩
  obtain ⟨p0, p1⟩ := of_mayT hm
  have NP := Lib.hid (fun W => newP a0 W hm)
  clear hm
  have s0 : IntKind.i64.wrap (a1 + a2) = a1 + a2 := IntWalk.i64_in _ (by omega)
  have s1 : IntKind.i64.wrap a1 = a1 := IntWalk.i64_in _ (by omega)
  have s2 : IntKind.i64.wrap a2 = a2 := IntWalk.i64_in _ (by omega)
  by_cases c1 : a1 + a2 ≤ 17592186044416 - a0
  · obtain ⟨f1a, f1b⟩ := add_ok (t := a0) (b := a1 + a2) (by omega) (by omega)
    have e1 : addE (a0) (a1 + a2) = 0 := f1a
    have n1 : (if addE (a0) (a1 + a2) = 0 then addT (a0) (a1 + a2) else (a0)) = a0 + (a1 + a2) := by rw [if_pos e1, f1b]
    clear f1a f1b
    obtain ⟨f2a, f2b⟩ := add_ok (t := a0) (b := a1) (by omega) (by omega)
    have e2 : addE (a0) (a1) = 0 := f2a
    have n2 : (if addE (a0) (a1) = 0 then addT (a0) (a1) else (a0)) = a0 + a1 := by rw [if_pos e2, f2b]
    clear f2a f2b
    obtain ⟨f3a, f3b⟩ := add_ok (t := a0 + a1) (b := a2) (by omega) (by omega)
    have e3 : addE (a0 + a1) (a2) = 0 := f3a
    have n3 : (if addE (a0 + a1) (a2) = 0 then addT (a0 + a1) (a2) else (a0 + a1)) = a0 + (a1 + a2) := by rw [if_pos e3, f3b, Int.add_assoc]
    clear f3a f3b
    have k1 := Lib.hid (show 0 ≤ a0 + a1 ∧ a0 + a1 ≤ 17592186044416 by omega)
    clear c1
    go_enter Try.func5, Try.ntmps5
    go_wp2_with fail
    refine (NP.out _).mono ?_
    rintro e w1 ⟨b, rfl, hc, hle, hb⟩
    have c1 := hc
    have B1 := Lib.hid hb
    clear hc hb
    go_wp2_with fail
    refine (NP.out _).mono ?_
    rintro e w2 ⟨d, rfl, hc, hle2, hb⟩
    have hlt : b < d := Nat.lt_of_lt_of_le (CellsAt.lt c1) hle2
    have X2 : Hid (ClkAt w2 b a0) := Lib.hid (CellsAt.later c1 hb)
    have Y2 := Lib.hid hc
    have B2 := Lib.hid (st_two B1.out hb)
    have hle3 : w.heap.size ≤ d := by omega
    clear hc hb c1
    go_wp2_with fail
    refine (go_to b a0 (a1 + a2) 0 (a0 + (a1 + a2)) w2 X2.out ⟨p0, p1⟩ (by omega) (by omega) e1 n1).mono ?_
    rintro e w3 ⟨rfl, hc, ha, hb⟩
    have X3 := Lib.hid hc
    have Y3 : Hid (ClkAt w3 d a0) := Lib.hid (CellsAt.apart Y2.out (by omega) ha)
    have B3 := Lib.hid (B2.out.trans (hb.mono hle))
    clear hc ha hb
    go_wp2_with fail
    refine (go_to d a0 a1 0 (a0 + a1) w3 Y3.out ⟨p0, p1⟩ (by omega) (by omega) e2 n2).mono ?_
    rintro e w4 ⟨rfl, hc, ha, hb⟩
    have Y4 := Lib.hid hc
    have X4 := Lib.hid (CellsAt.apart X3.out (by omega) ha)
    have B4 := Lib.hid (B3.out.trans (hb.mono hle3))
    clear hc ha hb
    go_wp2_with fail
    refine (go_to d (a0 + a1) a2 0 (a0 + (a1 + a2)) w4 Y4.out k1.out (by omega) (by omega) e3 n3).mono ?_
    rintro e w5 ⟨rfl, hc, ha, hb⟩
    have Y5 := Lib.hid hc
    have X5 := Lib.hid (CellsAt.apart X4.out (by omega) ha)
    have B5 := Lib.hid (B4.out.trans (hb.mono hle3))
    clear hc ha hb
    go_wp2_with fail
    refine (nowN w5).mono ?_
    rintro e w' ⟨rfl, rfl⟩
    go_wp2_with fail
    refine (goN 1 w5).mono ?_
    rintro e w' ⟨rfl, rfl⟩
    go_wp2_with fail
    refine (leftN 5 w5).mono ?_
    rintro e w' ⟨rfl, rfl⟩
    go_wp2_with fail
    refine (nowP b _ w5 X5.out).mono ?_
    rintro e w' ⟨rfl, rfl⟩
    go_wp2_with fail
    refine (nowP d _ w5 Y5.out).mono ?_
    rintro e w' ⟨rfl, rfl⟩
    go_wp2_with fail
    refine (works_any _).mono ?_
    rintro e w' ⟨rfl, hb⟩
    have HB := Lib.hid (st_two B5.out hb)
    clear hb
    go_wp2_with fail
    go_ret
    exact ⟨rfl, HB.out⟩
  by_cases c2 : a1 ≤ 17592186044416 - a0
  · have e1 : addE (a0) (a1 + a2) = 9 := (add_over (t := a0) (b := a1 + a2) (by omega) (by omega)).1
    have n1 : (if addE (a0) (a1 + a2) = 0 then addT (a0) (a1 + a2) else (a0)) = a0 := by rw [if_neg (by rw [e1]; decide)]
    obtain ⟨f2a, f2b⟩ := add_ok (t := a0) (b := a1) (by omega) (by omega)
    have e2 : addE (a0) (a1) = 0 := f2a
    have n2 : (if addE (a0) (a1) = 0 then addT (a0) (a1) else (a0)) = a0 + a1 := by rw [if_pos e2, f2b]
    clear f2a f2b
    have e3 : addE (a0 + a1) (a2) = 9 := (add_over (t := a0 + a1) (b := a2) (by omega) (by omega)).1
    have n3 : (if addE (a0 + a1) (a2) = 0 then addT (a0 + a1) (a2) else (a0 + a1)) = a0 + a1 := by rw [if_neg (by rw [e3]; decide)]
    have k1 := Lib.hid (show 0 ≤ a0 + a1 ∧ a0 + a1 ≤ 17592186044416 by omega)
    clear c1 c2
    go_enter Try.func5, Try.ntmps5
    go_wp2_with fail
    refine (NP.out _).mono ?_
    rintro e w1 ⟨b, rfl, hc, hle, hb⟩
    have c1 := hc
    have B1 := Lib.hid hb
    clear hc hb
    go_wp2_with fail
    refine (NP.out _).mono ?_
    rintro e w2 ⟨d, rfl, hc, hle2, hb⟩
    have hlt : b < d := Nat.lt_of_lt_of_le (CellsAt.lt c1) hle2
    have X2 : Hid (ClkAt w2 b a0) := Lib.hid (CellsAt.later c1 hb)
    have Y2 := Lib.hid hc
    have B2 := Lib.hid (st_two B1.out hb)
    have hle3 : w.heap.size ≤ d := by omega
    clear hc hb c1
    go_wp2_with fail
    refine (go_to b a0 (a1 + a2) 9 a0 w2 X2.out ⟨p0, p1⟩ (by omega) (by omega) e1 n1).mono ?_
    rintro e w3 ⟨rfl, hc, ha, hb⟩
    have X3 := Lib.hid hc
    have Y3 : Hid (ClkAt w3 d a0) := Lib.hid (CellsAt.apart Y2.out (by omega) ha)
    have B3 := Lib.hid (B2.out.trans (hb.mono hle))
    clear hc ha hb
    go_wp2_with fail
    refine (go_to d a0 a1 0 (a0 + a1) w3 Y3.out ⟨p0, p1⟩ (by omega) (by omega) e2 n2).mono ?_
    rintro e w4 ⟨rfl, hc, ha, hb⟩
    have Y4 := Lib.hid hc
    have X4 := Lib.hid (CellsAt.apart X3.out (by omega) ha)
    have B4 := Lib.hid (B3.out.trans (hb.mono hle3))
    clear hc ha hb
    go_wp2_with fail
    refine (go_to d (a0 + a1) a2 9 (a0 + a1) w4 Y4.out k1.out (by omega) (by omega) e3 n3).mono ?_
    rintro e w5 ⟨rfl, hc, ha, hb⟩
    have Y5 := Lib.hid hc
    have X5 := Lib.hid (CellsAt.apart X4.out (by omega) ha)
    have B5 := Lib.hid (B4.out.trans (hb.mono hle3))
    clear hc ha hb
    go_wp2_with fail
    refine (nowN w5).mono ?_
    rintro e w' ⟨rfl, rfl⟩
    go_wp2_with fail
    refine (goN 1 w5).mono ?_
    rintro e w' ⟨rfl, rfl⟩
    go_wp2_with fail
    refine (leftN 5 w5).mono ?_
    rintro e w' ⟨rfl, rfl⟩
    go_wp2_with fail
    refine (works_any _).mono ?_
    rintro e w' ⟨rfl, hb⟩
    have HB := Lib.hid (st_two B5.out hb)
    clear hb
    go_wp2_with fail
    go_ret
    exact ⟨rfl, HB.out⟩
  · have e1 : addE (a0) (a1 + a2) = 9 := (add_over (t := a0) (b := a1 + a2) (by omega) (by omega)).1
    have n1 : (if addE (a0) (a1 + a2) = 0 then addT (a0) (a1 + a2) else (a0)) = a0 := by rw [if_neg (by rw [e1]; decide)]
    have e2 : addE (a0) (a1) = 9 := (add_over (t := a0) (b := a1) (by omega) (by omega)).1
    have n2 : (if addE (a0) (a1) = 0 then addT (a0) (a1) else (a0)) = a0 := by rw [if_neg (by rw [e2]; decide)]
    clear c1 c2
    go_enter Try.func5, Try.ntmps5
    go_wp2_with fail
    refine (NP.out _).mono ?_
    rintro e w1 ⟨b, rfl, hc, hle, hb⟩
    have c1 := hc
    have B1 := Lib.hid hb
    clear hc hb
    go_wp2_with fail
    refine (NP.out _).mono ?_
    rintro e w2 ⟨d, rfl, hc, hle2, hb⟩
    have hlt : b < d := Nat.lt_of_lt_of_le (CellsAt.lt c1) hle2
    have X2 : Hid (ClkAt w2 b a0) := Lib.hid (CellsAt.later c1 hb)
    have Y2 := Lib.hid hc
    have B2 := Lib.hid (st_two B1.out hb)
    have hle3 : w.heap.size ≤ d := by omega
    clear hc hb c1
    go_wp2_with fail
    refine (go_to b a0 (a1 + a2) 9 a0 w2 X2.out ⟨p0, p1⟩ (by omega) (by omega) e1 n1).mono ?_
    rintro e w3 ⟨rfl, hc, ha, hb⟩
    have X3 := Lib.hid hc
    have Y3 : Hid (ClkAt w3 d a0) := Lib.hid (CellsAt.apart Y2.out (by omega) ha)
    have B3 := Lib.hid (B2.out.trans (hb.mono hle))
    clear hc ha hb
    go_wp2_with fail
    refine (go_to d a0 a1 9 a0 w3 Y3.out ⟨p0, p1⟩ (by omega) (by omega) e2 n2).mono ?_
    rintro e w4 ⟨rfl, hc, ha, hb⟩
    have Y4 := Lib.hid hc
    have X4 := Lib.hid (CellsAt.apart X3.out (by omega) ha)
    have B4 := Lib.hid (B3.out.trans (hb.mono hle3))
    clear hc ha hb
    go_wp2_with fail
    refine (nowN w4).mono ?_
    rintro e w' ⟨rfl, rfl⟩
    go_wp2_with fail
    refine (goN 1 w4).mono ?_
    rintro e w' ⟨rfl, rfl⟩
    go_wp2_with fail
    refine (leftN 5 w4).mono ?_
    rintro e w' ⟨rfl, rfl⟩
    go_wp2_with fail
    refine (works_any _).mono ?_
    rintro e w' ⟨rfl, hb⟩
    have HB := Lib.hid (st_two B4.out hb)
    clear hb
    go_wp2_with fail
    go_ret
    exact ⟨rfl, HB.out⟩

/-! The row's step, after the guide's own way. -/
set_option maxRecDepth 100000 in
theorem lifted (os : Os) (started : os.Started) (H : Type) (enc : TypeId × Value → H) :
    ReturnsInHanded {} Try.checked os 5 .any (Rows.clockPartsSpec.pre6 enc Try.prog Try.f5 Rows.clockPartsRow.domain false) (Rows.clockPartsSpec.post enc Try.prog Try.f5 false true false false) := by
  refine returnsInHanded_of_change (C := Try.checked) own started (by kernel_rfl) Try.func5
    (ChangeSpec.witness6 (enc := enc) (C := Try.checked) false ⟨#[], #[.int .i64 0, .int .u32 0, .int .u32 0], []⟩ 8 (by kernel_rfl) (by kernel_rfl) (by kernel_rfl) (by kernel_rfl)) ?_
  intro W base args ds gs before hval0 hW hcnd _
  have hval : ∀ (j : Nat) t v, Try.f5.params[j]? = some t → args[j]? = some v → Value.okWide Try.prog W .any base t v := hval0
  have hW' := hW
  obtain ⟨p, q, hA0, hV, rfl, hfz, hnd⟩ := hW
  have hA : DataW.TrodAll enc Try.prog W 0 (fun _ => true) true Try.f5.params.toList args.toList ds p := hA0
  rw [Try.params5] at hA hval
  obtain ⟨v0, vs0, d0, ds0, p0, q0, hargs, rfl, rfl, h0, r0⟩ := trodAll_cons hA
  obtain ⟨v1, vs1, d1, ds1, p1, q1, rfl, rfl, rfl, h1, r1⟩ := trodAll_cons r0
  obtain ⟨v2, vs2, d2, ds2, p2, q2, rfl, rfl, rfl, h2, r2⟩ := trodAll_cons r1
  obtain ⟨rfl, rfl, rfl⟩ := trodAll_nil r2
  obtain rfl : args = #[v0, v1, v2] := by cases args; simp_all
  obtain ⟨rfl, rfl⟩ := trodVars_none hV
  have k0 := h0
  have lt0 : ∀ x ∈ p0, x.block < W.heap.size := by obtain ⟨m, hm⟩ := k0; exact DataW.trod_lt m _ _ _ hm
  obtain ⟨a0, rfl, _, _, w0⟩ := open_int Try.underlying2 (hval 0 2 v0 rfl rfl) h0
  have k1 := h1
  have lt1 : ∀ x ∈ p1, x.block < W.heap.size := by obtain ⟨m, hm⟩ := k1; exact DataW.trod_lt m _ _ _ hm
  obtain ⟨a1, rfl, _, _, w1⟩ := open_int Try.underlying38 (hval 1 38 v1 rfl rfl) h1
  have k2 := h2
  have lt2 : ∀ x ∈ p2, x.block < W.heap.size := by obtain ⟨m, hm⟩ := k2; exact DataW.trod_lt m _ _ _ hm
  obtain ⟨a2, rfl, _, _, w2⟩ := open_int Try.underlying38 (hval 2 38 v2 rfl rfl) h2
  clear hA0 hval0
  refine (walk a0 a1 a2 W w0 w1 w2).mono fun e W' ⟨he, bel⟩ => ?_
  subst he
  exact ⟨_, rfl, _, _, _, [], _, [], hW', trodAll_mk1 (shut_bool Try.underlying4 _), (trodAll_cons_mk (Below.trod laidOut (by kernel_rfl) (of_decide_eq_true (by kernel_rfl)) k0 bel lt0) (trodAll_cons_mk (Below.trod laidOut (by kernel_rfl) (of_decide_eq_true (by kernel_rfl)) k1 bel lt1) (trodAll_cons_mk (Below.trod laidOut (by kernel_rfl) (of_decide_eq_true (by kernel_rfl)) k2 bel lt2) trodAll_mk0))), rfl, bel.frame _, fun h => by cases h⟩

theorem over : Rows.clockPartsRow.holds Try.pinned (OpenSpec.ofChange Rows.clockPartsSpec) :=
  OpenClaim.holds_of_wide 5 Try.f5 rfl rfl rfl rfl rfl rfl rfl ⟨rfl, rfl, rfl, rfl, rfl⟩ rfl rfl rfl rfl rfl (by kernel_rfl) Try.func5 (by kernel_rfl)
    (of_decide_eq_true (by kernel_rfl)) (by unfold Func.isWrapper; first | (rw [if_pos (by decide +kernel)]; kernel_rfl) | (rw [if_neg (by decide +kernel)]; exact ⟨rfl, rfl⟩))
    (fun os started H enc _ => lifted os started H enc)

/-- The statement. -/
theorem proved : Rows.ClockPartsSaid := over
#print axioms proved
end Go.Proofs.Ytokbkhopadaeoaa.clockParts
