/-
  Proved: the statement 'Rows.ClockTellsSaid': for every input the Go function transomlaw09.ClockTells returns true, and each argument reads behind the call as it read before. Conditions: none of our own; those of the given row.
-/
import Derived.Test.YtokbkhopadaeoaaRows
import Derived.Test.YtokbkhopadaeoaaClkAlive
import Derived.Test.YtokbkhopadaeoaaClkRef
import Derived.WalkKit
import Derived.ProofKit
import Derived.OpenShut
import Derived.ShutString
import Derived.ChangeOld
import Derived.Below
namespace Go.Proofs.Ytokbkhopadaeoaa.clockTells
open Go.ChangeShapes Go.WideShapes Go.ChangeAt Go.RowKit
open Go.ChangeMaps (open_string shut_string)
open ClkMath Ints ClkP ClkRef ClkAlive
open Cells (CellsAt Apart)
set_option linter.unusedVariables false

theorem own : ownKnob Try.prog.godebug = none := by kernel_rfl
theorem laidOut : laidOutB Try.prog = true := by kernel_rfl

/-! The walk: the Go text returns true, and writes nothing that was there. -/
set_option maxRecDepth 100000 in
set_option maxHeartbeats 4000000 in
theorem walk (a0 : Int) (a1 : Int) (A2 : Option Addr) (n2 : Nat) (c2 : Nat) (L2 : List Int) (w : World) (w0 : (Lit.int .i64 a0).wf = true) (w1 : (Lit.int .i64 a1).wf = true) (s2 : Ints.IntR .i64 w A2 n2 L2) (m2 : n2 ≤ maxLen ∧ (A2 = none → n2 = 0 ∧ c2 = 0)) (g2 : ∀ x ∈ L2, (Lit.int .i64 x).wf = true) :
    Calls Try.prog 3 #[.int .i64 a0, .int .i64 a1, .slice A2 n2 c2] w fun e w' => e = .returned (.bool true) ∧ Below w.heap.size w w' := by
  have ⟨b0, b0'⟩ := bounds_i64 w0
  have ⟨b1, b1'⟩ := bounds_i64 w1
  have S2 := Lib.hid s2
  have N2 := Lib.hid m2.2
  clear s2
  by_cases hl : 1000 < n2
  · have hl2 : (1000 : Int) < (n2 : Int) := by omega
    go_enter Try.func3, Try.ntmps3
    go_wp2_with fail
    refine (works_any _).mono ?_
    rintro e w' ⟨rfl, hb⟩
    have HB := Lib.hid (hb)
    clear hb
    go_wp2_with fail
    go_ret
    exact ⟨rfl, HB.out⟩
  have hl2 : ¬ (1000 : Int) < (n2 : Int) := by omega
  obtain ⟨t, ht⟩ : ∃ t, addT a0 a1 = t := ⟨_, rfl⟩
  obtain ⟨z, hz⟩ : ∃ z, addE a0 a1 = z := ⟨_, rfl⟩
  obtain ⟨m, hm⟩ : ∃ m, mayT a0 = m := ⟨_, rfl⟩
  obtain ⟨l, hle⟩ : ∃ l, least L2 = l := ⟨_, rfl⟩
  have A1 := Lib.hid (fun W => addP a0 a1 W b0 b0' b1 b1')
  have A2' := Lib.hid (fun W => addR a0 a1 W b0 b0' b1 b1')
  have M1 := Lib.hid (fun W => mayP a0 W)
  have M2 := Lib.hid (fun W => mayR a0 W)
  have E1 := Lib.hid (fun A c W h => leastP A n2 c L2 W h (by omega))
  have E2 := Lib.hid (fun A c W h => leastR A n2 c L2 W h (by omega))
  rw [ht, hz] at A1 A2'
  rw [hm] at M1 M2
  rw [hle] at E1 E2
  clear ht hz hm hle
  have q1 : (t == t) = true := beq_self_eq_true _
  have q2 : (z == z) = true := beq_self_eq_true _
  have q3 : (m == m) = true := beq_self_eq_true _
  have q4 : (l == l) = true := beq_self_eq_true _
  go_enter Try.func3, Try.ntmps3
  go_wp2_with fail
  refine (A1.out _).mono ?_
  rintro e w' ⟨rfl, rfl⟩
  go_wp2_with fail
  refine (A2'.out _).mono ?_
  rintro e w' ⟨rfl, rfl⟩
  go_wp2_with fail
  refine (M1.out _).mono ?_
  rintro e w' ⟨rfl, rfl⟩
  go_wp2_with fail
  refine (M2.out _).mono ?_
  rintro e w' ⟨rfl, rfl⟩
  go_wp2_with (at_builtin; refine Own.stop_here ?_)
  refine Own.stop_go (clone_ints w rfl _ _ _ 2 rfl .i64 8 Try.underlying22 (by kernel_rfl) (by decide) rfl A2 n2 c2 L2 rfl S2.out N2.out (by omega) ?_)
  intro A' c' w1 hr hb
  have R1 := Lib.hid hr
  have B1 := Lib.hid hb
  clear hr hb
  go_wp2_with fail
  refine (E1.out A' c' w1 R1.out).mono ?_
  rintro e w2 ⟨rfl, hb⟩
  have B2 := Lib.hid (st_two B1.out hb)
  clear hb
  go_wp2_with fail
  refine (E2.out A2 c2 w2 (S2.out.more B2.out)).mono ?_
  rintro e w3 ⟨rfl, hb⟩
  have B3 := Lib.hid (st_two B2.out hb)
  clear hb
  go_wp2_with fail
  refine (works_any _).mono ?_
  rintro e w' ⟨rfl, hb⟩
  have HB := Lib.hid (st_two B3.out hb)
  clear hb
  go_wp2_with fail
  go_ret
  exact ⟨rfl, HB.out⟩

/-! The row's step, after the guide's own way. -/
set_option maxRecDepth 100000 in
theorem lifted (os : Os) (started : os.Started) (H : Type) (enc : TypeId × Value → H) :
    ReturnsInHanded {} Try.checked os 3 .any (Rows.clockTellsSpec.pre6 enc Try.prog Try.f3 Rows.clockTellsRow.domain false) (Rows.clockTellsSpec.post enc Try.prog Try.f3 false true false false) := by
  refine returnsInHanded_of_change (C := Try.checked) own started (by kernel_rfl) Try.func3
    (ChangeSpec.witness6 (enc := enc) (C := Try.checked) false ⟨#[], #[.int .i64 0, .int .i64 0, .slice none 0 0], []⟩ 8 (by kernel_rfl) (by kernel_rfl) (by kernel_rfl) (by kernel_rfl)) ?_
  intro W base args ds gs before hval0 hW hcnd _
  have hval : ∀ (j : Nat) t v, Try.f3.params[j]? = some t → args[j]? = some v → Value.okWide Try.prog W .any base t v := hval0
  have hW' := hW
  obtain ⟨p, q, hA0, hV, rfl, hfz, hnd⟩ := hW
  have hA : DataW.TrodAll enc Try.prog W 0 (fun _ => true) true Try.f3.params.toList args.toList ds p := hA0
  rw [Try.params3] at hA hval
  obtain ⟨v0, vs0, d0, ds0, p0, q0, hargs, rfl, rfl, h0, r0⟩ := trodAll_cons hA
  obtain ⟨v1, vs1, d1, ds1, p1, q1, rfl, rfl, rfl, h1, r1⟩ := trodAll_cons r0
  obtain ⟨v2, vs2, d2, ds2, p2, q2, rfl, rfl, rfl, h2, r2⟩ := trodAll_cons r1
  obtain ⟨rfl, rfl, rfl⟩ := trodAll_nil r2
  obtain rfl : args = #[v0, v1, v2] := by cases args; simp_all
  obtain ⟨rfl, rfl⟩ := trodVars_none hV
  have k0 := h0
  have lt0 : ∀ x ∈ p0, x.block < W.heap.size := by obtain ⟨m, hm⟩ := k0; exact DataW.trod_lt m _ _ _ hm
  obtain ⟨a0, rfl, _, _, w0⟩ := open_int Try.underlying2 (hval 0 2 v0 rfl rfl) h0
  have k1 := h1
  have lt1 : ∀ x ∈ p1, x.block < W.heap.size := by obtain ⟨m, hm⟩ := k1; exact DataW.trod_lt m _ _ _ hm
  obtain ⟨a1, rfl, _, _, w1⟩ := open_int Try.underlying2 (hval 1 2 v1 rfl rfl) h1
  have k2 := h2
  have lt2 : ∀ x ∈ p2, x.block < W.heap.size := by obtain ⟨m, hm⟩ := k2; exact DataW.trod_lt m _ _ _ hm
  obtain ⟨A2, n2, c2, rfl⟩ := okWide_slice Try.underlying22 (hval 2 22 v2 rfl rfl)
  obtain ⟨L2, s2, m2, g2⟩ : ∃ L, Ints.IntR .i64 W A2 n2 L ∧ (n2 ≤ maxLen ∧ (A2 = none → n2 = 0 ∧ c2 = 0)) ∧ ∀ x ∈ L, (Lit.int .i64 x).wf = true := by obtain ⟨fuel, hf⟩ := h2; exact Ints.open_ints Try.underlying22 Try.underlying2 (by kernel_rfl) (by simpa [Value.cells] using hf)
  clear hA0 hval0
  refine (walk a0 a1 A2 n2 c2 L2 W w0 w1 s2 m2 g2).mono fun e W' ⟨he, bel⟩ => ?_
  subst he
  exact ⟨_, rfl, _, _, _, [], _, [], hW', trodAll_mk1 (shut_bool Try.underlying4 _), (trodAll_cons_mk (Below.trod laidOut (by kernel_rfl) (of_decide_eq_true (by kernel_rfl)) k0 bel lt0) (trodAll_cons_mk (Below.trod laidOut (by kernel_rfl) (of_decide_eq_true (by kernel_rfl)) k1 bel lt1) (trodAll_cons_mk (Below.trod laidOut (by kernel_rfl) (of_decide_eq_true (by kernel_rfl)) k2 bel lt2) trodAll_mk0))), rfl, bel.frame _, fun h => by cases h⟩

theorem over : Rows.clockTellsRow.holds Try.pinned (OpenSpec.ofChange Rows.clockTellsSpec) :=
  OpenClaim.holds_of_wide 3 Try.f3 rfl rfl rfl rfl rfl rfl rfl ⟨rfl, rfl, rfl, rfl, rfl⟩ rfl rfl rfl rfl rfl (by kernel_rfl) Try.func3 (by kernel_rfl)
    (of_decide_eq_true (by kernel_rfl)) (by unfold Func.isWrapper; first | (rw [if_pos (by decide +kernel)]; kernel_rfl) | (rw [if_neg (by decide +kernel)]; exact ⟨rfl, rfl⟩))
    (fun os started H enc _ => lifted os started H enc)

/-- The statement. -/
theorem proved : Rows.ClockTellsSaid := over
#print axioms proved
end Go.Proofs.Ytokbkhopadaeoaa.clockTells
