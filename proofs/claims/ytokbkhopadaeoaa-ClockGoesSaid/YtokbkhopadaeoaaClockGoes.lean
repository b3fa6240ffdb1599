/-
  Proved: the statement 'Rows.ClockGoesSaid': for every input the Go function transomlaw09.ClockGoes returns true, and each argument reads behind the call as it read before. Conditions: none of our own; those of the given row.
-/
import Derived.Test.YtokbkhopadaeoaaRows
import Derived.Test.YtokbkhopadaeoaaClkAlive
import Derived.Test.YtokbkhopadaeoaaClkRef
import Derived.WalkKit
import Derived.ProofKit
import Derived.OpenShut
import Derived.ShutString
import Derived.ChangeOld
import Derived.Below
namespace Go.Proofs.Ytokbkhopadaeoaa.clockGoes
open Go.ChangeShapes Go.WideShapes Go.ChangeAt Go.RowKit
open Go.ChangeMaps (open_string shut_string)
open ClkMath Ints ClkP ClkRef ClkAlive
open Cells (CellsAt Apart)
set_option linter.unusedVariables false

theorem own : ownKnob Try.prog.godebug = none := by kernel_rfl
theorem laidOut : laidOutB Try.prog = true := by kernel_rfl

/-! The walk: the Go text returns true, and writes nothing that was there. -/
set_option maxRecDepth 100000 in
set_option maxHeartbeats 4000000 in
theorem walk (a0 : Int) (A1 : Option Addr) (n1 : Nat) (c1 : Nat) (L1 : List Int) (a2 : Int) (w : World) (w0 : (Lit.int .i64 a0).wf = true) (s1 : Ints.IntR .i64 w A1 n1 L1) (m1 : n1 ≤ maxLen ∧ (A1 = none → n1 = 0 ∧ c1 = 0)) (g1 : ∀ x ∈ L1, (Lit.int .i64 x).wf = true) (w2 : (Lit.int .i64 a2).wf = true) :
    Calls Try.prog 4 #[.int .i64 a0, .slice A1 n1 c1, .int .i64 a2] w fun e w' => e = .returned (.bool true) ∧ Below w.heap.size w w' := by
  have ⟨b0, b0'⟩ := bounds_i64 w0
  have ⟨b2, b2'⟩ := bounds_i64 w2
  have S1 := Lib.hid s1
  have G1 := Lib.hid g1
  have hlen := s1.len
  clear s1 g1
  by_cases hl : 500 < n1
  · have hl2 : (500 : Int) < (n1 : Int) := by omega
    go_enter Try.func4, Try.ntmps4
    go_wp2_with fail
    refine (works_any _).mono ?_
    rintro e w' ⟨rfl, hb⟩
    have HB := Lib.hid (hb)
    clear hb
    go_wp2_with fail
    go_ret
    exact ⟨rfl, HB.out⟩
  have hl2 : ¬ (500 : Int) < (n1 : Int) := by omega
  have MR := Lib.hid (fun W => mayR a0 W)
  by_cases hm : mayT a0 = true
  rotate_left
  · have hm2 : mayT a0 = false := by cases h : mayT a0; rfl; exact absurd h hm
    rw [hm2] at MR
    have NN := Lib.hid (fun W => newN a0 W hm2)
    clear hm hm2
    go_enter Try.func4, Try.ntmps4
    go_wp2_with fail
    refine (NN.out _).mono ?_
    rintro e w' ⟨rfl, rfl⟩
    go_wp2_with fail
    refine (MR.out _).mono ?_
    rintro e w' ⟨rfl, rfl⟩
    go_wp2_with fail
    refine (works_any _).mono ?_
    rintro e w' ⟨rfl, hb⟩
    have HB := Lib.hid (hb)
    clear hb
    go_wp2_with fail
    go_ret
    exact ⟨rfl, HB.out⟩
  rw [hm] at MR
  have HM := Lib.hid hm
  have NP := Lib.hid (fun W => newP a0 W hm)
  clear hm
  go_enter Try.func4, Try.ntmps4
  go_wp2_with fail
  refine (NP.out _).mono ?_
  rintro e w1 ⟨b, rfl, hc, hle, hb⟩
  have C1 := Lib.hid hc
  have B1 := Lib.hid hb
  clear hc hb
  go_wp2_with fail
  refine (MR.out _).mono ?_
  rintro e w' ⟨rfl, rfl⟩
  go_wp2_with fail
  go_loopw [9, 10] (fun t i wr => ∃ (k : Nat) (now : Int), k ≤ n1 ∧ i = .int .i64 (k : Int) ∧ t = .int .i64 now ∧ mayT now = true ∧ ClkAt wr b now ∧ Below w.heap.size w wr) (fun _ i _ => n1 - (intOf i).toNat)
  case atStart => exact ⟨0, a0, by omega, rfl, rfl, HM.out, C1.out, B1.out⟩
  case round =>
    obtain ⟨k, now, hk, rfl, rfl, hm, hC, hB⟩ := hrel
    obtain ⟨p0, p1⟩ := of_mayT hm
    have HMN := Lib.hid hm
    have HC := Lib.hid hC
    have HB := Lib.hid hB
    clear hm hC hB
    by_cases hlt : k < n1
    · have hki : (k : Int) < (n1 : Int) := by omega
      obtain ⟨x, hx⟩ : ∃ x, L1[k]? = some x := ⟨_, List.getElem?_eq_getElem (by omega)⟩
      have ⟨x0, x1⟩ := bounds_i64 (G1.out x (List.mem_of_getElem? hx))
      have RR := S1.out.below (Nat.le_refl _) HB.out
      obtain ⟨g, off, rfl, hg, hcc⟩ := RR.2 (by omega)
      have cx := hcc k x hx
      have AR := Lib.hid (fun W => addR now x W (by omega) (by omega) x0 x1)
      have GP := Lib.hid (goP b now x wr HC.out ⟨p0, p1⟩ x0 x1)
      have HX := Lib.hid hx
      clear hx hcc RR
      obtain ⟨N, hN⟩ : ∃ N, (if addE now x = 0 then addT now x else now) = N := ⟨_, rfl⟩
      have hNm : mayT N = true := by
        rw [← hN]
        split
        · exact add_may (by assumption)
        · exact HMN.out
      obtain ⟨r0, r1⟩ := of_mayT hNm
      have HNM := Lib.hid hNm
      rw [hN] at GP
      obtain ⟨T, hT⟩ : ∃ T, addT now x = T := ⟨_, rfl⟩
      obtain ⟨E, hE⟩ : ∃ E, addE now x = E := ⟨_, rfl⟩
      rw [hT, hE] at AR
      rw [hE] at GP
      rw [hT, hE] at hN
      clear hT hE hNm
      have qE : (E != E) = false := bne_self_eq_false _
      have qN : (N != N) = false := bne_self_eq_false _
      have NW := Lib.hid (fun W h => nowP b N W h)
      have LF := Lib.hid (fun W h => leftP b N a2 W h ⟨r0, r1⟩ b2 b2')
      have wl : N < a2 → IntKind.i64.wrap (a2 - N) = a2 - N := fun _ => IntWalk.i64_in _ (by omega)
      have HWL := Lib.hid wl
      clear wl
      by_cases hE0 : E = 0
      · subst hE0
        obtain rfl : T = N := by simpa using hN
        clear hN
        by_cases ha : T < a2
        · rw [if_pos ha] at LF
          have w3 := HWL.out ha
          have qL : (a2 - T != a2 - T) = false := bne_self_eq_false _
          go_wp2_with fail
          refine (AR.out _).mono ?_
          rintro e w' ⟨rfl, rfl⟩
          go_wp2_with fail
          refine GP.out.mono ?_
          rintro e w2 ⟨rfl, hc, _, hb⟩
          have C2 := Lib.hid hc
          have B2 := Lib.hid (HB.out.trans (hb.mono hle))
          clear hc hb
          go_wp2_with fail
          refine (NW.out _ C2.out).mono ?_
          rintro e w' ⟨rfl, rfl⟩
          go_wp2_with fail
          refine (LF.out _ C2.out).mono ?_
          rintro e w3 ⟨rfl, hb⟩
          have C3 : Hid (ClkAt w3 b _) := Lib.hid (CellsAt.later C2.out hb)
          have B3 := Lib.hid (st_two B2.out hb)
          clear hb
          go_wp2_with fail
          go_roundw
          case rel => exact ⟨k + 1, T, by omega, by go_num, rfl, HNM.out, C3.out, B3.out⟩
          case measure => simp [intOf]; omega
        · rw [if_neg ha] at LF
          go_wp2_with fail
          refine (AR.out _).mono ?_
          rintro e w' ⟨rfl, rfl⟩
          go_wp2_with fail
          refine GP.out.mono ?_
          rintro e w2 ⟨rfl, hc, _, hb⟩
          have C2 := Lib.hid hc
          have B2 := Lib.hid (HB.out.trans (hb.mono hle))
          clear hc hb
          go_wp2_with fail
          refine (NW.out _ C2.out).mono ?_
          rintro e w' ⟨rfl, rfl⟩
          go_wp2_with fail
          refine (LF.out _ C2.out).mono ?_
          rintro e w3 ⟨rfl, hb⟩
          have C3 : Hid (ClkAt w3 b _) := Lib.hid (CellsAt.later C2.out hb)
          have B3 := Lib.hid (st_two B2.out hb)
          clear hb
          go_wp2_with fail
          go_roundw
          case rel => exact ⟨k + 1, T, by omega, by go_num, rfl, HNM.out, C3.out, B3.out⟩
          case measure => simp [intOf]; omega
      · obtain rfl : now = N := by rw [if_neg hE0] at hN; exact hN
        have qE0 : (E == 0) = false := beq_eq_false_iff_ne.2 hE0
        clear hN
        by_cases ha : now < a2
        · rw [if_pos ha] at LF
          have w3 := HWL.out ha
          have qL : (a2 - now != a2 - now) = false := bne_self_eq_false _
          go_wp2_with fail
          refine (AR.out _).mono ?_
          rintro e w' ⟨rfl, rfl⟩
          go_wp2_with fail
          refine GP.out.mono ?_
          rintro e w2 ⟨rfl, hc, _, hb⟩
          have C2 := Lib.hid hc
          have B2 := Lib.hid (HB.out.trans (hb.mono hle))
          clear hc hb
          go_wp2_with fail
          refine (NW.out _ C2.out).mono ?_
          rintro e w' ⟨rfl, rfl⟩
          go_wp2_with fail
          refine (LF.out _ C2.out).mono ?_
          rintro e w3 ⟨rfl, hb⟩
          have C3 : Hid (ClkAt w3 b _) := Lib.hid (CellsAt.later C2.out hb)
          have B3 := Lib.hid (st_two B2.out hb)
          clear hb
          go_wp2_with fail
          go_roundw
          case rel => exact ⟨k + 1, now, by omega, by go_num, rfl, HNM.out, C3.out, B3.out⟩
          case measure => simp [intOf]; omega
        · rw [if_neg ha] at LF
          go_wp2_with fail
          refine (AR.out _).mono ?_
          rintro e w' ⟨rfl, rfl⟩
          go_wp2_with fail
          refine GP.out.mono ?_
          rintro e w2 ⟨rfl, hc, _, hb⟩
          have C2 := Lib.hid hc
          have B2 := Lib.hid (HB.out.trans (hb.mono hle))
          clear hc hb
          go_wp2_with fail
          refine (NW.out _ C2.out).mono ?_
          rintro e w' ⟨rfl, rfl⟩
          go_wp2_with fail
          refine (LF.out _ C2.out).mono ?_
          rintro e w3 ⟨rfl, hb⟩
          have C3 : Hid (ClkAt w3 b _) := Lib.hid (CellsAt.later C2.out hb)
          have B3 := Lib.hid (st_two B2.out hb)
          clear hb
          go_wp2_with fail
          go_roundw
          case rel => exact ⟨k + 1, now, by omega, by go_num, rfl, HNM.out, C3.out, B3.out⟩
          case measure => simp [intOf]; omega
    · obtain rfl : k = n1 := by omega
      have hki : ¬ ((k : Nat) : Int) < (k : Int) := by omega
      go_wp2_with fail
      refine (works_any _).mono ?_
      rintro e w' ⟨rfl, hb⟩
      have HB := Lib.hid (st_two HB.out hb)
      clear hb
      go_wp2_with fail
      go_ret
      exact ⟨rfl, HB.out⟩

/-! The row's step, after the guide's own way. -/
set_option maxRecDepth 100000 in
theorem lifted (os : Os) (started : os.Started) (H : Type) (enc : TypeId × Value → H) :
    ReturnsInHanded {} Try.checked os 4 .any (Rows.clockGoesSpec.pre6 enc Try.prog Try.f4 Rows.clockGoesRow.domain false) (Rows.clockGoesSpec.post enc Try.prog Try.f4 false true false false) := by
  refine returnsInHanded_of_change (C := Try.checked) own started (by kernel_rfl) Try.func4
    (ChangeSpec.witness6 (enc := enc) (C := Try.checked) false ⟨#[], #[.int .i64 0, .slice none 0 0, .int .i64 0], []⟩ 8 (by kernel_rfl) (by kernel_rfl) (by kernel_rfl) (by kernel_rfl)) ?_
  intro W base args ds gs before hval0 hW hcnd _
  have hval : ∀ (j : Nat) t v, Try.f4.params[j]? = some t → args[j]? = some v → Value.okWide Try.prog W .any base t v := hval0
  have hW' := hW
  obtain ⟨p, q, hA0, hV, rfl, hfz, hnd⟩ := hW
  have hA : DataW.TrodAll enc Try.prog W 0 (fun _ => true) true Try.f4.params.toList args.toList ds p := hA0
  rw [Try.params4] at hA hval
  obtain ⟨v0, vs0, d0, ds0, p0, q0, hargs, rfl, rfl, h0, r0⟩ := trodAll_cons hA
  obtain ⟨v1, vs1, d1, ds1, p1, q1, rfl, rfl, rfl, h1, r1⟩ := trodAll_cons r0
  obtain ⟨v2, vs2, d2, ds2, p2, q2, rfl, rfl, rfl, h2, r2⟩ := trodAll_cons r1
  obtain ⟨rfl, rfl, rfl⟩ := trodAll_nil r2
  obtain rfl : args = #[v0, v1, v2] := by cases args; simp_all
  obtain ⟨rfl, rfl⟩ := trodVars_none hV
  have k0 := h0
  have lt0 : ∀ x ∈ p0, x.block < W.heap.size := by obtain ⟨m, hm⟩ := k0; exact DataW.trod_lt m _ _ _ hm
  obtain ⟨a0, rfl, _, _, w0⟩ := open_int Try.underlying2 (hval 0 2 v0 rfl rfl) h0
  have k1 := h1
  have lt1 : ∀ x ∈ p1, x.block < W.heap.size := by obtain ⟨m, hm⟩ := k1; exact DataW.trod_lt m _ _ _ hm
  obtain ⟨A1, n1, c1, rfl⟩ := okWide_slice Try.underlying22 (hval 1 22 v1 rfl rfl)
  obtain ⟨L1, s1, m1, g1⟩ : ∃ L, Ints.IntR .i64 W A1 n1 L ∧ (n1 ≤ maxLen ∧ (A1 = none → n1 = 0 ∧ c1 = 0)) ∧ ∀ x ∈ L, (Lit.int .i64 x).wf = true := by obtain ⟨fuel, hf⟩ := h1; exact Ints.open_ints Try.underlying22 Try.underlying2 (by kernel_rfl) (by simpa [Value.cells] using hf)
  have k2 := h2
  have lt2 : ∀ x ∈ p2, x.block < W.heap.size := by obtain ⟨m, hm⟩ := k2; exact DataW.trod_lt m _ _ _ hm
  obtain ⟨a2, rfl, _, _, w2⟩ := open_int Try.underlying2 (hval 2 2 v2 rfl rfl) h2
  clear hA0 hval0
  refine (walk a0 A1 n1 c1 L1 a2 W w0 s1 m1 g1 w2).mono fun e W' ⟨he, bel⟩ => ?_
  subst he
  exact ⟨_, rfl, _, _, _, [], _, [], hW', trodAll_mk1 (shut_bool Try.underlying4 _), (trodAll_cons_mk (Below.trod laidOut (by kernel_rfl) (of_decide_eq_true (by kernel_rfl)) k0 bel lt0) (trodAll_cons_mk (Below.trod laidOut (by kernel_rfl) (of_decide_eq_true (by kernel_rfl)) k1 bel lt1) (trodAll_cons_mk (Below.trod laidOut (by kernel_rfl) (of_decide_eq_true (by kernel_rfl)) k2 bel lt2) trodAll_mk0))), rfl, bel.frame _, fun h => by cases h⟩

theorem over : Rows.clockGoesRow.holds Try.pinned (OpenSpec.ofChange Rows.clockGoesSpec) :=
  OpenClaim.holds_of_wide 4 Try.f4 rfl rfl rfl rfl rfl rfl rfl ⟨rfl, rfl, rfl, rfl, rfl⟩ rfl rfl rfl rfl rfl (by kernel_rfl) Try.func4 (by kernel_rfl)
    (of_decide_eq_true (by kernel_rfl)) (by unfold Func.isWrapper; first | (rw [if_pos (by decide +kernel)]; kernel_rfl) | (rw [if_neg (by decide +kernel)]; exact ⟨rfl, rfl⟩))
    (fun os started H enc _ => lifted os started H enc)

/-- The statement. -/
theorem proved : Rows.ClockGoesSaid := over
#print axioms proved
end Go.Proofs.Ytokbkhopadaeoaa.clockGoes
