/-
  Proved: the statement 'Rows.TupleBackCardSaid': for every input the Go function transomlaw04.TupleBack returns true, and each argument reads behind the call as it read before; the variables of Go's library that the row lists hold what the program's text lays in them (the card's tie, given with the seat). Conditions: none of our own; those of the given row and card.
-/
import Derived.Test.YtpphpnnehljekaaDoorRows
import Derived.Test.YtpphpnnehljekaaDoorCards
import Derived.Test.YtpphpnnehljekaaDoorTie
import Derived.Test.YtpphpnnehljekaaDoorTupEnv
import Derived.Test.YtpphpnnehljekaaDoorTupOpen
import Derived.Test.YtpphpnnehljekaaDoorTupBackC
import Derived.WalkKit
import Derived.ProofKit
import Derived.OpenShut
import Derived.ShutString
import Derived.ChangeOld
import Derived.Below
import Derived.SevenTiedAt
import Derived.Lay
namespace Go.Proofs.YtpphpnnehljekaaDoor.tupleBack
open Go.ChangeShapes Go.WideShapes Go.ChangeAt Go.RowKit
open Go.ChangeMaps (open_string shut_string)
open TupLib TupEnv
open TupBackC
set_option linter.unusedVariables false
set_option maxRecDepth 100000

theorem own : ownKnob Tryd.prog.godebug = none := by kernel_rfl
theorem laidOut : laidOutB Tryd.prog = true := by kernel_rfl

/-! The walk: the Go text returns true, and writes nothing that was there. -/
theorem walk (ia0 pa0 ib0 pb0 : Nat) (ia1 pa1 ib1 pb1 : Nat) (w : World) (g0 : ia0 ≤ 4294967295 ∧ pa0 ≤ 65535 ∧ ib0 ≤ 4294967295 ∧ pb0 ≤ 65535) (g1 : ia1 ≤ 4294967295 ∧ pa1 ≤ 65535 ∧ ib1 ≤ 4294967295 ∧ pb1 ≤ 65535) (E : Env w) :
    Calls Tryd.prog 4 #[.agg #[.int .u32 (ia0 : Int), .int .u16 (pa0 : Int), .int .u32 (ib0 : Int), .int .u16 (pb0 : Int)], .agg #[.int .u32 (ia1 : Int), .int .u16 (pa1 : Int), .int .u32 (ib1 : Int), .int .u16 (pb1 : Int)]] w fun e w' => e = .returned (.bool true) ∧ Below w.heap.size w w' := by
  exact back_any ia0 pa0 ib0 pb0 ia1 pa1 ib1 pb1 w g0.1 g0.2.1 g0.2.2.1 g0.2.2.2 g1.1 g1.2.1 g1.2.2.1 g1.2.2.2 E

/-! The row's step. -/
theorem lifted (os : Os) (started : os.Started) (H : Type) (enc : TypeId × Value → H) :
    ReturnsInHanded {} Tryd.checked os 4 .any (fun w args => (Rows.tupleBackSpec.pre enc Tryd.prog Tryd.f4 [] false w args ∧ laidMetH Tryd.prog laidL w) ∧ sizedMet enc Tryd.prog Tryd.f4 (OpenSpec.ofChange Rows.tupleBackSpec) false w args) (Rows.tupleBackSpec.post enc Tryd.prog Tryd.f4 false true false false) := by
  refine laid_frame (C := Tryd.checked) (X := fun w => laidMetH Tryd.prog laidL w) (fun _ _ hh h => h.of_heap hh) own started (by kernel_rfl) Tryd.func4
    (ChangeSpec.witness_shaped (enc := enc) (C := Tryd.checked) (os := os) (X := fun w _ => laidMetH Tryd.prog laidL w) false (World.laidAll Tryd.prog os laidL) #[.agg #[.int .u32 0, .int .u16 0, .int .u32 0, .int .u16 0], .agg #[.int .u32 0, .int .u16 0, .int .u32 0, .int .u16 0]] 8 (World.laidAll_os _ _ _) (wit_shaped os _) (by kernel_rfl) (by kernel_rfl) (by kernel_rfl) (wit_met os _)) ?_
  intro W base args ds gs before hval0 hW hL hsh
  have hval : ∀ (j : Nat) t v, Tryd.f4.params[j]? = some t → args[j]? = some v → Value.okWide Tryd.prog W .any base t v := hval0
  rw [MakeChecks.laidMetH_plain _ _ _ (by kernel_rfl)] at hL
  have E : Env W := env_of hL hsh
  clear hL hsh
  have hW' := hW
  obtain ⟨p, q, hA0, hV, rfl, hfz, hnd⟩ := hW
  have hA : DataW.TrodAll enc Tryd.prog W 0 (fun _ => true) true Tryd.f4.params.toList args.toList ds p := hA0
  rw [Tryd.params4] at hA hval
  obtain ⟨v0, vs0, d0, ds0, p0, q0, hargs, rfl, rfl, h0, r0⟩ := trodAll_cons hA
  obtain ⟨v1, vs1, d1, ds1, p1, q1, rfl, rfl, rfl, h1, r1⟩ := trodAll_cons r0
  obtain ⟨rfl, rfl, rfl⟩ := trodAll_nil r1
  obtain rfl : args = #[v0, v1] := by cases args; simp_all
  obtain ⟨rfl, rfl⟩ := trodVars_none hV
  have k0 := h0
  have lt0 : ∀ x ∈ p0, x.block < W.heap.size := by obtain ⟨m, hm⟩ := k0; exact DataW.trod_lt m _ _ _ hm
  obtain ⟨ia0, pa0, ib0, pb0, rfl, g0⟩ := TupOpen.open_pair (hval 0 27 v0 rfl rfl) h0
  have k1 := h1
  have lt1 : ∀ x ∈ p1, x.block < W.heap.size := by obtain ⟨m, hm⟩ := k1; exact DataW.trod_lt m _ _ _ hm
  obtain ⟨ia1, pa1, ib1, pb1, rfl, g1⟩ := TupOpen.open_pair (hval 1 27 v1 rfl rfl) h1
  clear hA0 hval0
  refine (walk ia0 pa0 ib0 pb0 ia1 pa1 ib1 pb1 W g0 g1 E).mono fun e W' ⟨he, bel⟩ => ?_
  subst he
  exact ⟨_, rfl, _, _, _, [], _, [], hW', trodAll_mk1 (shut_bool Tryd.underlying4 _), (trodAll_cons_mk (Below.trod laidOut (by kernel_rfl) (of_decide_eq_true (by kernel_rfl)) k0 bel lt0) (trodAll_cons_mk (Below.trod laidOut (by kernel_rfl) (of_decide_eq_true (by kernel_rfl)) k1 bel lt1) trodAll_mk0)), rfl, bel.frame _, fun h => by cases h⟩

theorem over : Rows.tupleBackRow.holds Tryd.pinned (OpenSpec.ofChange Rows.tupleBackSpec) :=
  OpenClaim.holds_of_wide 4 Tryd.f4 rfl rfl rfl rfl rfl rfl rfl ⟨rfl, rfl, rfl, rfl, rfl⟩ rfl rfl rfl rfl rfl (by kernel_rfl) Tryd.func4 (by kernel_rfl)
    (of_decide_eq_true (by kernel_rfl)) (by unfold Func.isWrapper; first | (rw [if_pos (by decide +kernel)]; kernel_rfl) | (rw [if_neg (by decide +kernel)]; exact ⟨rfl, rfl⟩))
    (fun os started H enc _ => lifted os started H enc)

theorem named : Tryd.prog.funcNamed "transom/transomlaw04.TupleBack" = some 4 := by kernel_rfl
/-- The statement: the tied card. -/
theorem proved : Rows.TupleBackCardSaid :=
  Claim7.holds_tied_plain_at .later [] [.data, .data, .data, .data, .sentinel, .sentinel, .pinned] true (true, "88b9950bcc41bec6ad6926d4b92881b37622c8f7e5430e8879e9bbb896cda544") true over (fun _ h => by cases h) (by kernel_rfl) (fun _ h => by cases h) tupleBack_row_tie rfl ⟨rfl, rfl⟩ (by kernel_rfl) rfl
    (fun f fn hf hfn => by
      obtain rfl : f = 4 := (Option.some.inj (named.symm.trans hf)).symm
      obtain rfl : fn = Tryd.f4 := (Option.some.inj (Tryd.func4.symm.trans hfn)).symm
      exact ⟨by kernel_rfl, fun j t ht => by
        rw [Tryd.params4] at ht
        have hm : t ∈ [27, 27] := by simpa using Array.mem_of_getElem? ht
        have hall : ([27, 27].all fun u => !Tryd.prog.wantsStandIn u) = true := by kernel_rfl
        exact (show Tryd.prog.wantsStandIn t = false by simpa using List.all_eq_true.1 hall t hm)⟩)
    (by kernel_rfl)
#print axioms proved
end Go.Proofs.YtpphpnnehljekaaDoor.tupleBack
