/-
  Proved: the statement 'Rows.SeqMovesSaid': for every input the Go function transomlaw01.SeqMoves returns true, and each argument reads behind the call as it read before. Conditions: none of our own; those of the given row.
-/
import Derived.Test.YtjjdjocjimnofaaRows
import Derived.Test.YtjjdjocjimnofaaSeqRef
import Derived.WalkKit
import Derived.ProofKit
import Derived.OpenShut
import Derived.ShutString
namespace Go.Proofs.Ytjjdjocjimnofaa.seqMoves
open Go.ChangeShapes Go.WideShapes Go.ChangeAt Go.RowKit
open Go.ChangeMaps (open_string shut_string)
set_option linter.unusedVariables false      -- a walk need not use every 'w<i>' (that an integer argument fits its kind)

theorem own : ownKnob Try.prog.godebug = none := by kernel_rfl

open SeqPlain SeqCalls SeqRef

/-! The walk: the Go text returns true. -/
set_option maxRecDepth 100000 in
theorem walk (a0 : Int) (a1 : Int) (a2 : Int) (a3 : Int) (w0 : (Lit.int .u32 a0).wf = true) (w1 : (Lit.int .u32 a1).wf = true) (w2 : (Lit.int .u32 a2).wf = true) (w3 : (Lit.int .u32 a3).wf = true) (w : World) :
    Calls Try.prog 5 #[.int .u32 a0, .int .u32 a1, .int .u32 a2, .int .u32 a3] w fun e w' => e = .returned (.bool true) ∧ Grown w w' := by
  have ⟨b0, b0'⟩ := bounds_u32 w0
  have ⟨b1, b1'⟩ := bounds_u32 w1
  have ⟨b2, b2'⟩ := bounds_u32 w2
  have ⟨b3, b3'⟩ := bounds_u32 w3
  have m1 : lessB ((a0 + a2) % 4294967296) ((a1 + a2) % 4294967296) = lessB a0 a1 := (lessB_mk (by rw [lessB_iff]; omega)).symm
  have m2 : subI ((a0 + a2) % 4294967296) ((a1 + a2) % 4294967296) = subI a0 a1 := by
    have e : ((a0 + a2) % 4294967296 - (a1 + a2) % 4294967296) % 4294967296 = (a0 - a1) % 4294967296 := by omega
    unfold subI; rw [e]
  have hb := subI_bd a0 a1
  have m3 : a0 + a2 - (a1 + a2) = a0 - a1 := by omega
  have s2 : (a1 + subI a0 a1) % 4294967296 = a0 := by unfold subI; split <;> omega
  have s3 : (a1 + subI a0 a1 % 4294967296) % 4294967296 = a0 := by unfold subI; split <;> omega
  rcases (by omega : a0 = a1 ∨ (0 < (a1 - a0) % 4294967296 ∧ (a1 - a0) % 4294967296 < 2147483648) ∨ (a1 - a0) % 4294967296 = 2147483648 ∨ 2147483648 < (a1 - a0) % 4294967296) with h | h | h | h
  · subst h
    have l1 : lessB a0 a0 = false := (lessB_mk (by simp)).symm
    have s1 : subI a0 a0 = 0 := by unfold subI; simp
    have hz : (a0 - a0) % 4294967296 = 0 := by omega
    go_enter Try.func5, Try.ntmps5
    go_wp2_with (first
      | (go_at_call 7; refine (less_any _ _ _).mono ?_; rintro e w' ⟨rfl, rfl⟩)
      | (go_at_call 9; refine (sub_any _ _ _).mono ?_; rintro e w' ⟨rfl, rfl⟩)
      | (go_at_call 11; refine (in_any _ _ _ _).mono ?_; rintro e w' ⟨rfl, rfl⟩)
      | (go_at_call 13; refine (max_any _ _ _).mono ?_; rintro e w' ⟨rfl, rfl⟩)
      | (go_at_call 15; refine (alive_any _).mono ?_; rintro e w' ⟨rfl, rfl⟩))
    go_ret
    exact ⟨ret_bool (by first | rfl | (simp; omega)), Grown.refl _⟩
  · have l1 : lessB a0 a1 = true := (lessB_mk (by simp; omega)).symm
    have l2 : lessB a1 a0 = false := (lessB_mk (by simp; omega)).symm
    have s1 : subI a0 a1 < 0 := by unfold subI; split <;> omega
    have h3 : (a0 == a1) = false := by rw [beq_eq_false_iff_ne]; intro e; subst e; omega
    have h3' : (a0 != a1) = true := by rw [bne_iff_ne]; intro e; subst e; omega
    have h4 : ((a0 - a1) % 4294967296 != 2147483648) = true := by rw [bne_iff_ne]; omega
    have h5 : ((a0 - a1) % 4294967296 == 2147483648) = false := by rw [beq_eq_false_iff_ne]; omega
    clear h
    go_enter Try.func5, Try.ntmps5
    go_wp2_with (first
      | (go_at_call 7; refine (less_any _ _ _).mono ?_; rintro e w' ⟨rfl, rfl⟩)
      | (go_at_call 9; refine (sub_any _ _ _).mono ?_; rintro e w' ⟨rfl, rfl⟩)
      | (go_at_call 11; refine (in_any _ _ _ _).mono ?_; rintro e w' ⟨rfl, rfl⟩)
      | (go_at_call 13; refine (max_any _ _ _).mono ?_; rintro e w' ⟨rfl, rfl⟩)
      | (go_at_call 15; refine (alive_any _).mono ?_; rintro e w' ⟨rfl, rfl⟩))
    go_ret
    exact ⟨ret_bool (by first | rfl | (simp; omega)), Grown.refl _⟩
  · have l1 : lessB a0 a1 = false := (lessB_mk (by simp; omega)).symm
    have l2 : lessB a1 a0 = false := (lessB_mk (by simp; omega)).symm
    have s1 : subI a0 a1 < 0 := by unfold subI; split <;> omega
    have h3 : (a0 == a1) = false := by rw [beq_eq_false_iff_ne]; intro e; subst e; omega
    have h3' : (a0 != a1) = true := by rw [bne_iff_ne]; intro e; subst e; omega
    have h4 : ((a0 - a1) % 4294967296 != 2147483648) = false := by rw [bne_eq_false_iff_eq]; omega
    have h5 : ((a0 - a1) % 4294967296 == 2147483648) = true := by rw [beq_iff_eq]; omega
    clear h
    go_enter Try.func5, Try.ntmps5
    go_wp2_with (first
      | (go_at_call 7; refine (less_any _ _ _).mono ?_; rintro e w' ⟨rfl, rfl⟩)
      | (go_at_call 9; refine (sub_any _ _ _).mono ?_; rintro e w' ⟨rfl, rfl⟩)
      | (go_at_call 11; refine (in_any _ _ _ _).mono ?_; rintro e w' ⟨rfl, rfl⟩)
      | (go_at_call 13; refine (max_any _ _ _).mono ?_; rintro e w' ⟨rfl, rfl⟩)
      | (go_at_call 15; refine (alive_any _).mono ?_; rintro e w' ⟨rfl, rfl⟩))
    go_ret
    exact ⟨ret_bool (by first | rfl | (simp; omega)), Grown.refl _⟩
  · have l1 : lessB a0 a1 = false := (lessB_mk (by simp; omega)).symm
    have l2 : lessB a1 a0 = true := (lessB_mk (by simp; omega)).symm
    have s1 : 0 < subI a0 a1 := by unfold subI; split <;> omega
    have h3 : (a0 == a1) = false := by rw [beq_eq_false_iff_ne]; intro e; subst e; omega
    have h3' : (a0 != a1) = true := by rw [bne_iff_ne]; intro e; subst e; omega
    have h4 : ((a0 - a1) % 4294967296 != 2147483648) = true := by rw [bne_iff_ne]; omega
    have h5 : ((a0 - a1) % 4294967296 == 2147483648) = false := by rw [beq_eq_false_iff_ne]; omega
    clear h
    go_enter Try.func5, Try.ntmps5
    go_wp2_with (first
      | (go_at_call 7; refine (less_any _ _ _).mono ?_; rintro e w' ⟨rfl, rfl⟩)
      | (go_at_call 9; refine (sub_any _ _ _).mono ?_; rintro e w' ⟨rfl, rfl⟩)
      | (go_at_call 11; refine (in_any _ _ _ _).mono ?_; rintro e w' ⟨rfl, rfl⟩)
      | (go_at_call 13; refine (max_any _ _ _).mono ?_; rintro e w' ⟨rfl, rfl⟩)
      | (go_at_call 15; refine (alive_any _).mono ?_; rintro e w' ⟨rfl, rfl⟩))
    go_ret
    exact ⟨ret_bool (by first | rfl | (simp; omega)), Grown.refl _⟩

/-! ### THE ROW's STEP: WRITTEN OUT: LEAVE IT -/
set_option maxRecDepth 100000 in
theorem lifted (os : Os) (started : os.Started) (H : Type) (enc : TypeId × Value → H) :
    ReturnsInHanded {} Try.checked os 5 .any (Rows.seqMovesSpec.pre6 enc Try.prog Try.f5 Rows.seqMovesRow.domain false) (Rows.seqMovesSpec.post enc Try.prog Try.f5 false true false false) := by
  refine returnsInHanded_of_change (C := Try.checked) own started (by kernel_rfl) Try.func5
    (ChangeSpec.witness6 (enc := enc) (C := Try.checked) false ⟨#[], #[.int .u32 0, .int .u32 0, .int .u32 0, .int .u32 0], []⟩ 8 (by kernel_rfl) (by kernel_rfl) (by kernel_rfl) (by kernel_rfl)) ?_
  intro W base args ds gs before hval0 hW hcnd _
  have hval : ∀ (j : Nat) t v, Try.f5.params[j]? = some t → args[j]? = some v → Value.okWide Try.prog W .any base t v := hval0
  have hW' := hW
  obtain ⟨p, q, hA0, hV, rfl, hfz, hnd⟩ := hW
  have hA : DataW.TrodAll enc Try.prog W 0 (fun _ => true) true Try.f5.params.toList args.toList ds p := hA0
  rw [Try.params5] at hA hval
  obtain ⟨v0, vs0, d0, ds0, p0, q0, hargs, rfl, rfl, h0, r0⟩ := trodAll_cons hA
  obtain ⟨v1, vs1, d1, ds1, p1, q1, rfl, rfl, rfl, h1, r1⟩ := trodAll_cons r0
  obtain ⟨v2, vs2, d2, ds2, p2, q2, rfl, rfl, rfl, h2, r2⟩ := trodAll_cons r1
  obtain ⟨v3, vs3, d3, ds3, p3, q3, rfl, rfl, rfl, h3, r3⟩ := trodAll_cons r2
  obtain ⟨rfl, rfl, rfl⟩ := trodAll_nil r3
  obtain rfl : args = #[v0, v1, v2, v3] := by cases args; simp_all
  obtain ⟨rfl, rfl⟩ := trodVars_none hV
  obtain ⟨a0, rfl, rfl, rfl, w0⟩ := open_int Try.underlying22 (hval 0 22 v0 rfl rfl) h0
  obtain ⟨a1, rfl, rfl, rfl, w1⟩ := open_int Try.underlying22 (hval 1 22 v1 rfl rfl) h1
  obtain ⟨a2, rfl, rfl, rfl, w2⟩ := open_int Try.underlying22 (hval 2 22 v2 rfl rfl) h2
  obtain ⟨a3, rfl, rfl, rfl, w3⟩ := open_int Try.underlying22 (hval 3 22 v3 rfl rfl) h3
  clear hA0 hval0
  simp only [List.append_nil] at hW'
  refine (walk a0 a1 a2 a3 w0 w1 w2 w3 W).mono fun e W' ⟨he, hg⟩ => ?_
  subst he
  exact ⟨_, rfl, post_of_same (pa := []) (pv := []) hW' (fun _ _ _ => (trodAll_cons_mk (shut_bool Try.underlying4 _) trodAll_mk0)) (fun sp _ => (trodAll_cons_mk (shut_int Try.underlying22 w0) (trodAll_cons_mk (shut_int Try.underlying22 w1) (trodAll_cons_mk (shut_int Try.underlying22 w2) (trodAll_cons_mk (shut_int Try.underlying22 w3) trodAll_mk0))))) (fun _ _ => rfl) rfl
    (hg.frame _) hg.2.1 (ok_one (by kernel_rfl) rfl (okWide_bool_mk Try.underlying4 _))⟩

theorem over : Rows.seqMovesRow.holds Try.pinned (OpenSpec.ofChange Rows.seqMovesSpec) :=
  OpenClaim.holds_of_wide 5 Try.f5 rfl rfl rfl rfl rfl rfl rfl ⟨rfl, rfl, rfl, rfl, rfl⟩ rfl rfl rfl rfl rfl (by kernel_rfl) Try.func5 (by kernel_rfl)
    (of_decide_eq_true (by kernel_rfl)) (by unfold Func.isWrapper; first | (rw [if_pos (by decide +kernel)]; kernel_rfl) | (rw [if_neg (by decide +kernel)]; exact ⟨rfl, rfl⟩))
    (fun os started H enc _ => lifted os started H enc)

/-- ████ THE STATEMENT ████ -/
theorem proved : Rows.SeqMovesSaid :=
  over
#print axioms proved
end Go.Proofs.Ytjjdjocjimnofaa.seqMoves
