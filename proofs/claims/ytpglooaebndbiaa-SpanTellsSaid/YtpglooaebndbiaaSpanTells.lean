/-
  Proved: the statement 'Rows.SpanTellsSaid': for every input the Go function transomlaw02.SpanTells returns true, and each argument reads behind the call as it read before. Conditions: none of our own; those of the given row.
-/
import Derived.Test.YtpglooaebndbiaaRows
import Derived.Test.YtpglooaebndbiaaSpanOpen
import Derived.Test.YtpglooaebndbiaaSpanAlive
import Derived.Test.YtpglooaebndbiaaSpanRef2
import Derived.Test.YtpglooaebndbiaaCalm
import Derived.WalkKit
import Derived.ProofKit
import Derived.OpenShut
import Derived.ShutString
import Derived.ChangeOld
import Derived.Below
namespace Go.Proofs.Ytpglooaebndbiaa.spanTells
open Go.ChangeShapes Go.WideShapes Go.ChangeAt Go.RowKit
open Go.ChangeMaps (open_string shut_string)
open Go.Shelf SpanLay SpanPlain SpanPlain2 SpanSet SpanSet2 SpanCalls SpanAt SpanAt2 SpanAt3 SpanAdd SpanCut SpanRef SpanRef2 SpanRef3 SpanRefSet SpanAlive Calm
set_option linter.unusedVariables false

theorem own : ownKnob Try.prog.godebug = none := by kernel_rfl
theorem laidOut : laidOutB Try.prog = true := by kernel_rfl

theorem below_box {w W : World} {o : Obj} (h : Below (w.alloc o).heap.size (w.alloc o) W) : Below w.heap.size w W := ((Below.refl _ w).alloc (Nat.le_refl _) _).trans (h.mono (by simp))
theorem atB_has (L : List (Int × Int)) (x : Int) : atB L x = hasB L x := by
  unfold atB
  rcases first_hit L x with ⟨h1, h2⟩ | ⟨k, hk, h1, h2, _⟩
  · rw [h1]
    refine (Bool.eq_false_iff.2 fun h => ?_).symm
    obtain ⟨s, hs, h3, h4⟩ := hasB_iff.1 h
    obtain ⟨j, hj, rfl⟩ := List.mem_iff_getElem.1 hs
    have := h2 j hj
    simp [hitB, h3, h4] at this
  · rw [h1]
    simp only [hitB, Bool.and_eq_true, decide_eq_true_eq] at h2
    exact (hasB_true hk h2.1 h2.2).symm

/-! The walk: the Go text returns true, and writes nothing that was there. -/
set_option maxRecDepth 100000 in
set_option maxHeartbeats 4000000 in
theorem walk (A0 : Option Addr) (n0 : Nat) (c0 : Nat) (L0 : List (Int × Int)) (x1 : Int) (y1 : Int) (a2 : Int) (w : World) (s0 : SpanLay.SpR w w.heap.size A0 n0 L0) (m0 : n0 ≤ maxLen) (g0 : ∀ s ∈ L0, SpanLay.Fit s) (g1 : SpanLay.Fit (x1, y1)) (w2 : (Lit.int .u64 a2).wf = true) :
    Calls Try.prog 8 #[.slice A0 n0 c0, .agg #[.int .u64 x1, .int .u64 y1], .int .u64 a2] w fun e w' => e = .returned (.bool true) ∧ Below w.heap.size w w' := by
  unfold maxLen at m0
  have S0 := Lib.hid s0
  clear s0
  have hlong := fun W => long_any A0 n0 c0 W
  by_cases h300 : 300 < n0
  · rw [decide_eq_true h300] at hlong
    have HLO := Lib.hid hlong
    clear hlong
    go_enter Try.func8, Try.ntmps8
    go_wp2_with fail
    refine (HLO.out _).mono ?_
    rintro e w' ⟨rfl, rfl⟩
    go_wp2_with fail
    refine (alive_any _).mono ?_
    rintro e w' ⟨rfl, hb⟩
    have HB := Lib.hid hb
    clear hb
    go_wp2_with fail
    go_ret
    exact ⟨rfl, below_box HB.out⟩
  · rw [decide_eq_false h300] at hlong
    have HLO := Lib.hid hlong
    clear hlong
    have hin' : n0 ≤ 9223372036854775807 := by omega
    have X0 := Lib.hid ((S0.out.keep (w' := w.alloc (.cells #[.int .u64 x1, .int .u64 y1] 35)) fun b o h => World.cell?_alloc_lt _ _ _ h).mono (B' := (w.alloc (.cells #[.int .u64 x1, .int .u64 y1] 35)).heap.size) (by simp))
    obtain ⟨w0, hw0⟩ : ∃ w0, w.alloc (.cells #[.int .u64 x1, .int .u64 y1] 35) = w0 := ⟨_, rfl⟩
    have HX : Hid (∀ i : Later w0.heap.size w0, SpR i.w i.w.heap.size A0 n0 L0) := by
      subst hw0
      exact fun i => at_k X0.out i.h
    have hx : ∀ i : Later w0.heap.size w0, i.w.cell? ⟨w.heap.size, 0, none⟩ = some (.int .u64 x1) := by
      subst hw0
      exact fun i => (box_cells i.h (by simp)).1
    have hy : ∀ i : Later w0.heap.size w0, i.w.cell? ⟨w.heap.size, 1, none⟩ = some (.int .u64 y1) := by
      subst hw0
      exact fun i => (box_cells i.h (by simp)).2
    have H0 := Lib.hid hw0
    have HW : Hid (∀ W, Below w0.heap.size w0 W → Below w.heap.size w W) := by
      subst hw0
      exact fun W h => below_box h
    obtain ⟨mb, hmb⟩ : ∃ b, mayB L0 = b := ⟨_, rfl⟩
    obtain ⟨hv, hhv⟩ : ∃ b, hasB L0 a2 = b := ⟨_, rfl⟩
    obtain ⟨cv, hcv⟩ : ∃ b, coversB L0 x1 y1 = b := ⟨_, rfl⟩
    obtain ⟨gv, hgv⟩ : ∃ b, gapI L0 a2 = b := ⟨_, rfl⟩
    obtain ⟨lv, hlv⟩ : ∃ b, lenI L0 = b := ⟨_, rfl⟩
    have e1 := fun i : Later w0.heap.size w0 => has_any A0 n0 c0 L0 a2 i.w (HX.out i) hin'
    have e2 := fun i : Later w0.heap.size w0 => quiet_below (may_ref A0 n0 c0 L0 i.w (HX.out i) hin')
    have e3 := fun i : Later w0.heap.size w0 => same_below (has_ref A0 n0 c0 L0 a2 i.w (HX.out i) hin')
    have e4 := fun i : Later w0.heap.size w0 => covers_any A0 n0 c0 L0 x1 y1 i.w (HX.out i) hin'
    have e5 := fun i : Later w0.heap.size w0 => covers_ref A0 n0 c0 L0 x1 y1 i.w (HX.out i) hin'
    have e6 := fun i : Later w0.heap.size w0 => gap_any A0 n0 c0 L0 a2 i.w (HX.out i) hin'
    have e7 := fun i : Later w0.heap.size w0 => quiet_below (gap_ref A0 n0 c0 L0 a2 i.w (HX.out i) hin')
    have e8 := fun i : Later w0.heap.size w0 => len_any A0 n0 c0 L0 i.w (HX.out i) hin'
    have e9 := fun i : Later w0.heap.size w0 => quiet_below (len_ref A0 n0 c0 L0 i.w (HX.out i) hin')
    rw [hmb, atB_has, hhv] at e1
    rw [hmb] at e2
    rw [hhv] at e3
    rw [hcv] at e4 e5
    rw [hgv] at e6 e7
    rw [hlv] at e8 e9
    have E1 := Lib.hid e1
    have E2 := Lib.hid e2
    have E3 := Lib.hid e3
    have E4 := Lib.hid e4
    have E5 := Lib.hid e5
    have E6 := Lib.hid e6
    have E7 := Lib.hid e7
    have E8 := Lib.hid e8
    have E9 := Lib.hid e9
    clear e1 e2 e3 e4 e5 e6 e7 e8 e9 hmb hhv hcv hgv hlv hw0
    go_enter Try.func8, Try.ntmps8
    go_wp2_with fail
    refine (HLO.out _).mono ?_
    rintro e w' ⟨rfl, rfl⟩
    go_wp2_with fail
    rw [H0.out]
    rcases mb with _ | _ <;> rcases hv with _ | _
    all_goals
      refine wp_region_later (n := w0.heap.size) w0 (Below.refl _ _) (by kernel_rfl) (by kernel_rfl) ?_
      repeat (first | go_big_quiet_step ((first | (go_at_call 31; exact later_calls (Nat.le_refl _) _ (E1.out _)) | (go_at_call 29; exact later_calls (Nat.le_refl _) _ (E2.out _)) | (go_at_call 32; exact later_calls (Nat.le_refl _) _ (E3.out _)) | (go_at_call 33; exact later_calls (Nat.le_refl _) _ (E4.out _)) | (go_at_call 34; exact later_calls (Nat.le_refl _) _ (E5.out _)) | (go_at_call 35; exact later_calls (Nat.le_refl _) _ (E6.out _)) | (go_at_call 36; exact later_calls (Nat.le_refl _) _ (E7.out _)) | (go_at_call 37; exact later_calls (Nat.le_refl _) _ (E8.out _)) | (go_at_call 38; exact later_calls (Nat.le_refl _) _ (E9.out _)) | (go_at_call 24; exact later_calls (Nat.le_refl _) _ (alive_any _)))) | quiet_step ((first | (go_at_call 31; exact later_calls (Nat.le_refl _) _ (E1.out _)) | (go_at_call 29; exact later_calls (Nat.le_refl _) _ (E2.out _)) | (go_at_call 32; exact later_calls (Nat.le_refl _) _ (E3.out _)) | (go_at_call 33; exact later_calls (Nat.le_refl _) _ (E4.out _)) | (go_at_call 34; exact later_calls (Nat.le_refl _) _ (E5.out _)) | (go_at_call 35; exact later_calls (Nat.le_refl _) _ (E6.out _)) | (go_at_call 36; exact later_calls (Nat.le_refl _) _ (E7.out _)) | (go_at_call 37; exact later_calls (Nat.le_refl _) _ (E8.out _)) | (go_at_call 38; exact later_calls (Nat.le_refl _) _ (E9.out _)) | (go_at_call 24; exact later_calls (Nat.le_refl _) _ (alive_any _)))))
      refine wpQuiet_nil ?_
      rintro W ⟨⟨wj, hj⟩, rfl⟩
      go_wp2
      go_ret
      exact ⟨rfl, HW.out _ hj⟩

/-! The row's step, after the guide's own way. -/
set_option maxRecDepth 100000 in
theorem lifted (os : Os) (started : os.Started) (H : Type) (enc : TypeId × Value → H) :
    ReturnsInHanded {} Try.checked os 8 .any (Rows.spanTellsSpec.pre6 enc Try.prog Try.f8 Rows.spanTellsRow.domain false) (Rows.spanTellsSpec.post enc Try.prog Try.f8 false true false false) := by
  refine returnsInHanded_of_change (C := Try.checked) own started (by kernel_rfl) Try.func8
    (ChangeSpec.witness6 (enc := enc) (C := Try.checked) false ⟨#[], #[.slice none 0 0, .agg #[.int .u64 0, .int .u64 0], .int .u64 0], []⟩ 8 (by kernel_rfl) (by kernel_rfl) (by kernel_rfl) (by kernel_rfl)) ?_
  intro W base args ds gs before hval0 hW hcnd _
  have hval : ∀ (j : Nat) t v, Try.f8.params[j]? = some t → args[j]? = some v → Value.okWide Try.prog W .any base t v := hval0
  have hW' := hW
  obtain ⟨p, q, hA0, hV, rfl, hfz, hnd⟩ := hW
  have hA : DataW.TrodAll enc Try.prog W 0 (fun _ => true) true Try.f8.params.toList args.toList ds p := hA0
  rw [Try.params8] at hA hval
  obtain ⟨v0, vs0, d0, ds0, p0, q0, hargs, rfl, rfl, h0, r0⟩ := trodAll_cons hA
  obtain ⟨v1, vs1, d1, ds1, p1, q1, rfl, rfl, rfl, h1, r1⟩ := trodAll_cons r0
  obtain ⟨v2, vs2, d2, ds2, p2, q2, rfl, rfl, rfl, h2, r2⟩ := trodAll_cons r1
  obtain ⟨rfl, rfl, rfl⟩ := trodAll_nil r2
  obtain rfl : args = #[v0, v1, v2] := by cases args; simp_all
  obtain ⟨rfl, rfl⟩ := trodVars_none hV
  have k0 := h0
  have lt0 : ∀ x ∈ p0, x.block < W.heap.size := by obtain ⟨m, hm⟩ := k0; exact DataW.trod_lt m _ _ _ hm
  obtain ⟨A0, n0, c0, rfl⟩ := okWide_slice Try.underlying33 (hval 0 33 v0 rfl rfl)
  obtain ⟨L0, s0, m0, g0⟩ : ∃ L, SpanLay.SpR W W.heap.size A0 n0 L ∧ n0 ≤ maxLen ∧ ∀ s ∈ L, SpanLay.Fit s := by obtain ⟨fuel, hf⟩ := h0; exact SpanOpen.open_spans (by simpa [Value.cells] using hf)
  have k1 := h1
  have lt1 : ∀ x ∈ p1, x.block < W.heap.size := by obtain ⟨m, hm⟩ := k1; exact DataW.trod_lt m _ _ _ hm
  obtain ⟨x1, y1, rfl, g1⟩ := SpanOpen.open_span (hval 1 35 v1 rfl rfl) h1
  have k2 := h2
  have lt2 : ∀ x ∈ p2, x.block < W.heap.size := by obtain ⟨m, hm⟩ := k2; exact DataW.trod_lt m _ _ _ hm
  obtain ⟨a2, rfl, _, _, w2⟩ := open_int Try.underlying28 (hval 2 28 v2 rfl rfl) h2
  clear hA0 hval0
  refine (walk A0 n0 c0 L0 x1 y1 a2 W s0 m0 g0 g1 w2).mono fun e W' ⟨he, bel⟩ => ?_
  subst he
  exact ⟨_, rfl, _, _, _, [], _, [], hW', trodAll_mk1 (shut_bool Try.underlying4 _), (trodAll_cons_mk (Below.trod laidOut (by kernel_rfl) (of_decide_eq_true (by kernel_rfl)) k0 bel lt0) (trodAll_cons_mk (Below.trod laidOut (by kernel_rfl) (of_decide_eq_true (by kernel_rfl)) k1 bel lt1) (trodAll_cons_mk (Below.trod laidOut (by kernel_rfl) (of_decide_eq_true (by kernel_rfl)) k2 bel lt2) trodAll_mk0))), rfl, bel.frame _, fun h => by cases h⟩

theorem over : Rows.spanTellsRow.holds Try.pinned (OpenSpec.ofChange Rows.spanTellsSpec) :=
  OpenClaim.holds_of_wide 8 Try.f8 rfl rfl rfl rfl rfl rfl rfl ⟨rfl, rfl, rfl, rfl, rfl⟩ rfl rfl rfl rfl rfl (by kernel_rfl) Try.func8 (by kernel_rfl)
    (of_decide_eq_true (by kernel_rfl)) (by unfold Func.isWrapper; first | (rw [if_pos (by decide +kernel)]; kernel_rfl) | (rw [if_neg (by decide +kernel)]; exact ⟨rfl, rfl⟩))
    (fun os started H enc _ => lifted os started H enc)

/-- The statement. -/
theorem proved : Rows.SpanTellsSaid := over
#print axioms proved
end Go.Proofs.Ytpglooaebndbiaa.spanTells
