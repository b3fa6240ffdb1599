/-
  Proved: the statement 'Rows.SpanSetsSaid': for every input the Go function transomlaw02.SpanSets returns true, and each argument reads behind the call as it read before. Conditions: none of our own; those of the given row.
-/
import Derived.Test.YtpglooaebndbiaaRows
import Derived.Test.YtpglooaebndbiaaSpanOpen
import Derived.Test.YtpglooaebndbiaaSpanAlive
import Derived.WalkKit
import Derived.ProofKit
import Derived.OpenShut
import Derived.ShutString
import Derived.ChangeOld
import Derived.Below
namespace Go.Proofs.Ytpglooaebndbiaa.spanSets
open Go.ChangeShapes Go.WideShapes Go.ChangeAt Go.RowKit
open Go.ChangeMaps (open_string shut_string)
open Go.Shelf SpanLay SpanPlain SpanPlain2 SpanSet SpanSet2 SpanCalls SpanAt SpanAdd SpanCut SpanRef SpanRef3 SpanRefSet SpanAlive
set_option linter.unusedVariables false

theorem own : ownKnob Try.prog.godebug = none := by kernel_rfl
theorem laidOut : laidOutB Try.prog = true := by kernel_rfl

theorem sameB_self (L : List (Int × Int)) : sameB L L = true := decide_eq_true rfl
theorem setIs_same {L K : List (Int × Int)} {x y er er' : Int} {K' K'' : List (Int × Int)} (h : SetIs L x y K er K') (h' : SetIs L x y K er' K'') : er = er' ∧ K' = K'' := ⟨h.1.trans h'.1.symm, h.2.trans h'.2.symm⟩
theorem below_box {w W : World} {o : Obj} (h : Below (w.alloc o).heap.size (w.alloc o) W) : Below w.heap.size w W := ((Below.refl _ w).alloc (Nat.le_refl _) _).trans (h.mono (by simp))

/-! The walk: the Go text returns true, and writes nothing that was there. -/
set_option maxRecDepth 100000 in
set_option maxHeartbeats 2000000 in
theorem walk (A0 : Option Addr) (n0 : Nat) (c0 : Nat) (L0 : List (Int × Int)) (x1 : Int) (y1 : Int) (w : World) (s0 : SpanLay.SpR w w.heap.size A0 n0 L0) (m0 : n0 ≤ maxLen) (g0 : ∀ s ∈ L0, SpanLay.Fit s) (g1 : SpanLay.Fit (x1, y1)) :
    Calls Try.prog 7 #[.slice A0 n0 c0, .agg #[.int .u64 x1, .int .u64 y1]] w fun e w' => e = .returned (.bool true) ∧ Below w.heap.size w w' := by
  unfold maxLen at m0
  have S0 := Lib.hid s0
  clear s0
  have hlong := fun W => long_any A0 n0 c0 W
  by_cases h300 : 300 < n0
  · rw [decide_eq_true h300] at hlong
    have HLO := Lib.hid hlong
    clear hlong
    go_enter Try.func7, Try.ntmps7
    go_wp2_with fail
    refine (HLO.out _).mono ?_
    rintro e w' ⟨rfl, rfl⟩
    go_wp2_with fail
    refine (alive_any _).mono ?_
    rintro e w' ⟨rfl, hb⟩
    have HB := Lib.hid hb
    clear hb
    go_wp2_with fail
    go_ret
    exact ⟨rfl, below_box HB.out⟩
  · rw [decide_eq_false h300] at hlong
    have HLO := Lib.hid hlong
    clear hlong
    have hin : n0 ≤ 10000000 := by omega
    have hin' : n0 ≤ 9223372036854775807 := by omega
    go_enter Try.func7, Try.ntmps7
    go_wp2_with fail
    refine (HLO.out _).mono ?_
    rintro e w' ⟨rfl, rfl⟩
    go_wp2_with fail
    have X0 := Lib.hid ((S0.out.keep (w' := w.alloc (.cells #[.int .u64 x1, .int .u64 y1] 35)) fun b o h => World.cell?_alloc_lt _ _ _ h).mono (B' := (w.alloc (.cells #[.int .u64 x1, .int .u64 y1] 35)).heap.size) (by simp))
    have Z0 := Lib.hid (Below.refl (w.alloc (.cells #[.int .u64 x1, .int .u64 y1] 35)).heap.size (w.alloc (.cells #[.int .u64 x1, .int .u64 y1] 35)))
    refine (add_any A0 n0 c0 L0 x1 y1 _ (by exact X0.out) hin).mono ?_
    rintro e w1 ⟨A1, n1, c1, er1, K1, rfl, hs1, hr1, hb1⟩
    have I1 := Lib.hid hs1
    have R1 := Lib.hid hr1
    have Z1 := Lib.hid hb1
    obtain ⟨hx, hy⟩ := box_cells hb1 (by simp)
    clear hs1 hr1 hb1
    go_wp2_with fail
    refine (set_any A0 n0 c0 L0 x1 y1 true _ (by exact at_k X0.out Z1.out) hin).mono ?_
    rintro e w2 ⟨A2, n2, c2, er2, K2, rfl, hs2, hr2, hb2⟩
    rw [made_add] at hs2
    obtain ⟨e12, k12⟩ := setIs_same I1.out hs2
    subst e12 k12
    have hk1 := setIs_len hs2
    have R2 := Lib.hid hr2
    have Z2 := Lib.hid (Z1.out.trans (hb2.mono Z1.out.size))
    have Y1 := Lib.hid hb2
    obtain ⟨hx, hy⟩ := box_cells Z2.out (by simp)
    clear hs2 hr2 hb2 I1
    go_wp2_with fail
    refine (cut_any A0 n0 c0 L0 x1 y1 _ (by exact at_k X0.out Z2.out) hin).mono ?_
    rintro e w3 ⟨A3, n3, c3, er3, K3, rfl, hs3, hr3, hb3⟩
    have I3 := Lib.hid hs3
    have R3 := Lib.hid hr3
    have Z3 := Lib.hid (Z2.out.trans (hb3.mono Z2.out.size))
    have Y2 := Lib.hid hb3
    obtain ⟨hx, hy⟩ := box_cells Z3.out (by simp)
    clear hs3 hr3 hb3
    go_wp2_with fail
    refine (set_any A0 n0 c0 L0 x1 y1 false _ (by exact at_k X0.out Z3.out) hin).mono ?_
    rintro e w4 ⟨A4, n4, c4, er4, K4, rfl, hs4, hr4, hb4⟩
    rw [made_cut] at hs4
    obtain ⟨e34, k34⟩ := setIs_same I3.out hs4
    subst e34 k34
    have hk3 := setIs_len hs4
    have R4 := Lib.hid hr4
    have Z4 := Lib.hid (Z3.out.trans (hb4.mono Z3.out.size))
    have Y3 := Lib.hid hb4
    clear hs4 hr4 hb4 I3
    have X4 := Lib.hid (at_k X0.out Z4.out)
    have Q1 := Lib.hid (at_k (at_k R1.out Y1.out) ((Y2.out).trans (Y3.out.mono Y2.out.size)))
    have Q2 := Lib.hid (at_k R2.out ((Y2.out).trans (Y3.out.mono Y2.out.size)))
    have Q3 := Lib.hid (at_k R3.out Y3.out)
    have hn1 : n1 ≤ 9223372036854775807 := by have := Q1.out.len; omega
    have hn2 : n2 ≤ 9223372036854775807 := by have := Q2.out.len; omega
    have hn3 : n3 ≤ 9223372036854775807 := by have := Q3.out.len; omega
    have hn4 : n4 ≤ 9223372036854775807 := by have := R4.out.len; omega
    go_wp2_with fail
    refine (may_any A0 n0 c0 L0 _ (by exact X4.out) hin').mono ?_
    rintro e w5 ⟨rfl, hb5⟩
    have V5 := Lib.hid hb5
    clear hb5
    go_wp2_with fail
    refine (may_ref A0 n0 c0 L0 _ (by exact at_k X4.out V5.out) hin').mono ?_
    rintro e w6 ⟨rfl, q6, rfl⟩
    have V6 := Lib.hid (below_drewN V5.out q6)
    generalize mayB L0 = mb
    have hmm : (mb == mb) = true := by simp
    go_wp2_with fail
    refine (same_ref A1 n1 c1 _ A2 n2 c2 _ _ (by exact at_k Q1.out V6.out) (by exact at_k Q2.out V6.out) hn1 hn2).mono ?_
    rintro e w7 ⟨he, q7, rfl⟩
    rw [sameB_self] at he
    subst he
    have V7 := Lib.hid (below_drewN V5.out (q6 + q7))
    go_wp2_with fail
    refine (same_ref A3 n3 c3 _ A4 n4 c4 _ _ (by exact at_k Q3.out V7.out) (by exact at_k R4.out V7.out) hn3 hn4).mono ?_
    rintro e w8 ⟨he, q8, rfl⟩
    rw [sameB_self] at he
    subst he
    have V8 := Lib.hid (below_drewN V5.out (q6 + q7 + q8))
    go_wp2_with fail
    refine (alive_any _).mono ?_
    rintro e w9 ⟨rfl, hb9⟩
    have V9 := Lib.hid (V8.out.trans (hb9.mono V8.out.size))
    clear hb9
    go_wp2_with fail
    go_ret
    exact ⟨rfl, below_box (Z4.out.trans (V9.out.mono Z4.out.size))⟩

/-! The row's step, after the guide's own way. -/
set_option maxRecDepth 100000 in
theorem lifted (os : Os) (started : os.Started) (H : Type) (enc : TypeId × Value → H) :
    ReturnsInHanded {} Try.checked os 7 .any (Rows.spanSetsSpec.pre6 enc Try.prog Try.f7 Rows.spanSetsRow.domain false) (Rows.spanSetsSpec.post enc Try.prog Try.f7 false true false false) := by
  refine returnsInHanded_of_change (C := Try.checked) own started (by kernel_rfl) Try.func7
    (ChangeSpec.witness6 (enc := enc) (C := Try.checked) false ⟨#[], #[.slice none 0 0, .agg #[.int .u64 0, .int .u64 0]], []⟩ 8 (by kernel_rfl) (by kernel_rfl) (by kernel_rfl) (by kernel_rfl)) ?_
  intro W base args ds gs before hval0 hW hcnd _
  have hval : ∀ (j : Nat) t v, Try.f7.params[j]? = some t → args[j]? = some v → Value.okWide Try.prog W .any base t v := hval0
  have hW' := hW
  obtain ⟨p, q, hA0, hV, rfl, hfz, hnd⟩ := hW
  have hA : DataW.TrodAll enc Try.prog W 0 (fun _ => true) true Try.f7.params.toList args.toList ds p := hA0
  rw [Try.params7] at hA hval
  obtain ⟨v0, vs0, d0, ds0, p0, q0, hargs, rfl, rfl, h0, r0⟩ := trodAll_cons hA
  obtain ⟨v1, vs1, d1, ds1, p1, q1, rfl, rfl, rfl, h1, r1⟩ := trodAll_cons r0
  obtain ⟨rfl, rfl, rfl⟩ := trodAll_nil r1
  obtain rfl : args = #[v0, v1] := by cases args; simp_all
  obtain ⟨rfl, rfl⟩ := trodVars_none hV
  have k0 := h0
  have lt0 : ∀ x ∈ p0, x.block < W.heap.size := by obtain ⟨m, hm⟩ := k0; exact DataW.trod_lt m _ _ _ hm
  obtain ⟨A0, n0, c0, rfl⟩ := okWide_slice Try.underlying33 (hval 0 33 v0 rfl rfl)
  obtain ⟨L0, s0, m0, g0⟩ : ∃ L, SpanLay.SpR W W.heap.size A0 n0 L ∧ n0 ≤ maxLen ∧ ∀ s ∈ L, SpanLay.Fit s := by obtain ⟨fuel, hf⟩ := h0; exact SpanOpen.open_spans (by simpa [Value.cells] using hf)
  have k1 := h1
  have lt1 : ∀ x ∈ p1, x.block < W.heap.size := by obtain ⟨m, hm⟩ := k1; exact DataW.trod_lt m _ _ _ hm
  obtain ⟨x1, y1, rfl, g1⟩ := SpanOpen.open_span (hval 1 35 v1 rfl rfl) h1
  clear hA0 hval0
  refine (walk A0 n0 c0 L0 x1 y1 W s0 m0 g0 g1).mono fun e W' ⟨he, bel⟩ => ?_
  subst he
  exact ⟨_, rfl, _, _, _, [], _, [], hW', trodAll_mk1 (shut_bool Try.underlying4 _), (trodAll_cons_mk (Below.trod laidOut (by kernel_rfl) (of_decide_eq_true (by kernel_rfl)) k0 bel lt0) (trodAll_cons_mk (Below.trod laidOut (by kernel_rfl) (of_decide_eq_true (by kernel_rfl)) k1 bel lt1) trodAll_mk0)), rfl, bel.frame _, fun h => by cases h⟩

theorem over : Rows.spanSetsRow.holds Try.pinned (OpenSpec.ofChange Rows.spanSetsSpec) :=
  OpenClaim.holds_of_wide 7 Try.f7 rfl rfl rfl rfl rfl rfl rfl ⟨rfl, rfl, rfl, rfl, rfl⟩ rfl rfl rfl rfl rfl (by kernel_rfl) Try.func7 (by kernel_rfl)
    (of_decide_eq_true (by kernel_rfl)) (by unfold Func.isWrapper; first | (rw [if_pos (by decide +kernel)]; kernel_rfl) | (rw [if_neg (by decide +kernel)]; exact ⟨rfl, rfl⟩))
    (fun os started H enc _ => lifted os started H enc)

/-- The statement. -/
theorem proved : Rows.SpanSetsSaid := over
#print axioms proved
end Go.Proofs.Ytpglooaebndbiaa.spanSets
