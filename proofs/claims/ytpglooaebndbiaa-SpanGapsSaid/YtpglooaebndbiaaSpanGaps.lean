/-
  Proved: the statement 'Rows.SpanGapsSaid': for every input the Go function transomlaw02.SpanGaps returns true, and each argument reads behind the call as it read before. Conditions: none of our own; those of the given row.
-/
import Derived.Test.YtpglooaebndbiaaRows
import Derived.Test.YtpglooaebndbiaaSpanOpen
import Derived.Test.YtpglooaebndbiaaSpanAlive
import Derived.Test.YtpglooaebndbiaaSpanSet4
import Derived.Test.YtpglooaebndbiaaCalm
import Derived.Deep.DeepCutAuto
import Derived.Deep.CutBlock
import Derived.Deep.LoopGhost
import Derived.WalkKit
import Derived.ProofKit
import Derived.OpenShut
import Derived.ShutString
import Derived.ChangeOld
import Derived.Below
namespace Go.Proofs.Ytpglooaebndbiaa.spanGaps
open Go.ChangeShapes Go.WideShapes Go.ChangeAt Go.RowKit
open Go.ChangeMaps (open_string shut_string)
open Go.Shelf SpanLay SpanPlain SpanPlain2 SpanSet SpanSet2 SpanSet3 SpanSet4 SpanCalls SpanAt SpanAt2 SpanAt3 SpanAdd SpanCut SpanRef SpanRef3 SpanAlive Calm
set_option linter.unusedVariables false

theorem own : ownKnob Try.prog.godebug = none := by kernel_rfl
theorem laidOut : laidOutB Try.prog = true := by kernel_rfl

theorem set_good {K N K' : List (Int × Int)} {p q er : Int} (hm : mayB K = true) (hpq : ¬ q < p) (hl : N.length ≤ 256) (h : SetIs K p q N er K') : er = 0 ∧ K' = N := by
  have hr : refI K p q = 0 := by unfold refI; rw [hm, if_pos rfl, if_neg hpq]
  obtain ⟨h1, h2⟩ := h
  unfold listE at h1
  unfold listL at h2
  rw [hr, if_pos rfl, if_neg (by omega)] at h1 h2
  exact ⟨h1, h2⟩
theorem set_bad {K N K' : List (Int × Int)} {p q er : Int} (hm : mayB K = true) (hpq : q < p) (h : SetIs K p q N er K') : er = 2 ∧ K' = [] := by
  have hr : refI K p q = 2 := by unfold refI; rw [hm, if_pos rfl, if_pos hpq]
  obtain ⟨h1, h2⟩ := h
  unfold listE at h1
  unfold listL at h2
  rw [hr, if_neg (by decide)] at h1 h2
  exact ⟨h1, h2⟩
/-- All numbers of the list lie in uint64's range, and the greatest lies in no span. -/
def InAll (K : List (Int × Int)) : Prop := ∀ v, hasB K v = true → 0 ≤ v ∧ v < 18446744073709551615
theorem inAll_nil : InAll [] := fun v h => by cases h
theorem inAll_add {K : List (Int × Int)} {p q : Int} (h : InAll K) (hf : Fit (p, q)) : InAll (addI K p q) := fun v hv => by
  rw [add_has, Bool.or_eq_true] at hv
  rcases hv with hv | hv
  · exact h v hv
  · obtain ⟨h1, h2⟩ := ofB_iff.1 hv
    obtain ⟨f1, f2, f3, f4⟩ := hf
    simp only at f1 f2 f3 f4
    omega
theorem has_at {K : List (Int × Int)} (hm : mayB K = true) (v : Int) : (mayB K && atB K v) = hasB K v := by
  rw [hm, Bool.true_and]
  exact atB_has K v
/-- What Gap finds: not below x, none of the list's, and all of the list's up to it. -/
theorem gap_facts {K : List (Int × Int)} (hm : mayB K = true) (x : Int) : x ≤ gapI K x ∧ hasB K (gapI K x) = false ∧ (x < gapI K x → coversB K x (gapI K x) = true) := by
  rcases first_hit K x with ⟨h1, h2⟩ | ⟨k, hk, h1, h2, h3⟩
  · have hn : hasB K x = false := by rw [← atB_has, h1]; rfl
    rw [gapI_none hm hn]
    exact ⟨Int.le_refl _, hn, fun h => absurd h (Int.lt_irrefl _)⟩
  · simp only [hitB, Bool.and_eq_true, decide_eq_true_eq] at h2
    have hg : gapI K x = K[k].2 := by
      unfold gapI
      rw [hm, h1]
      rfl
    rw [hg]
    refine ⟨by omega, ?_, fun _ => coversB_hit hm (by omega) hk h2.1 (Int.le_refl _)⟩
    have hc := (mayB_iff.1 hm).2
    rw [← Bool.not_eq_true, hasB_iff]
    rintro ⟨t, ht, h4, h5⟩
    obtain ⟨j, hj, rfl⟩ := List.mem_iff_getElem.1 ht
    rcases Nat.lt_trichotomy k j with hij | rfl | hij
    · have := List.pairwise_iff_getElem.1 hc.2 k j hk hj hij
      omega
    · omega
    · have := List.pairwise_iff_getElem.1 hc.2 j k hj hk hij
      have := hc.1 _ (List.getElem_mem hk)
      omega

/-! The walk: the Go text returns true, and writes nothing that was there. -/
set_option maxRecDepth 100000 in
set_option maxHeartbeats 8000000 in
theorem walk (A0 : Option Addr) (n0 : Nat) (c0 : Nat) (L0 : List (Int × Int)) (a1 : Int) (w : World) (s0 : SpanLay.SpR w w.heap.size A0 n0 L0) (m0 : n0 ≤ maxLen) (g0 : ∀ s ∈ L0, SpanLay.Fit s) (w1 : (Lit.int .u64 a1).wf = true) :
    Calls Try.prog 11 #[.slice A0 n0 c0, .int .u64 a1] w fun e w' => e = .returned (.bool true) ∧ Below w.heap.size w w' := by
  unfold maxLen at m0
  have S0 := Lib.hid s0
  have G0 := Lib.hid g0
  clear s0 g0
  have ha1 : 0 ≤ a1 := by have := w1; have h0 : IntKind.u64.min = 0 := rfl; simp [Lit.wf] at this; omega
  by_cases h60 : 60 < n0
  · go_enter Try.func11, Try.ntmps11
    go_wp2_with fail
    refine (alive_any _).mono ?_
    rintro e w' ⟨rfl, hb⟩
    have HB := Lib.hid hb
    clear hb
    go_wp2_with fail
    go_ret
    exact ⟨rfl, HB.out⟩
  · go_enter Try.func11, Try.ntmps11
    go_wp2_with fail
    go_loopg [5, 6] n0 (fun g s i wr => ∃ k : Nat, k ≤ n0 ∧ g = n0 - k ∧ i = .int .i64 k ∧ (∃ A m c K, s = .slice A m c ∧ SpR wr wr.heap.size A m K ∧ Canon K ∧ K.length ≤ k ∧ InAll K) ∧ Below w.heap.size w wr)
    case atStart => exact ⟨0, Nat.zero_le _, rfl, rfl, ⟨none, 0, 0, [], rfl, SpR.nil _ _ _, canon_nil, Nat.le_refl _, inAll_nil⟩, Below.refl _ _⟩
    case round =>
      obtain ⟨k, hk, hg, rfl, ⟨A, m, c, K, rfl, hr, hcan, hlen, hin⟩, hbw⟩ := hrel
      have HG := Lib.hid hg
      have HR := Lib.hid hr
      have HC := Lib.hid hcan
      have HB := Lib.hid hbw
      have HI := Lib.hid hin
      have hmk : m ≤ k := by have := hr.len; omega
      have HM := Lib.hid (may_of hcan (by omega))
      clear hg hr hcan hbw hin
      by_cases hlt : k < n0
      · obtain ⟨b, off, rfl, hb, hc⟩ := S0.out.at_ hlt
        have hkl : k < L0.length := by have := S0.out.len; omega
        have hcw := hc k hkl
        have HF := Lib.hid (G0.out _ (List.getElem_mem hkl))
        generalize L0[k] = x at hcw HF
        obtain ⟨p, q⟩ := x
        have hc1 : wr.cell? ⟨b, off + k * 2, none⟩ = some (.int .u64 p) := (HB.out.cell (p := ⟨b, off + k * 2, none⟩) hb).trans hcw.1
        have hc2 : wr.cell? ⟨b, off + k * 2 + 1, none⟩ = some (.int .u64 q) := (HB.out.cell (p := ⟨b, off + k * 2 + 1, none⟩) hb).trans hcw.2
        clear hc hcw
        go_wp2_with fail
        refine (add_any A m c K p q _ (by exact HR.out) (by omega)).mono ?_
        rintro e w1 ⟨A2, m2, c2, er, K2, rfl, hs2, hr2, hb2⟩
        have HR2 := Lib.hid hr2
        have HB2 := Lib.hid (HB.out.trans (hb2.mono HB.out.size))
        have HRK := Lib.hid ((HR.out.below hb2).mono hb2.size)
        clear hr2 hb2
        by_cases hpq : q < p
        · obtain ⟨rfl, rfl⟩ := set_bad HM.out hpq hs2
          clear hs2
          go_wp2_with fail
          go_roundg (n0 - (k + 1))
          case measure => have := HG.out; omega
          case rel => exact ⟨k + 1, by omega, rfl, by go_num, ⟨A, m, c, K, rfl, HRK.out, HC.out, by omega, HI.out⟩, HB2.out⟩
        · have hl2 := add_len K p q
          obtain ⟨rfl, rfl⟩ := set_good HM.out hpq (by omega) hs2
          have HN := Lib.hid (add_canon K p q)
          clear hs2
          go_wp2_with fail
          go_roundg (n0 - (k + 1))
          case measure => have := HG.out; omega
          case rel => exact ⟨k + 1, by omega, rfl, by go_num, ⟨A2, m2, c2, _, rfl, HR2.out, HN.out, by omega, inAll_add HI.out HF.out⟩, HB2.out⟩
      · go_wp2_with fail
        go_loopg [9, 10] (m + 1) (fun g nn i wz => ∃ j : Nat, j ≤ m + 1 ∧ g = m + 1 - j ∧ i = .int .i64 j ∧ (∃ nv : Int, nn = .int .u64 nv ∧ 0 ≤ nv) ∧ Below wr.heap.size wr wz)
        case atStart => exact ⟨0, Nat.zero_le _, rfl, rfl, ⟨a1, rfl, ha1⟩, Below.refl _ _⟩
        case round =>
          obtain ⟨j, hj, hg, rfl, ⟨nv, rfl, hnv⟩, hbz⟩ := hrel
          have HG2 := Lib.hid hg
          have HZ := Lib.hid hbz
          clear hg hbz
          have hmn : m ≤ 60 := by omega
          by_cases hjm : j ≤ m
          · go_wp2_with fail
            refine (gap_any A m c K nv _ (by exact at_k HR.out HZ.out) (by omega)).mono ?_
            rintro e w2 ⟨rfl, hb2⟩
            have Z2 := Lib.hid (HZ.out.trans (hb2.mono HZ.out.size))
            clear hb2
            obtain ⟨g1, g2, g3⟩ := gap_facts HM.out nv
            generalize gapI K nv = g at g1 g2 g3 ⊢
            have G2 := Lib.hid g2
            have G3 := Lib.hid g3
            clear g2 g3
            have hR2 := Lib.hid (at_k HR.out Z2.out)
            go_upto_region 15 with (fail)
            go_cut [66] (fun d wx => d = .bool false ∧ Below w2.heap.size w2 wx)
            case first =>
              by_cases hgn : nv < g
              · go_wp2_with fail
                refine (has_any A m c K g _ (by exact hR2.out) (by omega)).mono ?_
                rintro e w3 ⟨he, hb3⟩
                rw [has_at HM.out, G2.out] at he
                subst he
                have Z3 := Lib.hid hb3
                clear hb3
                go_wp2_with fail
                refine (covers_any A m c K nv g _ (by exact at_k hR2.out Z3.out) (by omega)).mono ?_
                rintro e w4 ⟨he, hb4⟩
                rw [G3.out hgn] at he
                subst he
                have Z4 := Lib.hid (Z3.out.trans (hb4.mono Z3.out.size))
                clear hb4
                go_wp2_with fail
                go_meet
                exact ⟨congrArg Value.bool (decide_eq_false (by omega)), Z4.out⟩
              · go_wp2_with fail
                refine (has_any A m c K g _ (by exact hR2.out) (by omega)).mono ?_
                rintro e w3 ⟨he, hb3⟩
                rw [has_at HM.out, G2.out] at he
                subst he
                have Z3 := Lib.hid hb3
                clear hb3
                go_wp2_with fail
                go_meet
                exact ⟨congrArg Value.bool (decide_eq_false (by omega)), Z3.out⟩
            case rest =>
              obtain ⟨rfl, hb3⟩ := hcut
              have Z3 := Lib.hid (Z2.out.trans (hb3.mono Z2.out.size))
              have hR3 := Lib.hid (at_k hR2.out hb3)
              clear hb3
              go_upto_block 4 with (fail)
              go_cut [12, 13] (fun d kk wx => (∃ nx : Int, d = .int .u64 nx ∧ (nx = g ∨ ∃ s ∈ K, nx = s.1 ∧ g < s.1)) ∧ Below wc.heap.size wc wx)
              case first =>
                go_wp2_with fail
                go_loopg [12, 13] m (fun gg d i wz => ∃ q : Nat, q ≤ m ∧ gg = m - q ∧ i = .int .i64 q ∧ d = .int .u64 g ∧ Below wc.heap.size wc wz)
                case atStart => exact ⟨0, Nat.zero_le _, rfl, rfl, rfl, Below.refl _ _⟩
                case round =>
                  obtain ⟨q, hq, hgg, rfl, rfl, hbq⟩ := hrel
                  have HGG := Lib.hid hgg
                  have HQ := Lib.hid hbq
                  clear hgg hbq
                  by_cases hqm : q < m
                  · obtain ⟨b, off, rfl, hb, hc⟩ := hR3.out.at_ hqm
                    have hql : q < K.length := by have := hR3.out.len; omega
                    have hcw := hc q hql
                    have hmem := List.getElem_mem hql
                    generalize K[q] = s at hcw hmem
                    obtain ⟨p1, p2⟩ := s
                    have hc1 := (HQ.out.cell (p := ⟨b, off + q * 2, none⟩) hb).trans hcw.1
                    clear hc hcw
                    by_cases hpg : g < p1
                    · go_wp2_with fail
                      go_meet
                      exact ⟨⟨p1, rfl, Or.inr ⟨(p1, p2), hmem, rfl, hpg⟩⟩, HQ.out⟩
                    · go_wp2_with fail
                      go_roundg (m - (q + 1))
                      case measure => have := HGG.out; omega
                      case rel => exact ⟨q + 1, by omega, rfl, by go_num, rfl, HQ.out⟩
                  · go_wp2_with fail
                    go_meet
                    exact ⟨⟨g, rfl, Or.inl rfl⟩, HQ.out⟩
              case rest =>
                obtain ⟨⟨nx, rfl, hnx⟩, hb4⟩ := hcut
                have Z4 := Lib.hid (Z3.out.trans (hb4.mono Z3.out.size))
                clear hb4
                have hR4 := Lib.hid (at_k HR.out Z4.out)
                rcases hnx with hnx | ⟨s, hs, hnx, hgs⟩
                · subst hnx
                  have hgm : gapI K 18446744073709551615 = 18446744073709551615 := gapI_none HM.out (Bool.eq_false_iff.2 fun h => by have := (HI.out _ h).2; omega)
                  have HGM := Lib.hid hgm
                  clear hgm
                  go_wp2_with fail
                  refine (gap_any A m c K 18446744073709551615 _ (by exact hR4.out) (by omega)).mono ?_
                  rintro e w5 ⟨he, hb5⟩
                  rw [HGM.out] at he
                  subst he
                  have Z5 := Lib.hid (Z4.out.trans (hb5.mono Z4.out.size))
                  clear hb5
                  go_wp2_with fail
                  refine (alive_any _).mono ?_
                  rintro e w6 ⟨rfl, hb6⟩
                  have Z6 := Lib.hid (Z5.out.trans (hb6.mono Z5.out.size))
                  clear hb6
                  go_wp2_with fail
                  go_ret
                  exact ⟨rfl, HB.out.trans (Z6.out.mono HB.out.size)⟩
                · obtain ⟨h1, h2⟩ := canon_rise HC.out hs
                  obtain ⟨h3, h4⟩ := HI.out _ h1
                  rw [← hnx] at h1 h2 h3 h4 hgs
                  clear hnx hs
                  have H1 := Lib.hid h1
                  have H2 := Lib.hid h2
                  clear h1 h2
                  have hne : (nx == g) = false := by simp; omega
                  have hwr : IntKind.u64.wrap (nx - 1) = nx - 1 := IntWalk.u64_in (nx - 1) ⟨by omega, by omega⟩
                  have h5 : 0 ≤ nx - 1 := by omega
                  go_wp2_with fail
                  refine (has_any A m c K (nx - 1) _ (by exact hR4.out) (by omega)).mono ?_
                  rintro e w5 ⟨he, hb5⟩
                  rw [has_at HM.out, H2.out] at he
                  subst he
                  have Z5 := Lib.hid (Z4.out.trans (hb5.mono Z4.out.size))
                  clear hb5
                  go_wp2_with fail
                  refine (has_any A m c K nx _ (by exact at_k HR.out Z5.out) (by omega)).mono ?_
                  rintro e w6 ⟨he, hb6⟩
                  rw [has_at HM.out, H1.out] at he
                  subst he
                  have Z6 := Lib.hid (Z5.out.trans (hb6.mono Z5.out.size))
                  clear hb6
                  go_wp2_with fail
                  go_roundg (m + 1 - (j + 1))
                  case measure => have := HG2.out; omega
                  case rel => exact ⟨j + 1, by omega, rfl, by go_num, ⟨nx, rfl, h3⟩, Z6.out⟩
          · go_wp2_with fail
            refine (alive_any _).mono ?_
            rintro e w6 ⟨rfl, hb6⟩
            have Z6 := Lib.hid (HZ.out.trans (hb6.mono HZ.out.size))
            clear hb6
            go_wp2_with fail
            go_ret
            exact ⟨rfl, HB.out.trans (Z6.out.mono HB.out.size)⟩

/-! The row's step, after the guide's own way. -/
set_option maxRecDepth 100000 in
theorem lifted (os : Os) (started : os.Started) (H : Type) (enc : TypeId × Value → H) :
    ReturnsInHanded {} Try.checked os 11 .any (Rows.spanGapsSpec.pre6 enc Try.prog Try.f11 Rows.spanGapsRow.domain false) (Rows.spanGapsSpec.post enc Try.prog Try.f11 false true false false) := by
  refine returnsInHanded_of_change (C := Try.checked) own started (by kernel_rfl) Try.func11
    (ChangeSpec.witness6 (enc := enc) (C := Try.checked) false ⟨#[], #[.slice none 0 0, .int .u64 0], []⟩ 8 (by kernel_rfl) (by kernel_rfl) (by kernel_rfl) (by kernel_rfl)) ?_
  intro W base args ds gs before hval0 hW hcnd _
  have hval : ∀ (j : Nat) t v, Try.f11.params[j]? = some t → args[j]? = some v → Value.okWide Try.prog W .any base t v := hval0
  have hW' := hW
  obtain ⟨p, q, hA0, hV, rfl, hfz, hnd⟩ := hW
  have hA : DataW.TrodAll enc Try.prog W 0 (fun _ => true) true Try.f11.params.toList args.toList ds p := hA0
  rw [Try.params11] at hA hval
  obtain ⟨v0, vs0, d0, ds0, p0, q0, hargs, rfl, rfl, h0, r0⟩ := trodAll_cons hA
  obtain ⟨v1, vs1, d1, ds1, p1, q1, rfl, rfl, rfl, h1, r1⟩ := trodAll_cons r0
  obtain ⟨rfl, rfl, rfl⟩ := trodAll_nil r1
  obtain rfl : args = #[v0, v1] := by cases args; simp_all
  obtain ⟨rfl, rfl⟩ := trodVars_none hV
  have k0 := h0
  have lt0 : ∀ x ∈ p0, x.block < W.heap.size := by obtain ⟨m, hm⟩ := k0; exact DataW.trod_lt m _ _ _ hm
  obtain ⟨A0, n0, c0, rfl⟩ := okWide_slice Try.underlying33 (hval 0 33 v0 rfl rfl)
  obtain ⟨L0, s0, m0, g0⟩ : ∃ L, SpanLay.SpR W W.heap.size A0 n0 L ∧ n0 ≤ maxLen ∧ ∀ s ∈ L, SpanLay.Fit s := by obtain ⟨fuel, hf⟩ := h0; exact SpanOpen.open_spans (by simpa [Value.cells] using hf)
  have k1 := h1
  have lt1 : ∀ x ∈ p1, x.block < W.heap.size := by obtain ⟨m, hm⟩ := k1; exact DataW.trod_lt m _ _ _ hm
  obtain ⟨a1, rfl, _, _, w1⟩ := open_int Try.underlying28 (hval 1 28 v1 rfl rfl) h1
  clear hA0 hval0
  refine (walk A0 n0 c0 L0 a1 W s0 m0 g0 w1).mono fun e W' ⟨he, bel⟩ => ?_
  subst he
  exact ⟨_, rfl, _, _, _, [], _, [], hW', trodAll_mk1 (shut_bool Try.underlying4 _), (trodAll_cons_mk (Below.trod laidOut (by kernel_rfl) (of_decide_eq_true (by kernel_rfl)) k0 bel lt0) (trodAll_cons_mk (Below.trod laidOut (by kernel_rfl) (of_decide_eq_true (by kernel_rfl)) k1 bel lt1) trodAll_mk0)), rfl, bel.frame _, fun h => by cases h⟩

theorem over : Rows.spanGapsRow.holds Try.pinned (OpenSpec.ofChange Rows.spanGapsSpec) :=
  OpenClaim.holds_of_wide 11 Try.f11 rfl rfl rfl rfl rfl rfl rfl ⟨rfl, rfl, rfl, rfl, rfl⟩ rfl rfl rfl rfl rfl (by kernel_rfl) Try.func11 (by kernel_rfl)
    (of_decide_eq_true (by kernel_rfl)) (by unfold Func.isWrapper; first | (rw [if_pos (by decide +kernel)]; kernel_rfl) | (rw [if_neg (by decide +kernel)]; exact ⟨rfl, rfl⟩))
    (fun os started H enc _ => lifted os started H enc)

/-- The statement. -/
theorem proved : Rows.SpanGapsSaid := over
#print axioms proved
end Go.Proofs.Ytpglooaebndbiaa.spanGaps
