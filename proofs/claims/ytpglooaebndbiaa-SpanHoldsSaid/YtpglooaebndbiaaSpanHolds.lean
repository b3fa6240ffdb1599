/-
  Proved: the statement 'Rows.SpanHoldsSaid': for every input the Go function transomlaw02.SpanHolds returns true, and each argument reads behind the call as it read before. Conditions: none of our own; those of the given row.
-/
import Derived.Test.YtpglooaebndbiaaRows
import Derived.Test.YtpglooaebndbiaaSpanOpen
import Derived.Test.YtpglooaebndbiaaBoolOpen
import Derived.Test.YtpglooaebndbiaaSpanAlive
import Derived.Test.YtpglooaebndbiaaSpanSet3
import Derived.Test.YtpglooaebndbiaaCalm
import Derived.Deep.DeepCutAuto
import Derived.Deep.LoopGhost
import Derived.WalkKit
import Derived.ProofKit
import Derived.OpenShut
import Derived.ShutString
import Derived.ChangeOld
import Derived.Below
namespace Go.Proofs.Ytpglooaebndbiaa.spanHolds
open Go.ChangeShapes Go.WideShapes Go.ChangeAt Go.RowKit
open Go.ChangeMaps (open_string shut_string)
open Go.Shelf SpanLay SpanPlain SpanPlain2 SpanSet SpanSet2 SpanSet3 SpanCalls SpanAt SpanAt2 SpanAt3 SpanAdd SpanCut SpanAlive BoolOpen
set_option linter.unusedVariables false

theorem own : ownKnob Try.prog.godebug = none := by kernel_rfl
theorem laidOut : laidOutB Try.prog = true := by kernel_rfl

def setL (K : List (Int × Int)) (p q : Int) (cb : Bool) : List (Int × Int) := if cb then cutI K p q else addI K p q
theorem bel_drewN {m n q : Nat} {X W : World} (hb : Below n (X.drewN q) W) (h : m ≤ n) : Below m X W := by
  have h' := hb.mono (B' := m) h
  exact ⟨h'.os, h'.tape, h'.output, h'.size, h'.block⟩
theorem setL_canon (K : List (Int × Int)) (p q : Int) (cb : Bool) : Canon (setL K p q cb) := by
  unfold setL
  split
  · exact cut_canon _ _ _
  · exact add_canon _ _ _
theorem setL_len (K : List (Int × Int)) (p q : Int) (cb : Bool) : (setL K p q cb).length ≤ K.length + 1 := by
  unfold setL
  split
  · exact cut_len _ _ _
  · exact add_len _ _ _
theorem setL_has (K : List (Int × Int)) (p q : Int) (cb : Bool) (v : Int) : hasB (setL K p q cb) v = if ofB p q v then !cb else hasB K v := by
  unfold setL
  cases cb
  · rw [if_neg (by simp), add_has]
    rcases ofB p q v with _ | _ <;> simp
  · rw [if_pos rfl, cut_has]
    rcases ofB p q v with _ | _ <;> simp
theorem set_good {K N K' : List (Int × Int)} {p q er : Int} (hm : mayB K = true) (hpq : ¬ q < p) (hl : N.length ≤ 256) (h : SetIs K p q N er K') : er = 0 ∧ K' = N := by
  have hr : refI K p q = 0 := by unfold refI; rw [hm, if_pos rfl, if_neg hpq]
  obtain ⟨h1, h2⟩ := h
  unfold listE at h1
  unfold listL at h2
  rw [hr, if_pos rfl, if_neg (by omega)] at h1 h2
  exact ⟨h1, h2⟩
theorem set_bad {K N K' : List (Int × Int)} {p q er : Int} (hm : mayB K = true) (hpq : q < p) (h : SetIs K p q N er K') : er = 2 ∧ K' = [] := by
  have hr : refI K p q = 2 := by unfold refI; rw [hm, if_pos rfl, if_pos hpq]
  obtain ⟨h1, h2⟩ := h
  unfold listE at h1
  unfold listL at h2
  rw [hr, if_neg (by decide)] at h1 h2
  exact ⟨h1, h2⟩

/-! The walk: the Go text returns true, and writes nothing that was there. -/
set_option maxRecDepth 100000 in
set_option maxHeartbeats 8000000 in
theorem walk (A0 : Option Addr) (n0 : Nat) (c0 : Nat) (L0 : List (Int × Int)) (A1 : Option Addr) (n1 : Nat) (c1 : Nat) (L1 : List Bool) (a2 : Int) (w : World) (s0 : SpanLay.SpR w w.heap.size A0 n0 L0) (m0 : n0 ≤ maxLen) (g0 : ∀ s ∈ L0, SpanLay.Fit s) (s1 : BoolOpen.BlR w w.heap.size A1 n1 L1) (m1 : n1 ≤ maxLen) (w2 : (Lit.int .u64 a2).wf = true) :
    Calls Try.prog 9 #[.slice A0 n0 c0, .slice A1 n1 c1, .int .u64 a2] w fun e w' => e = .returned (.bool true) ∧ Below w.heap.size w w' := by
  unfold maxLen at m0 m1
  have S0 := Lib.hid s0
  have S1 := Lib.hid s1
  clear s0 s1
  by_cases h120 : 120 < n0
  · go_enter Try.func9, Try.ntmps9
    go_wp2_with fail
    refine (alive_any _).mono ?_
    rintro e w' ⟨rfl, hb⟩
    have HB := Lib.hid hb
    clear hb
    go_wp2_with fail
    go_ret
    exact ⟨rfl, HB.out⟩
  · go_enter Try.func9, Try.ntmps9
    go_wp2_with fail
    go_loopg [7, 8, 9] n0 (fun g s d i wr => ∃ k : Nat, k ≤ n0 ∧ g = n0 - k ∧ i = .int .i64 k ∧ (∃ A m c K, s = .slice A m c ∧ SpR wr wr.heap.size A m K ∧ Canon K ∧ K.length ≤ k ∧ d = .bool (hasB K a2)) ∧ Below w.heap.size w wr)
    case atStart => exact ⟨0, Nat.zero_le _, rfl, rfl, ⟨none, 0, 0, [], rfl, SpR.nil _ _ _, canon_nil, Nat.le_refl _, rfl⟩, Below.refl _ _⟩
    case round =>
      obtain ⟨k, hk, hg, rfl, ⟨A, m, c, K, rfl, hr, hcan, hlen, rfl⟩, hbw⟩ := hrel
      have HG := Lib.hid hg
      have HR := Lib.hid hr
      have HC := Lib.hid hcan
      have HB := Lib.hid hbw
      have hsz : w.heap.size ≤ wr.heap.size := hbw.size
      have hmk : m ≤ k := by have := hr.len; omega
      have hmay : mayB K = true := may_of hcan (by omega)
      have HM := Lib.hid hmay
      obtain ⟨hb0, hhb⟩ : ∃ b, hasB K a2 = b := ⟨_, rfl⟩
      rw [hhb]
      have HH := Lib.hid hhb
      clear hg hr hcan hbw hmay hhb
      by_cases hlt : k < n0
      · obtain ⟨b, off, rfl, hb, hc⟩ := S0.out.at_ hlt
        have hkl : k < L0.length := by have := S0.out.len; omega
        have hcw := hc k hkl
        generalize L0[k] = x at hcw
        obtain ⟨p, q⟩ := x
        have HW := Lib.hid hcw
        have hc1 : wr.cell? ⟨b, off + k * 2, none⟩ = some (.int .u64 p) := (HB.out.cell (p := ⟨b, off + k * 2, none⟩) hb).trans hcw.1
        have hc2 : wr.cell? ⟨b, off + k * 2 + 1, none⟩ = some (.int .u64 q) := (HB.out.cell (p := ⟨b, off + k * 2 + 1, none⟩) hb).trans hcw.2
        clear hc hcw
        go_upto_region 9 with (fail)
        go_cut [11] (fun d wx => ∃ cb, d = .bool cb ∧ wx = wr)
        case first =>
          by_cases hlt1 : k < n1
          · obtain ⟨b1, off1, rfl, hb1, hc3⟩ := (S1.out.below HB.out).at_ hlt1
            have hkl1 : k < L1.length := by have := S1.out.len; omega
            have hc4 := hc3 k hkl1
            generalize L1[k] = cb at hc4
            clear hc3
            go_wp2
            go_meet
            exact ⟨cb, rfl, rfl⟩
          · go_wp2
            go_meet
            exact ⟨false, rfl, rfl⟩
        case rest =>
          obtain ⟨cb, rfl, rfl⟩ := hcut
          go_upto_if 32 with (fail)
          go_cut [7, 10] (fun s e wx => ∃ A2 m2 c2 er K2, s = .slice A2 m2 c2 ∧ e = .int .i64 er ∧ SetIs K p q (setL K p q cb) er K2 ∧ SpR wx wx.heap.size A2 m2 K2 ∧ Below w.heap.size w wx)
          case first =>
            rcases cb with _ | _
            · go_wp2_with fail
              refine (add_any A m c K p q _ (by exact HR.out) (by omega)).mono ?_
              rintro e w1 ⟨A2, m2, c2, er, K2, rfl, hs2, hr2, hb2⟩
              have HS2 := Lib.hid hs2
              have HR2 := Lib.hid hr2
              have HB2 := Lib.hid (HB.out.trans (hb2.mono hsz))
              clear hs2 hr2 hb2
              go_wp2_with fail
              go_meet
              exact ⟨A2, m2, c2, er, K2, rfl, rfl, HS2.out, HR2.out, HB2.out⟩
            · go_wp2_with fail
              refine (cut_any A m c K p q _ (by exact HR.out) (by omega)).mono ?_
              rintro e w1 ⟨A2, m2, c2, er, K2, rfl, hs2, hr2, hb2⟩
              have HS2 := Lib.hid hs2
              have HR2 := Lib.hid hr2
              have HB2 := Lib.hid (HB.out.trans (hb2.mono hsz))
              clear hs2 hr2 hb2
              go_wp2_with fail
              go_meet
              exact ⟨A2, m2, c2, er, K2, rfl, rfl, HS2.out, HR2.out, HB2.out⟩
          case rest =>
            obtain ⟨A2, m2, c2, er, K2, rfl, rfl, hs2, hr2, hb2⟩ := hcut
            have HR2 := Lib.hid hr2
            have HB2 := Lib.hid hb2
            have hd1 : wc.cell? ⟨b, off + k * 2, none⟩ = some (.int .u64 p) := (hb2.cell (p := ⟨b, off + k * 2, none⟩) hb).trans HW.out.1
            have hd2 : wc.cell? ⟨b, off + k * 2 + 1, none⟩ = some (.int .u64 q) := (hb2.cell (p := ⟨b, off + k * 2 + 1, none⟩) hb).trans HW.out.2
            have hszc : w.heap.size ≤ wc.heap.size := hb2.size
            clear hc1 hc2 hr2 hb2
            by_cases hpq : q < p
            · obtain ⟨rfl, rfl⟩ := set_bad HM.out hpq hs2
              obtain rfl : m2 = 0 := HR2.out.len
              clear hs2
              go_wp2
              go_quiet (fail)
              go_wp2_with fail
              refine (alive_any _).mono ?_
              rintro e w' ⟨rfl, hb3⟩
              have HB3 := Lib.hid (HB2.out.trans (bel_drewN hb3 hszc))
              clear hb3
              go_wp2_with fail
              go_ret
              exact ⟨rfl, HB3.out⟩
            · have hl2 := setL_len K p q cb
              obtain ⟨rfl, rfl⟩ := set_good HM.out hpq (by omega) hs2
              have hcan2 := setL_canon K p q cb
              have hmy2 := may_of hcan2 (by omega)
              obtain ⟨N, hN⟩ : ∃ N, setL K p q cb = N := ⟨_, rfl⟩
              have hh2 := setL_has K p q cb a2
              rw [HH.out] at hh2
              rw [hN] at hmy2 hcan2 hl2 hh2
              have HR3 := HR2.out
              rw [hN] at HR3
              have HN := Lib.hid HR3
              have HMY := Lib.hid hmy2
              have HCN := Lib.hid hcan2
              have HHH := Lib.hid hh2
              have hm2 : m2 ≤ k + 1 := by have := HR3.len; omega
              clear hs2 hmy2 hcan2 HR3 hN hh2
              go_wp2
              go_quiet (fail)
              go_wp2_with fail
              refine (may_any A2 m2 c2 N _ (by exact HN.out) (by omega)).mono ?_
              rintro e w3 ⟨he, hb3⟩
              rw [HMY.out] at he
              subst he
              have HB3 := Lib.hid (HB2.out.trans (bel_drewN hb3 hszc))
              have HN3 := Lib.hid (HN.out.below (bel_drewN hb3 (Nat.le_refl _)) |>.mono (show wc.heap.size ≤ w3.heap.size from hb3.size))
              have hd3 : w3.cell? ⟨b, off + k * 2, none⟩ = some (.int .u64 p) := (HB3.out.cell (p := ⟨b, off + k * 2, none⟩) hb).trans HW.out.1
              have hd4 : w3.cell? ⟨b, off + k * 2 + 1, none⟩ = some (.int .u64 q) := (HB3.out.cell (p := ⟨b, off + k * 2 + 1, none⟩) hb).trans HW.out.2
              have hsz3 : w.heap.size ≤ w3.heap.size := HB3.out.size
              clear hb3 hd1 hd2
              go_upto_region 17 with (fail)
              go_cut [94] (fun d wx => d = .bool (ofB p q a2) ∧ wx = w3)
              case first =>
                by_cases h1 : p ≤ a2
                · by_cases h2 : a2 < q
                  · go_wp2
                    go_meet
                    exact ⟨by rw [ofB_iff.2 ⟨h1, h2⟩], rfl⟩
                  · go_wp2
                    go_meet
                    exact ⟨by rw [show ofB p q a2 = false from Bool.eq_false_iff.2 (fun h => by have := ofB_iff.1 h; omega)], rfl⟩
                · go_wp2
                  go_meet
                  exact ⟨by rw [show ofB p q a2 = false from Bool.eq_false_iff.2 (fun h => by have := ofB_iff.1 h; omega)], rfl⟩
              case rest =>
                obtain ⟨rfl, rfl⟩ := hcut
                obtain ⟨nb, hnb⟩ : ∃ nb, hasB N a2 = nb := ⟨_, rfl⟩
                have hcH := has_any A2 m2 c2 N a2 wc (by exact HN3.out) (by omega)
                have hat : (mayB N && atB N a2) = nb := by
                  rw [HMY.out, Bool.true_and, ← hnb]
                  exact atB_has N a2
                have hgap := gap_here HMY.out a2
                rw [hnb] at hgap
                obtain ⟨gv, hgv⟩ : ∃ gv, gapI N a2 = gv := ⟨_, rfl⟩
                rw [hgv] at hgap
                have hcG := fun w4 (h : Below wc.heap.size wc w4) => gap_any A2 m2 c2 N a2 w4 (by exact (HN3.out.below h).mono h.size) (by omega)
                rw [hgv] at hcG
                rw [hat] at hcH
                have CH := Lib.hid hcH
                have CG := Lib.hid hcG
                have hof := HHH.out
                rw [hnb] at hof
                have HNB := Lib.hid hnb
                obtain ⟨of, hofv⟩ : ∃ of, ofB p q a2 = of := ⟨_, rfl⟩
                rw [hofv] at hof ⊢
                have hgb : (gv == a2) = !nb := by
                  rw [← hgap]
                  rfl
                clear hcH hcG hat hgap hgv hnb hofv
                rcases of with _ | _
                · rw [if_neg (by simp)] at hof
                  subst hof
                  rcases nb with _ | _
                  all_goals
                    go_wp2_with fail
                    refine CH.out.mono ?_
                    rintro e w4 ⟨rfl, hb4⟩
                    have HB4 := Lib.hid hb4
                    clear hb4
                    go_wp2_with fail
                    refine (CG.out _ HB4.out).mono ?_
                    rintro e w5 ⟨rfl, hb5⟩
                    have HB5 := Lib.hid (HB4.out.trans (hb5.mono HB4.out.size))
                    clear hb5
                    go_wp2_with fail
                    go_roundg (n0 - (k + 1))
                    case measure => have := HG.out; omega
                    case rel => exact ⟨k + 1, by omega, rfl, by go_num, ⟨A2, m2, c2, N, rfl, (HN3.out.below HB5.out).mono HB5.out.size, HCN.out, by omega, by rw [HNB.out]⟩, HB3.out.trans (HB5.out.mono hsz3)⟩
                · rw [if_pos rfl] at hof
                  rcases cb with _ | _
                  all_goals
                    subst hof
                    go_wp2_with fail
                    refine CH.out.mono ?_
                    rintro e w4 ⟨rfl, hb4⟩
                    have HB4 := Lib.hid hb4
                    clear hb4
                    go_wp2_with fail
                    refine (CG.out _ HB4.out).mono ?_
                    rintro e w5 ⟨rfl, hb5⟩
                    have HB5 := Lib.hid (HB4.out.trans (hb5.mono HB4.out.size))
                    clear hb5
                    go_wp2_with fail
                    go_roundg (n0 - (k + 1))
                    case measure => have := HG.out; omega
                    case rel => exact ⟨k + 1, by omega, rfl, by go_num, ⟨A2, m2, c2, N, rfl, (HN3.out.below HB5.out).mono HB5.out.size, HCN.out, by omega, by rw [HNB.out]; rfl⟩, HB3.out.trans (HB5.out.mono hsz3)⟩
      · go_wp2_with fail
        refine (alive_any _).mono ?_
        rintro e w' ⟨rfl, hb⟩
        have HB2 := Lib.hid (HB.out.trans (hb.mono hsz))
        clear hb
        go_wp2_with fail
        go_ret
        exact ⟨rfl, HB2.out⟩

/-! The row's step, after the guide's own way. -/
set_option maxRecDepth 100000 in
theorem lifted (os : Os) (started : os.Started) (H : Type) (enc : TypeId × Value → H) :
    ReturnsInHanded {} Try.checked os 9 .any (Rows.spanHoldsSpec.pre6 enc Try.prog Try.f9 Rows.spanHoldsRow.domain false) (Rows.spanHoldsSpec.post enc Try.prog Try.f9 false true false false) := by
  refine returnsInHanded_of_change (C := Try.checked) own started (by kernel_rfl) Try.func9
    (ChangeSpec.witness6 (enc := enc) (C := Try.checked) false ⟨#[], #[.slice none 0 0, .slice none 0 0, .int .u64 0], []⟩ 8 (by kernel_rfl) (by kernel_rfl) (by kernel_rfl) (by kernel_rfl)) ?_
  intro W base args ds gs before hval0 hW hcnd _
  have hval : ∀ (j : Nat) t v, Try.f9.params[j]? = some t → args[j]? = some v → Value.okWide Try.prog W .any base t v := hval0
  have hW' := hW
  obtain ⟨p, q, hA0, hV, rfl, hfz, hnd⟩ := hW
  have hA : DataW.TrodAll enc Try.prog W 0 (fun _ => true) true Try.f9.params.toList args.toList ds p := hA0
  rw [Try.params9] at hA hval
  obtain ⟨v0, vs0, d0, ds0, p0, q0, hargs, rfl, rfl, h0, r0⟩ := trodAll_cons hA
  obtain ⟨v1, vs1, d1, ds1, p1, q1, rfl, rfl, rfl, h1, r1⟩ := trodAll_cons r0
  obtain ⟨v2, vs2, d2, ds2, p2, q2, rfl, rfl, rfl, h2, r2⟩ := trodAll_cons r1
  obtain ⟨rfl, rfl, rfl⟩ := trodAll_nil r2
  obtain rfl : args = #[v0, v1, v2] := by cases args; simp_all
  obtain ⟨rfl, rfl⟩ := trodVars_none hV
  have k0 := h0
  have lt0 : ∀ x ∈ p0, x.block < W.heap.size := by obtain ⟨m, hm⟩ := k0; exact DataW.trod_lt m _ _ _ hm
  obtain ⟨A0, n0, c0, rfl⟩ := okWide_slice Try.underlying33 (hval 0 33 v0 rfl rfl)
  obtain ⟨L0, s0, m0, g0⟩ : ∃ L, SpanLay.SpR W W.heap.size A0 n0 L ∧ n0 ≤ maxLen ∧ ∀ s ∈ L, SpanLay.Fit s := by obtain ⟨fuel, hf⟩ := h0; exact SpanOpen.open_spans (by simpa [Value.cells] using hf)
  have k1 := h1
  have lt1 : ∀ x ∈ p1, x.block < W.heap.size := by obtain ⟨m, hm⟩ := k1; exact DataW.trod_lt m _ _ _ hm
  obtain ⟨A1, n1, c1, rfl⟩ := okWide_slice Try.underlying48 (hval 1 48 v1 rfl rfl)
  obtain ⟨L1, s1, m1⟩ : ∃ L, BoolOpen.BlR W W.heap.size A1 n1 L ∧ n1 ≤ maxLen := by obtain ⟨fuel, hf⟩ := h1; exact BoolOpen.open_bools (by simpa [Value.cells] using hf)
  have k2 := h2
  have lt2 : ∀ x ∈ p2, x.block < W.heap.size := by obtain ⟨m, hm⟩ := k2; exact DataW.trod_lt m _ _ _ hm
  obtain ⟨a2, rfl, _, _, w2⟩ := open_int Try.underlying28 (hval 2 28 v2 rfl rfl) h2
  clear hA0 hval0
  refine (walk A0 n0 c0 L0 A1 n1 c1 L1 a2 W s0 m0 g0 s1 m1 w2).mono fun e W' ⟨he, bel⟩ => ?_
  subst he
  exact ⟨_, rfl, _, _, _, [], _, [], hW', trodAll_mk1 (shut_bool Try.underlying4 _), (trodAll_cons_mk (Below.trod laidOut (by kernel_rfl) (of_decide_eq_true (by kernel_rfl)) k0 bel lt0) (trodAll_cons_mk (Below.trod laidOut (by kernel_rfl) (of_decide_eq_true (by kernel_rfl)) k1 bel lt1) (trodAll_cons_mk (Below.trod laidOut (by kernel_rfl) (of_decide_eq_true (by kernel_rfl)) k2 bel lt2) trodAll_mk0))), rfl, bel.frame _, fun h => by cases h⟩

theorem over : Rows.spanHoldsRow.holds Try.pinned (OpenSpec.ofChange Rows.spanHoldsSpec) :=
  OpenClaim.holds_of_wide 9 Try.f9 rfl rfl rfl rfl rfl rfl rfl ⟨rfl, rfl, rfl, rfl, rfl⟩ rfl rfl rfl rfl rfl (by kernel_rfl) Try.func9 (by kernel_rfl)
    (of_decide_eq_true (by kernel_rfl)) (by unfold Func.isWrapper; first | (rw [if_pos (by decide +kernel)]; kernel_rfl) | (rw [if_neg (by decide +kernel)]; exact ⟨rfl, rfl⟩))
    (fun os started H enc _ => lifted os started H enc)

/-- The statement. -/
theorem proved : Rows.SpanHoldsSaid := over
#print axioms proved
end Go.Proofs.Ytpglooaebndbiaa.spanHolds
