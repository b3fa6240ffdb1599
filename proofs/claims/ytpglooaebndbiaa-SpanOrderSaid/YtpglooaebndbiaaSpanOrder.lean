/-
  Proved: the statement 'Rows.SpanOrderSaid': for every input the Go function transomlaw02.SpanOrder returns true, and each argument reads behind the call as it read before. Conditions: none of our own; those of the given row.
-/
import Derived.Test.YtpglooaebndbiaaRows
import Derived.Test.YtpglooaebndbiaaSpanOpen
import Derived.Test.YtpglooaebndbiaaSpanAlive
import Derived.Test.YtpglooaebndbiaaSpanSet4
import Derived.Test.YtpglooaebndbiaaCalm
import Derived.Deep.DeepCutAuto
import Derived.Deep.LoopGhost
import Derived.WalkKit
import Derived.ProofKit
import Derived.OpenShut
import Derived.ShutString
import Derived.ChangeOld
import Derived.Below
namespace Go.Proofs.Ytpglooaebndbiaa.spanOrder
open Go.ChangeShapes Go.WideShapes Go.ChangeAt Go.RowKit
open Go.ChangeMaps (open_string shut_string)
open Go.Shelf SpanLay SpanPlain SpanPlain2 SpanSet SpanSet2 SpanSet3 SpanSet4 SpanCalls SpanAt SpanAt2 SpanAt3 SpanAdd SpanCut SpanRef SpanRef3 SpanAlive Calm
set_option linter.unusedVariables false

theorem own : ownKnob Try.prog.godebug = none := by kernel_rfl
theorem laidOut : laidOutB Try.prog = true := by kernel_rfl

theorem set_good {K N K' : List (Int × Int)} {p q er : Int} (hm : mayB K = true) (hpq : ¬ q < p) (hl : N.length ≤ 256) (h : SetIs K p q N er K') : er = 0 ∧ K' = N := by
  have hr : refI K p q = 0 := by unfold refI; rw [hm, if_pos rfl, if_neg hpq]
  obtain ⟨h1, h2⟩ := h
  unfold listE at h1
  unfold listL at h2
  rw [hr, if_pos rfl, if_neg (by omega)] at h1 h2
  exact ⟨h1, h2⟩
theorem set_bad {K N K' : List (Int × Int)} {p q er : Int} (hm : mayB K = true) (hpq : q < p) (h : SetIs K p q N er K') : er = 2 ∧ K' = [] := by
  have hr : refI K p q = 2 := by unfold refI; rw [hm, if_pos rfl, if_pos hpq]
  obtain ⟨h1, h2⟩ := h
  unfold listE at h1
  unfold listL at h2
  rw [hr, if_neg (by decide)] at h1 h2
  exact ⟨h1, h2⟩
theorem sameB_self (L : List (Int × Int)) : sameB L L = true := decide_eq_true rfl
/-- The two spans that came in, each in a block of its own. -/
theorem boxes {w W : World} {x1 y1 x2 y2 : Int} {T : TypeId} (h : Below ((w.alloc (.cells #[.int .u64 x1, .int .u64 y1] T)).alloc (.cells #[.int .u64 x2, .int .u64 y2] T)).heap.size ((w.alloc (.cells #[.int .u64 x1, .int .u64 y1] T)).alloc (.cells #[.int .u64 x2, .int .u64 y2] T)) W) :
    W.cell? ⟨w.heap.size, 0, none⟩ = some (.int .u64 x1) ∧ W.cell? ⟨w.heap.size, 1, none⟩ = some (.int .u64 y1) ∧ W.cell? ⟨w.heap.size + 1, 0, none⟩ = some (.int .u64 x2) ∧ W.cell? ⟨w.heap.size + 1, 1, none⟩ = some (.int .u64 y2) := by
  refine ⟨(h.cell (p := ⟨w.heap.size, 0, none⟩) (by simp; omega)).trans (by simp), (h.cell (p := ⟨w.heap.size, 1, none⟩) (by simp; omega)).trans (by simp), (h.cell (p := ⟨w.heap.size + 1, 0, none⟩) (by simp)).trans (by simp), (h.cell (p := ⟨w.heap.size + 1, 1, none⟩) (by simp)).trans (by simp)⟩

/-! The walk: the Go text returns true, and writes nothing that was there. -/
set_option maxRecDepth 100000 in
set_option maxHeartbeats 8000000 in
theorem walk (A0 : Option Addr) (n0 : Nat) (c0 : Nat) (L0 : List (Int × Int)) (x1 : Int) (y1 : Int) (x2 : Int) (y2 : Int) (w : World) (s0 : SpanLay.SpR w w.heap.size A0 n0 L0) (m0 : n0 ≤ maxLen) (g0 : ∀ s ∈ L0, SpanLay.Fit s) (g1 : SpanLay.Fit (x1, y1)) (g2 : SpanLay.Fit (x2, y2)) :
    Calls Try.prog 10 #[.slice A0 n0 c0, .agg #[.int .u64 x1, .int .u64 y1], .agg #[.int .u64 x2, .int .u64 y2]] w fun e w' => e = .returned (.bool true) ∧ Below w.heap.size w w' := by
  unfold maxLen at m0
  have S0 := Lib.hid s0
  clear s0
  obtain ⟨w0, hw0⟩ : ∃ w0, (w.alloc (.cells #[.int .u64 x1, .int .u64 y1] 35)).alloc (.cells #[.int .u64 x2, .int .u64 y2] 35) = w0 := ⟨_, rfl⟩
  have HBX : Hid (∀ W, Below w0.heap.size w0 W → W.cell? ⟨w.heap.size, 0, none⟩ = some (.int .u64 x1) ∧ W.cell? ⟨w.heap.size, 1, none⟩ = some (.int .u64 y1) ∧ W.cell? ⟨w.heap.size + 1, 0, none⟩ = some (.int .u64 x2) ∧ W.cell? ⟨w.heap.size + 1, 1, none⟩ = some (.int .u64 y2)) := by
    subst hw0
    exact fun W h => boxes h
  have HWW : Hid (∀ W, Below w0.heap.size w0 W → Below w.heap.size w W) := by
    subst hw0
    exact fun W h => (((Below.refl _ w).alloc (Nat.le_refl _) _).alloc (by simp) _).trans (h.mono (by simp; omega))
  have H0 := Lib.hid hw0
  clear hw0
  by_cases h60 : 60 < n0
  · go_enter Try.func10, Try.ntmps10
    go_wp2_with fail
    rw [H0.out]
    refine (alive_any _).mono ?_
    rintro e w' ⟨rfl, hb⟩
    have HB := Lib.hid hb
    clear hb
    go_wp2_with fail
    go_ret
    exact ⟨rfl, HWW.out _ HB.out⟩
  · go_enter Try.func10, Try.ntmps10
    go_wp2_with fail
    rw [H0.out]
    go_loopg [7, 8] n0 (fun g s i wr => ∃ k : Nat, k ≤ n0 ∧ g = n0 - k ∧ i = .int .i64 k ∧ (∃ A m c K, s = .slice A m c ∧ SpR wr wr.heap.size A m K ∧ Canon K ∧ K.length ≤ k) ∧ Below w0.heap.size w0 wr)
    case atStart => exact ⟨0, Nat.zero_le _, rfl, rfl, ⟨none, 0, 0, [], rfl, SpR.nil _ _ _, canon_nil, Nat.le_refl _⟩, Below.refl _ _⟩
    case round =>
      obtain ⟨k, hk, hg, rfl, ⟨A, m, c, K, rfl, hr, hcan, hlen⟩, hbw⟩ := hrel
      have HG := Lib.hid hg
      have HR := Lib.hid hr
      have HC := Lib.hid hcan
      have HB := Lib.hid hbw
      have hmk : m ≤ k := by have := hr.len; omega
      have HM := Lib.hid (may_of hcan (by omega))
      clear hg hr hcan hbw
      by_cases hlt : k < n0
      · obtain ⟨b, off, rfl, hb, hc⟩ := S0.out.at_ hlt
        have hkl : k < L0.length := by have := S0.out.len; omega
        have hcw := hc k hkl
        generalize L0[k] = x at hcw
        obtain ⟨p, q⟩ := x
        have hc1 : wr.cell? ⟨b, off + k * 2, none⟩ = some (.int .u64 p) := ((HWW.out _ HB.out).cell (p := ⟨b, off + k * 2, none⟩) hb).trans hcw.1
        have hc2 : wr.cell? ⟨b, off + k * 2 + 1, none⟩ = some (.int .u64 q) := ((HWW.out _ HB.out).cell (p := ⟨b, off + k * 2 + 1, none⟩) hb).trans hcw.2
        clear hc hcw
        go_wp2_with fail
        refine (add_any A m c K p q _ (by exact HR.out) (by omega)).mono ?_
        rintro e w1 ⟨A2, m2, c2, er, K2, rfl, hs2, hr2, hb2⟩
        have HR2 := Lib.hid hr2
        have HB2 := Lib.hid (HB.out.trans (hb2.mono HB.out.size))
        have HRK := Lib.hid ((HR.out.below hb2).mono hb2.size)
        clear hr2 hb2
        by_cases hpq : q < p
        · obtain ⟨rfl, rfl⟩ := set_bad HM.out hpq hs2
          clear hs2
          go_wp2_with fail
          go_roundg (n0 - (k + 1))
          case measure => have := HG.out; omega
          case rel => exact ⟨k + 1, by omega, rfl, by go_num, ⟨A, m, c, K, rfl, HRK.out, HC.out, by omega⟩, HB2.out⟩
        · have hl2 := add_len K p q
          obtain ⟨rfl, rfl⟩ := set_good HM.out hpq (by omega) hs2
          have HN := Lib.hid (add_canon K p q)
          clear hs2
          go_wp2_with fail
          go_roundg (n0 - (k + 1))
          case measure => have := HG.out; omega
          case rel => exact ⟨k + 1, by omega, rfl, by go_num, ⟨A2, m2, c2, _, rfl, HR2.out, HN.out, by omega⟩, HB2.out⟩
      · obtain ⟨hx1, hy1, hx2, hy2⟩ := HBX.out _ HB.out
        have hk60 : k ≤ 60 := by omega
        by_cases hb1 : y1 < x1
        · go_wp2_with fail
          refine (alive_any _).mono ?_
          rintro e w' ⟨rfl, hb⟩
          have HB2 := Lib.hid (HB.out.trans (hb.mono HB.out.size))
          clear hb
          go_wp2_with fail
          go_ret
          exact ⟨rfl, HWW.out _ HB2.out⟩
        · by_cases hb2 : y2 < x2
          · go_wp2_with fail
            refine (alive_any _).mono ?_
            rintro e w' ⟨rfl, hb⟩
            have HB2 := Lib.hid (HB.out.trans (hb.mono HB.out.size))
            clear hb
            go_wp2_with fail
            go_ret
            exact ⟨rfl, HWW.out _ HB2.out⟩
          · go_wp2_with fail
            refine (add_any A m c K x1 y1 _ (by exact HR.out) (by omega)).mono ?_
            rintro e w1 ⟨Aa, ma, ca, era, Ka, rfl, hs, hra, hba⟩
            obtain ⟨rfl, rfl⟩ := set_good HM.out (by omega) (by have := add_len K x1 y1; omega) hs
            have Ra := Lib.hid hra
            have HBa := Lib.hid (HB.out.trans (hba.mono HB.out.size))
            have Rs := Lib.hid ((HR.out.below hba).mono hba.size)
            have Ma := Lib.hid (may_of (add_canon K x1 y1) (by have := add_len K x1 y1; omega))
            have hma : ma ≤ 10000000 := by have := hra.len; have := add_len K x1 y1; omega
            clear hs hra hba hx1 hy1 hx2 hy2
            obtain ⟨hx1, hy1, hx2, hy2⟩ := HBX.out _ HBa.out
            go_wp2_with fail
            refine (add_any Aa ma ca _ x2 y2 _ (by exact Ra.out) hma).mono ?_
            rintro e w2 ⟨Ab, mb, cb, erb, Kb, rfl, hs, hrb, hbb⟩
            obtain ⟨rfl, rfl⟩ := set_good Ma.out (by omega) (by have := add_len K x1 y1; have := add_len (addI K x1 y1) x2 y2; omega) hs
            have Rb := Lib.hid hrb
            have HBb := Lib.hid (HBa.out.trans (hbb.mono HBa.out.size))
            have Rs2 := Lib.hid ((Rs.out.below hbb).mono hbb.size)
            clear hs hrb hbb hx1 hy1 hx2 hy2
            obtain ⟨hx1, hy1, hx2, hy2⟩ := HBX.out _ HBb.out
            go_wp2_with fail
            refine (add_any A m c K x2 y2 _ (by exact Rs2.out) (by omega)).mono ?_
            rintro e w3 ⟨Ac, mc, cc, erc, Kc, rfl, hs, hrc, hbc⟩
            obtain ⟨rfl, rfl⟩ := set_good HM.out (by omega) (by have := add_len K x2 y2; omega) hs
            have Rc := Lib.hid hrc
            have HBc := Lib.hid (HBb.out.trans (hbc.mono HBb.out.size))
            have Rs3 := Lib.hid ((Rs2.out.below hbc).mono hbc.size)
            have Rb3 := Lib.hid ((Rb.out.below hbc).mono hbc.size)
            have Mc := Lib.hid (may_of (add_canon K x2 y2) (by have := add_len K x2 y2; omega))
            have hmc : mc ≤ 10000000 := by have := hrc.len; have := add_len K x2 y2; omega
            clear hs hrc hbc hx1 hy1 hx2 hy2
            obtain ⟨hx1, hy1, hx2, hy2⟩ := HBX.out _ HBc.out
            go_wp2_with fail
            refine (add_any Ac mc cc _ x1 y1 _ (by exact Rc.out) hmc).mono ?_
            rintro e w4 ⟨Ad, md, cd, erd, Kd, rfl, hs, hrd, hbd⟩
            obtain ⟨rfl, rfl⟩ := set_good Mc.out (by omega) (by have := add_len K x2 y2; have := add_len (addI K x2 y2) x1 y1; omega) hs
            rw [add_swap K x2 y2 x1 y1] at hrd
            have Rd := Lib.hid hrd
            have HBd := Lib.hid (HBc.out.trans (hbd.mono HBc.out.size))
            have Rs4 := Lib.hid ((Rs3.out.below hbd).mono hbd.size)
            have Rb4 := Lib.hid ((Rb3.out.below hbd).mono hbd.size)
            clear hs hrd hbd hx1 hy1 hx2 hy2
            obtain ⟨hx1, hy1, hx2, hy2⟩ := HBX.out _ HBd.out
            have hBlen : (addI (addI K x1 y1) x2 y2).length ≤ 62 := by have := add_len K x1 y1; have := add_len (addI K x1 y1) x2 y2; omega
            obtain ⟨B, hB⟩ : ∃ B, addI (addI K x1 y1) x2 y2 = B := ⟨_, rfl⟩
            have hhas : ∀ v, hasB B v = ((hasB K v || ofB x1 y1 v) || ofB x2 y2 v) := fun v => by rw [← hB, add_has, add_has]
            have hcanB : Canon B := by rw [← hB]; exact add_canon _ _ _
            have Rd' := Rd.out
            have Rb' := Rb4.out
            rw [hB] at hBlen Rd' Rb'
            have RD := Lib.hid Rd'
            have RB := Lib.hid Rb'
            have HHAS := Lib.hid hhas
            have CB := Lib.hid hcanB
            have MB := Lib.hid (may_of hcanB (by omega))
            have hmbn : mb ≤ 62 := by have := Rb'.len; omega
            have hmdn : md ≤ 62 := by have := Rd'.len; omega
            have v1 : coversB B x1 y1 = true := covers_of MB.out (by omega) fun v h1 h2 => by rw [HHAS.out, ofB_iff.2 ⟨h1, h2⟩]; simp
            have v2 : coversB B x2 y2 = true := covers_of MB.out (by omega) fun v h1 h2 => by rw [HHAS.out, ofB_iff.2 ⟨h1, h2⟩]; simp
            have V1 := Lib.hid v1
            have V2 := Lib.hid v2
            clear hB hhas hcanB Rd' Rb' v1 v2 Ra Rb Rc Rd Rs Rs2 Rs3 Rb3 Rb4
            go_wp2_with fail
            refine (same_ref Ab mb cb B Ad md cd B _ (by exact RB.out) (by exact RD.out) (by omega) (by omega)).mono ?_
            rintro e w5 ⟨he, q5, rfl⟩
            rw [sameB_self] at he
            subst he
            go_wp2_with fail
            refine (covers_any Ab mb cb B x1 y1 _ (by exact RB.out) (by omega)).mono ?_
            rintro e w6 ⟨he, hb6⟩
            rw [V1.out] at he
            subst he
            have HB6 := Lib.hid (HBd.out.trans ((below_drewN (Below.refl w4.heap.size w4) q5).trans hb6 |>.mono HBd.out.size))
            have Z6 := Lib.hid ((below_drewN (Below.refl w4.heap.size w4) q5).trans hb6)
            clear hb6 hx1 hy1 hx2 hy2
            obtain ⟨hx1, hy1, hx2, hy2⟩ := HBX.out _ HB6.out
            go_wp2_with fail
            refine (covers_any Ab mb cb B x2 y2 _ (by exact at_k RB.out Z6.out) (by omega)).mono ?_
            rintro e w7 ⟨he, hb7⟩
            rw [V2.out] at he
            subst he
            have Z7 := Lib.hid (Z6.out.trans (hb7.mono Z6.out.size))
            have HB7 := Lib.hid (HBd.out.trans (Z7.out.mono HBd.out.size))
            clear hb7 hx1 hy1 hx2 hy2
            go_wp2_with fail
            go_loopg [19] m (fun g i wr => ∃ j : Nat, j ≤ m ∧ g = m - j ∧ i = .int .i64 j ∧ Below w4.heap.size w4 wr)
            case atStart => exact ⟨0, Nat.zero_le _, rfl, rfl, Z7.out⟩
            case round =>
              obtain ⟨j, hj, hg, rfl, hbz⟩ := hrel
              have HG2 := Lib.hid hg
              have Z8 := Lib.hid hbz
              have HB8 := Lib.hid (HBd.out.trans (hbz.mono HBd.out.size))
              clear hg hbz
              obtain ⟨hx1, hy1, hx2, hy2⟩ := HBX.out _ HB8.out
              by_cases hjm : j < m
              · obtain ⟨bs, offs, rfl, hbs, hcs⟩ := Rs4.out.at_ hjm
                have hjl : j < K.length := by have := Rs4.out.len; omega
                have hcj := hcs j hjl
                have hcv : coversB B K[j].1 K[j].2 = true := covers_add MB.out HC.out (List.getElem_mem hjl) fun v hv => by rw [HHAS.out, hv]; rfl
                generalize K[j] = s at hcj hcv
                obtain ⟨p, q⟩ := s
                have HCV := Lib.hid hcv
                have hc1 := (Z8.out.cell (p := ⟨bs, offs + j * 2, none⟩) hbs).trans hcj.1
                have hc2 := (Z8.out.cell (p := ⟨bs, offs + j * 2 + 1, none⟩) hbs).trans hcj.2
                clear hcs hcj hcv
                go_wp2_with fail
                refine (covers_any Ab mb cb B p q _ (by exact at_k RB.out Z8.out) (by omega)).mono ?_
                rintro e w9 ⟨he, hb9⟩
                rw [HCV.out] at he
                subst he
                have Z9 := Lib.hid (Z8.out.trans (hb9.mono Z8.out.size))
                clear hb9
                go_wp2_with fail
                go_roundg (m - (j + 1))
                case measure => have := HG2.out; omega
                case rel => exact ⟨j + 1, by omega, rfl, by go_num, Z9.out⟩
              · go_wp2_with fail
                refine (cut_any Ab mb cb B x1 y1 _ (by exact at_k RB.out Z8.out) (by omega)).mono ?_
                rintro e w9 ⟨Ak, mk, ck, erk, Kk, rfl, hs, hrk, hbk⟩
                obtain ⟨rfl, rfl⟩ := set_good MB.out (by omega) (by have := cut_len B x1 y1; omega) hs
                have Rk := Lib.hid hrk
                have Z9 := Lib.hid (Z8.out.trans (hbk.mono Z8.out.size))
                have Mk := Lib.hid (may_of (cut_canon B x1 y1) (by have := cut_len B x1 y1; omega))
                have hmkn : mk ≤ 63 := by have := hrk.len; have := cut_len B x1 y1; omega
                have HB9 := Lib.hid (HBd.out.trans (Z9.out.mono HBd.out.size))
                clear hs hrk hbk hx1 hy1 hx2 hy2
                obtain ⟨hx1, hy1, hx2, hy2⟩ := HBX.out _ HB9.out
                go_wp2_with fail
                refine (add_any Ak mk ck _ x1 y1 _ (by exact Rk.out) (by omega)).mono ?_
                rintro e w10 ⟨Am, mm, cm, erm, Km, rfl, hs, hrm, hbm⟩
                obtain ⟨rfl, rfl⟩ := set_good Mk.out (by omega) (by have := cut_len B x1 y1; have := add_len (cutI B x1 y1) x1 y1; omega) hs
                have hof1 : ∀ v, ofB x1 y1 v = true → hasB B v = true := fun v hv => by rw [HHAS.out, hv]; simp
                rw [add_back CB.out hof1] at hrm
                have hlp := len_parts CB.out (by omega) (show x1 ≤ y1 by omega) hof1
                have hcn := fun h : x1 < y1 => cut_not (B := B) h
                have Rm := Lib.hid hrm
                have Rk2 := Lib.hid ((Rk.out.below hbm).mono hbm.size)
                have Z10 := Lib.hid (Z9.out.trans (hbm.mono Z9.out.size))
                have HB10 := Lib.hid (HBd.out.trans (Z10.out.mono HBd.out.size))
                have hmmn : mm ≤ 62 := by have := hrm.len; omega
                obtain ⟨Ck, hCk⟩ : ∃ Ck, cutI B x1 y1 = Ck := ⟨_, rfl⟩
                have Rk3 := Rk2.out
                have Mk3 := Mk.out
                rw [hCk] at hlp hcn Rk3 Mk3
                have RK := Lib.hid Rk3
                have RB10 := Lib.hid (at_k RB.out Z10.out)
                obtain ⟨hvk, hhk⟩ : ∃ b, (mayB Ck && atB Ck x1) = b := ⟨_, rfl⟩
                have hxk : x1 < y1 → hvk = false := fun h => by
                  rw [← hhk, Mk3, Bool.true_and]
                  exact (atB_has Ck x1).trans (hcn h)
                obtain ⟨lk, hlk⟩ : ∃ b, lenI Ck = b := ⟨_, rfl⟩
                obtain ⟨lb, hlb⟩ : ∃ b, lenI B = b := ⟨_, rfl⟩
                rw [hlk, hlb] at hlp
                have hx := fun i : Later w10.heap.size w10 => HBX.out i.w (HB10.out.trans (i.h.mono HB10.out.size))
                have hx1 : ∀ i : Later w10.heap.size w10, i.w.cell? ⟨w.heap.size, 0, none⟩ = some (.int .u64 x1) := fun i => (hx i).1
                have hy1 : ∀ i : Later w10.heap.size w10, i.w.cell? ⟨w.heap.size, 1, none⟩ = some (.int .u64 y1) := fun i => (hx i).2.1
                have e1 := fun i : Later w10.heap.size w10 => has_any Ak mk ck Ck x1 i.w (at_k RK.out i.h) (by omega)
                have e2 := fun i : Later w10.heap.size w10 => quiet_below (same_ref Am mm cm B Ab mb cb B i.w (at_k Rm.out i.h) (at_k RB10.out i.h) (by omega) (by omega))
                have e3 := fun i : Later w10.heap.size w10 => len_any Ak mk ck Ck i.w (at_k RK.out i.h) (by omega)
                have e4 := fun i : Later w10.heap.size w10 => len_any Ab mb cb B i.w (at_k RB10.out i.h) (by omega)
                rw [hhk] at e1
                rw [sameB_self] at e2
                rw [hlk] at e3
                rw [hlb] at e4
                have E1 := Lib.hid e1
                have E2 := Lib.hid e2
                have E3 := Lib.hid e3
                have E4 := Lib.hid e4
                obtain ⟨dd, hdd⟩ : ∃ dd, IntKind.u64.wrap (y1 - x1) = dd := ⟨_, rfl⟩
                have hll : IntKind.u64.wrap (lk + dd) = lb := by
                  rw [← hlp, ← hdd]
                  rfl
                have HDD := Lib.hid hdd
                have hnow : (hx : x1 < y1) → hvk = false := hxk
                clear e1 e2 e3 e4 hs hrm hbm hx hlp hhk hlk hlb Rk3 Mk3 hCk hcn hof1 Rk Rk2
                clear hnow
                go_wp2_with fail
                by_cases hlt1 : x1 < y1
                · obtain rfl := hxk hlt1
                  clear hxk
                  refine wp_region_later (n := w10.heap.size) w10 (Below.refl _ _) (by kernel_rfl) (by kernel_rfl) ?_
                  repeat (first | go_big_quiet_step ((first | (go_at_call 31; exact later_calls (Nat.le_refl _) _ (E1.out _)) | (go_at_call 30; exact later_calls (Nat.le_refl _) _ (E2.out _)) | (go_at_call_of 37 (Value.slice Ak mk ck); exact later_calls (Nat.le_refl _) _ (E3.out _)) | (go_at_call_of 37 (Value.slice Ab mb cb); exact later_calls (Nat.le_refl _) _ (E4.out _)) | (go_at_call 24; exact later_calls (Nat.le_refl _) _ (alive_any _)))) | quiet_step ((first | (go_at_call 31; exact later_calls (Nat.le_refl _) _ (E1.out _)) | (go_at_call 30; exact later_calls (Nat.le_refl _) _ (E2.out _)) | (go_at_call_of 37 (Value.slice Ak mk ck); exact later_calls (Nat.le_refl _) _ (E3.out _)) | (go_at_call_of 37 (Value.slice Ab mb cb); exact later_calls (Nat.le_refl _) _ (E4.out _)) | (go_at_call 24; exact later_calls (Nat.le_refl _) _ (alive_any _)))))
                  refine wpQuiet_nil ?_
                  rintro W ⟨⟨wj, hj⟩, rfl⟩
                  go_wp2
                  go_ret
                  exact ⟨rfl, HWW.out _ (HB10.out.trans (hj.mono HB10.out.size))⟩
                · have d1 : decide (x1 < y1) = false := decide_eq_false hlt1
                  clear hxk hlt1
                  refine wp_region_later (n := w10.heap.size) w10 (Below.refl _ _) (by kernel_rfl) (by kernel_rfl) ?_
                  repeat (first | go_big_quiet_step ((first | (go_at_call 31; exact later_calls (Nat.le_refl _) _ (E1.out _)) | (go_at_call 30; exact later_calls (Nat.le_refl _) _ (E2.out _)) | (go_at_call_of 37 (Value.slice Ak mk ck); exact later_calls (Nat.le_refl _) _ (E3.out _)) | (go_at_call_of 37 (Value.slice Ab mb cb); exact later_calls (Nat.le_refl _) _ (E4.out _)) | (go_at_call 24; exact later_calls (Nat.le_refl _) _ (alive_any _)))) | quiet_step ((first | (go_at_call 31; exact later_calls (Nat.le_refl _) _ (E1.out _)) | (go_at_call 30; exact later_calls (Nat.le_refl _) _ (E2.out _)) | (go_at_call_of 37 (Value.slice Ak mk ck); exact later_calls (Nat.le_refl _) _ (E3.out _)) | (go_at_call_of 37 (Value.slice Ab mb cb); exact later_calls (Nat.le_refl _) _ (E4.out _)) | (go_at_call 24; exact later_calls (Nat.le_refl _) _ (alive_any _)))))
                  refine wpQuiet_nil ?_
                  rintro W ⟨⟨wj, hj⟩, rfl⟩
                  go_wp2
                  go_ret
                  exact ⟨rfl, HWW.out _ (HB10.out.trans (hj.mono HB10.out.size))⟩

/-! The row's step, after the guide's own way. -/
set_option maxRecDepth 100000 in
theorem lifted (os : Os) (started : os.Started) (H : Type) (enc : TypeId × Value → H) :
    ReturnsInHanded {} Try.checked os 10 .any (Rows.spanOrderSpec.pre6 enc Try.prog Try.f10 Rows.spanOrderRow.domain false) (Rows.spanOrderSpec.post enc Try.prog Try.f10 false true false false) := by
  refine returnsInHanded_of_change (C := Try.checked) own started (by kernel_rfl) Try.func10
    (ChangeSpec.witness6 (enc := enc) (C := Try.checked) false ⟨#[], #[.slice none 0 0, .agg #[.int .u64 0, .int .u64 0], .agg #[.int .u64 0, .int .u64 0]], []⟩ 8 (by kernel_rfl) (by kernel_rfl) (by kernel_rfl) (by kernel_rfl)) ?_
  intro W base args ds gs before hval0 hW hcnd _
  have hval : ∀ (j : Nat) t v, Try.f10.params[j]? = some t → args[j]? = some v → Value.okWide Try.prog W .any base t v := hval0
  have hW' := hW
  obtain ⟨p, q, hA0, hV, rfl, hfz, hnd⟩ := hW
  have hA : DataW.TrodAll enc Try.prog W 0 (fun _ => true) true Try.f10.params.toList args.toList ds p := hA0
  rw [Try.params10] at hA hval
  obtain ⟨v0, vs0, d0, ds0, p0, q0, hargs, rfl, rfl, h0, r0⟩ := trodAll_cons hA
  obtain ⟨v1, vs1, d1, ds1, p1, q1, rfl, rfl, rfl, h1, r1⟩ := trodAll_cons r0
  obtain ⟨v2, vs2, d2, ds2, p2, q2, rfl, rfl, rfl, h2, r2⟩ := trodAll_cons r1
  obtain ⟨rfl, rfl, rfl⟩ := trodAll_nil r2
  obtain rfl : args = #[v0, v1, v2] := by cases args; simp_all
  obtain ⟨rfl, rfl⟩ := trodVars_none hV
  have k0 := h0
  have lt0 : ∀ x ∈ p0, x.block < W.heap.size := by obtain ⟨m, hm⟩ := k0; exact DataW.trod_lt m _ _ _ hm
  obtain ⟨A0, n0, c0, rfl⟩ := okWide_slice Try.underlying33 (hval 0 33 v0 rfl rfl)
  obtain ⟨L0, s0, m0, g0⟩ : ∃ L, SpanLay.SpR W W.heap.size A0 n0 L ∧ n0 ≤ maxLen ∧ ∀ s ∈ L, SpanLay.Fit s := by obtain ⟨fuel, hf⟩ := h0; exact SpanOpen.open_spans (by simpa [Value.cells] using hf)
  have k1 := h1
  have lt1 : ∀ x ∈ p1, x.block < W.heap.size := by obtain ⟨m, hm⟩ := k1; exact DataW.trod_lt m _ _ _ hm
  obtain ⟨x1, y1, rfl, g1⟩ := SpanOpen.open_span (hval 1 35 v1 rfl rfl) h1
  have k2 := h2
  have lt2 : ∀ x ∈ p2, x.block < W.heap.size := by obtain ⟨m, hm⟩ := k2; exact DataW.trod_lt m _ _ _ hm
  obtain ⟨x2, y2, rfl, g2⟩ := SpanOpen.open_span (hval 2 35 v2 rfl rfl) h2
  clear hA0 hval0
  refine (walk A0 n0 c0 L0 x1 y1 x2 y2 W s0 m0 g0 g1 g2).mono fun e W' ⟨he, bel⟩ => ?_
  subst he
  exact ⟨_, rfl, _, _, _, [], _, [], hW', trodAll_mk1 (shut_bool Try.underlying4 _), (trodAll_cons_mk (Below.trod laidOut (by kernel_rfl) (of_decide_eq_true (by kernel_rfl)) k0 bel lt0) (trodAll_cons_mk (Below.trod laidOut (by kernel_rfl) (of_decide_eq_true (by kernel_rfl)) k1 bel lt1) (trodAll_cons_mk (Below.trod laidOut (by kernel_rfl) (of_decide_eq_true (by kernel_rfl)) k2 bel lt2) trodAll_mk0))), rfl, bel.frame _, fun h => by cases h⟩

theorem over : Rows.spanOrderRow.holds Try.pinned (OpenSpec.ofChange Rows.spanOrderSpec) :=
  OpenClaim.holds_of_wide 10 Try.f10 rfl rfl rfl rfl rfl rfl rfl ⟨rfl, rfl, rfl, rfl, rfl⟩ rfl rfl rfl rfl rfl (by kernel_rfl) Try.func10 (by kernel_rfl)
    (of_decide_eq_true (by kernel_rfl)) (by unfold Func.isWrapper; first | (rw [if_pos (by decide +kernel)]; kernel_rfl) | (rw [if_neg (by decide +kernel)]; exact ⟨rfl, rfl⟩))
    (fun os started H enc _ => lifted os started H enc)

/-- The statement. -/
theorem proved : Rows.SpanOrderSaid := over
#print axioms proved
end Go.Proofs.Ytpglooaebndbiaa.spanOrder
