/-
  What the document's own answers of layer 2 come to: the list of the pieces between places.
-/
import Derived.Test.YtpglooaebndbiaaSpanRef
import Derived.Test.YtpglooaebndbiaaSpanRef5
import Derived.Test.YtpglooaebndbiaaSpanApp
import Derived.Test.YtpglooaebndbiaaSpanPlain2
import Derived.Deep.DeepCutAuto
import Derived.Deep.LoopGhost
import Derived.Deep.RegionLaw
import Derived.Deep.DeepMust
namespace Go.Proofs.Ytpglooaebndbiaa.SpanRef6
open Go.RowKit SpanLay SpanPlain SpanPlain2 SpanRef SpanRef5 SpanApp

set_option maxRecDepth 100000 in
set_option maxHeartbeats 4000000 in
theorem made_any (A : Option Addr) (n c : Nat) (L : List (Int × Int)) (x y : Int) (add : Bool) (w : World) (hr : SpR w w.heap.size A n L) (hm : n ≤ 100000000) :
    Calls Try.prog 46 #[.slice A n c, .agg #[.int .u64 x, .int .u64 y], .bool add] w (SpOut w (madeI L x y add)) := by
  have Hr := Lib.hid hr
  clear hr
  have hcon := ends_any A n c L x y (w.alloc (.cells #[.int .u64 x, .int .u64 y] 35)) ((Hr.out.keep fun b o h => World.cell?_alloc_lt _ _ _ h).mono (by simp)) hm
  have Hl := Lib.hid (endsI_len L x y)
  generalize hN : endsI L x y = N at hcon Hl
  have HN := Lib.hid hN
  clear hN
  have HC := Lib.hid hcon
  clear hcon
  go_enter Try.func46, Try.ntmps46
  go_wp2_with fail
  refine HC.out.mono ?_
  rintro e w1 ⟨A1, m1, c1, rfl, hr1, hb1⟩
  have hx1 : w1.cell? ⟨w.heap.size, 0, none⟩ = some (.int .u64 x) := (hb1.cell (p := ⟨w.heap.size, 0, none⟩) (by simp)).trans (by simp)
  have hy1 : w1.cell? ⟨w.heap.size, 1, none⟩ = some (.int .u64 y) := (hb1.cell (p := ⟨w.heap.size, 1, none⟩) (by simp)).trans (by simp)
  have hsz1 : w.heap.size < w1.heap.size := by have := hb1.size; simp at this; omega
  have HB1 := Lib.hid (((Below.refl _ w).alloc (Nat.le_refl _) _).trans (hb1.mono (by simp)))
  have H1 := Lib.hid hr1
  have hml : m1 ≤ 2 * n + 2 := by have := Hl.out; have := Hr.out.len; have := hr1.len; omega
  clear hr1 hb1 HC
  go_wp2_with fail
  go_loopg [8, 9] (m1 - 1) (fun g o i wr => ∃ k : Nat, k ≤ m1 - 1 ∧ g = m1 - 1 - k ∧ i = .int .i64 k ∧ (∃ A' j c', o = .slice A' j c' ∧ wr.ownsRow w1.heap.size 35 2 (.slice A' j c') j ((madeTo L x y add N k).flatMap encS)) ∧ Below w1.heap.size w1 wr)
  case atStart => exact ⟨0, Nat.zero_le _, by omega, rfl, ⟨none, 0, 0, rfl, World.ownsRow_nil _ _ _ _⟩, Below.refl _ _⟩
  case round =>
    obtain ⟨k, hk, hg, rfl, ⟨A', j, c', rfl, hown⟩, hbw⟩ := hrel
    have HG := Lib.hid hg
    have HO := Lib.hid hown
    have HB := Lib.hid hbw
    have hsz : w1.heap.size ≤ wr.heap.size := hbw.size
    have hx : wr.cell? ⟨w.heap.size, 0, none⟩ = some (.int .u64 x) := (hbw.cell (p := ⟨w.heap.size, 0, none⟩) hsz1).trans hx1
    have hy : wr.cell? ⟨w.heap.size, 1, none⟩ = some (.int .u64 y) := (hbw.cell (p := ⟨w.heap.size, 1, none⟩) hsz1).trans hy1
    have hj : j ≤ k := by have := HO.out.1; rw [encS_len] at this; have := madeTo_len L x y add N k; omega
    clear hg hown hbw hx1 hy1
    by_cases hlt : k + 1 < m1
    · obtain ⟨b, off, rfl, hb, hc⟩ := (H1.out.below HB.out).at_ hlt
      have hkl : k + 1 < N.length := by have := H1.out.len; omega
      have hc1 := hc k (by omega)
      have hc2 := hc (k + 1) (by omega)
      obtain ⟨a, ha⟩ : ∃ a, N[k] = a := ⟨_, rfl⟩
      obtain ⟨a2, ha2⟩ : ∃ a2, N[k + 1] = a2 := ⟨_, rfl⟩
      rw [ha] at hc1
      rw [ha2] at hc2
      have HA := Lib.hid ha
      have HA2 := Lib.hid ha2
      have HF := Lib.hid (HO.out)
      have hbn : b < wr.heap.size := by omega
      have hltI : (k : Int) + 1 < m1 := by omega
      clear ha ha2 hc
      go_upto_region 6 with (fail)
      go_cut [10] (fun o wx => ∃ of : Bool, o = .bool of ∧ ofB x y a = of ∧ ∃ q, wx = wr.drewN q)
      case first =>
        by_cases h1 : x ≤ a
        · by_cases h2 : a < y
          · go_quiet (fail)
            go_wp2
            go_meet
            exact ⟨true, rfl, by simp [ofB, h1, h2], _, rfl⟩
          · go_quiet (fail)
            go_wp2
            go_meet
            exact ⟨false, rfl, by simp [ofB, h2], _, rfl⟩
        · have d1 : decide (x ≤ a) = false := decide_eq_false h1
          go_quiet (fail)
          go_wp2
          go_meet
          exact ⟨false, rfl, by unfold ofB; rw [d1]; rfl, _, rfl⟩
      case rest =>
        obtain ⟨of, rfl, hof, q1, rfl⟩ := hcut
        have hcon := has_ref A n c L a (wr.drewN q1) ((Hr.out.below (HB1.out.trans (HB.out.mono (by omega)))).mono (by have := HB1.out.size; simp; omega)) (by omega)
        obtain ⟨pc, hpc⟩ : ∃ pc, pieceB L x y add a = pc := ⟨_, rfl⟩
        have HPC := Lib.hid hpc
        unfold pieceB at hpc
        rw [hof] at hpc
        generalize hasB L a = hb at hcon hpc
        have HQ := Lib.hid hpc
        have HC := Lib.hid hcon
        clear hof hpc hcon
        go_upto_region 7 with (fail)
        go_cut [56] (fun s wx => s = .bool (!pc) ∧ ∃ q, wx = wr.drewN q)
        case first =>
          rcases hb with _ | _ <;> rcases add with _ | _ <;> rcases of with _ | _
          all_goals
            go_wp2_with (go_at_call 32; refine HC.out.mono ?_; rintro e w' ⟨rfl, rfl⟩)
            go_meet
            exact ⟨by rw [← HQ.out]; rfl, _, rfl⟩
        case rest =>
          obtain ⟨rfl, q2, rfl⟩ := hcut
          clear HQ HC
          rcases pc with _ | _
          · go_wp2
            go_roundg (m1 - 1 - (k + 1))
            case measure => have := HG.out; omega
            case rel => exact ⟨k + 1, by omega, rfl, by go_num, ⟨_, _, _, rfl, by rw [made_skip (by omega) HA.out HPC.out]; exact HO.out⟩, below_drewN HB.out _⟩
          · obtain ⟨Lo, hLo⟩ : ∃ Lo, madeTo L x y add N k = Lo := ⟨_, rfl⟩
            have HO' := HO.out
            rw [hLo] at HO'
            rcases nil_or_snoc Lo with rfl | ⟨M, ⟨s, t⟩, rfl⟩
            · obtain rfl : j = 0 := by have := HO'.1; simp at this; omega
              have HLO := Lib.hid hLo
              have HO2 := Lib.hid HO'
              clear hLo HO'
              go_wp2
              go_quiet (fail)
              go_wp2
              have hltN : k < m1 := by omega
              have hsum1 : IntKind.i64.wrap ((k : Int) + 1) = (k : Int) + 1 := IntWalk.i64_in _ (by omega)
              have hsum2 : 0 ≤ (k : Int) + 1 := by omega
              have hsum3 : ((k : Int) + 1).toNat = k + 1 := by omega
              go_region_law (refine stp_span _ rfl (.tmp 85) (.tmp 96) rfl w1.heap.size _ 0 [] rfl (HO2.out.alloc _) a a2 _ rfl (heap_alloc_new _ _) (by simp; omega) (by omega) ?_; intro A2 c2 w2 h2 hb2; have H2 := Lib.hid h2; have HB2 := Lib.hid hb2; clear h2 hb2)
              all_goals clear hsum1 hsum2 hsum3
              all_goals go_wp2
              all_goals
                go_roundg (m1 - 1 - (k + 1))
                case measure => have := HG.out; omega
                case rel => exact ⟨k + 1, by omega, rfl, by go_num, ⟨_, _, _, rfl, by rw [made_first (by omega) HA.out HA2.out HPC.out HLO.out, HLO.out]; exact H2.out⟩, (below_drewN HB.out _).trans (((Below.refl _ _).alloc (by simp; omega) _).trans HB2.out)⟩
            · obtain rfl : j = M.length + 1 := by have := HO'.1; rw [encS_len] at this; simp at this; omega
              obtain ⟨g, rfl, hg1, hg2, hgc, hgf⟩ := own_at HO' (by omega)
              have hl1 : wr.cell? ⟨g, M.length * 2 + 1, none⟩ = some (.int .u64 t) := by
                have e := (encS_at (M ++ [(s, t)]) M.length (by simp)).2
                rw [List.getElem_concat_length (by rfl)] at e
                have := hgc _ _ e
                rwa [Nat.zero_add] at this
              have hl2 : wr.frozen? ⟨g, M.length * 2 + 1, none⟩ = false := hgf _
              have hlenI : (0 : Int) < (M.length : Int) + 1 := by omega
              have d0 : decide ((0 : Int) < (M.length : Int) + 1) = true := decide_eq_true hlenI
              have hmlt : (M.length : Int) < (M.length : Int) + 1 := by omega
              have HLO := Lib.hid hLo
              have HO2 := Lib.hid HO'
              have hML : M.length ≤ 1000000000 := by omega
              clear hLo HO' hgc hgf
              by_cases hta : t = a
              · subst hta
                go_wp2
                go_quiet (fail)
                go_wp2
                go_roundg (m1 - 1 - (k + 1))
                case measure => have := HG.out; omega
                case rel => exact ⟨k + 1, by omega, rfl, by go_num, ⟨_, _, _, rfl, by rw [made_join (s := (s, t)) (by omega) HA.out HA2.out HPC.out HLO.out rfl, ← encS_last M s t a2]; exact (HO2.out.stored _ _).1⟩, (below_drewN HB.out _).setCell (by exact hg1) _⟩
              · have hta' : (t == a) = false := by simpa using hta
                have HTA := Lib.hid hta
                clear hta
                go_wp2
                go_quiet (fail)
                go_wp2
                have hltN : k < m1 := by omega
                have hsum1 : IntKind.i64.wrap ((k : Int) + 1) = (k : Int) + 1 := IntWalk.i64_in _ (by omega)
                have hsum2 : 0 ≤ (k : Int) + 1 := by omega
                have hsum3 : ((k : Int) + 1).toNat = k + 1 := by omega
                go_region_law (refine stp_span _ rfl (.tmp 85) (.tmp 96) rfl w1.heap.size _ (M.length + 1) (M ++ [(s, t)]) rfl (HO2.out.alloc _) a a2 _ rfl (heap_alloc_new _ _) (by simp; omega) (by omega) ?_; intro A2 c2 w2 h2 hb2; have H2 := Lib.hid h2; have HB2 := Lib.hid hb2; clear h2 hb2)
                all_goals clear hsum1 hsum2 hsum3
                all_goals go_wp2
                all_goals
                  go_roundg (m1 - 1 - (k + 1))
                  case measure => have := HG.out; omega
                  case rel => exact ⟨k + 1, by omega, rfl, by go_num, ⟨_, _, _, rfl, by rw [made_apart (s := (s, t)) (by omega) HA.out HA2.out HPC.out HLO.out HTA.out, HLO.out]; exact H2.out⟩, (below_drewN HB.out _).trans (((Below.refl _ _).alloc (by simp; omega) _).trans HB2.out)⟩
    · have hkm : k = m1 - 1 := by omega
      have HK := Lib.hid hkm
      clear hkm
      go_wp2
      go_ret
      exact ⟨_, _, _, rfl, by rw [made_end (k := k) HN.out (by have := HK.out; have := H1.out.len; omega)]; exact SpR.of_own HO.out, HB1.out.trans (HB.out.mono (by omega))⟩
end Go.Proofs.Ytpglooaebndbiaa.SpanRef6
