/-
  What the functions of package span answer: a list without a span.
-/
import Derived.Test.YtpglooaebndbiaaSpanAdd
namespace Go.Proofs.Ytpglooaebndbiaa.SpanCut
open Go.Shelf Go.RowKit SpanLay SpanPlain SpanPlain2 SpanSort SpanSet SpanSet2 SpanApp SpanAt SpanJoin SpanCalls SpanAdd

theorem cutParts_take {L : List (Int × Int)} {x y : Int} {k : Nat} (hk : k < L.length) : cutParts (L.take (k + 1)) x y = cutParts (L.take k) x y ++ [(L[k].1, min L[k].2 x), (max L[k].1 y, L[k].2)] := by
  unfold cutParts
  rw [List.take_succ_eq_append_getElem hk, List.flatMap_append]
  rfl
theorem cutParts_len (x y : Int) : ∀ L : List (Int × Int), (cutParts L x y).length = 2 * L.length
  | [] => rfl
  | s :: L => by
    have := cutParts_len x y L
    unfold cutParts at *
    rw [List.flatMap_cons, List.length_append, this]
    simp; omega

set_option maxHeartbeats 2000000 in
theorem cut_any (A : Option Addr) (n c : Nat) (L : List (Int × Int)) (x y : Int) (w : World) (hr : SpR w w.heap.size A n L) (hm : n ≤ 10000000) :
    Calls Try.prog 27 #[.slice A n c, .agg #[.int .u64 x, .int .u64 y]] w (SetOut w L x y (cutI L x y)) := by
  have hcon := fun o => refused_any A n c L x y (w.alloc (.cells #[.int .u64 x, .int .u64 y] o)) ((hr.keep fun b o h => World.cell?_alloc_lt _ _ _ h).mono (by simp)) (by omega)
  have Hr := Lib.hid hr
  clear hr
  obtain ⟨rf, hrf⟩ : ∃ rf, refI L x y = rf := ⟨_, rfl⟩
  rw [hrf] at hcon
  have HC := Lib.hid hcon
  have HR := Lib.hid hrf
  clear hcon hrf
  by_cases h0 : rf = 0
  · subst h0
    go_enter Try.func27, Try.ntmps27
    go_wp2_with fail
    refine (HC.out _).mono ?_
    rintro e w1 ⟨rfl, hb1⟩
    have HB1 := Lib.hid (hb1.mono (B' := w.heap.size + 1) (by simp))
    have hs1 : w.heap.size + 1 ≤ w1.heap.size := by have := hb1.size; simp at this; omega
    clear hb1 HC
    go_wp2_with fail
    go_loopg [7, 20] n (fun g o i wr => ∃ k : Nat, k ≤ n ∧ g = n - k ∧ i = .int .i64 k ∧ (∃ A' j c', o = .slice A' j c' ∧ wr.ownsRow w1.heap.size 35 2 (.slice A' j c') j ((cutParts (L.take k) x y).flatMap encS)) ∧ Below w1.heap.size w1 wr)
    case atStart => exact ⟨0, Nat.zero_le _, rfl, rfl, ⟨none, 0, 0, rfl, World.ownsRow_nil _ _ _ _⟩, Below.refl _ _⟩
    case round =>
      obtain ⟨k, hk, hg, rfl, ⟨A', j, c', rfl, hown⟩, hbw⟩ := hrel
      have HG := Lib.hid hg
      have HO := Lib.hid hown
      have HB := Lib.hid hbw
      have hsz : w1.heap.size ≤ wr.heap.size := hbw.size
      obtain ⟨hx0, hx1⟩ := box_cells (HB1.out.trans (hbw.mono hs1)) (Nat.lt_succ_self _)
      have hj : j ≤ 2 * k := by
        have := HO.out.1
        rw [encS_len, cutParts_len] at this
        have h2 := List.length_take_le k L
        omega
      clear hg hown hbw
      by_cases hlt : k < n
      · obtain ⟨b, off, rfl, hb, hc⟩ := (Hr.out.below (((Below.refl _ w).alloc (Nat.le_refl _) _).trans ((HB1.out.trans (HB.out.mono hs1)).mono (by omega)))).at_ hlt
        have hkl : k < L.length := by have := Hr.out.len; omega
        have hbn : b < wr.heap.size := by omega
        have hwn : w.heap.size < wr.heap.size := by omega
        obtain ⟨hc1, hc2⟩ := hc k hkl
        have HJ := Lib.hid (cutParts_take (x := x) (y := y) hkl)
        generalize L[k] = s at hc1 hc2 HJ
        obtain ⟨p, q⟩ := s
        clear hc
        go_wp2_with (at_builtin; refine stop_here ?_)
        refine stop_go (app_span2 _ rfl _ _ rfl w1.heap.size _ j _ rfl (((HO.out.alloc _).alloc _).alloc _) p (min q x) (max p y) q _ (by simp) rfl (by simp; omega) (by omega) ?_)
        intro A3 c3 w3 h3 hb3
        have H3 := Lib.hid h3
        have HB3 := Lib.hid ((((HB.out.alloc hsz _).alloc (by simp; omega) _).alloc (by simp; omega) _).trans hb3)
        clear h3 hb3
        go_wp2
        go_roundg (n - (k + 1))
        case measure => have := HG.out; omega
        case rel => exact ⟨k + 1, by omega, rfl, by go_num, ⟨_, _, _, rfl, by rw [HJ.out]; exact H3.out⟩, HB3.out⟩
      · have hkn : L.length ≤ k := by have := Hr.out.len; omega
        have HK := Lib.hid (List.take_of_length_le hkn)
        clear hkn
        have HO2 := HO.out
        rw [HK.out] at HO2
        have HL := Lib.hid (list_any A' j c' (cutParts L x y) wr (SpR.of_own HO2) (by omega))
        clear HO2
        go_wp2_with fail
        refine HL.out.mono ?_
        rintro e w4 ⟨A4, n4, c4, er, K', rfl, hfi, hr4, hb4⟩
        have HF := Lib.hid hfi
        have HB4 := Lib.hid (HB1.out.trans ((HB.out.trans (hb4.mono hsz)).mono hs1))
        have H4 := Lib.hid hr4
        clear hr4 hb4 hfi
        go_wp2_with fail
        go_ret2
        exact ⟨_, _, _, _, _, rfl, setIs_full HR.out HF.out, H4.out, ((Below.refl _ _).alloc (Nat.le_refl _) _).trans (HB4.out.mono (by omega))⟩
  · have h0' : (rf != 0) = true := by rw [bne_iff_ne]; exact h0
    go_enter Try.func27, Try.ntmps27
    go_wp2_with fail
    refine (HC.out _).mono ?_
    rintro e w1 ⟨rfl, hb1⟩
    have HB1 := Lib.hid (((Below.refl _ w).alloc (Nat.le_refl _) _).trans (hb1.mono (by simp)))
    clear hb1 HC
    go_wp2_with fail
    go_ret2
    exact ⟨none, 0, 0, _, [], rfl, setIs_ref HR.out h0, SpR.nil _ _ _, HB1.out⟩
end Go.Proofs.Ytpglooaebndbiaa.SpanCut
