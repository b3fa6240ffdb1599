/-
  What the document's own answer of layer 2 comes to: a list with a span more, or without it.
-/
import Derived.Test.YtpglooaebndbiaaSpanRef6
import Derived.Test.YtpglooaebndbiaaSpanCut
namespace Go.Proofs.Ytpglooaebndbiaa.SpanRefSet
open Go.Shelf Go.RowKit SpanLay SpanPlain SpanPlain2 SpanSet SpanSet2 SpanApp SpanAt SpanJoin SpanCalls SpanAdd SpanRef SpanRef6

theorem bel_drewN {m n q : Nat} {X W : World} (hb : Below n (X.drewN q) W) (h : m ≤ n) : Below m X W := by
  have h' := hb.mono (B' := m) h
  exact ⟨h'.os, h'.tape, h'.output, h'.size, h'.block⟩

set_option maxHeartbeats 1000000 in
theorem set_any (A : Option Addr) (n c : Nat) (L : List (Int × Int)) (x y : Int) (add : Bool) (w : World) (hr : SpR w w.heap.size A n L) (hm : n ≤ 10000000) :
    Calls Try.prog 26 #[.slice A n c, .agg #[.int .u64 x, .int .u64 y], .bool add] w (SetOut w L x y (madeI L x y add)) := by
  have hcon := fun o => may_ref A n c L (w.alloc (.cells #[.int .u64 x, .int .u64 y] o)) ((hr.keep fun b o h => World.cell?_alloc_lt _ _ _ h).mono (by simp)) (by omega)
  have Hr := Lib.hid hr
  clear hr
  obtain ⟨mb, hmb⟩ : ∃ mb, mayB L = mb := ⟨_, rfl⟩
  rw [hmb] at hcon
  have HC := Lib.hid hcon
  have HM := Lib.hid hmb
  clear hcon hmb
  rcases mb with _ | _
  · go_enter Try.func26, Try.ntmps26
    go_wp2_with fail
    refine (HC.out _).mono ?_
    rintro e w1 ⟨rfl, qq, rfl⟩
    go_wp2_with fail
    go_ret2
    exact ⟨none, 0, 0, _, [], rfl, setIs_ref (by unfold refI; rw [HM.out]; rfl) (by decide), SpR.nil _ _ _, below_drewN ((Below.refl _ _).alloc (Nat.le_refl _) _) _⟩
  · by_cases hxy : y < x
    · go_enter Try.func26, Try.ntmps26
      go_wp2_with fail
      refine (HC.out _).mono ?_
      rintro e w1 ⟨rfl, qq, rfl⟩
      go_wp2_with fail
      go_ret2
      exact ⟨none, 0, 0, _, [], rfl, setIs_ref (by unfold refI; rw [HM.out, if_pos rfl, if_pos hxy]) (by decide), SpR.nil _ _ _, below_drewN ((Below.refl _ _).alloc (Nat.le_refl _) _) _⟩
    · go_enter Try.func26, Try.ntmps26
      go_wp2_with fail
      refine (HC.out _).mono ?_
      rintro e w1 ⟨rfl, qq, rfl⟩
      go_wp2_with fail
      refine (made_any A n c L x y add _ (by exact (Hr.out.keep (w' := w.alloc (.cells #[.int .u64 x, .int .u64 y] 35)) fun b o h => World.cell?_alloc_lt _ _ _ h).mono (by simp)) (by omega)).mono ?_
      rintro e w2 ⟨A2, n2, c2, rfl, hr2, hb2⟩
      have HB2 := Lib.hid (((Below.refl _ _).alloc (Nat.le_refl _) _).trans (bel_drewN hb2 (by simp)))
      have HL := Lib.hid hr2.len
      have H2 := Lib.hid hr2
      have HR := Lib.hid (show refI L x y = 0 from by unfold refI; rw [HM.out, if_pos rfl, if_neg (by omega)])
      clear hr2 hb2 HC
      by_cases h256 : 256 < n2
      · go_wp2_with fail
        go_ret2
        exact ⟨none, 0, 0, 6, [], rfl, setIs_full HR.out ⟨by rw [if_pos (by have := HL.out; omega)], by rw [if_pos (by have := HL.out; omega)]⟩, SpR.nil _ _ _, HB2.out⟩
      · go_wp2_with fail
        go_ret2
        exact ⟨_, _, _, 0, _, rfl, setIs_full HR.out ⟨by rw [if_neg (by have := HL.out; omega)], by rw [if_neg (by have := HL.out; omega)]⟩, H2.out, HB2.out⟩
end Go.Proofs.Ytpglooaebndbiaa.SpanRefSet
