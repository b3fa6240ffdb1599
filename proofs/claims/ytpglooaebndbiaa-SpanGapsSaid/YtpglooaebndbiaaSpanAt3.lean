/-
  What the functions of package span answer: whether a list covers a span, how many numbers it has.
-/
import Derived.Test.YtpglooaebndbiaaSpanAt2
import Derived.Test.YtpglooaebndbiaaSpanAdd
namespace Go.Proofs.Ytpglooaebndbiaa.SpanAt3
open Go.Shelf Go.RowKit SpanLay SpanPlain SpanPlain2 SpanSet SpanCalls SpanAt SpanAt2 SpanAdd

set_option maxHeartbeats 1000000 in
theorem covers_any (A : Option Addr) (n c : Nat) (L : List (Int × Int)) (x y : Int) (w : World) (hr : SpR w w.heap.size A n L) (hm : n ≤ 9223372036854775807) :
    Calls Try.prog 33 #[.slice A n c, .agg #[.int .u64 x, .int .u64 y]] w fun e w' => e = .returned (.bool (coversB L x y)) ∧ Below w.heap.size w w' := by
  have hcon := fun o => refused_any A n c L x y (w.alloc (.cells #[.int .u64 x, .int .u64 y] o)) ((hr.keep fun b o h => World.cell?_alloc_lt _ _ _ h).mono (by simp)) hm
  have hat := fun w1 (hb : Below w.heap.size w w1) => at_any A n c L x w1 ((hr.below hb).mono hb.size) hm
  clear hr
  obtain ⟨rf, hrf⟩ : ∃ rf, refI L x y = rf := ⟨_, rfl⟩
  rw [hrf] at hcon
  have HC := Lib.hid hcon
  have HR := Lib.hid hrf
  clear hcon hrf
  by_cases h0 : rf = 0
  · subst h0
    have hmb : mayB L = true ∧ ¬ y < x := by
      have := HR.out
      unfold refI at this
      rcases hmb : mayB L with _ | _
      · rw [hmb] at this; cases this
      · rw [hmb, if_pos rfl] at this
        refine ⟨rfl, fun h => ?_⟩
        rw [if_pos h] at this
        cases this
    have hcv := coversB_at (L := L) hmb.2 (fun _ => canon_one (mayB_iff.1 hmb.1).2)
    rw [hmb.1, Bool.true_and] at hcv
    rw [hcv]
    have hxy := hmb.2
    generalize atB L x = ab at hat ⊢
    generalize atV L x = s at hat ⊢
    obtain ⟨p, q⟩ := s
    have HA := Lib.hid hat
    clear hat hcv hmb
    by_cases he : x = y
    · subst he
      have he' : (x == x) = true := by simp
      go_enter Try.func33, Try.ntmps33
      go_wp2_with fail
      refine (HC.out _).mono ?_
      rintro e w1 ⟨rfl, hb1⟩
      have HB1 := Lib.hid (hb1.mono (B' := w.heap.size + 1) (by simp))
      obtain ⟨hx0, hx1⟩ := box_cells HB1.out (by omega)
      clear hb1 HC
      go_wp2_with fail
      refine (HA.out _ (((Below.refl _ w).alloc (Nat.le_refl _) _).trans (HB1.out.mono (by omega)))).mono ?_
      rintro e w2 ⟨rfl, hb2⟩
      have hs1 : w.heap.size + 1 ≤ w1.heap.size := by have := HB1.out.size; simp at this; omega
      have HB2 := Lib.hid (HB1.out.trans (hb2.mono hs1))
      obtain ⟨hx0, hx1⟩ := box_cells HB2.out (by omega)
      have hs2 : w.heap.size < w2.heap.size := by have := hb2.size; omega
      clear hb2
      go_wp2_with fail
      go_ret
      exact ⟨ret_bool (by simp), ((Below.refl _ w).alloc (Nat.le_refl _) _).trans ((HB2.out.mono (by omega)).alloc (by omega) _)⟩
    · have he' : (x == y) = false := by simpa using he
      rcases ab with _ | _
      · go_enter Try.func33, Try.ntmps33
        go_wp2_with fail
        refine (HC.out _).mono ?_
        rintro e w1 ⟨rfl, hb1⟩
        have HB1 := Lib.hid (hb1.mono (B' := w.heap.size + 1) (by simp))
        obtain ⟨hx0, hx1⟩ := box_cells HB1.out (by omega)
        clear hb1 HC
        go_wp2_with fail
        refine (HA.out _ (((Below.refl _ w).alloc (Nat.le_refl _) _).trans (HB1.out.mono (by omega)))).mono ?_
        rintro e w2 ⟨rfl, hb2⟩
        have hs1 : w.heap.size + 1 ≤ w1.heap.size := by have := HB1.out.size; simp at this; omega
        have HB2 := Lib.hid (HB1.out.trans (hb2.mono hs1))
        obtain ⟨hx0, hx1⟩ := box_cells HB2.out (by omega)
        have hs2 : w.heap.size < w2.heap.size := by have := hb2.size; omega
        clear hb2
        go_wp2_with fail
        go_ret
        exact ⟨ret_bool (by simp [he]), ((Below.refl _ w).alloc (Nat.le_refl _) _).trans ((HB2.out.mono (by omega)).alloc (by omega) _)⟩
      · go_enter Try.func33, Try.ntmps33
        go_wp2_with fail
        refine (HC.out _).mono ?_
        rintro e w1 ⟨rfl, hb1⟩
        have HB1 := Lib.hid (hb1.mono (B' := w.heap.size + 1) (by simp))
        obtain ⟨hx0, hx1⟩ := box_cells HB1.out (by omega)
        clear hb1 HC
        go_wp2_with fail
        refine (HA.out _ (((Below.refl _ w).alloc (Nat.le_refl _) _).trans (HB1.out.mono (by omega)))).mono ?_
        rintro e w2 ⟨rfl, hb2⟩
        have hs1 : w.heap.size + 1 ≤ w1.heap.size := by have := HB1.out.size; simp at this; omega
        have HB2 := Lib.hid (HB1.out.trans (hb2.mono hs1))
        obtain ⟨hx0, hx1⟩ := box_cells HB2.out (by omega)
        have hs2 : w.heap.size < w2.heap.size := by have := hb2.size; omega
        clear hb2
        go_wp2_with fail
        go_ret
        exact ⟨ret_bool (by simp [he]), ((Below.refl _ w).alloc (Nat.le_refl _) _).trans ((HB2.out.mono (by omega)).alloc (by omega) _)⟩
  · have h0' : (rf != 0) = true := by rw [bne_iff_ne]; exact h0
    have hcv : coversB L x y = false := by
      have := HR.out
      unfold refI at this
      rcases hmb : mayB L with _ | _
      · exact coversB_bad hmb
      · rw [hmb, if_pos rfl] at this
        refine coversB_turned ?_
        rcases Int.lt_or_le y x with h | h
        · exact h
        · rw [if_neg (by omega)] at this; exact absurd this.symm h0
    rw [hcv]
    clear hcv hat
    go_enter Try.func33, Try.ntmps33
    go_wp2_with fail
    refine (HC.out _).mono ?_
    rintro e w1 ⟨rfl, hb1⟩
    have HB1 := Lib.hid (((Below.refl _ w).alloc (Nat.le_refl _) _).trans (hb1.mono (by simp)))
    clear hb1 HC
    go_wp2_with fail
    go_ret
    exact ⟨rfl, HB1.out⟩

theorem len_any (A : Option Addr) (n c : Nat) (L : List (Int × Int)) (w : World) (hr : SpR w w.heap.size A n L) (hm : n ≤ 9223372036854775807) :
    Calls Try.prog 37 #[.slice A n c] w fun e w' => e = .returned (.int .u64 (lenI L)) ∧ Below w.heap.size w w' := by
  have hcon := may_any A n c L w hr hm
  have Hr := Lib.hid hr
  clear hr
  obtain ⟨mb, hmb⟩ : ∃ mb, mayB L = mb := ⟨_, rfl⟩
  rw [hmb] at hcon
  have HM := Lib.hid hmb
  clear hmb
  rcases mb with _ | _
  · go_enter Try.func37, Try.ntmps37
    go_wp2_with fail
    refine hcon.mono ?_
    rintro e w1 ⟨rfl, hb1⟩
    have HB1 := Lib.hid hb1
    clear hb1 hcon
    go_wp2_with fail
    go_ret
    exact ⟨ret_int (lenI_bad HM.out).symm, HB1.out⟩
  · go_enter Try.func37, Try.ntmps37
    go_wp2_with fail
    refine hcon.mono ?_
    rintro e w1 ⟨rfl, hb1⟩
    have HB1 := Lib.hid hb1
    clear hb1 hcon
    go_wp2_with fail
    go_loopw [3, 11] (fun s i wr => ∃ k : Nat, k ≤ n ∧ i = .int .i64 k ∧ (∃ a : Int, s = .int .u64 a ∧ a = sumTo L k % M64) ∧ Below w.heap.size w wr) (fun _ i _ => n - (intOf i).toNat)
    case atStart => exact ⟨0, Nat.zero_le _, rfl, ⟨0, rfl, by simp [sumTo]⟩, HB1.out⟩
    case round =>
      obtain ⟨k, hk, rfl, ⟨a, rfl, ha⟩, hbw⟩ := hrel
      have Ha := Lib.hid ha
      have HB := Lib.hid hbw
      have hsz : w.heap.size ≤ wr.heap.size := hbw.size
      clear ha hbw
      by_cases hlt : k < n
      · obtain ⟨b, off, rfl, hb, hc⟩ := (Hr.out.below HB.out).at_ hlt
        have hkl : k < L.length := by have := Hr.out.len; omega
        obtain ⟨hc1, hc2⟩ := hc k hkl
        obtain ⟨p, hp⟩ : ∃ p, L[k].1 = p := ⟨_, rfl⟩
        obtain ⟨q, hq⟩ : ∃ q, L[k].2 = q := ⟨_, rfl⟩
        rw [hp] at hc1
        rw [hq] at hc2
        have HP := Lib.hid hp
        have HQ := Lib.hid hq
        have hbn : b < wr.heap.size := by omega
        clear hp hq hc
        go_wp2_with fail
        go_roundw
        case rel => exact ⟨k + 1, by omega, by go_num, ⟨_, rfl, lenI_step' hkl HP.out HQ.out Ha.out⟩, HB.out.alloc hsz _⟩
        case measure => simp [intOf]; omega
      · go_wp2_with fail
        go_ret
        exact ⟨ret_int (lenI_all (by have := Hr.out.len; omega) HM.out Ha.out).symm, HB.out⟩
end Go.Proofs.Ytpglooaebndbiaa.SpanAt3
