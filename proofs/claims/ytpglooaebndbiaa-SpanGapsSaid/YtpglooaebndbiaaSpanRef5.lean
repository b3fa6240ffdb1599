/-
  What the document's own answers of layer 2 come to: all places at which something may begin or end.
-/
import Derived.Test.YtpglooaebndbiaaSpanRef4
namespace Go.Proofs.Ytpglooaebndbiaa.SpanRef5
open Go.RowKit SpanLay SpanPlain SpanRef4

set_option maxHeartbeats 1000000 in
theorem ends_any (A : Option Addr) (n c : Nat) (L : List (Int × Int)) (x y : Int) (w : World) (hr : SpR w w.heap.size A n L) (hm : n ≤ 100000000) :
    Calls Try.prog 51 #[.slice A n c, .agg #[.int .u64 x, .int .u64 y]] w (NmOut w (endsI L x y)) := by
  have Hr := Lib.hid hr
  clear hr
  go_enter Try.func51, Try.ntmps51
  go_wp2
  go_loopw [5, 6] (fun o i wr => ∃ k : Nat, k ≤ n ∧ i = .int .i64 k ∧ (∃ A' m c', o = .slice A' m c' ∧ NmR wr wr.heap.size A' m (endsTo L k)) ∧ Below w.heap.size w wr ∧ w.heap.size < wr.heap.size ∧ wr.cell? ⟨w.heap.size, 0, none⟩ = some (.int .u64 x) ∧ wr.cell? ⟨w.heap.size, 1, none⟩ = some (.int .u64 y)) (fun _ i _ => n - (intOf i).toNat)
  case atStart => exact ⟨0, Nat.zero_le _, rfl, ⟨none, 0, 0, rfl, NmR.nil _ _ _⟩, (Below.refl _ _).alloc (Nat.le_refl _) _, by simp, by simp, by simp⟩
  case round =>
    obtain ⟨k, hk, rfl, ⟨A', m, c', rfl, ho⟩, hbw, hsz, hx, hy⟩ := hrel
    have HB := Lib.hid hbw
    have HO := Lib.hid ho
    clear hbw ho
    have hml : m ≤ 2 * k := by have := HO.out.len; have := endsTo_len L k (by have := Hr.out.len; omega); omega
    by_cases hlt : k < n
    · obtain ⟨b, off, rfl, hb, hc⟩ := Hr.out.at_ hlt
      have hkl : k < L.length := by have := Hr.out.len; omega
      have hc0 := hc k hkl
      have HE := Lib.hid (endsTo_succ hkl)
      generalize L[k] = s at hc0 HE
      obtain ⟨p, q⟩ := s
      clear hc
      have hc1 : wr.cell? ⟨b, off + k * 2, none⟩ = some (.int .u64 p) := (HB.out.cell (p := ⟨b, off + k * 2, none⟩) hb).trans hc0.1
      have hbn : b < wr.heap.size := by omega
      go_wp2_with fail
      refine (put_any A' m c' (endsTo L k) p _ HO.out (by omega)).mono ?_
      rintro e w1 ⟨A1, m1, c1, rfl, hr1, hb1⟩
      have hc2 : w1.cell? ⟨b, off + k * 2 + 1, none⟩ = some (.int .u64 q) := ((HB.out.trans (hb1.mono (by omega))).cell (p := ⟨b, off + k * 2 + 1, none⟩) hb).trans hc0.2
      have hx1 : w1.cell? ⟨w.heap.size, 0, none⟩ = some (.int .u64 x) := (hb1.cell (p := ⟨w.heap.size, 0, none⟩) hsz).trans hx
      have hy1 : w1.cell? ⟨w.heap.size, 1, none⟩ = some (.int .u64 y) := (hb1.cell (p := ⟨w.heap.size, 1, none⟩) hsz).trans hy
      have hsz1 : w.heap.size < w1.heap.size := by have := hb1.size; omega
      have hm1 : m1 ≤ 2 * k + 1 := by have := hr1.len; have := putI_len (endsTo L k) p; have := HO.out.len; omega
      have H1 := Lib.hid hr1
      have HB1 := Lib.hid (HB.out.trans (hb1.mono (by omega)))
      clear hr1 hb1 hc0 hc1 hx hy
      go_wp2_with fail
      refine (put_any A1 m1 c1 _ q _ H1.out (by omega)).mono ?_
      rintro e w2 ⟨A2, m2, c2, rfl, hr2, hb2⟩
      have hx2 : w2.cell? ⟨w.heap.size, 0, none⟩ = some (.int .u64 x) := (hb2.cell (p := ⟨w.heap.size, 0, none⟩) hsz1).trans hx1
      have hy2 : w2.cell? ⟨w.heap.size, 1, none⟩ = some (.int .u64 y) := (hb2.cell (p := ⟨w.heap.size, 1, none⟩) hsz1).trans hy1
      have hsz2 : w.heap.size < w2.heap.size := by have := hb2.size; omega
      have H2 := Lib.hid hr2
      have HB2 := Lib.hid (HB1.out.trans (hb2.mono (by omega)))
      clear hr2 hb2 hc2 hx1 hy1
      go_wp2_with fail
      go_roundw
      case rel => exact ⟨k + 1, by omega, by go_num, ⟨A2, m2, c2, rfl, by rw [HE.out]; exact H2.out⟩, HB2.out, hsz2, hx2, hy2⟩
      case measure => simp [intOf]; omega
    · have hkn : L.length = k := by have := Hr.out.len; omega
      have HK := Lib.hid hkn
      clear hkn
      go_wp2_with fail
      refine (put_any A' m c' (endsTo L k) x _ HO.out (by omega)).mono ?_
      rintro e w1 ⟨A1, m1, c1, rfl, hr1, hb1⟩
      have hy1 : w1.cell? ⟨w.heap.size, 1, none⟩ = some (.int .u64 y) := (hb1.cell (p := ⟨w.heap.size, 1, none⟩) hsz).trans hy
      have hm1 : m1 ≤ 2 * k + 1 := by have := hr1.len; have := putI_len (endsTo L k) x; have := HO.out.len; omega
      have H1 := Lib.hid hr1
      have HB1 := Lib.hid (HB.out.trans (hb1.mono (by omega)))
      clear hr1 hb1 hx hy
      go_wp2_with fail
      refine (put_any A1 m1 c1 _ y _ H1.out (by omega)).mono ?_
      rintro e w2 ⟨A2, m2, c2, rfl, hr2, hb2⟩
      have H2 := Lib.hid hr2
      have HB2 := Lib.hid (HB1.out.trans (hb2.mono (by have := HB1.out.size; omega)))
      clear hr2 hb2
      go_wp2_with fail
      go_ret
      exact ⟨A2, m2, c2, rfl, by unfold endsI; rw [HK.out]; exact H2.out, HB2.out⟩
end Go.Proofs.Ytpglooaebndbiaa.SpanRef5
