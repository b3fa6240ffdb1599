/-
  Lists of spans as sets: what the statements on adding in either order need.
-/
import Derived.Test.YtpglooaebndbiaaSpanSet3
namespace Go.Proofs.Ytpglooaebndbiaa.SpanSet4
open SpanPlain SpanPlain2 SpanSet SpanSet2 SpanSet3

theorem add_swap (K : List (Int × Int)) (x y p q : Int) : addI (addI K x y) p q = addI (addI K p q) x y :=
  canon_unique (add_canon _ _ _) (add_canon _ _ _) fun v => by
    rw [add_has, add_has, add_has, add_has, Bool.or_assoc, Bool.or_assoc, Bool.or_comm (ofB x y v)]
theorem add_back {B : List (Int × Int)} {x y : Int} (hB : Canon B) (h : ∀ v, ofB x y v = true → hasB B v = true) : addI (cutI B x y) x y = B :=
  canon_unique (add_canon _ _ _) hB fun v => by
    rw [add_has, cut_has]
    have := h v
    rcases h1 : hasB B v with _ | _ <;> rcases h2 : ofB x y v with _ | _
    · rfl
    · rw [this h2] at h1; cases h1
    · rfl
    · rfl
theorem len_parts {B : List (Int × Int)} {x y : Int} (hB : Canon B) (hl : B.length ≤ 255) (hxy : x ≤ y) (h : ∀ v, ofB x y v = true → hasB B v = true) : (lenI (cutI B x y) + (y - x) % M64) % M64 = lenI B := by
  have hmB : mayB B = true := may_of hB (by omega)
  have hmK : mayB (cutI B x y) = true := may_of (cut_canon _ _ _) (by have := cut_len B x y; omega)
  have key : sumTo B B.length = sumTo (cutI B x y) (cutI B x y).length + (y - x) := by
    rcases Int.lt_or_le x y with hlt | hge
    · refine sum_parts hB (cut_canon _ _ _) hlt (fun v => ?_) (fun v hv => ?_)
      · rw [cut_has]
        have := h v
        rcases h1 : hasB B v with _ | _ <;> rcases h2 : ofB x y v with _ | _
        · rfl
        · rw [this h2] at h1; cases h1
        · rfl
        · rfl
      · rw [cut_has, Bool.and_eq_true, Bool.not_eq_true'] at hv
        exact hv.2
    · have e : cutI B x y = B := canon_unique (cut_canon _ _ _) hB fun v => by
        rw [cut_has, show ofB x y v = false from Bool.eq_false_iff.2 fun hh => by have := ofB_iff.1 hh; omega]
        simp
      rw [e]
      omega
  unfold lenI
  rw [hmB, hmK, if_pos rfl, if_pos rfl, key]
  unfold M64
  omega
theorem cut_not {B : List (Int × Int)} {x y : Int} (hxy : x < y) : hasB (cutI B x y) x = false := by
  rw [cut_has, show ofB x y x = true from ofB_iff.2 ⟨Int.le_refl _, hxy⟩]
  simp
theorem covers_add {K B : List (Int × Int)} {s : Int × Int} (hm : mayB B = true) (hK : Canon K) (hs : s ∈ K) (h : ∀ v, hasB K v = true → hasB B v = true) : coversB B s.1 s.2 = true :=
  covers_of hm (by have := hK.1 s hs; omega) fun v h1 h2 => h v (hasB_iff.2 ⟨s, hs, h1, h2⟩)
end Go.Proofs.Ytpglooaebndbiaa.SpanSet4
