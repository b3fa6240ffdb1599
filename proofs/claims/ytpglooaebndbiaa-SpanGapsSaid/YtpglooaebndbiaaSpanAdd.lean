/-
  What the functions of package span answer: a list with a span more, or without it.
-/
import Derived.Test.YtpglooaebndbiaaSpanJoin
import Derived.Test.YtpglooaebndbiaaSpanSet2
import Derived.Test.YtpglooaebndbiaaSpanCalls
namespace Go.Proofs.Ytpglooaebndbiaa.SpanAdd
open Go.Shelf Go.RowKit SpanLay SpanPlain SpanPlain2 SpanSort SpanSet SpanSet2 SpanApp SpanAt SpanJoin SpanCalls

/-- What a call hands back that makes a list, or tells that it would be too long. -/
def FullIs (K : List (Int × Int)) (er : Int) (K' : List (Int × Int)) : Prop := er = (if 256 < K.length then 6 else 0) ∧ K' = if 256 < K.length then [] else K
def FullOut (w : World) (K : List (Int × Int)) (e : Ending) (w' : World) : Prop :=
  ∃ A n c er K', e = .returned (.tuple #[.slice A n c, .int .i64 er]) ∧ FullIs K er K' ∧ SpR w' w'.heap.size A n K' ∧ Below w.heap.size w w'

theorem someI_take {L : List (Int × Int)} {k : Nat} (hk : k < L.length) : someI (L.take (k + 1)) = if L[k].1 < L[k].2 then someI (L.take k) ++ [L[k]] else someI (L.take k) := by
  unfold someI
  rw [List.take_succ_eq_append_getElem hk, List.filter_append]
  split
  · rename_i h
    rw [List.filter_cons_of_pos (by simpa using h)]
    rfl
  · rename_i h
    rw [List.filter_cons_of_neg (by simpa using h)]
    simp
theorem someI_len (L : List (Int × Int)) : (someI L).length ≤ L.length := List.length_filter_le _ _

set_option maxHeartbeats 1000000 in
theorem list_any (A : Option Addr) (n c : Nat) (parts : List (Int × Int)) (w : World) (hr : SpR w w.heap.size A n parts) (hm : n ≤ 100000000) :
    Calls Try.prog 44 #[.slice A n c] w (FullOut w (normI parts)) := by
  have Hr := Lib.hid hr
  clear hr
  go_enter Try.func44, Try.ntmps44
  go_wp2
  go_loopg [4, 10] n (fun g o i wr => ∃ k : Nat, k ≤ n ∧ g = n - k ∧ i = .int .i64 k ∧ (∃ A' j c', o = .slice A' j c' ∧ wr.ownsRow w.heap.size 35 2 (.slice A' j c') j ((someI (parts.take k)).flatMap encS)) ∧ Below w.heap.size w wr)
  case atStart => exact ⟨0, Nat.zero_le _, rfl, rfl, ⟨none, 0, 0, rfl, World.ownsRow_nil _ _ _ _⟩, Below.refl _ _⟩
  case round =>
    obtain ⟨k, hk, hg, rfl, ⟨A', j, c', rfl, hown⟩, hbw⟩ := hrel
    have HG := Lib.hid hg
    have HO := Lib.hid hown
    have HB := Lib.hid hbw
    have hsz : w.heap.size ≤ wr.heap.size := hbw.size
    have hj : j ≤ k := by
      have := HO.out.1
      rw [encS_len] at this
      have h1 := someI_len (parts.take k)
      have h2 := List.length_take_le k parts
      omega
    clear hg hown hbw
    by_cases hlt : k < n
    · obtain ⟨b, off, rfl, hb, hc⟩ := (Hr.out.below HB.out).at_ hlt
      have hkl : k < parts.length := by have := Hr.out.len; omega
      have hbn : b < wr.heap.size := by omega
      obtain ⟨hc1, hc2⟩ := hc k hkl
      have HJ := Lib.hid (someI_take hkl)
      generalize parts[k] = x at hc1 hc2 HJ
      obtain ⟨p, q⟩ := x
      clear hc
      by_cases hpq : p < q
      · go_wp2_with (at_builtin; refine stop_here ?_)
        refine stop_go (app_span _ rfl _ _ rfl w.heap.size _ j _ rfl (HO.out.alloc _) p q _ (by simp) rfl (by simp; omega) (by omega) ?_)
        intro A3 c3 w3 h3 hb3
        have H3 := Lib.hid h3
        have HB3 := Lib.hid ((HB.out.alloc hsz _).trans hb3)
        clear h3 hb3
        go_wp2
        go_roundg (n - (k + 1))
        case measure => have := HG.out; omega
        case rel => exact ⟨k + 1, by omega, rfl, by go_num, ⟨_, _, _, rfl, by rw [HJ.out, if_pos hpq]; exact H3.out⟩, HB3.out⟩
      · go_wp2
        go_roundg (n - (k + 1))
        case measure => have := HG.out; omega
        case rel => exact ⟨k + 1, by omega, rfl, by go_num, ⟨_, _, _, rfl, by rw [HJ.out, if_neg (by simpa using hpq)]; exact HO.out.alloc _⟩, HB.out.alloc hsz _⟩
    · have hkn : parts.length ≤ k := by have := Hr.out.len; omega
      have HK := Lib.hid (List.take_of_length_le hkn)
      clear hkn
      have HO2 := HO.out
      rw [HK.out] at HO2
      have HC := Lib.hid (joined_any A' j c' parts wr (SpR.of_own HO2) (by omega))
      clear HO2
      go_wp2_with fail
      refine HC.out.mono ?_
      rintro e w1 ⟨A1, n1, c1, rfl, hown1, hb1⟩
      have HO1 := Lib.hid hown1
      have HB1 := Lib.hid (HB.out.trans (hb1.mono hsz))
      have hl1 : n1 = (normI parts).length := by have := hown1.1; rw [encS_len] at this; omega
      have HL1 := Lib.hid hl1
      clear hown1 hb1 HC hl1
      by_cases h256 : 256 < n1
      · go_wp2_with fail
        go_ret2
        exact ⟨none, 0, 0, 6, [], rfl, ⟨by rw [if_pos (by have := HL1.out; omega)], by rw [if_pos (by have := HL1.out; omega)]⟩, SpR.nil _ _ _, HB1.out⟩
      · go_wp2_with fail
        go_ret2
        exact ⟨A1, n1, c1, 0, _, rfl, ⟨by rw [if_neg (by have := HL1.out; omega)], by rw [if_neg (by have := HL1.out; omega)]⟩, SpR.of_own HO1.out, HB1.out⟩

/-- The two cells of a span that a call keeps in a block of its own. -/
theorem box_cells {w W : World} {x y : Int} {T : TypeId} {n : Nat} (hb : Below n (w.alloc (.cells #[.int .u64 x, .int .u64 y] T)) W) (hn : w.heap.size < n) :
    W.cell? ⟨w.heap.size, 0, none⟩ = some (.int .u64 x) ∧ W.cell? ⟨w.heap.size, 1, none⟩ = some (.int .u64 y) :=
  ⟨(hb.cell (p := ⟨w.heap.size, 0, none⟩) hn).trans (by simp), (hb.cell (p := ⟨w.heap.size, 1, none⟩) hn).trans (by simp)⟩
theorem blkJ {X w' : World} {cs : Array Value} {T : TypeId} {n : Nat} (hb : Below n (X.alloc (.cells cs T)).drew w') (hn : n = (X.alloc (.cells cs T)).drew.heap.size) : w'.heap[X.heap.size]? = some (.cells cs T (0, 0)) := by
  subst hn
  rw [hb.block X.heap.size (by simp)]
  exact heap_alloc_new X _
theorem bel_drew {m : Nat} {X W : World} (hb : Below X.drew.heap.size X.drew W) (h : m ≤ X.heap.size) : Below m X W := by
  have h' := hb.mono (B' := m) h
  exact ⟨h'.os, h'.tape, h'.output, h'.size, h'.block⟩
theorem bel_alloc_drew {m : Nat} {X W : World} {o : Obj} (hb : Below (X.alloc o).drew.heap.size (X.alloc o).drew W) (h : m ≤ X.heap.size) : Below m X W := by
  have h' := hb.mono (B' := m) (by simp; omega)
  exact ((Below.refl m X).alloc h o).trans ⟨h'.os, h'.tape, h'.output, h'.size, h'.block⟩
theorem own_alloc_drew {m e size : Nat} {X W : World} {o : Obj} {v : Value} {n : Nat} {xs : List Value} (h : W.ownsRow (X.alloc o).drew.heap.size e size v n xs) (hm : m ≤ X.heap.size) : W.ownsRow m e size v n xs := own_mono h (by simp; omega)
theorem alloc_le {m : Nat} {X : World} {o : Obj} (h : m ≤ X.heap.size) : m ≤ (X.alloc o).heap.size := by simp; omega

theorem own_len {w : World} {base e m n : Nat} {v : Value} {L : List (Int × Int)} (h : w.ownsRow base e 2 v m (L.flatMap encS)) (hn : n = L.length) : n = m := by
  have := h.1
  rw [encS_len] at this
  omega

/-- What adding, and cutting, answer. -/
def listE (L : List (Int × Int)) (x y : Int) (K : List (Int × Int)) : Int := if refI L x y = 0 then (if 256 < K.length then 6 else 0) else refI L x y
def listL (L : List (Int × Int)) (x y : Int) (K : List (Int × Int)) : List (Int × Int) := if refI L x y = 0 then (if 256 < K.length then [] else K) else []
def SetIs (L : List (Int × Int)) (x y : Int) (K : List (Int × Int)) (er : Int) (K' : List (Int × Int)) : Prop := er = listE L x y K ∧ K' = listL L x y K
def SetOut (w : World) (L : List (Int × Int)) (x y : Int) (K : List (Int × Int)) (e : Ending) (w' : World) : Prop :=
  ∃ A n c er K', e = .returned (.tuple #[.slice A n c, .int .i64 er]) ∧ SetIs L x y K er K' ∧ SpR w' w'.heap.size A n K' ∧ Below w.heap.size w w'
theorem setIs_len {L K : List (Int × Int)} {x y er : Int} {K' : List (Int × Int)} (h : SetIs L x y K er K') : K'.length ≤ 256 := by
  rw [h.2]
  unfold listL
  split
  · split
    · exact Nat.zero_le _
    · omega
  · exact Nat.zero_le _
theorem setIs_full {L K : List (Int × Int)} {x y er : Int} {K' : List (Int × Int)} (hr : refI L x y = 0) (h : FullIs K er K') : SetIs L x y K er K' := by
  unfold SetIs listE listL
  rw [hr, if_pos rfl, if_pos rfl]
  exact h
theorem setIs_ref {L K : List (Int × Int)} {x y er : Int} (hr : refI L x y = er) (h : er ≠ 0) : SetIs L x y K er [] := by
  unfold SetIs listE listL
  rw [hr, if_neg h, if_neg h]
  exact ⟨rfl, rfl⟩

set_option maxHeartbeats 1000000 in
theorem add_any (A : Option Addr) (n c : Nat) (L : List (Int × Int)) (x y : Int) (w : World) (hr : SpR w w.heap.size A n L) (hm : n ≤ 10000000) :
    Calls Try.prog 25 #[.slice A n c, .agg #[.int .u64 x, .int .u64 y]] w (SetOut w L x y (addI L x y)) := by
  have hcon := fun o => refused_any A n c L x y (w.alloc (.cells #[.int .u64 x, .int .u64 y] o)) ((hr.keep fun b o h => World.cell?_alloc_lt _ _ _ h).mono (by simp)) (by omega)
  have Hr := Lib.hid hr
  clear hr
  obtain ⟨rf, hrf⟩ : ∃ rf, refI L x y = rf := ⟨_, rfl⟩
  rw [hrf] at hcon
  have HC := Lib.hid hcon
  have HR := Lib.hid hrf
  clear hcon hrf
  by_cases h0 : rf = 0
  · subst h0
    go_enter Try.func25, Try.ntmps25
    go_wp2_with fail
    refine (HC.out _).mono ?_
    rintro e w1 ⟨rfl, hb1⟩
    have HB1 := Lib.hid (hb1.mono (B' := w.heap.size + 1) (by simp))
    have hs1 : w.heap.size + 1 ≤ w1.heap.size := by have := hb1.size; simp at this; omega
    obtain ⟨hx0, hx1⟩ := box_cells HB1.out (by omega)
    clear hb1 HC
    go_wp2_with fail
    have hcl := fun W (h : Below (w.heap.size + 1) w1 W) => clone_any A n c L W ((Hr.out.below (((Below.refl _ w).alloc (Nat.le_refl _) _).trans ((HB1.out.trans h).mono (by omega)))).mono (by have := h.size; omega)) (by omega)
    have HCL := Lib.hid hcl
    clear hcl
    have hn10 : n + 1 ≤ 1099511627776 := by omega
    have hn8 : n + 1 ≤ 100000000 := by omega
    go_region_held3 (fun W => W.cell? ⟨w.heap.size, 0, none⟩ = some (.int .u64 x) ∧ W.cell? ⟨w.heap.size, 1, none⟩ = some (.int .u64 y))
      (first | exact box_cells (HB1.out.trans HB4.out) (Nat.lt_succ_self _) | exact box_cells (HB1.out.trans HB3.out) (Nat.lt_succ_self _) | exact box_cells ((HB1.out.trans HB2.out).alloc hs2 _) (Nat.lt_succ_self _) | exact box_cells (HB1.out.trans HB2.out) (Nat.lt_succ_self _) | go_keep)
      (first
        | (go_at_call 45; refine (HCL.out _ (Below.refl _ _).drew).mono ?_; rintro e w2 ⟨A2, n2, c2, rfl, hown2, hb2⟩; have HB2 := Lib.hid (bel_drew hb2 hs1); have H2 := Lib.hid (own_mono hown2 hs1); have hs2 := Nat.le_trans hs1 hb2.size; obtain rfl := own_len hown2 Hr.out.len; clear hown2 hb2)
        | (go_at_call 45; refine (HCL.out _ ((Below.refl _ _).alloc hs1 _).drew).mono ?_; rintro e w2 ⟨A2, n2, c2, rfl, hown2, hb2⟩; have HB2 := Lib.hid (bel_alloc_drew hb2 hs1); have H2 := Lib.hid (own_alloc_drew hown2 hs1); have HBK := Lib.hid (blkJ hb2 rfl); have hs2 := Nat.le_trans (alloc_le hs1) hb2.size; obtain rfl := own_len hown2 Hr.out.len; clear hown2 hb2)
        | (refine stp_span _ rfl (.tmp 14) (.tmp 16) rfl (w.heap.size + 1) _ n L rfl (H2.out.alloc _) x y _ rfl (heap_alloc_new _ _) (alloc_le hs2) hn10 ?_; intro A3 c3 w3 h3 hb3; have HB3 := Lib.hid ((HB2.out.alloc hs2 _).trans hb3); have H3 := Lib.hid h3; clear h3 hb3)
        | (refine stp_span _ rfl (.tmp 14) (.tmp 16) rfl (w.heap.size + 1) _ n L rfl H2.out x y _ rfl HBK.out hs2 hn10 ?_; intro A3 c3 w3 h3 hb3; have HB3 := Lib.hid (HB2.out.trans hb3); have H3 := Lib.hid h3; clear h3 hb3)
        | (go_at_call 44; refine (list_any _ _ _ (L ++ [(x, y)]) _ (SpR.of_own H3.out) hn8).mono ?_; rintro e w4 ⟨A4, n4, c4, er, K', rfl, hfi, hr4, hb4⟩; have HF := Lib.hid hfi; have HB4 := Lib.hid (HB3.out.trans (hb4.mono (Nat.le_trans hs1 HB3.out.size))); have H4 := Lib.hid hr4; clear hr4 hb4 hfi))
    all_goals
      go_wp2
      go_ret2
      exact ⟨_, _, _, _, _, rfl, setIs_full HR.out HF.out, H4.out, ((Below.refl _ _).alloc (Nat.le_refl _) _).trans ((HB1.out.trans HB4.out).mono (by omega))⟩
  · have h0' : (rf != 0) = true := by rw [bne_iff_ne]; exact h0
    go_enter Try.func25, Try.ntmps25
    go_wp2_with fail
    refine (HC.out _).mono ?_
    rintro e w1 ⟨rfl, hb1⟩
    have HB1 := Lib.hid (((Below.refl _ w).alloc (Nat.le_refl _) _).trans (hb1.mono (by simp)))
    clear hb1 HC
    go_wp2_with fail
    go_ret2
    exact ⟨none, 0, 0, _, [], rfl, setIs_ref HR.out h0, SpR.nil _ _ _, HB1.out⟩

end Go.Proofs.Ytpglooaebndbiaa.SpanAdd
