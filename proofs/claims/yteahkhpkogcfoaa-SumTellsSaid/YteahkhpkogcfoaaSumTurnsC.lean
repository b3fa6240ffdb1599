/-
  What Turns comes to.
-/
import Derived.Test.YteahkhpkogcfoaaSumPairs
namespace Go.Proofs.Yteahkhpkogcfoaa.SumTurnsC
open Go.RowKit Go.Shelf SumMath SumPlain SumWords SumPairs
set_option linter.unusedVariables false
attribute [local go_sem] Oper.semAt_some

def tuf (s : Nat) (l : List (Nat × Nat)) : Nat := l.foldl (fun t p => tu t p.1 p.2) s
theorem tuf_snoc (s : Nat) (l : List (Nat × Nat)) (p : Nat × Nat) : tuf s (l ++ [p]) = tu (tuf s l) p.1 p.2 := by simp [tuf]
theorem tuf_upto (s : Nat) (X Y : List Nat) : ∀ k, tuf s (upto X Y k) = tus s X Y k
  | 0 => rfl
  | k + 1 => by rw [upto_succ, tuf_snoc, tuf_upto s X Y k]; rfl
theorem tuf_le (s : Nat) (hs : s ≤ 65535) (l : List (Nat × Nat)) : tuf s l ≤ 65535 := by
  unfold tuf
  induction l generalizing s with
  | nil => exact hs
  | cons p l ih => exact ih _ (tu_le _ _ _)

set_option maxRecDepth 100000 in
set_option maxHeartbeats 1000000 in
theorem pairs_in (m : Nat) (x y : ByteArray) (n : Nat) (hn : n = min x.size y.size) (w : World) :
    CallsIn Fence.wide m Try.prog 21 #[.string x, .string y] w fun e w' => e = .returned (.func (.func 23) #[] #[.pointer (some ⟨w.heap.size + 1 + 1, 0, none⟩), .pointer (some ⟨w.heap.size, 0, none⟩), .pointer (some ⟨w.heap.size + 1, 0, none⟩)]) ∧
      w' = ((w.alloc (.cells #[.string x] 9)).alloc (.cells #[.string y] 9)).alloc (.cells #[.int .i64 (n : Int)] 3) := by
  rcases Nat.lt_or_ge y.size x.size with h | h
  · obtain rfl : n = y.size := by omega
    clear hn
    have h' : y.size ≤ x.size := by omega
    refine callsIn_of_wp Try.func21 rfl trivial ?_ rfl
    simp only [Try.ntmps21, List.size_toArray, List.length_cons, List.length_nil, Nat.reduceAdd, Nat.reduceSub, Array.replicate_succ, Array.replicate_zero, List.push_toArray, List.append_toArray, List.nil_append, List.cons_append]
    gi_wp2
    go_ret
    exact ⟨rfl, rfl⟩
  · obtain rfl : n = x.size := by omega
    clear hn
    refine callsIn_of_wp Try.func21 rfl trivial ?_ rfl
    simp only [Try.ntmps21, List.size_toArray, List.length_cons, List.length_nil, Nat.reduceAdd, Nat.reduceSub, Array.replicate_succ, Array.replicate_zero, List.push_toArray, List.append_toArray, List.nil_append, List.cons_append]
    gi_wp2
    go_ret
    exact ⟨rfl, rfl⟩

set_option maxRecDepth 100000 in
set_option maxHeartbeats 4000000 in
theorem turns_any (s : Nat) (x y : ByteArray) (w : World) (hs : s ≤ 65535) (hx : x.size ≤ 1000000) (hy : y.size ≤ 1000000) :
    Calls Try.prog 15 #[.int .u16 (s : Int), .string x, .string y] w fun e w' => e = .returned (.int .u16 ((tus s ((bz x).take (min x.size y.size)) ((bz y).take (min x.size y.size)) ((min x.size y.size + 1) / 2) : Nat) : Int)) ∧ Below w.heap.size w w' := by
  rw [← tuf_upto]
  obtain ⟨n, hn⟩ : ∃ n, min x.size y.size = n := ⟨_, rfl⟩
  rw [hn]
  obtain ⟨C, hC⟩ : ∃ C, upto ((bz x).take n) ((bz y).take n) ((n + 1) / 2) = C := ⟨_, rfl⟩
  rw [hC]
  have HC := Lib.hid hC
  have HN := Lib.hid hn
  clear hC hn
  refine (callsIn_wide (n := 6)).1 ?_
  refine callsIn_of_wp_marks Try.func15 rfl trivial ?_ rfl
  simp only [Try.ntmps15, List.size_toArray, List.length_cons, List.length_nil, Nat.reduceAdd, Nat.reduceSub, Array.replicate_succ, Array.replicate_zero, List.push_toArray, List.append_toArray, List.nil_append, List.cons_append]
  gi_wp2_with (refine ⟨trivial, ?_⟩; gi_at_call 21; refine (pairs_in _ x y n HN.out.symm _).mono ?_; rintro e w' ⟨rfl, rfl⟩)
  have bS := Boxed.new w 23 (.int .u16 (s : Int))
  have bX := Boxed.new (w.alloc (.cells #[.int .u16 (s : Int)] 23)) 9 (.string x)
  have bY := Boxed.new ((w.alloc (.cells #[.int .u16 (s : Int)] 23)).alloc (.cells #[.string x] 9)) 9 (.string y)
  have bN := Boxed.new (((w.alloc (.cells #[.int .u16 (s : Int)] 23)).alloc (.cells #[.string x] 9)).alloc (.cells #[.string y] 9)) 3 (.int .i64 (n : Int))
  simp only [World.size_alloc] at bX bY bN
  have hB0 : Below w.heap.size w ((((w.alloc (.cells #[.int .u16 (s : Int)] 23)).alloc (.cells #[.string x] 9)).alloc (.cells #[.string y] 9)).alloc (.cells #[.int .i64 (n : Int)] 3)) :=
    ((((Below.refl _ w).alloc (Nat.le_refl _) _).alloc (by simp) _).alloc (by simp; omega) _).alloc (by simp; omega) _
  have HB0 := Lib.hid hB0
  clear hB0
  have hsz : ((((w.alloc (.cells #[.int .u16 (s : Int)] 23)).alloc (.cells #[.string x] 9)).alloc (.cells #[.string y] 9)).alloc (.cells #[.int .i64 (n : Int)] 3)).heap.size = w.heap.size + 4 := by simp
  have cS := ((bS.alloc (.cells #[.string x] 9)).alloc (.cells #[.string y] 9)).alloc (.cells #[.int .i64 (n : Int)] 3)
  have cX := (bX.alloc (.cells #[.string y] 9)).alloc (.cells #[.int .i64 (n : Int)] 3)
  have cY := bY.alloc (.cells #[.int .i64 (n : Int)] 3)
  clear bS bX bY
  refine wpIn_rangeFunc_ownF rfl (by omega) (gf := 23) (lb := #[.pointer (some ⟨w.heap.size + 1 + 1 + 1, 0, none⟩), .pointer (some ⟨w.heap.size + 1, 0, none⟩), .pointer (some ⟨w.heap.size + 1 + 1, 0, none⟩)]) rfl trivial (enters_of Try.func23 (by kernel_rfl) rfl)
    (pairs_stops _ (by omega) (w.heap.size + 1) (w.heap.size + 4) n (w.heap.size + 1 + 1 + 1) (w.heap.size + 1) (w.heap.size + 1 + 1) x y (by have := HN.out; omega) (by have := HN.out; omega) hx hy ⟨by omega, by omega⟩ ⟨by omega, by omega⟩ ⟨by omega, by omega⟩ _ (by rw [hsz]; omega) bN.cell cX.cell cY.cell) KeepR.trans (fun W l o o' h1 h2 h3 h4 => KeepR.of_below (belowK_b (n₀ := w.heap.size + 4) (Nat.le_of_eq hsz.symm) W l o o' h1 h2 h3 h4)) (Below.refl _ _) (fun _ => rfl)
    (fun pre W => (W.cell? ⟨w.heap.size, 0, none⟩ = some (.int .u16 ((tuf s (pvals pre) : Nat) : Int)) ∧ W.frozen? ⟨w.heap.size, 0, none⟩ = false) ∧ Below w.heap.size w W)
    (fun _ _ _ => False)
    (OwnFrom.and (Own.from (fun s A B row hs hg hr => ⟨cell_kept hs.1 hg hr, (frozen_kept hs.1 hg hr).trans hs.2⟩) _) (ownFrom_below (Nat.le_refl _) (by rw [hsz]; omega)))
    (fun _ _ _ _ _ hs _ _ => hs)
    ⟨⟨cS.cell, cS.frozen⟩, HB0.out⟩
    (fun p => { tmps := #[.int .u16 (s : Int), .string x, .string y, .pointer (some ⟨w.heap.size, 0, none⟩), undef, undef, .int .u16 0, .int .u16 (p.1.1 : Int), .int .u16 (p.1.2 : Int), .string x, .string y,
      .func (.func 23) #[] #[.pointer (some ⟨w.heap.size + 1 + 1 + 1, 0, none⟩), .pointer (some ⟨w.heap.size + 1, 0, none⟩), .pointer (some ⟨w.heap.size + 1 + 1, 0, none⟩)], .int .u16 (p.1.1 : Int), .int .u16 (p.1.2 : Int), undef, undef, undef, undef, undef], defers := [] }) ?assign ?body ?done ?stop
  case assign =>
    intro l p W K hK
    gi_wp2
    exact hK
  case body =>
    rintro l pre ⟨⟨p, q⟩, hp, hq⟩ W ⟨⟨hc, hf⟩, hB⟩ _
    dsimp only at hp hq ⊢
    have hv : tuf s (pvals (pre ++ [⟨(p, q), hp, hq⟩])) = tu (tuf s (pvals pre)) p q := by rw [pvals_snoc, tuf_snoc]
    have HV := Lib.hid hv
    have hle := tuf_le s hs (pvals pre)
    clear hv
    generalize tuf s (pvals pre) = v at hc hle HV
    obtain ⟨u, hu⟩ : ∃ u, tu v p q = u := ⟨_, rfl⟩
    have HU := Lib.hid hu
    have HP := Lib.hid (turn_any v p q W hle hp hq)
    rw [hu] at HP
    clear hu
    have HBB := Lib.hid hB
    clear hB
    gi_wp2_with (refine ⟨trivial, ?_⟩; gi_at_call 13; refine (CallsIn.inRound l (callsIn_wide.2 HP.out)).mono ?_; rintro e w' ⟨rfl, rfl⟩)
    exact ⟨KeepsOthers.setCell _ _ _, (fun b h1 h2 => World.cell?_setCell_other W _ _ _ (fun e => by injection e with e; omega)), ⟨by rw [HV.out, HU.out]; exact World.cell?_setCell_same' _ _ _ (by rw [hc]; rfl), by rw [World.frozen?_setCell]; exact hf⟩, HBB.out.setCell (p := ⟨w.heap.size, 0, none⟩) (Nat.le_refl _) _⟩
  case done =>
    rintro D ys W hD hys ⟨⟨hc, _⟩, hB⟩ hK
    rw [hys, HC.out] at hc
    obtain ⟨v, hv⟩ : ∃ v, tuf s C = v := ⟨_, rfl⟩
    rw [hv] at hc
    have HV := Lib.hid hv
    have HBB := Lib.hid hB
    clear hv hB
    gi_wp2
    refine ⟨by simp, .inl ⟨_, _, rfl, run_takeDeferred hK, ?_⟩⟩
    refine ⟨_, results_tmp rfl _ _ _, ?_, HBB.out.trans (belowK_b (w := w) (Nat.le_refl _) W D _ _ (by rw [hsz] at hD; omega) hK rfl rfl)⟩
    rw [HV.out]
    rfl
  case stop =>
    rintro D c pre W _ _ h _
    exact h.elim
end Go.Proofs.Yteahkhpkogcfoaa.SumTurnsC
