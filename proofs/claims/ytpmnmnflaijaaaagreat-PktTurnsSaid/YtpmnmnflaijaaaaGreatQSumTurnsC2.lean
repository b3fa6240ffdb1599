/-
  Laws for a proof of package pkt: 2 texts in one.
-/
import Derived.Test.YtpmnmnflaijaaaaGreatQSumPlainT5
import Derived.Test.YtpmnmnflaijaaaaGreatQSumStrs3
import Derived.Test.YtpmnmnflaijaaaaGreatQTailIn1
import Derived.Sort.AtCallIn
import Derived.Sort.QuietIn
namespace Go.Proofs.YtpmnmnflaijaaaaGreat.SumPairs
open Go.RowKit Go.Shelf SumMath SumPlain SumWords TailIn
set_option linter.unusedVariables false
attribute [local go_sem] Oper.semAt_some
theorem wAt_drop (l : List Nat) (i : Nat) : wAt (l.drop i) 0 = wAt l i := by
 unfold wAt; rw [List.getElem?_drop, List.getElem?_drop, Nat.add_zero, Nat.zero_add]
def upto (X Y : List Nat) (k : Nat) : List (Nat × Nat) := (List.range k).map fun j => (wAt X (2 * j), wAt Y (2 * j))
theorem upto_succ (X Y : List Nat) (k : Nat) : upto X Y (k + 1) = upto X Y k ++ [(wAt X (2 * k), wAt Y (2 * k))] := by simp [upto, List.range_succ]
theorem upto_len (X Y : List Nat) (k : Nat) : (upto X Y k).length = k := by simp [upto]
def KeepR (B1 B2 : Nat) (A W : World) : Prop := ∀ b, B1 ≤ b → b < B2 → W.cell? ⟨b, 0, none⟩ = A.cell? ⟨b, 0, none⟩
theorem KeepR.refl {B1 B2 : Nat} (W : World) : KeepR B1 B2 W W := fun _ _ _ => rfl
theorem KeepR.trans {B1 B2 : Nat} {A B C : World} (h : KeepR B1 B2 A B) (h' : KeepR B1 B2 B C) : KeepR B1 B2 A C := fun b h1 h2 => (h' b h1 h2).trans (h b h1 h2)
theorem KeepR.dr {B1 B2 : Nat} {A W : World} (h : KeepR B1 B2 A W) (q : Nat) : KeepR B1 B2 A (W.drewN q) := h.trans fun _ _ _ => rfl
theorem KeepR.of_below {B1 B2 : Nat} {A W : World} (h : Below B2 A W) : KeepR B1 B2 A W := fun b _ h2 => h.cell (p := ⟨b, 0, none⟩) h2
theorem word_at (s : ByteArray) (i n : Nat) (w : World) (hi : i < n) (hn : n ≤ s.size) (hs : s.size ≤ 1000000) :
   Calls Tryz.prog 109 #[.string (s.extract i n)] w fun e w' => e = .returned (.int .u16 ((wAt ((bz s).take n) i : Nat) : Int)) ∧ w = w' := by
 have h := word_any (s.extract i n) w (by rw [ByteArray.size_extract]; omega) (by rw [ByteArray.size_extract]; omega)
 rw [bz_extract s i n hn, wAt_drop] at h
 exact h
set_option maxRecDepth 100000 in
set_option maxHeartbeats 2000000 in
theorem pairs1_in (m : Nat) (hm : 2 ≤ m) (l B1 B2 n Bn Ba Bb : Nat) (a b : ByteArray) (ha : n ≤ a.size) (hb : n ≤ b.size) (ha2 : a.size ≤ 1000000) (hb2 : b.size ≤ 1000000) (hBn : B1 ≤ Bn ∧ Bn < B2) (hBa : B1 ≤ Ba ∧ Ba < B2) (hBb : B1 ≤ Bb ∧ Bb < B2) (J Jx : List (Nat × Nat) → World → Prop)
   (hY : ∀ pre x y W, x ≤ 65535 → y ≤ 65535 → J pre W → pre.length < n → YieldAt Fence.wide (m - 1) Tryz.prog l #[.int .u16 ((x : Nat) : Int), .int .u16 ((y : Nat) : Int)] W fun e W' =>
     (e = .returned (.bool true) ∧ J (pre ++ [(x, y)]) W' ∧ KeepR B1 B2 W W') ∨ (e = .returned (.bool false) ∧ Jx (pre ++ [(x, y)]) W'))
   (hJ : ∀ pre W q, J pre W → J pre (W.drewN q))
   (W : World) (cn : W.cell? ⟨Bn, 0, none⟩ = some (.int .i64 (n : Int))) (ca : W.cell? ⟨Ba, 0, none⟩ = some (.string a)) (cb : W.cell? ⟨Bb, 0, none⟩ = some (.string b)) (h0 : J [] W) :
   CallsIn Fence.wide m Tryz.prog 108 #[.func (.yield l) #[] #[], .pointer (some ⟨Bn, 0, none⟩), .pointer (some ⟨Ba, 0, none⟩), .pointer (some ⟨Bb, 0, none⟩)] W fun e W' => (∃ v, e = .returned v) ∧
     ((∃ ys, ys = upto ((bz a).take n) ((bz b).take n) ((n + 1) / 2) ∧ J ys W') ∨ (∃ pre : List (Nat × Nat), True ∧ Jx pre W')) := by
 have HY := Lib.hid hY
 have HJ := Lib.hid hJ
 clear hY hJ
 obtain ⟨X, hX⟩ : ∃ X, (bz a).take n = X := ⟨_, rfl⟩
 obtain ⟨Y, hYY⟩ : ∃ Y, (bz b).take n = Y := ⟨_, rfl⟩
 have CX := Lib.hid (fun (i : Nat) (w : World) (hi : i < n) => word_at a i n w hi ha ha2)
 have CY := Lib.hid (fun (i : Nat) (w : World) (hi : i < n) => word_at b i n w hi hb hb2)
 rw [hX] at CX ⊢
 rw [hYY] at CY ⊢
 have LX := Lib.hid (fun i => wAt_le (l := X) (fun z hz => bz_le a z (by rw [← hX] at hz; exact List.mem_of_mem_take hz)) i)
 have LY := Lib.hid (fun i => wAt_le (l := Y) (fun z hz => bz_le b z (by rw [← hYY] at hz; exact List.mem_of_mem_take hz)) i)
 clear hX hYY
 refine callsIn_of_wp Tryz.func108 rfl trivial ?_ rfl
 simp only [Tryz.ntmps108, List.size_toArray, List.length_cons, List.length_nil, Nat.reduceAdd, Nat.reduceSub, Array.replicate_succ, Array.replicate_zero, List.push_toArray, List.append_toArray, List.nil_append, List.cons_append]
 gi_wp2
 gi_loopw [5] (fun i wr => ∃ k : Nat, 2 * k ≤ n + 1 ∧ i = .int .i64 (2 * (k : Int)) ∧ J (upto X Y k) wr ∧ KeepR B1 B2 W wr)
   (fun i _ => n + 2 - (intOf i).toNat)
 case atStart => exact ⟨0, by omega, rfl, h0, KeepR.refl _⟩
 case round =>
   obtain ⟨k, hk, rfl, hJ, hB⟩ := hrel
   have cn' := (hB Bn hBn.1 hBn.2).trans cn
   have ca' := (hB Ba hBa.1 hBa.2).trans ca
   have cb' := (hB Bb hBb.1 hBb.2).trans cb
   by_cases hlt : 2 * k < n
   · have cx := fun w => CX.out (2 * k) w hlt
     have cy := fun w => CY.out (2 * k) w hlt
     have lx := LX.out (2 * k)
     have ly := LY.out (2 * k)
     have hs := upto_succ X Y k
     obtain ⟨x, hx⟩ : ∃ x, wAt X (2 * k) = x := ⟨_, rfl⟩
     obtain ⟨y, hy⟩ : ∃ y, wAt Y (2 * k) = y := ⟨_, rfl⟩
     rw [hx] at cx lx hs
     rw [hy] at cy ly hs
     have HS := Lib.hid hs
     have CX2 := Lib.hid cx
     have CY2 := Lib.hid cy
     clear hx hy hs cx cy
     have hd : 1 ≤ m - 1 := by omega
     have hm1 : 1 ≤ m := by omega
     have hi1 : (0 : Int) ≤ 2 * (k : Int) := by omega
     have hi2 : 2 * (k : Int) ≤ (n : Int) := by omega
     have hi3 : (n : Int) ≤ (a.size : Int) := by omega
     have hi4 : (n : Int) ≤ (b.size : Int) := by omega
     have hi5 : 2 * k ≤ n := by omega
     have hi6 : (2 * (k : Int)).toNat = 2 * k := by omega
     have hmx : Tryz.prog.follows .mixedOrders = true := by kernel_rfl
     gi_wp2
     refine wpIn_region_tail (C := fun w' => ∃ q, w' = wr.drewN q) 11 rfl hmx (by kernel_rfl) ⟨1, rfl⟩ ?_
     simp only [List.take_succ_cons, List.take_zero, List.drop_succ_cons, List.drop_zero]
     repeat (refine wpQuietIn_step (fun _ _ _ _ => trivial) (fun K hK => ?_); go_simp; first | (refine hK _ ?_; clear hK K) | (apply Exists.intro; refine ⟨fun _ => ?_, hK _ ?_⟩; (first | (gi_at_call_has 109 (Value.string (a.extract (2 * k) n)); exact CallsIn.quiet_of_same (callsIn_wide.2 ((CX2.out _).mono fun e w' h => ⟨h.1, h.2.symm⟩))) | (gi_at_call_has 109 (Value.string (b.extract (2 * k) n)); exact CallsIn.quiet_of_same (callsIn_wide.2 ((CY2.out _).mono fun e w' h => ⟨h.1, h.2.symm⟩)))); clear hK K))
     refine wpQuietIn_nil ?_
     intro _ hw'
     obtain ⟨nq, rfl⟩ := hw'
     obtain ⟨fn, tmps, assign, body, hyy, hR⟩ := HY.out (upto X Y k) x y (wr.drewN nq) lx ly (HJ.out _ _ _ hJ) (by rw [upto_len]; omega)
     gi_wp2
     refine hR.mono ?_
     rintro e W3 (⟨rfl, hJ3, hk3⟩ | ⟨rfl, hJx3⟩)
     · have HB3 := Lib.hid ((hB.dr nq).trans hk3)
       clear hk3 hyy
       gi_wp2
       go_roundw
       case rel => exact ⟨k + 1, by omega, by go_num, by rw [HS.out]; exact hJ3, HB3.out⟩
       case measure => simp only [intOf]; omega
     · clear hyy
       gi_wp2
       refine bodyPost_ret (results_none rfl _ _ _) rfl ?_
       exact ⟨⟨_, rfl⟩, .inr ⟨_, trivial, hJx3⟩⟩
   · have hkk : k = (n + 1) / 2 := by omega
     have HK := Lib.hid hkk
     clear hkk
     gi_wp2
     go_end0
     exact ⟨⟨_, rfl⟩, .inl ⟨_, by rw [HK.out], hJ⟩⟩
abbrev P16 := { x : Nat × Nat // x.1 ≤ 65535 ∧ x.2 ≤ 65535 }
def pvals (l : List P16) : List (Nat × Nat) := l.map (·.1)
theorem pvals_snoc (l : List P16) (x : P16) : pvals (l ++ [x]) = pvals l ++ [x.1] := by simp [pvals]
theorem pvals_len (l : List P16) : (pvals l).length = l.length := by simp [pvals]
theorem grown_drewN (W : World) (q : Nat) : W.grownBy (W.drewN q) none := ⟨rfl, rfl, rfl, Nat.le_refl _, fun _ _ _ => rfl⟩
theorem pairs_stops (m : Nat) (hm : 2 ≤ m) (B1 B2 n Bn Ba Bb : Nat) (a b : ByteArray) (ha : n ≤ a.size) (hb : n ≤ b.size) (ha2 : a.size ≤ 1000000) (hb2 : b.size ≤ 1000000) (hBn : B1 ≤ Bn ∧ Bn < B2) (hBa : B1 ≤ Ba ∧ Ba < B2) (hBb : B1 ≤ Bb ∧ Bb < B2)
   (w : World) (hn₀ : B2 ≤ w.heap.size) (cn : w.cell? ⟨Bn, 0, none⟩ = some (.int .i64 (n : Int))) (ca : w.cell? ⟨Ba, 0, none⟩ = some (.string a)) (cb : w.cell? ⟨Bb, 0, none⟩ = some (.string b)) :
   SeqStopsK Fence.wide m Tryz.prog 108 #[.pointer (some ⟨Bn, 0, none⟩), .pointer (some ⟨Ba, 0, none⟩), .pointer (some ⟨Bb, 0, none⟩)] (fun x : P16 => #[Value.int .u16 (x.1.1 : Int), Value.int .u16 (x.1.2 : Int)]) (KeepR B1 B2)
     (fun ys => pvals ys = upto ((bz a).take n) ((bz b).take n) ((n + 1) / 2)) (fun _ => True) n w := fun l J Jx W hW hJ _ hY h0 => by
 have hWn := hW.mono hn₀
 refine (pairs1_in m hm l B1 B2 n Bn Ba Bb a b ha hb ha2 hb2 hBn hBa hBb (fun pre W' => ∃ xs, pvals xs = pre ∧ J xs W') (fun pre W' => ∃ xs, pvals xs = pre ∧ Jx xs W') ?_ ?_ W ((hWn.cell (p := ⟨Bn, 0, none⟩) hBn.2).trans cn) ((hWn.cell (p := ⟨Ba, 0, none⟩) hBa.2).trans ca) ((hWn.cell (p := ⟨Bb, 0, none⟩) hBb.2).trans cb) ⟨[], rfl, h0⟩).mono ?_
 · rintro pre x y W1 hx hy ⟨xs, rfl, hj⟩ hl
   obtain ⟨fn, tmps, assign, body, hyy, hR⟩ := hY xs ⟨(x, y), hx, hy⟩ W1 hj (by rw [pvals_len] at hl; exact hl)
   refine ⟨fn, tmps, assign, body, hyy, hR.mono ?_⟩
   rintro e W' (⟨he, hj, hk⟩ | ⟨he, hj⟩)
   · exact .inl ⟨he, ⟨_, pvals_snoc _ _, hj⟩, hk⟩
   · exact .inr ⟨he, ⟨_, pvals_snoc _ _, hj⟩⟩
 · rintro pre W1 q ⟨xs, e, hj⟩
   exact ⟨xs, e, hJ xs W1 _ none hj (grown_drewN W1 q) (fun r e => by cases e)⟩
 · rintro e W' ⟨he, ⟨ys, rfl, xs, hx, hj⟩ | ⟨pre, _, xs, hx, hj⟩⟩
   · exact ⟨he, .inl ⟨xs, hx, hj⟩⟩
   · exact ⟨he, .inr ⟨xs, trivial, hj⟩⟩
end Go.Proofs.YtpmnmnflaijaaaaGreat.SumPairs
namespace Go.Proofs.YtpmnmnflaijaaaaGreat.SumTurnsC
open Go.RowKit Go.Shelf SumMath SumPlain SumWords SumPairs
set_option linter.unusedVariables false
attribute [local go_sem] Oper.semAt_some
def tuf (s : Nat) (l : List (Nat × Nat)) : Nat := l.foldl (fun t p => tu t p.1 p.2) s
theorem tuf_snoc (s : Nat) (l : List (Nat × Nat)) (p : Nat × Nat) : tuf s (l ++ [p]) = tu (tuf s l) p.1 p.2 := by simp [tuf]
theorem tuf_upto (s : Nat) (X Y : List Nat) : ∀ k, tuf s (upto X Y k) = tus s X Y k
 | 0 => rfl
 | k + 1 => by rw [upto_succ, tuf_snoc, tuf_upto s X Y k]; rfl
theorem tuf_le (s : Nat) (hs : s ≤ 65535) (l : List (Nat × Nat)) : tuf s l ≤ 65535 := by
 unfold tuf
 induction l generalizing s with
 | nil => exact hs
 | cons p l ih => exact ih _ (tu_le _ _ _)
set_option maxRecDepth 100000 in
set_option maxHeartbeats 1000000 in
theorem pairs_in (m : Nat) (x y : ByteArray) (n : Nat) (hn : n = min x.size y.size) (w : World) :
   CallsIn Fence.wide m Tryz.prog 83 #[.string x, .string y] w fun e w' => e = .returned (.func (.func 108) #[] #[.pointer (some ⟨w.heap.size + 1 + 1, 0, none⟩), .pointer (some ⟨w.heap.size, 0, none⟩), .pointer (some ⟨w.heap.size + 1, 0, none⟩)]) ∧
     w' = ((w.alloc (.cells #[.string x] 9)).alloc (.cells #[.string y] 9)).alloc (.cells #[.int .i64 (n : Int)] 3) := by
 rcases Nat.lt_or_ge y.size x.size with h | h
 · obtain rfl : n = y.size := by omega
   clear hn
   have h' : y.size ≤ x.size := by omega
   refine callsIn_of_wp Tryz.func83 rfl trivial ?_ rfl
   simp only [Tryz.ntmps83, List.size_toArray, List.length_cons, List.length_nil, Nat.reduceAdd, Nat.reduceSub, Array.replicate_succ, Array.replicate_zero, List.push_toArray, List.append_toArray, List.nil_append, List.cons_append]
   gi_wp2
   go_ret
   exact ⟨rfl, rfl⟩
 · obtain rfl : n = x.size := by omega
   clear hn
   refine callsIn_of_wp Tryz.func83 rfl trivial ?_ rfl
   simp only [Tryz.ntmps83, List.size_toArray, List.length_cons, List.length_nil, Nat.reduceAdd, Nat.reduceSub, Array.replicate_succ, Array.replicate_zero, List.push_toArray, List.append_toArray, List.nil_append, List.cons_append]
   gi_wp2
   go_ret
   exact ⟨rfl, rfl⟩
set_option maxRecDepth 100000 in
set_option maxHeartbeats 4000000 in
theorem turns_any (s : Nat) (x y : ByteArray) (w : World) (hs : s ≤ 65535) (hx : x.size ≤ 1000000) (hy : y.size ≤ 1000000) :
   Calls Tryz.prog 50 #[.int .u16 (s : Int), .string x, .string y] w fun e w' => e = .returned (.int .u16 ((tus s ((bz x).take (min x.size y.size)) ((bz y).take (min x.size y.size)) ((min x.size y.size + 1) / 2) : Nat) : Int)) ∧ Below w.heap.size w w' := by
 rw [← tuf_upto]
 obtain ⟨n, hn⟩ : ∃ n, min x.size y.size = n := ⟨_, rfl⟩
 rw [hn]
 obtain ⟨C, hC⟩ : ∃ C, upto ((bz x).take n) ((bz y).take n) ((n + 1) / 2) = C := ⟨_, rfl⟩
 rw [hC]
 have HC := Lib.hid hC
 have HN := Lib.hid hn
 clear hC hn
 refine (callsIn_wide (n := 6)).1 ?_
 refine callsIn_of_wp_marks Tryz.func50 rfl trivial ?_ rfl
 simp only [Tryz.ntmps50, List.size_toArray, List.length_cons, List.length_nil, Nat.reduceAdd, Nat.reduceSub, Array.replicate_succ, Array.replicate_zero, List.push_toArray, List.append_toArray, List.nil_append, List.cons_append]
 gi_wp2_with (refine ⟨trivial, ?_⟩; gi_at_call 83; refine (pairs_in _ x y n HN.out.symm _).mono ?_; rintro e w' ⟨rfl, rfl⟩)
 have bS := Boxed.new w 23 (.int .u16 (s : Int))
 have bX := Boxed.new (w.alloc (.cells #[.int .u16 (s : Int)] 23)) 9 (.string x)
 have bY := Boxed.new ((w.alloc (.cells #[.int .u16 (s : Int)] 23)).alloc (.cells #[.string x] 9)) 9 (.string y)
 have bN := Boxed.new (((w.alloc (.cells #[.int .u16 (s : Int)] 23)).alloc (.cells #[.string x] 9)).alloc (.cells #[.string y] 9)) 3 (.int .i64 (n : Int))
 simp only [World.size_alloc] at bX bY bN
 have hB0 : Below w.heap.size w ((((w.alloc (.cells #[.int .u16 (s : Int)] 23)).alloc (.cells #[.string x] 9)).alloc (.cells #[.string y] 9)).alloc (.cells #[.int .i64 (n : Int)] 3)) :=
   ((((Below.refl _ w).alloc (Nat.le_refl _) _).alloc (by simp) _).alloc (by simp; omega) _).alloc (by simp; omega) _
 have HB0 := Lib.hid hB0
 clear hB0
 have hsz : ((((w.alloc (.cells #[.int .u16 (s : Int)] 23)).alloc (.cells #[.string x] 9)).alloc (.cells #[.string y] 9)).alloc (.cells #[.int .i64 (n : Int)] 3)).heap.size = w.heap.size + 4 := by simp
 have cS := ((bS.alloc (.cells #[.string x] 9)).alloc (.cells #[.string y] 9)).alloc (.cells #[.int .i64 (n : Int)] 3)
 have cX := (bX.alloc (.cells #[.string y] 9)).alloc (.cells #[.int .i64 (n : Int)] 3)
 have cY := bY.alloc (.cells #[.int .i64 (n : Int)] 3)
 clear bS bX bY
 refine wpIn_rangeFunc_ownF rfl (by omega) (gf := 108) (lb := #[.pointer (some ⟨w.heap.size + 1 + 1 + 1, 0, none⟩), .pointer (some ⟨w.heap.size + 1, 0, none⟩), .pointer (some ⟨w.heap.size + 1 + 1, 0, none⟩)]) rfl trivial (enters_of Tryz.func108 (by kernel_rfl) rfl)
   (pairs_stops _ (by omega) (w.heap.size + 1) (w.heap.size + 4) n (w.heap.size + 1 + 1 + 1) (w.heap.size + 1) (w.heap.size + 1 + 1) x y (by have := HN.out; omega) (by have := HN.out; omega) hx hy ⟨by omega, by omega⟩ ⟨by omega, by omega⟩ ⟨by omega, by omega⟩ _ (by rw [hsz]; omega) bN.cell cX.cell cY.cell) KeepR.trans (fun W l o o' h1 h2 h3 h4 => KeepR.of_below (belowK_b (n₀ := w.heap.size + 4) (Nat.le_of_eq hsz.symm) W l o o' h1 h2 h3 h4)) (Below.refl _ _) (fun _ => rfl)
   (fun pre W => (W.cell? ⟨w.heap.size, 0, none⟩ = some (.int .u16 ((tuf s (pvals pre) : Nat) : Int)) ∧ W.frozen? ⟨w.heap.size, 0, none⟩ = false) ∧ Below w.heap.size w W)
   (fun _ _ _ => False)
   (OwnFrom.and (Own.from (fun s A B row hs hg hr => ⟨cell_kept hs.1 hg hr, (frozen_kept hs.1 hg hr).trans hs.2⟩) _) (ownFrom_below (Nat.le_refl _) (by rw [hsz]; omega)))
   (fun _ _ _ _ _ hs _ _ => hs)
   ⟨⟨cS.cell, cS.frozen⟩, HB0.out⟩
   (fun p => { tmps := #[.int .u16 (s : Int), .string x, .string y, .pointer (some ⟨w.heap.size, 0, none⟩), undef, undef, .int .u16 0, .int .u16 (p.1.1 : Int), .int .u16 (p.1.2 : Int), .string x, .string y,
     .func (.func 108) #[] #[.pointer (some ⟨w.heap.size + 1 + 1 + 1, 0, none⟩), .pointer (some ⟨w.heap.size + 1, 0, none⟩), .pointer (some ⟨w.heap.size + 1 + 1, 0, none⟩)], .int .u16 (p.1.1 : Int), .int .u16 (p.1.2 : Int), undef, undef, undef, undef, undef], defers := [] }) ?assign ?body ?done ?stop
 case assign =>
   intro l p W K hK
   gi_wp2
   exact hK
 case body =>
   rintro l pre ⟨⟨p, q⟩, hp, hq⟩ W ⟨⟨hc, hf⟩, hB⟩ _
   dsimp only at hp hq ⊢
   have hv : tuf s (pvals (pre ++ [⟨(p, q), hp, hq⟩])) = tu (tuf s (pvals pre)) p q := by rw [pvals_snoc, tuf_snoc]
   have HV := Lib.hid hv
   have hle := tuf_le s hs (pvals pre)
   clear hv
   generalize tuf s (pvals pre) = v at hc hle HV
   obtain ⟨u, hu⟩ : ∃ u, tu v p q = u := ⟨_, rfl⟩
   have HU := Lib.hid hu
   have HP := Lib.hid (turn_any v p q W hle hp hq)
   rw [hu] at HP
   clear hu
   have HBB := Lib.hid hB
   clear hB
   gi_wp2_with (refine ⟨trivial, ?_⟩; gi_at_call 84; refine (CallsIn.inRound l (callsIn_wide.2 HP.out)).mono ?_; rintro e w' ⟨rfl, rfl⟩)
   exact ⟨KeepsOthers.setCell _ _ _, (fun b h1 h2 => World.cell?_setCell_other W _ _ _ (fun e => by injection e with e; omega)), ⟨by rw [HV.out, HU.out]; exact World.cell?_setCell_same' _ _ _ (by rw [hc]; rfl), by rw [World.frozen?_setCell]; exact hf⟩, HBB.out.setCell (p := ⟨w.heap.size, 0, none⟩) (Nat.le_refl _) _⟩
 case done =>
   rintro D ys W hD hys ⟨⟨hc, _⟩, hB⟩ hK
   rw [hys, HC.out] at hc
   obtain ⟨v, hv⟩ : ∃ v, tuf s C = v := ⟨_, rfl⟩
   rw [hv] at hc
   have HV := Lib.hid hv
   have HBB := Lib.hid hB
   clear hv hB
   gi_wp2
   refine ⟨by simp, .inl ⟨_, _, rfl, run_takeDeferred hK, ?_⟩⟩
   refine ⟨_, results_tmp rfl _ _ _, ?_, HBB.out.trans (belowK_b (w := w) (Nat.le_refl _) W D _ _ (by rw [hsz] at hD; omega) hK rfl rfl)⟩
   rw [HV.out]
   rfl
 case stop =>
   rintro D c pre W _ _ h _
   exact h.elim
end Go.Proofs.YtpmnmnflaijaaaaGreat.SumTurnsC
