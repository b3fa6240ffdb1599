/-
  Laws for a proof of package pkt: 3 texts in one.
-/
import Derived.Test.YtpmnmnflaijaaaaGreatQSumPlainT5
import Derived.RangeFuncNested
import Derived.RangeFuncBound
import Derived.RangeFuncCalls
import Derived.RangeFuncLeaves
import Derived.RangeFuncFrom
import Derived.RangeFuncBox
import Derived.Shelf.Abstract
import Derived.Shelf.RegionOpen
import Derived.WalkKit
import Derived.OwnWalkIn
import Derived.TacticsInMore
import Derived.LoopNIn
import Derived.LoopIn
namespace Go.Proofs.YtpmnmnflaijaaaaGreat.SumWords
open Go.RowKit Go.Shelf SumMath SumPlain
set_option linter.unusedVariables false
attribute [local go_sem] Oper.semAt_some
def StrR (w : World) (B : Nat) (A : Option Addr) (n : Nat) (L : List ByteArray) : Prop :=
 n = L.length ∧ (0 < n → ∃ b off, A = some ⟨b, off, none⟩ ∧ b < B ∧ ∀ (j : Nat) (h : j < L.length), w.cell? ⟨b, off + j, none⟩ = some (.string L[j]))
theorem StrR.len {w B A n L} (h : StrR w B A n L) : n = L.length := h.1
theorem StrR.at_ {w B A n L} (h : StrR w B A n L) {k : Nat} (hk : k < n) : ∃ b off, A = some ⟨b, off, none⟩ ∧ b < B ∧ ∀ (j : Nat) (h : j < L.length), w.cell? ⟨b, off + j, none⟩ = some (.string L[j]) := h.2 (by omega)
theorem StrR.keep {w w' B A n L} (h : StrR w B A n L) (hk : ∀ b o, b < B → w'.cell? ⟨b, o, none⟩ = w.cell? ⟨b, o, none⟩) : StrR w' B A n L :=
 ⟨h.1, fun hn => by
   obtain ⟨b, off, e, hb, hc⟩ := h.2 hn
   exact ⟨b, off, e, hb, fun j hj => by rw [hk _ _ hb]; exact hc j hj⟩⟩
theorem StrR.below {w w' B A n L} (h : StrR w B A n L) (hb : Below B w w') : StrR w' B A n L := h.keep fun b o hp => hb.cell (p := ⟨b, o, none⟩) hp
theorem StrR.mono {w B B' A n L} (h : StrR w B A n L) (hB : B ≤ B') : StrR w B' A n L :=
 ⟨h.1, fun hn => by
   obtain ⟨b, off, e, hb, hc⟩ := h.2 hn
   exact ⟨b, off, e, by omega, hc⟩⟩
def cat (L : List ByteArray) : List Nat := L.flatMap bz
theorem cat_take (L : List ByteArray) (k : Nat) (h : k < L.length) : cat (L.take (k + 1)) = cat (L.take k) ++ bz L[k] := by
 unfold cat; rw [List.take_succ_eq_append_getElem h, List.flatMap_append]; simp
theorem bz_take (s : ByteArray) (i : Nat) (h : i < s.size) : (bz s).take (i + 1) = (bz s).take i ++ [s[i].toNat] := by
 have hl : i < (bz s).length := by rw [bz_len]; exact h
 have h2 := bz_at s i h
 rw [List.getElem?_eq_getElem hl] at h2
 injection h2 with h2
 rw [List.take_succ_eq_append_getElem hl, h2]
def Held (p : List Nat × Option Nat) (hi hf : Value) : Prop := hf = .bool p.2.isSome ∧ ∃ h : Nat, hi = .int .u16 (h : Int) ∧ h ≤ 65535 ∧ ∀ y, p.2 = some y → h = y * 256 ∧ y ≤ 255
theorem held_none {ws : List Nat} {hi hf : Value} (h : Held (ws, none) hi hf) : hf = .bool false ∧ ∃ h : Nat, hi = .int .u16 (h : Int) ∧ h ≤ 65535 := ⟨h.1, by obtain ⟨_, x, e, hx, _⟩ := h; exact ⟨x, e, hx⟩⟩
theorem held_some {ws : List Nat} {y : Nat} {hi hf : Value} (h : Held (ws, some y) hi hf) : hf = .bool true ∧ ∃ h : Nat, hi = .int .u16 (h : Int) ∧ h = y * 256 ∧ y ≤ 255 := ⟨h.1, by obtain ⟨_, x, e, _, hx⟩ := h; exact ⟨x, e, (hx y rfl).1, (hx y rfl).2⟩⟩
theorem mk_none {ws : List Nat} {h : Nat} {hi : Value} (e : hi = .int .u16 (h : Int)) (hh : h ≤ 65535) : Held (ws, none) hi (.bool false) := ⟨rfl, h, e, hh, fun y e => by cases e⟩
theorem mk_some {ws : List Nat} {y : Nat} {hi : Value} (e : hi = .int .u16 ((y * 256 : Nat) : Int)) (hh : y ≤ 255) : Held (ws, some y) hi (.bool true) := ⟨rfl, y * 256, e, by omega, fun z e => by cases e; exact ⟨rfl, hh⟩⟩
theorem stp_none {l : List Nat} {x : Nat} {ws : List Nat} (h : st l = (ws, none)) : st (l ++ [x]) = (ws, some x) := by rw [st_snoc, h]; rfl
theorem stp_some {l : List Nat} {x y : Nat} {ws : List Nat} (h : st l = (ws, some y)) : st (l ++ [x]) = (ws ++ [y * 256 + x], none) := by rw [st_snoc, h]; rfl
theorem st_fst_le {l ws : List Nat} {o : Option Nat} (h : st l = (ws, o)) : ws.length ≤ l.length := by have := st_len l; rw [h] at this; exact this
theorem sub_len (L : List ByteArray) (k i : Nat) (h : k < L.length) : (cat (L.take k) ++ (bz L[k]).take i).length ≤ (cat L).length := by
 have h1 : cat L = cat (L.take k) ++ bz L[k] ++ cat (L.drop (k + 1)) := by
   have e : L = L.take k ++ L[k] :: L.drop (k + 1) := by rw [← List.drop_eq_getElem_cons h, List.take_append_drop]
   have e2 : cat L = cat (L.take k ++ L[k] :: L.drop (k + 1)) := congrArg cat e
   have e3 : cat (L.take k ++ L[k] :: L.drop (k + 1)) = cat (L.take k) ++ bz L[k] ++ cat (L.drop (k + 1)) := by
     unfold cat; rw [List.flatMap_append, List.flatMap_cons, List.append_assoc]
   exact e2.trans e3
 have h2 := congrArg List.length h1
 simp only [List.length_append, List.length_take] at h2 ⊢
 omega
set_option maxRecDepth 100000 in
set_option maxHeartbeats 4000000 in
theorem words1_in (F : Fence) (m : Nat) (hf : F.fn 110) (hro : F.round = none) (hm : 1 ≤ m) (l Bs n₀ : Nat) (A : Option Addr) (n c : Nat) (L : List ByteArray) (hreach : n ≤ 100000000) (hsz : ∀ s ∈ L, s.size ≤ 100000000) (J Jx : List Nat → World → Prop)
   (hY : ∀ pre x W, x ≤ 65535 → J pre W → pre.length < (cat L).length + 1 → YieldAt F (m - 1) Tryz.prog l #[.int .u16 ((x : Nat) : Int)] W fun e W' =>
     (e = .returned (.bool true) ∧ J (pre ++ [x]) W' ∧ Below n₀ W W') ∨ (e = .returned (.bool false) ∧ Jx (pre ++ [x]) W'))
   (W : World) (hBs : W.cell? ⟨Bs, 0, none⟩ = some (.slice A n c)) (hr : StrR W n₀ A n L) (h0 : J [] W) :
   CallsIn F m Tryz.prog 110 #[.func (.yield l) #[] #[], .pointer (some ⟨Bs, 0, none⟩)] W fun e W' => (∃ v, e = .returned v) ∧
     ((∃ ys, ys = wl (cat L) ∧ J ys W') ∨ (∃ pre : List Nat, True ∧ Jx pre W')) := by
 have HY := Lib.hid hY
 have HR := Lib.hid hr
 have HZ := Lib.hid hsz
 clear hY hr hsz
 refine callsIn_of_wp Tryz.func110 rfl hf ?_ hro
 simp only [Tryz.ntmps110, List.size_toArray, List.length_cons, List.length_nil, Nat.reduceAdd, Nat.reduceSub, Array.replicate_succ, Array.replicate_zero, List.push_toArray, List.append_toArray, List.nil_append, List.cons_append]
 gi_wp2
 gi_loopw [3, 4, 10] (fun hi hf i wr => ∃ k : Nat, k ≤ n ∧ i = .int .i64 (k : Int) ∧ Held (st (cat (L.take k))) hi hf ∧ J (st (cat (L.take k))).1 wr ∧ Below n₀ W wr)
   (fun _ _ i _ => n - (intOf i).toNat)
 case atStart => exact ⟨0, Nat.zero_le _, rfl, ⟨rfl, 0, rfl, by omega, fun y e => by cases e⟩, h0, Below.refl _ _⟩
 case round =>
   obtain ⟨k, hk, rfl, hH, hJ, hB⟩ := hrel
   by_cases hlt : k < n
   · obtain ⟨b, off, rfl, hb, hc⟩ := HR.out.at_ hlt
     have hkl : k < L.length := by have := HR.out.len; omega
     have hcx : wr.cell? ⟨b, off + k, none⟩ = some (.string L[k]) := (hB.cell (p := ⟨b, off + k, none⟩) hb).trans (hc k hkl)
     have e1 := cat_take L k hkl
     have e2 := fun i => sub_len L k i hkl
     have e3 := HZ.out L[k] (List.getElem_mem hkl)
     clear hc
     generalize L[k] = s at hcx e1 e2 e3
     obtain ⟨pre, hp⟩ : ∃ pre, cat (L.take k) = pre := ⟨_, rfl⟩
     rw [hp] at e1 e2 hH hJ
     have E1 := Lib.hid e1
     have E2 := Lib.hid e2
     have EP := Lib.hid hp
     have HB := Lib.hid hB
     clear e1 e2 hp hB
     obtain ⟨rfl, h, rfl, hh, hy⟩ := hH
     have Hy := Lib.hid hy
     clear hy
     gi_wp2
     gi_loopw [3, 4, 16] (fun hi hf i wr => ∃ j : Nat, j ≤ s.size ∧ i = .int .i64 (j : Int) ∧ Held (st (pre ++ (bz s).take j)) hi hf ∧ J (st (pre ++ (bz s).take j)).1 wr ∧ Below n₀ W wr)
       (fun _ _ i _ => s.size - (intOf i).toNat)
     case atStart => exact ⟨0, Nat.zero_le _, rfl, by rw [List.take_zero, List.append_nil]; exact ⟨rfl, h, rfl, hh, Hy.out⟩, by rw [List.take_zero, List.append_nil]; exact hJ, HB.out⟩
     case round =>
       obtain ⟨j, hj, rfl, hH2, hJ2, hB2⟩ := hrel
       have HB2 := Lib.hid hB2
       clear hB2
       obtain ⟨p, hp⟩ : ∃ p, st (pre ++ (bz s).take j) = p := ⟨_, rfl⟩
       rw [hp] at hH2 hJ2
       have HP := Lib.hid hp
       clear hp
       by_cases hjs : j < s.size
       · have hbt := bz_take s j hjs
         obtain ⟨x, hx⟩ : ∃ x, s[j].toNat = x := ⟨_, rfl⟩
         have hx2 : x ≤ 255 := by rw [← hx]; exact byte_le _
         rw [hx] at hbt
         have HBT := Lib.hid hbt
         clear hbt
         obtain ⟨ws, _ | y⟩ := p
         · obtain ⟨rfl, h2, rfl, hh2⟩ := held_none hH2
           have HS := Lib.hid (stp_none (x := x) HP.out)
           clear hH2
           gi_wp2
           go_roundw
           case rel => exact ⟨j + 1, by omega, by go_num, by rw [HBT.out, ← List.append_assoc, HS.out]; exact mk_some (by rw [Int.natCast_mul]; rfl) hx2, by rw [HBT.out, ← List.append_assoc, HS.out]; exact hJ2, HB2.out⟩
           case measure => simp only [intOf]; omega
         · obtain ⟨rfl, h2, rfl, hh2, hy2⟩ := held_some hH2
           have HS := Lib.hid (stp_some (x := x) HP.out)
           clear hH2
           subst hh2
           obtain ⟨z, hz⟩ : ∃ z, y * 256 + x = z := ⟨_, rfl⟩
           obtain ⟨hw, hhw⟩ : ∃ hw, y * 256 = hw := ⟨_, rfl⟩
           have hbits : bits BinOp.or IntKind.u16 (hw : Int) (x : Int) = (z : Int) := by rw [← hhw, ← hz]; exact or16w y x hy2 hx2
           have hh3 : hw ≤ 65535 := by omega
           have hz3 : z ≤ 65535 := by omega
           rw [hhw]
           have HHW := Lib.hid hhw
           have HZZ := Lib.hid hz
           clear hhw hz
           obtain ⟨fn, tmps, assign, body, hyy, hRR⟩ := HY.out ws z wr hz3 hJ2 (by have := st_fst_le HP.out; have := E2.out j; omega)
           gi_wp2
           refine hRR.mono ?_
           rintro e W3 (⟨rfl, hJ3, hk3⟩ | ⟨rfl, hJx3⟩)
           · have HB3 := Lib.hid (HB2.out.trans hk3)
             clear hk3 hyy
             gi_wp2
             go_roundw
             case rel => exact ⟨j + 1, by omega, by go_num, by rw [HBT.out, ← List.append_assoc, HS.out]; exact mk_none rfl hh3, by rw [HBT.out, ← List.append_assoc, HS.out, HZZ.out]; exact hJ3, HB3.out⟩
             case measure => simp only [intOf]; omega
           · clear hyy
             gi_wp2
             refine bodyPost_ret (results_none rfl _ _ _) rfl ?_
             exact ⟨⟨_, rfl⟩, .inr ⟨_, trivial, hJx3⟩⟩
       · have hjj : j = s.size := by omega
         have hfull : pre ++ (bz s).take j = cat (L.take (k + 1)) := by rw [E1.out, List.take_of_length_le (by rw [bz_len]; omega)]
         have HF := Lib.hid hfull
         have HPH := Lib.hid hH2
         clear hfull
         obtain ⟨ws, _ | y⟩ := p
         · obtain ⟨rfl, h2, rfl, hh2⟩ := held_none hH2
           clear hH2
           gi_wp2
           go_roundw
           case rel => exact ⟨k + 1, by omega, by go_num, by rw [← HF.out, HP.out]; exact HPH.out, by rw [← HF.out, HP.out]; exact hJ2, HB2.out⟩
           case measure => simp only [intOf]; omega
         · obtain ⟨rfl, h2, rfl, hh2, hy2⟩ := held_some hH2
           clear hH2
           gi_wp2
           go_roundw
           case rel => exact ⟨k + 1, by omega, by go_num, by rw [← HF.out, HP.out]; exact HPH.out, by rw [← HF.out, HP.out]; exact hJ2, HB2.out⟩
           case measure => simp only [intOf]; omega
   · obtain ⟨p, hp⟩ : ∃ p, st (cat (L.take k)) = p := ⟨_, rfl⟩
     rw [hp] at hH hJ
     have hall : L.take k = L := List.take_of_length_le (by have := HR.out.len; omega)
     rw [hall] at hp
     have HP := Lib.hid hp
     clear hp hall
     obtain ⟨ws, _ | y⟩ := p
     · obtain ⟨rfl, h2, rfl, hh2⟩ := held_none hH
       gi_wp2
       go_end0
       exact ⟨⟨_, rfl⟩, .inl (by have e : wl (cat L) = ws := (by unfold wl; rw [HP.out]; rfl); rw [e]; exact hJ)⟩
     · obtain ⟨rfl, h2, rfl, hh2, hy2⟩ := held_some hH
       clear hH
       have HH2 := Lib.hid hh2
       have hb2 : h2 ≤ 65535 := by omega
       clear hh2
       obtain ⟨fn, tmps, assign, body, hyy, hRR⟩ := HY.out ws h2 wr hb2 hJ (by have := st_fst_le HP.out; omega)
       gi_wp2
       refine hRR.mono ?_
       rintro e W3 (⟨rfl, hJ3, hk3⟩ | ⟨rfl, hJx3⟩)
       · clear hyy
         gi_wp2
         go_end0
         exact ⟨⟨_, rfl⟩, .inl ⟨ws ++ [h2], (by unfold wl; rw [HP.out, HH2.out]; rfl), hJ3⟩⟩
       · clear hyy
         gi_wp2
         go_end0
         exact ⟨⟨_, rfl⟩, .inr ⟨_, trivial, hJx3⟩⟩
abbrev W16 := { x : Nat // x ≤ 65535 }
def vals (l : List W16) : List Nat := l.map (·.1)
theorem vals_snoc (l : List W16) (x : W16) : vals (l ++ [x]) = vals l ++ [x.1] := by simp [vals]
theorem vals_len (l : List W16) : (vals l).length = l.length := by simp [vals]
theorem words_stops (F : Fence) (m : Nat) (hf : F.fn 110) (hro : F.round = none) (hm : 1 ≤ m) (Bs n₀ : Nat) (A : Option Addr) (n c : Nat) (L : List ByteArray) (hreach : n ≤ 100000000) (hsz : ∀ s ∈ L, s.size ≤ 100000000) (w : World) (hBs : Bs < w.heap.size) (hn₀ : n₀ ≤ w.heap.size)
   (hc : w.cell? ⟨Bs, 0, none⟩ = some (.slice A n c)) (hr : StrR w n₀ A n L) :
   SeqStopsK F m Tryz.prog 110 #[.pointer (some ⟨Bs, 0, none⟩)] (fun x : W16 => #[Value.int .u16 (x.1 : Int)]) (Below n₀) (fun ys => vals ys = wl (cat L)) (fun _ => True) ((cat L).length + 1) w := fun l J Jx W hW _ _ hY h0 => by
 refine (words1_in F m hf hro hm l Bs n₀ A n c L hreach hsz (fun pre W => ∃ xs, vals xs = pre ∧ J xs W) (fun pre W => ∃ xs, vals xs = pre ∧ Jx xs W) ?_ W ((hW.cell (p := ⟨Bs, 0, none⟩) hBs).trans hc) (hr.below (hW.mono hn₀)) ⟨[], rfl, h0⟩).mono ?_
 · rintro pre x W1 hx ⟨xs, rfl, hJ⟩ hl
   obtain ⟨fn, tmps, assign, body, hy, hR⟩ := hY xs ⟨x, hx⟩ W1 hJ (by rw [vals_len] at hl; exact hl)
   refine ⟨fn, tmps, assign, body, hy, hR.mono ?_⟩
   rintro e W' (⟨he, hj, hk⟩ | ⟨he, hj⟩)
   · exact .inl ⟨he, ⟨_, vals_snoc _ _, hj⟩, hk⟩
   · exact .inr ⟨he, ⟨_, vals_snoc _ _, hj⟩⟩
 · rintro e W' ⟨he, ⟨ys, rfl, xs, hx, hj⟩ | ⟨pre, _, xs, hx, hj⟩⟩
   · exact ⟨he, .inl ⟨xs, hx, hj⟩⟩
   · exact ⟨he, .inr ⟨xs, trivial, hj⟩⟩
set_option maxHeartbeats 1000000 in
theorem words_in (F : Fence) (m : Nat) (hf : F.fn 97) (hro : F.round = none) (A : Option Addr) (n c : Nat) (w : World) :
   CallsIn F m Tryz.prog 97 #[.slice A n c] w fun e w' => e = .returned (.func (.func 110) #[] #[.pointer (some ⟨w.heap.size, 0, none⟩)]) ∧ w' = w.alloc (.cells #[.slice A n c] 113) := by
 refine callsIn_of_wp Tryz.func97 rfl hf ?_ hro
 simp only [Tryz.ntmps97, List.size_toArray, List.length_cons, List.length_nil, Nat.reduceAdd, Nat.reduceSub, Array.replicate_succ, Array.replicate_zero, List.push_toArray, List.append_toArray, List.nil_append, List.cons_append]
 gi_wp2
 go_ret
 exact ⟨rfl, rfl⟩
end Go.Proofs.YtpmnmnflaijaaaaGreat.SumWords
namespace Go.Proofs.YtpmnmnflaijaaaaGreat.SumOf
open Go.RowKit Go.Shelf SumMath SumPlain SumWords
set_option linter.unusedVariables false
attribute [local go_sem] Oper.semAt_some
theorem fo_wl (l : List Nat) : 65535 - fo (wl l) = cs l := by unfold cs; rw [fo_sum, wl_sum]
set_option maxRecDepth 100000 in
set_option maxHeartbeats 4000000 in
theorem of_any (A : Option Addr) (n c : Nat) (L : List ByteArray) (w : World) (hr : StrR w w.heap.size A n L) (hreach : n ≤ 100000000) (hsz : ∀ s ∈ L, s.size ≤ 100000000) :
   Calls Tryz.prog 65 #[.slice A n c] w fun e w' => e = .returned (.int .u16 ((cs (cat L) : Nat) : Int)) ∧ Below w.heap.size w w' := by
 rw [← fo_wl]
 obtain ⟨C, hC⟩ : ∃ C, wl (cat L) = C := ⟨_, rfl⟩
 rw [hC]
 have HR := Lib.hid hr
 have HC := Lib.hid hC
 have HZ := Lib.hid hsz
 clear hr hC hsz
 refine (callsIn_wide (n := 4)).1 ?_
 refine callsIn_of_wp_marks Tryz.func65 rfl trivial ?_ rfl
 simp only [Tryz.ntmps65, List.size_toArray, List.length_cons, List.length_nil, Nat.reduceAdd, Nat.reduceSub, Array.replicate_succ, Array.replicate_zero, List.push_toArray, List.append_toArray, List.nil_append, List.cons_append]
 gi_wp2_with (refine ⟨trivial, ?_⟩; gi_at_call 97; refine (words_in _ _ trivial rfl _ _ _ _).mono ?_; rintro e w' ⟨rfl, rfl⟩)
 have bS := Boxed.new w 23 (.int .u16 0)
 have bN := Boxed.new (w.alloc (.cells #[.int .u16 0] 23)) 113 (.slice A n c)
 rw [World.size_alloc] at bN
 have hB0 : Below w.heap.size w ((w.alloc (.cells #[.int .u16 0] 23)).alloc (.cells #[.slice A n c] 113)) := ((Below.refl _ w).alloc (Nat.le_refl _) _).alloc (by simp) _
 refine wpIn_rangeFunc_ownF rfl (by omega) (gf := 110) (lb := #[.pointer (some ⟨w.heap.size + 1, 0, none⟩)]) rfl trivial (enters_of Tryz.func110 (by kernel_rfl) rfl)
   (words_stops Fence.wide _ trivial rfl (by omega) (w.heap.size + 1) w.heap.size A n c L hreach HZ.out _ (by simp) (by simp; omega) bN.cell (HR.out.below hB0)) belowK_t (belowK_b (by simp; omega)) (Below.refl _ _) (fun _ => rfl)
   (fun pre W => (W.cell? ⟨w.heap.size, 0, none⟩ = some (.int .u16 ((fo (vals pre) : Nat) : Int)) ∧ W.frozen? ⟨w.heap.size, 0, none⟩ = false) ∧ Below w.heap.size w W)
   (fun _ _ _ => False)
   (OwnFrom.and (Own.from (fun s A B row hs hg hr => ⟨cell_kept hs.1 hg hr, (frozen_kept hs.1 hg hr).trans hs.2⟩) _) (ownFrom_below (Nat.le_refl _) (by simp; omega)))
   (fun _ _ _ _ _ hs _ _ => hs)
   ⟨⟨(bS.alloc _).cell, (bS.alloc _).frozen⟩, hB0⟩
   (fun x => { tmps := #[.slice A n c, undef, .int .u16 0, .pointer (some ⟨w.heap.size, 0, none⟩), .int .u16 (x.1 : Int), .slice A n c, .func (.func 110) #[] #[.pointer (some ⟨w.heap.size + 1, 0, none⟩)], .int .u16 (x.1 : Int), undef, undef, undef, undef, undef], defers := [] }) ?assign ?body ?done ?stop
 case assign =>
   intro l x W K hK
   gi_wp2
   exact hK
 case body =>
   rintro l pre ⟨x, hx⟩ W ⟨⟨hc, hf⟩, hB⟩ _
   dsimp only
   have hv : fo (vals (pre ++ [⟨x, hx⟩])) = ones (fo (vals pre) + x) := by rw [vals_snoc, fo_snoc]
   have HV := Lib.hid hv
   have hle := fo_le (vals pre)
   clear hv
   generalize fo (vals pre) = v at hc hle HV
   obtain ⟨u, hu⟩ : ∃ u, ones (v + x) = u := ⟨_, rfl⟩
   have HU := Lib.hid hu
   have HP := Lib.hid (plus_any v x W hle hx)
   rw [hu] at HP
   clear hu
   gi_wp2_with (refine ⟨trivial, ?_⟩; gi_at_call 98; refine (CallsIn.inRound l (callsIn_wide.2 HP.out)).mono ?_; rintro e w' ⟨rfl, rfl⟩)
   exact ⟨KeepsOthers.setCell _ _ _, (Below.refl w.heap.size W).setCell (p := ⟨w.heap.size, 0, none⟩) (Nat.le_refl _) _, ⟨by rw [HV.out, HU.out]; exact World.cell?_setCell_same' _ _ _ (by rw [hc]; rfl), by rw [World.frozen?_setCell]; exact hf⟩, hB.setCell (p := ⟨w.heap.size, 0, none⟩) (Nat.le_refl _) _⟩
 case done =>
   rintro D ys W hD hys ⟨⟨hc, _⟩, hB⟩ hK
   rw [hys, HC.out] at hc
   have hle := fo_le C
   have hx := xor16 (fo C) hle
   obtain ⟨v, hv⟩ : ∃ v, fo C = v := ⟨_, rfl⟩
   rw [hv] at hc hle hx
   have HV := Lib.hid hv
   have HX := Lib.hid hx
   clear hv hx
   gi_wp2
   refine ⟨by simp, .inl ⟨_, _, rfl, run_takeDeferred hK, ?_⟩⟩
   refine ⟨_, results_tmp rfl _ _ _, ?_, hB.trans (belowK_b (w := w) (Nat.le_refl _) W D _ _ (by simp at hD; omega) hK rfl rfl)⟩
   rw [HV.out]
   exact ret_int HX.out
 case stop =>
   rintro D c pre W _ _ h _
   exact h.elim
theorem zero16 (x : Nat) : ((x : Int) == 0) = decide (x = 0) := by
 by_cases h : x = 0
 · subst h; rfl
 · rw [decide_eq_false h]; simp; omega
set_option maxHeartbeats 1000000 in
theorem right_any (A : Option Addr) (n c : Nat) (L : List ByteArray) (w : World) (hr : StrR w w.heap.size A n L) (hreach : n ≤ 100000000) (hsz : ∀ s ∈ L, s.size ≤ 100000000) :
   Calls Tryz.prog 104 #[.slice A n c] w fun e w' => e = .returned (.bool (decide (cs (cat L) = 0))) ∧ Below w.heap.size w w' := by
 have HC := Lib.hid (fun c => of_any A n c L w hr hreach hsz)
 clear hr hsz
 go_enter Tryz.func104, Tryz.ntmps104
 go_wp2_with fail
 refine (HC.out _).mono ?_
 rintro e w' ⟨rfl, hb⟩
 have HB := Lib.hid hb
 clear hb
 obtain ⟨v, hv⟩ : ∃ v, cs (cat L) = v := ⟨_, rfl⟩
 rw [hv]
 have HV := Lib.hid hv
 clear hv
 go_wp2_with fail
 go_ret
 exact ⟨ret_bool (by rw [HV.out]; exact zero16 v), HB.out⟩
end Go.Proofs.YtpmnmnflaijaaaaGreat.SumOf
namespace Go.Proofs.YtpmnmnflaijaaaaGreat.SumStrs
open Go.RowKit Go.Shelf SumWords
set_option linter.unusedVariables false
theorem strs1 (W : World) (s : ByteArray) (T : TypeId) : StrR (W.alloc (.cells #[.string s] T)) (W.alloc (.cells #[.string s] T)).heap.size (some ⟨W.heap.size, 0, none⟩) 1 [s] := by
 refine ⟨rfl, fun _ => ⟨W.heap.size, 0, rfl, by simp, fun j hj => ?_⟩⟩
 match j, hj with
 | 0, _ => simp
theorem strs2 (W : World) (s t : ByteArray) (T : TypeId) : StrR (W.alloc (.cells #[.string s, .string t] T)) (W.alloc (.cells #[.string s, .string t] T)).heap.size (some ⟨W.heap.size, 0, none⟩) 2 [s, t] := by
 refine ⟨rfl, fun _ => ⟨W.heap.size, 0, rfl, by simp, fun j hj => ?_⟩⟩
 match j, hj with
 | 0, _ => simp
 | 1, _ => simp
theorem strs3 (W : World) (s t u : ByteArray) (T : TypeId) : StrR (W.alloc (.cells #[.string s, .string t, .string u] T)) (W.alloc (.cells #[.string s, .string t, .string u] T)).heap.size (some ⟨W.heap.size, 0, none⟩) 3 [s, t, u] := by
 refine ⟨rfl, fun _ => ⟨W.heap.size, 0, rfl, by simp, fun j hj => ?_⟩⟩
 match j, hj with
 | 0, _ => simp
 | 1, _ => simp
 | 2, _ => simp
theorem strs_more {W W' : World} {A : Option Addr} {n : Nat} {L : List ByteArray} (h : StrR W W.heap.size A n L) (hb : Below W.heap.size W W') : StrR W' W'.heap.size A n L := (h.below hb).mono hb.size
theorem strs_alloc {W : World} {A : Option Addr} {n : Nat} {L : List ByteArray} (h : StrR W W.heap.size A n L) (o : Obj) : StrR (W.alloc o) (W.alloc o).heap.size A n L := strs_more h ((Below.refl _ W).alloc (Nat.le_refl _) o)
end Go.Proofs.YtpmnmnflaijaaaaGreat.SumStrs
