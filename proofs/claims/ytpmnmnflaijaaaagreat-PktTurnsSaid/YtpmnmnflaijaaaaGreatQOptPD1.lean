/-
  Laws for a proof of package pkt: 1 texts in one.
-/
import Derived.Test.YtpmnmnflaijaaaaGreatQOptPW3
import Derived.Test.YtpmnmnflaijaaaaGreatQRelTIn1
namespace Go.Proofs.YtpmnmnflaijaaaaGreat.OptPD
open Go.Proofs.YtpmnmnflaijaaaaGreat.Own
open Cells (CellsAt set7 put_lit Apart)
open Go.RowKit Go.Shelf TupMath SumMath Litb Calm Rel RelIn IpMath IpRef Num OptMath OptRef OptPlc OptSame Boxes OptMay OptTake5 OptTk OptDec OptQ OptPT OptPI OptPO OptPW
set_option linter.unusedVariables false
set_option maxRecDepth 100000
attribute [local go_sem] Oper.semAt_some
theorem cellsAt_kept {W W' : World} {row : Option Nat} {b : Nat} {cs : Array Value} (h : CellsAt W b cs) (hg : W.grownBy W' row) (hr : ∀ r, row = some r → ∃ o : Obj, W.heap[r]? = some o ∧ o.isCells = false) : CellsAt W' b cs :=
 ⟨Nat.lt_of_lt_of_le h.1 hg.size, fun j v hv => ⟨cell_kept (h.2 j v hv).1 hg hr, (frozen_kept (h.2 j v hv).1 hg hr).trans (h.2 j v hv).2⟩⟩
theorem row_kept {P : Nat → Prop} {W W' : World} {row : Option Nat} {A : Option Addr} {L : List (Nat × Nat)} (h : Row P W A L) (hg : W.grownBy W' row) (hr : ∀ r, row = some r → ∃ o : Obj, W.heap[r]? = some o ∧ o.isCells = false) : Row P W' A L := fun h0 => by
 obtain ⟨b, e, hp, hlt, hc⟩ := h h0
 exact ⟨b, e, hp, Nat.lt_of_lt_of_le hlt hg.size, fun j p hj => ⟨cell_kept (hc j p hj).1 hg hr, cell_kept (hc j p hj).2 hg hr⟩⟩
theorem anewK {W : World} {b : Nat} {cs : Array Value} (h : CellsAt W b cs) (hs : cs.size = 7) (x0 x1 x2 x3 x4 x5 x6 : Value) :
   ∃ W', ((((((W.setCell ⟨b, 0, none⟩ x0).setCell ⟨b, 1, none⟩ x1).setCell ⟨b, 2, none⟩ x2).setCell ⟨b, 3, none⟩ x3).setCell ⟨b, 4, none⟩ x4).setCell ⟨b, 5, none⟩ x5).setCell ⟨b, 6, none⟩ x6 = W' ∧
     CellsAt W' b #[x0, x1, x2, x3, x4, x5, x6] ∧ Apart b W W' ∧ Below b W W' ∧ KeepsOthers W W' := by
 obtain ⟨W', hW, h1, h2, h3⟩ := h.anew hs x0 x1 x2 x3 x4 x5 x6
 refine ⟨W', hW, h1, h2, h3, ?_⟩
 rw [← hW]
 exact ((((((KeepsOthers.setCell _ _ _).trans (KeepsOthers.setCell _ _ _)).trans (KeepsOthers.setCell _ _ _)).trans (KeepsOthers.setCell _ _ _)).trans (KeepsOthers.setCell _ _ _)).trans (KeepsOthers.setCell _ _ _)).trans (KeepsOthers.setCell _ _ _)
theorem cellsAt_apart {w w' : World} {b g : Nat} {cs : Array Value} (h : CellsAt w b cs) (hne : b ≠ g) (ha : Apart g w w') : CellsAt w' b cs := h.apart hne ha
theorem keepR_apart {b g : Nat} {W W' : World} (h : Apart g W W') (hne : g ≠ b) : KeepR b (b + 1) W W' := fun k h1 h2 => (h.2 ⟨k, 0, none⟩ (fun e => hne (by simp only at e; omega))).1
theorem if_neg_do {P : Program} {ops : Array Oper} {R : Nat → Value → World → Prop} {w0 : World} {a0 : Act} {GL : List (Nat × Bool)} {i : Nat} (h : passed ops GL i = false) (hs : relSee P ops R w0 a0 i) : relDo P ops R w0 a0 GL i := by
 unfold relDo
 rw [if_neg (by rw [h]; exact Bool.false_ne_true)]
 exact hs
theorem if_pos_do {P : Program} {ops : Array Oper} {R : Nat → Value → World → Prop} {w0 : World} {a0 : Act} {GL : List (Nat × Bool)} {i : Nat} (h : passed ops GL i = true) (hs : ∀ w, R i undef w) : relDo P ops R w0 a0 GL i := by
 unfold relDo
 rw [if_pos h]
 exact hs
def relDn (x : ByteArray) : Nat → Value → World → Prop
 | 0 => fun v _ => v = .string x
 | 1 => fun v _ => v = .bool false
 | 2 => fun v _ => v = .bool true
 | 3 => fun v _ => v = .bool true
 | 4 => fun v _ => v = undef
 | 5 => fun v _ => v = undef
 | 6 => fun v _ => v = undef
 | 7 => fun v _ => v = undef
 | 8 => fun v _ => v = .bool true
 | _ => fun _ _ => True
def relDy (x : ByteArray) (o : Opn) (A : Option Addr) (c k : Nat) (th : Bool) : Nat → Value → World → Prop
 | 0 => fun v _ => v = .string x
 | 1 => fun v _ => v = .bool true
 | 2 => fun v _ => v = .bool false
 | 3 => fun v _ => v = .bool false
 | 4 => fun v _ => v = ov o A c
 | 5 => fun v _ => v = .string x
 | 6 => fun v _ => v = .int .u8 (k : Int)
 | 7 => fun v _ => v = .bool th
 | 8 => fun v _ => v = .bool th
 | _ => fun _ _ => True
attribute [local go_sem] relUpon
set_option maxHeartbeats 16000000 in
theorem decP7_long (s : ByteArray) (w : World) (h40 : 40 < s.size) (hs : s.size ≤ 1000000) : Calls Tryz.prog 41 #[.string s] w (DecOut (bz s) w) := by
 have HV := dec7_long (l := bz s) (by rw [bz_len]; exact h40)
 unfold DecOut
 rw [HV]
 clear HV
 have k40 : (40 : Int) < (s.size : Int) := by omega
 go_enter Tryz.func41, Tryz.ntmps41
 go_wp2
 refine bodyPost_ret (v := .tuple #[ov zeroO none 0, .int .i64 4]) ?_ rfl ⟨⟨none, 0, rfl, Row.nil _ _ _⟩, st_alloc (st_alloc (Below.refl _ _) _) _⟩
 simp [results, Tryz.f41, go_sem, zeroO]
set_option maxHeartbeats 16000000 in
theorem decP7 (s : ByteArray) (w : World) (hs : s.size ≤ 1000000) : Calls Tryz.prog 41 #[.string s] w (DecOut (bz s) w) := by
 by_cases h40 : 40 < s.size
 · exact decP7_long s w h40 hs
 have k40 : ¬ (40 : Int) < (s.size : Int) := by omega
 have h40' : ¬ 40 < (bz s).length := by rw [bz_len]; exact h40
 refine (callsIn_wide (n := 8)).1 ?_
 refine callsIn_of_wp_marks Tryz.func41 rfl trivial ?_ rfl
 simp only [Tryz.ntmps41, List.size_toArray, List.length_cons, List.length_nil, Nat.reduceAdd, Nat.reduceSub, Array.replicate_succ, Array.replicate_zero, List.push_toArray, List.append_toArray, List.nil_append, List.cons_append]
 have D2 := (CellsAt.new w #[.int .u16 0, .int .i64 0, .bool false, .slice none 0 0, .bool false, .int .u32 0, .int .u32 0] 28).later ((Below.refl _ _).alloc (Nat.le_refl _) (.cells #[.int .i64 0] 35))
 have D3 := CellsAt.new (w.alloc (.cells #[.int .u16 0, .int .i64 0, .bool false, .slice none 0 0, .bool false, .int .u32 0, .int .u32 0] 28)) #[.int .i64 0] 35
 rw [World.size_alloc] at D3
 have B0 := st_alloc (st_alloc (Below.refl _ w) (.cells #[.int .u16 0, .int .i64 0, .bool false, .slice none 0 0, .bool false, .int .u32 0, .int .u32 0] 28)) (.cells #[.int .i64 0] 35)
 gi_wp2
 refine ⟨trivial, ?_⟩
 refine (callsIn_wide.2 (noneP _)).mono ?_
 rintro e w1 ⟨rfl, hb⟩
 have HD2 := Lib.hid (D2.later hb)
 have HD3 := Lib.hid (D3.later hb)
 have HB1 := Lib.hid (st_call B0 hb)
 clear hb B0 D2 D3
 gi_wp2
 refine ⟨trivial, ?_⟩
 refine (options_in _ _ _).mono ?_
 rintro e w2 ⟨rfl, rfl⟩
 gi_wp2
 obtain ⟨b4, hb4⟩ : ∃ b4, w1.heap.size = b4 := ⟨_, rfl⟩
 have C4 := (CellsAt.new w1 (oc none0 none 0) 28).later ((Below.refl _ _).alloc (Nat.le_refl _) (.cells #[.string s] 9))
 have C5 := CellsAt.new (w1.alloc (.cells (oc none0 none 0) 28)) #[.string s] 9
 rw [World.size_alloc] at C5
 have B14 := st_alloc (st_alloc (Below.refl _ w1) (.cells (oc none0 none 0) 28)) (.cells #[.string s] 9)
 have hsz : ((w1.alloc (.cells (oc none0 none 0) 28)).alloc (.cells #[.string s] 9)).heap.size = b4 + 2 := by simp [hb4]
 have lt3 := HD3.out.lt
 rw [hb4] at C4 C5 lt3 ⊢
 have HE2 := HD2.out.later B14
 have HE3 := HD3.out.later B14
 have HBB := st_call HB1.out B14
 obtain ⟨w0, hw0⟩ : ∃ w0, (w1.alloc (.cells (oc none0 none 0) 28)).alloc (.cells #[.string s] 9) = w0 := ⟨_, rfl⟩
 rw [hw0] at C4 C5 hsz HE2 HE3 HBB ⊢
 clear B14 hw0 hb4 HB1 HD2 HD3
 refine wpIn_rangeFunc_ownF rfl (by omega) (gf := 78) (lb := #[.pointer (some ⟨b4 + 1, 0, none⟩)]) rfl trivial (enters_of Tryz.func78 (by kernel_rfl) rfl)
   (options_stops _ (by omega) (b4 + 1) s hs w0 (by rw [hsz]; omega) (C5.cell 0 _ rfl)) KeepR.trans (fun W l o o' h1 h2 h3 h4 => KeepR.of_below (belowK_b (n₀ := b4 + 1 + 1) (Nat.le_of_eq hsz.symm) W l o o' h1 h2 h3 h4)) (Below.refl _ _) (fun _ => rfl)
   (fun pre W => (∃ (o : Opn) (A : Option Addr) (c : Nat), (vals pre).foldlM (stp (bz s)) none0 = some o ∧ CellsAt W b4 (oc o A c) ∧ Row (fun b => b4 < b) W A o.blocks ∧ (o.blocks = [] → A = none ∧ c = 0)) ∧ CellsAt W w.heap.size #[.int .u16 0, .int .i64 0, .bool false, .slice none 0 0, .bool false, .int .u32 0, .int .u32 0] ∧ CellsAt W (w.heap.size + 1) #[.int .i64 0] ∧ CellsAt W (b4 + 1) #[.string s] ∧ Below w.heap.size w W)
   (fun c pre W => c = .ret ∧ (vals pre).foldlM (stp (bz s)) none0 = none ∧ CellsAt W w.heap.size #[.int .u16 0, .int .i64 0, .bool false, .slice none 0 0, .bool false, .int .u32 0, .int .u32 0] ∧ CellsAt W (w.heap.size + 1) #[.int .i64 70] ∧ Below w.heap.size w W)
   (OwnFrom.and (Own.from (fun t A B row hs hg hr => by
     obtain ⟨o, A, c, h1, h2, h3, h4⟩ := hs
     exact ⟨o, A, c, h1, cellsAt_kept h2 hg hr, row_kept h3 hg hr, h4⟩) _) (OwnFrom.and (Own.from (fun t A B row hs hg hr => cellsAt_kept hs hg hr) _) (OwnFrom.and (Own.from (fun t A B row hs hg hr => cellsAt_kept hs hg hr) _) (OwnFrom.and (Own.from (fun t A B row hs hg hr => cellsAt_kept hs hg hr) _) (ownFrom_below (Nat.le_refl _) (by rw [hsz]; omega))))))
   (fun c => OwnFrom.and (ownFrom_pure _ _) (OwnFrom.and (ownFrom_pure _ _) (OwnFrom.and (Own.from (fun t A B row hs hg hr => cellsAt_kept hs hg hr) _) (OwnFrom.and (Own.from (fun t A B row hs hg hr => cellsAt_kept hs hg hr) _) (ownFrom_below (Nat.le_refl _) (by rw [hsz]; omega))))))
   ⟨⟨none0, none, 0, rfl, C4, Row.nil _ _ _, fun _ => ⟨rfl, rfl⟩⟩, HE2, HE3, C5, HBB⟩
   (fun x => { tmps := #[.string s, undef, .pointer (some ⟨w.heap.size, 0, none⟩), .pointer (some ⟨w.heap.size + 1, 0, none⟩), .pointer (some ⟨b4, 0, none⟩), undef, .string (cutS s x.1), .string s, .int .i64 (s.size : Int), .bool false, undef, ov none0 none 0, .string s,
     .func (.func 78) #[] #[.pointer (some ⟨b4 + 1, 0, none⟩)], .int .i64 (x.1 : Int), .string (cutS s x.1), undef, undef, undef, undef, undef, undef, undef, undef, undef, undef, undef, undef, undef, undef], defers := [] }) ?assign ?body ?done ?stop
 case assign =>
   intro l x W K hK
   gi_wp2
   exact hK
 case body =>
   rintro l pre ⟨a, ha⟩ W ⟨⟨o, A, c, hfold, hC4, hR, hN⟩, hD2, hD3, hC5, hB⟩ _
   have hpl := place_lt ⟨a, ha⟩
   simp only at hpl
   obtain ⟨hlt, hk0, hk1⟩ := hpl
   have hx := cutS_bz s a hlt
   have hxs := cutS_size s a hlt
   have hl1 := lenAt_pos (l := bz s) (a := a) (by rw [bz_len]; exact hlt)
   have hx0 := cut_0 (l := bz s) (a := a) (by rw [bz_len]; exact hlt)
   have HS := Lib.hid (fun p => stp_snoc hfold p)
   have hv : vals (pre ++ [⟨a, ha⟩]) = vals pre ++ [a] := vals_snoc _ _
   have HV := Lib.hid hv
   have hst : stp (bz s) o a = if rightX (cutX (bz s) a) = true ∧ there o (at0 (bz s) a) = false then some (tkO o (at0 (bz s) a) ((cutX (bz s) a).drop 2)) else none := rfl
   rw [← hx] at hst hx0
   have HSF := Lib.hid ((HS.out a).trans hst)
   clear hv hst HS
   generalize hxx : cutS s a = x at hx hxs hx0 HSF
   have hxl : x.size ≤ 1000000 := by
     have := lenAt_le (l := bz s) (a := a) (by rw [bz_len]; exact hlt)
     rw [bz_len] at this
     omega
   have hk := at_le s a
   generalize at0 (bz s) a = k at hk0 hk1 hx0 HSF hk
   have HC4 := Lib.hid hC4
   have HR := Lib.hid hR
   have HN := Lib.hid hN
   have HD2 := Lib.hid hD2
   have HD3 := Lib.hid hD3
   have HB := Lib.hid hB
   have HRT := Lib.hid (fun W => rightP x W (by omega) hxl)
   have HTH := Lib.hid (fun W => thereP o A c k W hk)
   have z := at_byte x 0 (by omega)
   rw [hx0] at z
   dsimp only
   have HC5 := Lib.hid hC5
   have HLT := Lib.hid (show b4 + 1 + 1 ≤ W.heap.size from hC5.1)
   clear hC4 hR hN hD2 hD3 hC5 hB
   gi_wp2
   by_cases hrx : rightX (bz x) = true
   rotate_left
   · have hrx2 : rightX (bz x) = false := by cases h : rightX (bz x); rfl; exact absurd h hrx
     have HF := Lib.hid (show (vals pre ++ [a]).foldlM (stp (bz s)) none0 = none by rw [HSF.out, if_neg (fun h => hrx h.1)])
     rw [hrx2] at HRT
     clear hrx hrx2
     refine wpIn_region_do 30 [(3, true)] (relDn x) rfl (by kernel_rfl) (by kernel_rfl) (by kernel_rfl) (by kernel_rfl) (fun p hp v w hr => by obtain rfl := List.mem_singleton.1 hp; exact hr) (fun i v w w' hr _ => by unfold relDn at hr ⊢; split at hr <;> exact hr) ?_ ?_
     · intro i hi
       have hi2 : i < 9 := by simpa using hi
       clear hi
       match i, hi2 with
       | 0, _ =>
         refine if_neg_do (by kernel_rfl) ?_
         intro ρ W hb hc hg hf h0 hd
         have t6 := h0 6 (by kernel_rfl)
         clear hd h0
         go_simp
         exact ⟨rfl, Below.refl _ _⟩
       | 1, _ =>
         refine if_neg_do (by kernel_rfl) ?_
         intro ρ W hb hc hg hf h0 hd
         have d0 : ρ (.tmp 16) = .string x := hd 0 16 (by kernel_rfl) (by kernel_rfl)
         clear hd h0
         go_simp
         exact (HRT.out W).mono fun e w' ⟨he, hb⟩ => ⟨_, he, rfl, hb⟩
       | 2, _ =>
         refine if_neg_do (by kernel_rfl) ?_
         intro ρ W hb hc hg hf h0 hd
         have d1 : ρ (.tmp 17) = .bool false := hd 1 17 (by kernel_rfl) (by kernel_rfl)
         clear hd h0
         go_simp
         exact ⟨rfl, Below.refl _ _⟩
       | 3, _ =>
         refine if_neg_do (by kernel_rfl) ?_
         intro ρ W hb hc hg hf h0 hd
         have d2 : ρ (.tmp 18) = .bool true := hd 2 18 (by kernel_rfl) (by kernel_rfl)
         clear hd h0
         go_simp
         exact ⟨rfl, Below.refl _ _⟩
       | 4, _ => exact if_pos_do (by kernel_rfl) (fun _ => rfl)
       | 5, _ => exact if_pos_do (by kernel_rfl) (fun _ => rfl)
       | 6, _ => exact if_pos_do (by kernel_rfl) (fun _ => rfl)
       | 7, _ => exact if_pos_do (by kernel_rfl) (fun _ => rfl)
       | 8, _ =>
         refine if_neg_do (by kernel_rfl) ?_
         intro ρ W hb hc hg hf h0 hd
         have d3 : ρ (.tmp 19) = .bool true := hd 3 19 (by kernel_rfl) (by kernel_rfl)
         have d7 : ρ (.tmp 23) = undef := hd 7 23 (by kernel_rfl) (by kernel_rfl)
         clear hd h0
         go_simp
         exact ⟨rfl, Below.refl _ _⟩
       | i + 9, hlt => exact absurd hlt (by omega)
     · intro vs W1 hb hall
       have h0 : vs 0 = .string x := hall 0 (of_decide_eq_true (by kernel_rfl))
       have h1 : vs 1 = .bool false := hall 1 (of_decide_eq_true (by kernel_rfl))
       have h2 : vs 2 = .bool true := hall 2 (of_decide_eq_true (by kernel_rfl))
       have h3 : vs 3 = .bool true := hall 3 (of_decide_eq_true (by kernel_rfl))
       have h4 : vs 4 = undef := hall 4 (of_decide_eq_true (by kernel_rfl))
       have h5 : vs 5 = undef := hall 5 (of_decide_eq_true (by kernel_rfl))
       have h6 : vs 6 = undef := hall 6 (of_decide_eq_true (by kernel_rfl))
       have h7 : vs 7 = undef := hall 7 (of_decide_eq_true (by kernel_rfl))
       have h8 : vs 8 = .bool true := hall 8 (of_decide_eq_true (by kernel_rfl))
       rw [lexA_slots vs _ [(some 16, 0), (some 17, 1), (some 18, 2), (some 19, 3), (some 20, 4), (some 21, 5), (some 22, 6), (some 23, 7), (some 24, 8)] (by kernel_rfl)]
       simp only [List.foldl_cons, List.foldl_nil, h0, h1, h2, h3, h4, h5, h6, h7, h8]
       simp only [put_lit, List.set_cons_succ, List.set_cons_zero]
       clear h0 h1 h2 h3 h4 h5 h6 h7 h8
       have E2 := HD2.out.later hb
       have E3 := HD3.out.later hb
       have HB4 := HB.out.trans (hb.mono HB.out.size)
       have HKO := keeps_of_below hb
       have HKR : KeepR (b4 + 1) (b4 + 1 + 1) W W1 := KeepR.of_below (hb.mono HLT.out)
       clear hb hall
       have d0 := E2.cell 0 _ rfl
       have g0 := E2.free 0 (show 0 < 7 by decide)
       have d1 := E2.cell 1 _ rfl
       have g1 := E2.free 1 (show 1 < 7 by decide)
       have d2 := E2.cell 2 _ rfl
       have g2 := E2.free 2 (show 2 < 7 by decide)
       have d3 := E2.cell 3 _ rfl
       have g3 := E2.free 3 (show 3 < 7 by decide)
       have d4 := E2.cell 4 _ rfl
       have g4 := E2.free 4 (show 4 < 7 by decide)
       have d5 := E2.cell 5 _ rfl
       have g5 := E2.free 5 (show 5 < 7 by decide)
       have d6 := E2.cell 6 _ rfl
       have g6 := E2.free 6 (show 6 < 7 by decide)
       have r0 := E3.cell 0 _ rfl
       have q0 := E3.free 0 (show 0 < 1 by decide)
       have HE2 := Lib.hid E2
       have HE3 := Lib.hid E3
       have HB5 := Lib.hid HB4
       have HK5 := Lib.hid HKO
       clear E2 E3 HB4 HKO
       gi_wp2
       obtain ⟨W9, hW9, hC9, hA9, hb9, hk9⟩ := anewK HE2.out rfl (.int .u16 0) (.int .i64 0) (.bool false) (.slice none 0 0) (.bool false) (.int .u32 0) (.int .u32 0)
       rw [hW9]
       exact ⟨(HK5.out.trans hk9).trans (KeepsOthers.setCell _ _ _), rfl, by rw [HV.out, HF.out], hC9.other _ _ _ (by omega), (cellsAt_apart HE3.out (by omega) hA9).put 0 (.int .i64 70) (show 0 < 1 by decide), ((HB5.out.trans hb9)).setCell (by show w.heap.size ≤ w.heap.size + 1; omega) _⟩
   rw [hrx] at HRT
   cases hth : there o k
   rotate_left
   · have HF := Lib.hid (show (vals pre ++ [a]).foldlM (stp (bz s)) none0 = none by rw [HSF.out, if_neg (fun h => by rw [hth] at h; cases h.2)])
     rw [hth] at HTH
     clear hth
     refine wpIn_region_do 30 [(3, false)] (relDy x o A c k true) rfl (by kernel_rfl) (by kernel_rfl) (by kernel_rfl) (by kernel_rfl) (fun p hp v w hr => by obtain rfl := List.mem_singleton.1 hp; exact hr) (fun i v w w' hr _ => by unfold relDy at hr ⊢; split at hr <;> exact hr) ?_ ?_
     · intro i hi
       have hi2 : i < 9 := by simpa using hi
       clear hi
       match i, hi2 with
       | 0, _ =>
         refine if_neg_do (by kernel_rfl) ?_
         intro ρ W hb hc hg hf h0 hd
         have t6 := h0 6 (by kernel_rfl)
         clear hd h0
         go_simp
         exact ⟨rfl, Below.refl _ _⟩
       | 1, _ =>
         refine if_neg_do (by kernel_rfl) ?_
         intro ρ W hb hc hg hf h0 hd
         have d0 : ρ (.tmp 16) = .string x := hd 0 16 (by kernel_rfl) (by kernel_rfl)
         clear hd h0
         go_simp
         exact (HRT.out W).mono fun e w' ⟨he, hb⟩ => ⟨_, he, rfl, hb⟩
       | 2, _ =>
         refine if_neg_do (by kernel_rfl) ?_
         intro ρ W hb hc hg hf h0 hd
         have d1 : ρ (.tmp 17) = .bool true := hd 1 17 (by kernel_rfl) (by kernel_rfl)
         clear hd h0
         go_simp
         exact ⟨rfl, Below.refl _ _⟩
       | 3, _ =>
         refine if_neg_do (by kernel_rfl) ?_
         intro ρ W hb hc hg hf h0 hd
         have d2 : ρ (.tmp 18) = .bool false := hd 2 18 (by kernel_rfl) (by kernel_rfl)
         clear hd h0
         go_simp
         exact ⟨rfl, Below.refl _ _⟩
       | 4, _ =>
         refine if_neg_do (by kernel_rfl) ?_
         intro ρ W hb hc hg hf h0 hd
         have t4 := h0 4 (by kernel_rfl)
         have c0 := (HC4.out.later hb).cell 0 _ rfl
         have c1 := (HC4.out.later hb).cell 1 _ rfl
         have c2 := (HC4.out.later hb).cell 2 _ rfl
         have c3 := (HC4.out.later hb).cell 3 _ rfl
         have c4 := (HC4.out.later hb).cell 4 _ rfl
         have c5 := (HC4.out.later hb).cell 5 _ rfl
         have c6 := (HC4.out.later hb).cell 6 _ rfl
         clear hd h0
         go_simp
         exact ⟨rfl, Below.refl _ _⟩
       | 5, _ =>
         refine if_neg_do (by kernel_rfl) ?_
         intro ρ W hb hc hg hf h0 hd
         have t6 := h0 6 (by kernel_rfl)
         clear hd h0
         go_simp
         exact ⟨rfl, Below.refl _ _⟩
       | 6, _ =>
         refine if_neg_do (by kernel_rfl) ?_
         intro ρ W hb hc hg hf h0 hd
         have d5 : ρ (.tmp 21) = .string x := hd 5 21 (by kernel_rfl) (by kernel_rfl)
         clear hd h0
         go_simp
         exact ⟨rfl, Below.refl _ _⟩
       | 7, _ =>
         refine if_neg_do (by kernel_rfl) ?_
         intro ρ W hb hc hg hf h0 hd
         have d4 : ρ (.tmp 20) = ov o A c := hd 4 20 (by kernel_rfl) (by kernel_rfl)
         have d6 : ρ (.tmp 22) = .int .u8 (k : Int) := hd 6 22 (by kernel_rfl) (by kernel_rfl)
         clear hd h0
         go_simp
         exact (HTH.out W).mono fun e w' ⟨he, hb⟩ => ⟨_, he, rfl, hb⟩
       | 8, _ =>
         refine if_neg_do (by kernel_rfl) ?_
         intro ρ W hb hc hg hf h0 hd
         have d3 : ρ (.tmp 19) = .bool false := hd 3 19 (by kernel_rfl) (by kernel_rfl)
         have d7 : ρ (.tmp 23) = .bool true := hd 7 23 (by kernel_rfl) (by kernel_rfl)
         clear hd h0
         go_simp
         exact ⟨rfl, Below.refl _ _⟩
       | i + 9, hlt => exact absurd hlt (by omega)
     · intro vs W1 hb hall
       have h0 : vs 0 = .string x := hall 0 (of_decide_eq_true (by kernel_rfl))
       have h1 : vs 1 = .bool true := hall 1 (of_decide_eq_true (by kernel_rfl))
       have h2 : vs 2 = .bool false := hall 2 (of_decide_eq_true (by kernel_rfl))
       have h3 : vs 3 = .bool false := hall 3 (of_decide_eq_true (by kernel_rfl))
       have h4 : vs 4 = ov o A c := hall 4 (of_decide_eq_true (by kernel_rfl))
       have h5 : vs 5 = .string x := hall 5 (of_decide_eq_true (by kernel_rfl))
       have h6 : vs 6 = .int .u8 (k : Int) := hall 6 (of_decide_eq_true (by kernel_rfl))
       have h7 : vs 7 = .bool true := hall 7 (of_decide_eq_true (by kernel_rfl))
       have h8 : vs 8 = .bool true := hall 8 (of_decide_eq_true (by kernel_rfl))
       rw [lexA_slots vs _ [(some 16, 0), (some 17, 1), (some 18, 2), (some 19, 3), (some 20, 4), (some 21, 5), (some 22, 6), (some 23, 7), (some 24, 8)] (by kernel_rfl)]
       simp only [List.foldl_cons, List.foldl_nil, h0, h1, h2, h3, h4, h5, h6, h7, h8]
       simp only [put_lit, List.set_cons_succ, List.set_cons_zero]
       clear h0 h1 h2 h3 h4 h5 h6 h7 h8
       have E2 := HD2.out.later hb
       have E3 := HD3.out.later hb
       have HB4 := HB.out.trans (hb.mono HB.out.size)
       have HKO := keeps_of_below hb
       have HKR : KeepR (b4 + 1) (b4 + 1 + 1) W W1 := KeepR.of_below (hb.mono HLT.out)
       clear hb hall
       have d0 := E2.cell 0 _ rfl
       have g0 := E2.free 0 (show 0 < 7 by decide)
       have d1 := E2.cell 1 _ rfl
       have g1 := E2.free 1 (show 1 < 7 by decide)
       have d2 := E2.cell 2 _ rfl
       have g2 := E2.free 2 (show 2 < 7 by decide)
       have d3 := E2.cell 3 _ rfl
       have g3 := E2.free 3 (show 3 < 7 by decide)
       have d4 := E2.cell 4 _ rfl
       have g4 := E2.free 4 (show 4 < 7 by decide)
       have d5 := E2.cell 5 _ rfl
       have g5 := E2.free 5 (show 5 < 7 by decide)
       have d6 := E2.cell 6 _ rfl
       have g6 := E2.free 6 (show 6 < 7 by decide)
       have r0 := E3.cell 0 _ rfl
       have q0 := E3.free 0 (show 0 < 1 by decide)
       have HE2 := Lib.hid E2
       have HE3 := Lib.hid E3
       have HB5 := Lib.hid HB4
       have HK5 := Lib.hid HKO
       clear E2 E3 HB4 HKO
       gi_wp2
       obtain ⟨W9, hW9, hC9, hA9, hb9, hk9⟩ := anewK HE2.out rfl (.int .u16 0) (.int .i64 0) (.bool false) (.slice none 0 0) (.bool false) (.int .u32 0) (.int .u32 0)
       rw [hW9]
       exact ⟨(HK5.out.trans hk9).trans (KeepsOthers.setCell _ _ _), rfl, by rw [HV.out, HF.out], hC9.other _ _ _ (by omega), (cellsAt_apart HE3.out (by omega) hA9).put 0 (.int .i64 70) (show 0 < 1 by decide), ((HB5.out.trans hb9)).setCell (by show w.heap.size ≤ w.heap.size + 1; omega) _⟩
   have HF := Lib.hid (show (vals pre ++ [a]).foldlM (stp (bz s)) none0 = some (tkO o k ((bz x).drop 2)) by rw [HSF.out, if_pos ⟨hrx, hth⟩, hx])
   have HTF := Lib.hid hth
   have HRX := Lib.hid hrx
   rw [hth] at HTH
   clear hth
   refine wpIn_region_do 30 [(3, false)] (relDy x o A c k false) rfl (by kernel_rfl) (by kernel_rfl) (by kernel_rfl) (by kernel_rfl) (fun p hp v w hr => by obtain rfl := List.mem_singleton.1 hp; exact hr) (fun i v w w' hr _ => by unfold relDy at hr ⊢; split at hr <;> exact hr) ?_ ?_
   · intro i hi
     have hi2 : i < 9 := by simpa using hi
     clear hi
     match i, hi2 with
     | 0, _ =>
       refine if_neg_do (by kernel_rfl) ?_
       intro ρ W hb hc hg hf h0 hd
       have t6 := h0 6 (by kernel_rfl)
       clear hd h0
       go_simp
       exact ⟨rfl, Below.refl _ _⟩
     | 1, _ =>
       refine if_neg_do (by kernel_rfl) ?_
       intro ρ W hb hc hg hf h0 hd
       have d0 : ρ (.tmp 16) = .string x := hd 0 16 (by kernel_rfl) (by kernel_rfl)
       clear hd h0
       go_simp
       exact (HRT.out W).mono fun e w' ⟨he, hb⟩ => ⟨_, he, rfl, hb⟩
     | 2, _ =>
       refine if_neg_do (by kernel_rfl) ?_
       intro ρ W hb hc hg hf h0 hd
       have d1 : ρ (.tmp 17) = .bool true := hd 1 17 (by kernel_rfl) (by kernel_rfl)
       clear hd h0
       go_simp
       exact ⟨rfl, Below.refl _ _⟩
     | 3, _ =>
       refine if_neg_do (by kernel_rfl) ?_
       intro ρ W hb hc hg hf h0 hd
       have d2 : ρ (.tmp 18) = .bool false := hd 2 18 (by kernel_rfl) (by kernel_rfl)
       clear hd h0
       go_simp
       exact ⟨rfl, Below.refl _ _⟩
     | 4, _ =>
       refine if_neg_do (by kernel_rfl) ?_
       intro ρ W hb hc hg hf h0 hd
       have t4 := h0 4 (by kernel_rfl)
       have c0 := (HC4.out.later hb).cell 0 _ rfl
       have c1 := (HC4.out.later hb).cell 1 _ rfl
       have c2 := (HC4.out.later hb).cell 2 _ rfl
       have c3 := (HC4.out.later hb).cell 3 _ rfl
       have c4 := (HC4.out.later hb).cell 4 _ rfl
       have c5 := (HC4.out.later hb).cell 5 _ rfl
       have c6 := (HC4.out.later hb).cell 6 _ rfl
       clear hd h0
       go_simp
       exact ⟨rfl, Below.refl _ _⟩
     | 5, _ =>
       refine if_neg_do (by kernel_rfl) ?_
       intro ρ W hb hc hg hf h0 hd
       have t6 := h0 6 (by kernel_rfl)
       clear hd h0
       go_simp
       exact ⟨rfl, Below.refl _ _⟩
     | 6, _ =>
       refine if_neg_do (by kernel_rfl) ?_
       intro ρ W hb hc hg hf h0 hd
       have d5 : ρ (.tmp 21) = .string x := hd 5 21 (by kernel_rfl) (by kernel_rfl)
       clear hd h0
       go_simp
       exact ⟨rfl, Below.refl _ _⟩
     | 7, _ =>
       refine if_neg_do (by kernel_rfl) ?_
       intro ρ W hb hc hg hf h0 hd
       have d4 : ρ (.tmp 20) = ov o A c := hd 4 20 (by kernel_rfl) (by kernel_rfl)
       have d6 : ρ (.tmp 22) = .int .u8 (k : Int) := hd 6 22 (by kernel_rfl) (by kernel_rfl)
       clear hd h0
       go_simp
       exact (HTH.out W).mono fun e w' ⟨he, hb⟩ => ⟨_, he, rfl, hb⟩
     | 8, _ =>
       refine if_neg_do (by kernel_rfl) ?_
       intro ρ W hb hc hg hf h0 hd
       have d3 : ρ (.tmp 19) = .bool false := hd 3 19 (by kernel_rfl) (by kernel_rfl)
       have d7 : ρ (.tmp 23) = .bool false := hd 7 23 (by kernel_rfl) (by kernel_rfl)
       clear hd h0
       go_simp
       exact ⟨rfl, Below.refl _ _⟩
     | i + 9, hlt => exact absurd hlt (by omega)
   · intro vs W1 hb hall
     have h0 : vs 0 = .string x := hall 0 (of_decide_eq_true (by kernel_rfl))
     have h1 : vs 1 = .bool true := hall 1 (of_decide_eq_true (by kernel_rfl))
     have h2 : vs 2 = .bool false := hall 2 (of_decide_eq_true (by kernel_rfl))
     have h3 : vs 3 = .bool false := hall 3 (of_decide_eq_true (by kernel_rfl))
     have h4 : vs 4 = ov o A c := hall 4 (of_decide_eq_true (by kernel_rfl))
     have h5 : vs 5 = .string x := hall 5 (of_decide_eq_true (by kernel_rfl))
     have h6 : vs 6 = .int .u8 (k : Int) := hall 6 (of_decide_eq_true (by kernel_rfl))
     have h7 : vs 7 = .bool false := hall 7 (of_decide_eq_true (by kernel_rfl))
     have h8 : vs 8 = .bool false := hall 8 (of_decide_eq_true (by kernel_rfl))
     rw [lexA_slots vs _ [(some 16, 0), (some 17, 1), (some 18, 2), (some 19, 3), (some 20, 4), (some 21, 5), (some 22, 6), (some 23, 7), (some 24, 8)] (by kernel_rfl)]
     simp only [List.foldl_cons, List.foldl_nil, h0, h1, h2, h3, h4, h5, h6, h7, h8]
     simp only [put_lit, List.set_cons_succ, List.set_cons_zero]
     clear h0 h1 h2 h3 h4 h5 h6 h7 h8
     have E4 := HC4.out.later hb
     have E2 := HD2.out.later hb
     have E3 := HD3.out.later hb
     have E5 := HC5.out.later hb
     have HB4 := HB.out.trans (hb.mono HB.out.size)
     have HKO := keeps_of_below hb
     have HKR : KeepR (b4 + 1) (b4 + 1 + 1) W W1 := KeepR.of_below (hb.mono HLT.out)
     have ER := HR.out.more hb
     have hlt1 := hb.size
     have h5 : k = 5 → o.blocks = [] ∧ A = none ∧ c = 0 := fun h => by
       have h1 := HTF.out
       rw [h] at h1
       have h2 : ¬ 0 < o.blocks.length := of_decide_eq_false h1
       have h3 : o.blocks = [] := List.eq_nil_of_length_eq_zero (by omega)
       exact ⟨h3, HN.out h3⟩
     have hw := withP (fun b => b4 < b) o A c x W1 (by omega) HRX.out (by rw [hx0]; exact h5) ER (fun b hb => by have := HLT.out; omega)
     rw [hx0] at hw
     have HW := Lib.hid hw
     have HE4 := Lib.hid E4
     have HE2 := Lib.hid E2
     have HE3 := Lib.hid E3
     have HE5 := Lib.hid E5
     have HB5 := Lib.hid HB4
     have HK5 := Lib.hid HKO
     have HR5 := Lib.hid HKR
     have H55 := Lib.hid h5
     have c0 := E4.cell 0 _ rfl
     have f0 := E4.free 0 (show 0 < 7 by decide)
     have c1 := E4.cell 1 _ rfl
     have f1 := E4.free 1 (show 1 < 7 by decide)
     have c2 := E4.cell 2 _ rfl
     have f2 := E4.free 2 (show 2 < 7 by decide)
     have c3 := E4.cell 3 _ rfl
     have f3 := E4.free 3 (show 3 < 7 by decide)
     have c4 := E4.cell 4 _ rfl
     have f4 := E4.free 4 (show 4 < 7 by decide)
     have c5 := E4.cell 5 _ rfl
     have f5 := E4.free 5 (show 5 < 7 by decide)
     have c6 := E4.cell 6 _ rfl
     have f6 := E4.free 6 (show 6 < 7 by decide)
     clear hall hb E4 E2 E3 E5 HB4 HKO HKR ER hw h5
     gi_wp2
     refine ⟨trivial, ?_⟩
     refine (CallsIn.inRound l (callsIn_wide.2 HW.out)).mono ?_
     rintro e w2 ⟨⟨A', c', rfl, hR', hA'⟩, hb2⟩
     have E4 := HE4.out.later hb2
     have HG2 := Lib.hid (HE2.out.later hb2)
     have HG3 := Lib.hid (HE3.out.later hb2)
     have HG5 := Lib.hid (HE5.out.later hb2)
     have HB6 := Lib.hid (HB5.out.trans (hb2.mono HB5.out.size))
     have HK6 := Lib.hid (HK5.out.trans (keeps_of_below hb2))
     have HR6 := Lib.hid (HR5.out.trans (KeepR.of_below (hb2.mono (by have := HLT.out; omega))))
     have HRW := Lib.hid hR'
     have HAW := Lib.hid hA'
     have d0 := E4.cell 0 _ rfl
     have g0 := E4.free 0 (show 0 < 7 by decide)
     have d1 := E4.cell 1 _ rfl
     have g1 := E4.free 1 (show 1 < 7 by decide)
     have d2 := E4.cell 2 _ rfl
     have g2 := E4.free 2 (show 2 < 7 by decide)
     have d3 := E4.cell 3 _ rfl
     have g3 := E4.free 3 (show 3 < 7 by decide)
     have d4 := E4.cell 4 _ rfl
     have g4 := E4.free 4 (show 4 < 7 by decide)
     have d5 := E4.cell 5 _ rfl
     have g5 := E4.free 5 (show 5 < 7 by decide)
     have d6 := E4.cell 6 _ rfl
     have g6 := E4.free 6 (show 6 < 7 by decide)
     have HG4 := Lib.hid E4
     clear E4 hb2 hR' hA'
     clear c0 f0 c1 f1 c2 f2 c3 f3 c4 f4 c5 f5 c6 f6
     have HNN : Hid ((tkO o k ((bz x).drop 2)).blocks = [] → A' = none ∧ c' = 0) := Lib.hid fun hnil => by
       by_cases c5 : k = 5
       · exfalso
         have h1 : (tkO o k ((bz x).drop 2)).blocks = o.blocks ++ prs ((bz x).drop 2) := by rw [c5]; rfl
         rw [h1] at hnil
         have h2 := HRX.out
         unfold rightX at h2
         rw [hx0, c5, bz_len] at h2
         simp only [Bool.and_eq_true, decide_eq_true_eq] at h2
         have h3 : 10 ≤ x.size := by have := h2.1.2; simp [right] at this; omega
         have h4 := prs_pos (p := (bz x).drop 2) (by rw [List.length_drop, bz_len]; omega)
         rw [(List.append_eq_nil_iff.1 hnil).2] at h4
         simp at h4
       · obtain ⟨e1, e2⟩ := HAW.out c5
         rw [tkO_blocks _ _ _ c5] at hnil
         rw [e1, e2]
         exact HN.out hnil
     generalize tkO o k ((bz x).drop 2) = o' at HF HRW HNN ⊢
     gi_wp2
     obtain ⟨W9, hW9, hC9, hA9, hb9, hk9⟩ := anewK HG4.out rfl (.int .u16 (o'.mss : Int)) (.int .i64 o'.scale) (.bool o'.sack) (.slice A' o'.blocks.length c') (.bool o'.time) (.int .u32 (o'.val : Int)) (.int .u32 (o'.echo : Int))
     rw [hW9]
     exact ⟨HK6.out.trans hk9, HR6.out.trans (keepR_apart hA9 (by omega)), ⟨o', A', c', by rw [HV.out, HF.out], hC9, HRW.out.apart b4 (fun b hb => by omega) hA9, HNN.out⟩, cellsAt_apart HG2.out (by omega) hA9, cellsAt_apart HG3.out (by omega) hA9, cellsAt_apart HG5.out (by omega) hA9, HB6.out.trans (hb9.mono (by omega))⟩
 case done =>
   rintro D ys W hD hys ⟨⟨o, A, c, hfold, hC4, hR, hN⟩, hD2, hD3, hC5, hB⟩ hK
   rw [hys, dec_opts] at hfold
   have HV := Lib.hid (dec7_some h40' hfold)
   have HC4 := Lib.hid hC4
   have HR := Lib.hid hR
   have HD2 := Lib.hid hD2
   have HD3 := Lib.hid hD3
   have HB := Lib.hid hB
   have HK := Lib.hid hK
   have HDD := Lib.hid hD
   have c0 := hC4.cell 0 _ rfl
   have f0 := hC4.free 0 (show 0 < 7 by decide)
   have c1 := hC4.cell 1 _ rfl
   have f1 := hC4.free 1 (show 1 < 7 by decide)
   have c2 := hC4.cell 2 _ rfl
   have f2 := hC4.free 2 (show 2 < 7 by decide)
   have c3 := hC4.cell 3 _ rfl
   have f3 := hC4.free 3 (show 3 < 7 by decide)
   have c4 := hC4.cell 4 _ rfl
   have f4 := hC4.free 4 (show 4 < 7 by decide)
   have c5 := hC4.cell 5 _ rfl
   have f5 := hC4.free 5 (show 5 < 7 by decide)
   have c6 := hC4.cell 6 _ rfl
   have f6 := hC4.free 6 (show 6 < 7 by decide)
   have d0 := hD2.cell 0 _ rfl
   have g0 := hD2.free 0 (show 0 < 7 by decide)
   have d1 := hD2.cell 1 _ rfl
   have g1 := hD2.free 1 (show 1 < 7 by decide)
   have d2 := hD2.cell 2 _ rfl
   have g2 := hD2.free 2 (show 2 < 7 by decide)
   have d3 := hD2.cell 3 _ rfl
   have g3 := hD2.free 3 (show 3 < 7 by decide)
   have d4 := hD2.cell 4 _ rfl
   have g4 := hD2.free 4 (show 4 < 7 by decide)
   have d5 := hD2.cell 5 _ rfl
   have g5 := hD2.free 5 (show 5 < 7 by decide)
   have d6 := hD2.cell 6 _ rfl
   have g6 := hD2.free 6 (show 6 < 7 by decide)
   have r0 := hD3.cell 0 _ rfl
   have q0 := hD3.free 0 (show 0 < 1 by decide)
   clear hC4 hR hN hD2 hD3 hC5 hB hfold hys hK hD
   gi_wp2
   obtain ⟨W9, hW9, hC9, hA9, hb9, hk9⟩ := anewK HD2.out rfl (.int .u16 (o.mss : Int)) (.int .i64 o.scale) (.bool o.sack) (.slice A o.blocks.length c) (.bool o.time) (.int .u32 (o.val : Int)) (.int .u32 (o.echo : Int))
   rw [hW9]
   have hD9 := (cellsAt_apart HD3.out (by omega) hA9).put 0 (.int .i64 0) (show 0 < 1 by decide)
   have hC9' := hC9.other (w.heap.size + 1) 0 (.int .i64 0) (by omega)
   have hR9 := (HR.out.apart w.heap.size (fun b hb => by omega) hA9).apart (w.heap.size + 1) (fun b hb => by omega) ((Apart.refl _ _).put 0 (.int .i64 0))
   have hB9 := (HB.out.trans hb9).setCell (p := ⟨w.heap.size + 1, 0, none⟩) (by show w.heap.size ≤ w.heap.size + 1; omega) (.int .i64 0)
   have hK9 := (hk9.trans (KeepsOthers.setCell _ ⟨w.heap.size + 1, 0, none⟩ (.int .i64 0))).same D _ HK.out rfl
   clear hW9 hA9 hb9 hk9 hC9
   generalize W9.setCell ⟨w.heap.size + 1, 0, none⟩ (.int .i64 0) = W8 at hD9 hC9' hR9 hB9 hK9 ⊢
   clear c0 f0 d0 g0 c1 f1 d1 g1 c2 f2 d2 g2 c3 f3 d3 g3 c4 f4 d4 g4 c5 f5 d5 g5 c6 f6 d6 g6 r0 q0
   refine ⟨by simp, .inl ⟨_, _, rfl, run_takeDeferred hK9, ?_⟩⟩
   have hg := grownBy_putObj' W8 D (.deferred none)
   have hr : ∀ r, some D = some r → ∃ o : Obj, W8.heap[r]? = some o ∧ o.isCells = false := fun r e => by cases e; exact ⟨_, hK9, rfl⟩
   have hC8 := cellsAt_kept hC9' hg hr
   have hD8 := cellsAt_kept hD9 hg hr
   have hR8 := row_kept hR9 hg hr
   have hB8 := hB9.trans (belowK_b (w := w) (Nat.le_refl _) W8 D _ (.deferred none) (by have := HDD.out; omega) hK9 rfl rfl)
   have e0 := hC8.cell 0 _ rfl
   have e1 := hC8.cell 1 _ rfl
   have e2 := hC8.cell 2 _ rfl
   have e3 := hC8.cell 3 _ rfl
   have e4 := hC8.cell 4 _ rfl
   have e5 := hC8.cell 5 _ rfl
   have e6 := hC8.cell 6 _ rfl
   have x0 := hD8.cell 0 _ rfl
   refine ⟨.tuple #[ov o A c, .int .i64 0], ?_, ?_⟩
   · simp [results, Tryz.f41, go_sem, e0, e1, e2, e3, e4, e5, e6, x0]
   · unfold DecOut
     rw [HV.out]
     exact ⟨⟨A, c, rfl, hR8.imp (fun b hb => by omega)⟩, hB8⟩
 case stop =>
   rintro D c pre W hD hpre ⟨rfl, hfold, hD2, hD3, hB⟩ hK
   have HV := Lib.hid (dec7_none h40' (stp_broken hfold hpre))
   have HD2 := Lib.hid hD2
   have HD3 := Lib.hid hD3
   have HB := Lib.hid hB
   have HK := Lib.hid hK
   have HDD := Lib.hid hD
   clear hD2 hD3 hB hK hD hfold hpre
   gi_wp2
   refine ⟨by simp, .inl ⟨_, _, rfl, run_takeDeferred HK.out, ?_⟩⟩
   have hg := grownBy_putObj' W D (.deferred none)
   have hr : ∀ r, some D = some r → ∃ o : Obj, W.heap[r]? = some o ∧ o.isCells = false := fun r e => by cases e; exact ⟨_, HK.out, rfl⟩
   have hC8 := cellsAt_kept HD2.out hg hr
   have hD8 := cellsAt_kept HD3.out hg hr
   have hB8 := HB.out.trans (belowK_b (w := w) (Nat.le_refl _) W D _ (.deferred none) (by have := HDD.out; omega) HK.out rfl rfl)
   have e0 := hC8.cell 0 _ rfl
   have e1 := hC8.cell 1 _ rfl
   have e2 := hC8.cell 2 _ rfl
   have e3 := hC8.cell 3 _ rfl
   have e4 := hC8.cell 4 _ rfl
   have e5 := hC8.cell 5 _ rfl
   have e6 := hC8.cell 6 _ rfl
   have x0 := hD8.cell 0 _ rfl
   refine ⟨.tuple #[ov zeroO none 0, .int .i64 70], ?_, ?_⟩
   · simp [results, Tryz.f41, go_sem, zeroO, e0, e1, e2, e3, e4, e5, e6, x0]
   · unfold DecOut
     rw [HV.out]
     exact ⟨⟨none, 0, rfl, Row.nil _ _ _⟩, hB8⟩
end Go.Proofs.YtpmnmnflaijaaaaGreat.OptPD
