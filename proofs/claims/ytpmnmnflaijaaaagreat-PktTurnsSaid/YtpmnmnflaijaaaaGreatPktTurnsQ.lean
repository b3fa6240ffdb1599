/-
  Proved: the statement 'Rows.PktTurnsSaid': for every input the Go function transomlaw08.PktTurns returns true, and each argument reads behind the call as it read before. Conditions: none of our own; those of the given row.
-/
import Derived.Test.YtpmnmnflaijaaaaGreatQPktAlive2
import Derived.Test.YtpmnmnflaijaaaaGreatQPktOpen2
import Derived.Test.YtpmnmnflaijaaaaGreatQPktSee2
import Derived.Test.YtpmnmnflaijaaaaGreatQRelG2
import Derived.Test.YtpmnmnflaijaaaaGreatQCalm1
import Derived.Test.YtpmnmnflaijaaaaGreatQPktRw4
import Derived.Test.YtpmnmnflaijaaaaGreatQPktRwR1
import Derived.Test.YtpmnmnflaijaaaaGreatQPktTdP2
import Derived.Test.YtpmnmnflaijaaaaGreatQPktTdR1
import Derived.Test.YtpmnmnflaijaaaaGreatQPktSameR1
import Derived.Test.YtpmnmnflaijaaaaGreatRows
import Derived.WalkKit
import Derived.ProofKit
import Derived.OpenShut
import Derived.ShutString
import Derived.ChangeOld
import Derived.Below
namespace Go.Proofs.YtpmnmnflaijaaaaGreat.pktTurns
open Go.ChangeShapes Go.WideShapes Go.ChangeAt Go.RowKit
open Go.ChangeMaps (open_string shut_string)
open TupMath SumMath IpMath Litb Calm Rel RelG IpRef OptMath OptSame OptTake5 OptTk PktMath PktVal PktCom PktDecC PktOp PktSmall PktBox PktRwM PktAlM PktAlive
open Cells (CellsAt put_lit)
set_option linter.unusedVariables false

theorem own : ownKnob Tryz.prog.godebug = none := by kernel_rfl
theorem laidOut : laidOutB Tryz.prog = true := by kernel_rfl

def relT8 (s0 : Sg) (A0 : Option Addr) (c0 : Nat) (x2 : Sh) (u : Sg) (R : ByteArray) (n : Nat) : Nat → Value → World → Prop
  | 0 => fun v _ => v = sv s0 A0 c0
  | 1 => fun v _ => v = xv x2
  | 2 => fun v W => ∃ A c, v = sv u A c ∧ BlkR W A u.opts.blocks
  | 3 => fun v _ => v = sv s0 A0 c0
  | 4 => fun v _ => v = xv x2
  | 5 => fun v W => ∃ A c, v = sv u A c ∧ BlkR W A u.opts.blocks
  | 6 => fun v _ => v = .bool true
  | 7 => fun v _ => v = .bool true
  | 8 => fun v _ => v = .string R
  | 9 => fun v _ => v = .string R
  | 10 => fun v _ => v = .bool true
  | 11 => fun v _ => v = .bool true
  | 12 => fun v _ => v = .bool true
  | 13 => fun v _ => v = .int .i64 (n : Int)
  | 14 => fun v _ => v = .int .i64 (n : Int)
  | 15 => fun v _ => v = .bool true
  | 16 => fun v _ => v = .bool true
  | 17 => fun v _ => v = .bool true
  | 18 => fun v _ => v = .bool true
  | 19 => fun v _ => v = .bool true
  | 20 => fun v _ => v = .bool true
  | _ => fun _ _ => True
theorem relT8_more (s0 : Sg) (A0 : Option Addr) (c0 : Nat) (x2 : Sh) (u : Sg) (R : ByteArray) (n : Nat) (i : Nat) (v : Value) (w w' : World) (hr : relT8 s0 A0 c0 x2 u R n i v w) (hb : Below w.heap.size w w') : relT8 s0 A0 c0 x2 u R n i v w' := by
  unfold relT8 at hr ⊢
  split at hr <;> first
    | exact hr
    | (obtain ⟨A, c, e, hR⟩ := hr
       exact ⟨A, c, e, hR.more hb⟩)
attribute [local go_sem] relUpon
theorem rwV_is (S : ByteArray) (x : Sh) : ∃ (R : ByteArray) (n : Nat), rwV S x = .tuple #[.string R, .int .i64 (n : Int)] := by
  unfold rwV
  split
  · exact ⟨_, 0, rfl⟩
  · exact ⟨_, _, rfl⟩

set_option maxRecDepth 100000 in
set_option maxHeartbeats 16000000 in
theorem turns_skip (s0 : Sg) (A0 : Option Addr) (c0 : Nat) (a1 : ByteArray) (x2 : Sh) (w : World) (z0 : BlkR w A0 s0.opts.blocks) (g0 : s0.ok ∧ s0.opts.blocks.length ≤ maxLen ∧ -9223372036854775808 ≤ s0.opts.scale ∧ s0.opts.scale ≤ 9223372036854775807 ∧ s0.data.size ≤ maxLen) (w1 : a1.size ≤ maxLen) (g2 : x2.ok ∧ -9223372036854775808 ≤ x2.up ∧ x2.up ≤ 9223372036854775807 ∧ -9223372036854775808 ≤ x2.down ∧ x2.down ≤ 9223372036854775807) (h : heavy s0 = true ∨ 4096 < a1.size) : Calls Tryz.prog 3 #[sv s0 A0 c0, .string a1, xv x2] w fun e w' => e = .returned (.bool true) ∧ Below w.heap.size w w' := by
  have ha9 : a1.size ≤ 9223372036854775807 := by unfold maxLen at w1; omega
  have X0 := Lib.hid ((CellsAt.new w (sc s0 A0 c0) 30).later ((Below.refl _ _).alloc (Nat.le_refl _) (.cells (xc x2) 32)))
  have v0 := CellsAt.new (w.alloc (.cells (sc s0 A0 c0) 30)) (xc x2) 32
  rw [World.size_alloc] at v0
  have V0 := Lib.hid v0
  clear v0
  have B0 := Lib.hid (st_alloc (st_alloc (Below.refl _ w) (.cells (sc s0 A0 c0) 30)) (.cells (xc x2) 32))
  have HH := Lib.hid (fun W => heavyL s0 A0 c0 W g0.2.2.2.2)
  by_cases hh : heavy s0 = true
  · rw [hh] at HH
    go_enter Tryz.func3, Tryz.ntmps3
    have X1 := X0.out
    go_upto_region 1 with fail
    refine wp_region_lit ?_
    refine step_seg rfl _ rfl _ rfl _ _ _ X1 ?_
    go_wp2_with fail
    refine (HH.out _).mono ?_
    rintro e wL ⟨rfl, hb⟩
    have B1 := Lib.hid (st_call B0.out hb)
    have K1 := Lib.hid hb
    have X2 := X0.out.later hb
    have V2 := Lib.hid (V0.out.later hb)
    clear hb X1
    clear X2
    go_wp2_with fail
    refine (alive_any _).mono ?_
    rintro e w' ⟨rfl, hb⟩
    have HB := Lib.hid (st_call (B1.out) hb)
    clear hb
    go_wp2_with fail
    go_ret
    exact ⟨rfl, HB.out⟩
  have hh2 : heavy s0 = false := by cases h : heavy s0; rfl; exact absurd h hh
  rw [hh2] at HH
  have hq : (4096 : Int) < (a1.size : Int) := by rcases h with h | h; exact absurd h hh; omega
  clear hh hh2 h
  go_enter Tryz.func3, Tryz.ntmps3
  have X1 := X0.out
  go_upto_region 1 with fail
  refine wp_region_lit ?_
  refine step_seg rfl _ rfl _ rfl _ _ _ X1 ?_
  go_wp2_with fail
  refine (HH.out _).mono ?_
  rintro e wL ⟨rfl, hb⟩
  have B1 := Lib.hid (st_call B0.out hb)
  have K1 := Lib.hid hb
  have X2 := X0.out.later hb
  have V2 := Lib.hid (V0.out.later hb)
  clear hb X1
  clear X2
  go_wp2_with fail
  refine (alive_any _).mono ?_
  rintro e w' ⟨rfl, hb⟩
  have HB := Lib.hid (st_call (B1.out) hb)
  clear hb
  go_wp2_with fail
  go_ret
  exact ⟨rfl, HB.out⟩

set_option maxRecDepth 100000 in
set_option maxHeartbeats 16000000 in
theorem turns_ok (s0 : Sg) (A0 : Option Addr) (c0 : Nat) (a1 : ByteArray) (x2 : Sh) (w : World) (z0 : BlkR w A0 s0.opts.blocks) (g0 : s0.ok ∧ s0.opts.blocks.length ≤ maxLen ∧ -9223372036854775808 ≤ s0.opts.scale ∧ s0.opts.scale ≤ 9223372036854775807 ∧ s0.data.size ≤ maxLen) (w1 : a1.size ≤ maxLen) (g2 : x2.ok ∧ -9223372036854775808 ≤ x2.up ∧ x2.up ≤ 9223372036854775807 ∧ -9223372036854775808 ≤ x2.down ∧ x2.down ≤ 9223372036854775807) (hh : heavy s0 = false) (hx : ¬ 4096 < a1.size) : Calls Tryz.prog 3 #[sv s0 A0 c0, .string a1, xv x2] w fun e w' => e = .returned (.bool true) ∧ Below w.heap.size w w' := by
  have X0 := Lib.hid ((CellsAt.new w (sc s0 A0 c0) 30).later ((Below.refl _ _).alloc (Nat.le_refl _) (.cells (xc x2) 32)))
  have v0 := CellsAt.new (w.alloc (.cells (sc s0 A0 c0) 30)) (xc x2) 32
  rw [World.size_alloc] at v0
  have V0 := Lib.hid v0
  clear v0
  have B0 := Lib.hid (st_alloc (st_alloc (Below.refl _ w) (.cells (sc s0 A0 c0) 30)) (.cells (xc x2) 32))
  have HH := Lib.hid (fun W => heavyL s0 A0 c0 W g0.2.2.2.2)
  rw [hh] at HH
  obtain ⟨f1, f2⟩ := heavy_no hh
  have hq : ¬ (4096 : Int) < (a1.size : Int) := by omega
  obtain ⟨R, n, hrv⟩ := rwV_is a1 x2
  have HR1 := Lib.hid (fun W => PktRw.rewP a1 x2 W (by omega) g2.1 g2.2.1 g2.2.2.1 g2.2.2.2.1 g2.2.2.2.2)
  have HR2 := Lib.hid (fun W => PktRwR.rewR a1 x2 W (by omega) g2.1 g2.2.1 g2.2.2.1 g2.2.2.2.1 g2.2.2.2.2)
  rw [hrv] at HR1 HR2
  have HQN := Lib.hid (show ((n : Int) == (n : Int)) = true from beq_self_eq_true _)
  have HTP := Lib.hid (fun W (hB : BlkR W A0 s0.opts.blocks) => PktTdP.turnedP8 s0 A0 c0 x2 W hB g0.1 (by omega) (by omega) g2.1 g2.2.1 g2.2.2.1 g2.2.2.2.1 g2.2.2.2.2)
  have HTR := Lib.hid (fun W (hB : BlkR W A0 s0.opts.blocks) => PktTdR.turnedR8 s0 A0 c0 x2 W hB g0.1 (by omega) g2.1 g2.2.1 g2.2.2.1 g2.2.2.2.1 g2.2.2.2.2)
  have hul : (turned s0 x2).opts.blocks.length ≤ 1000000 := by show (s0.opts.blocks.map _).length ≤ _; rw [List.length_map]; omega
  have HS := Lib.hid (fun W A c A' c' (hB : BlkR W A (turned s0 x2).opts.blocks) (hB' : BlkR W A' (turned s0 x2).opts.blocks) => PktSameR.sameR8 (turned s0 x2) (turned s0 x2) A c A' c' W hB hB' hul hul)
  rw [sameS_yes rfl] at HS
  generalize turned s0 x2 = u at HTP HTR HS
  clear hrv hul hh
  go_enter Tryz.func3, Tryz.ntmps3
  have X1 := X0.out
  go_upto_region 1 with fail
  refine wp_region_lit ?_
  refine step_seg rfl _ rfl _ rfl _ _ _ X1 ?_
  go_wp2_with fail
  refine (HH.out _).mono ?_
  rintro e wL ⟨rfl, hb⟩
  have B1 := Lib.hid (st_call B0.out hb)
  have K1 := Lib.hid hb
  have X2 := Lib.hid (X0.out.later hb)
  have V2 := Lib.hid (V0.out.later hb)
  clear hb X1
  go_upto_region 3 with fail
  refine wp_region_lit ?_
  have V6 := V2.out
  go_wp2_with (refine step_shift rfl _ rfl _ rfl _ V6 ?_)
  refine (HR1.out _).mono ?_
  rintro e wM ⟨rfl, hb⟩
  have B2 := Lib.hid (st_call B1.out hb)
  have K2 := Lib.hid (st_call K1.out hb)
  have X3 := Lib.hid (X2.out.later hb)
  have V3 := Lib.hid (V2.out.later hb)
  clear hb V6 X2 V2
  go_upto_region 4 with fail
  refine wp_region_lit ?_
  have V6 := V3.out
  go_wp2_with (refine step_shift rfl _ rfl _ rfl _ V6 ?_)
  refine (HR2.out _).mono ?_
  rintro e W9 ⟨rfl, hb⟩
  have B9 := Lib.hid (st_call B2.out hb)
  have X9 := Lib.hid (X3.out.later hb)
  have V9 := Lib.hid (V3.out.later hb)
  have z9 := z0.more (st_call B2.out hb)
  have HT1 := Lib.hid (fun W (hb : Below W9.heap.size W9 W) => HTP.out W (z9.more hb))
  have HT2 := Lib.hid (fun W (hb : Below W9.heap.size W9 W) => HTR.out W (z9.more hb))
  clear hb V6 X3 V3 z9
  go_upto_region 5 with fail
  refine wp_region_seeG 51 [(7, true), (12, true), (17, true)] (relT8 s0 A0 c0 x2 u R n) rfl (by kernel_rfl) (by kernel_rfl) (by kernel_rfl) (by intro p hp v w h; simp only [List.mem_cons, List.not_mem_nil, or_false] at hp; rcases hp with rfl | rfl | rfl <;> exact h) (relT8_more s0 A0 c0 x2 u R n) ?_ ?_
  · intro i hi
    have hi2 : i < 21 := by simpa using hi
    clear hi
    match i, hi2 with
    | 0, _ =>
      intro ρ W hb hc hg hf h0 hd
      have t3 := h0 3 (by kernel_rfl)
      clear hd h0
      exact PktSee.see_seg _ rfl _ t3 _ _ _ (X9.out.later hb) rfl
    | 1, _ =>
      intro ρ W hb hc hg hf h0 hd
      have t5 := h0 5 (by kernel_rfl)
      clear hd h0
      exact PktSee.see_shift _ rfl _ t5 _ (V9.out.later hb) rfl
    | 2, _ =>
      intro ρ W hb hc hg hf h0 hd
      have d0 : ρ (.tmp 31) = sv s0 A0 c0 := hd 0 31 (by kernel_rfl) (by kernel_rfl)
      have d1 : ρ (.tmp 32) = xv x2 := hd 1 32 (by kernel_rfl) (by kernel_rfl)
      clear hd h0
      go_simp
      exact (HT1.out W hb).mono fun e w' hq => by obtain ⟨⟨A, c, he, hR⟩, hb⟩ := hq; exact ⟨_, he, ⟨A, c, rfl, hR.blk⟩, hb⟩
    | 3, _ =>
      intro ρ W hb hc hg hf h0 hd
      have t3 := h0 3 (by kernel_rfl)
      clear hd h0
      exact PktSee.see_seg _ rfl _ t3 _ _ _ (X9.out.later hb) rfl
    | 4, _ =>
      intro ρ W hb hc hg hf h0 hd
      have t5 := h0 5 (by kernel_rfl)
      clear hd h0
      exact PktSee.see_shift _ rfl _ t5 _ (V9.out.later hb) rfl
    | 5, _ =>
      intro ρ W hb hc hg hf h0 hd
      have d3 : ρ (.tmp 34) = sv s0 A0 c0 := hd 3 34 (by kernel_rfl) (by kernel_rfl)
      have d4 : ρ (.tmp 35) = xv x2 := hd 4 35 (by kernel_rfl) (by kernel_rfl)
      clear hd h0
      go_simp
      exact (HT2.out W hb).mono fun e w' hq => by obtain ⟨⟨A, c, he, hR⟩, hb⟩ := hq; exact ⟨_, he, ⟨A, c, rfl, hR⟩, hb⟩
    | 6, _ =>
      intro ρ W hb hc hg hf h0 hd
      have dp2 : ∃ A c, (ρ (.tmp 33)) = sv u A c ∧ BlkR W A u.opts.blocks := hd 2 33 (by kernel_rfl) (by kernel_rfl)
      have dp5 : ∃ A c, (ρ (.tmp 36)) = sv u A c ∧ BlkR W A u.opts.blocks := hd 5 36 (by kernel_rfl) (by kernel_rfl)
      obtain ⟨A1, c1, dp2, hR1⟩ := dp2
      obtain ⟨A2, c2, dp5, hR2⟩ := dp5
      clear hd h0
      go_simp
      exact (HS.out W A1 c1 A2 c2 hR1 hR2).mono fun e w' ⟨he, hb⟩ => ⟨_, he, rfl, hb⟩
    | 7, _ =>
      intro ρ W hb hc hg hf h0 hd
      have d6 : ρ (.tmp 37) = .bool true := hd 6 37 (by kernel_rfl) (by kernel_rfl)
      clear hd h0
      go_simp
      exact ⟨rfl, Below.refl _ _⟩
    | 8, _ =>
      intro ρ W hb hc hg hf h0 hd
      have t7 := h0 7 (by kernel_rfl)
      clear hd h0
      go_simp
      exact ⟨rfl, Below.refl _ _⟩
    | 9, _ =>
      intro ρ W hb hc hg hf h0 hd
      have t9 := h0 9 (by kernel_rfl)
      clear hd h0
      go_simp
      exact ⟨rfl, Below.refl _ _⟩
    | 10, _ =>
      intro ρ W hb hc hg hf h0 hd
      have d8 : ρ (.tmp 39) = .string R := hd 8 39 (by kernel_rfl) (by kernel_rfl)
      have d9 : ρ (.tmp 40) = .string R := hd 9 40 (by kernel_rfl) (by kernel_rfl)
      clear hd h0
      go_simp
      exact ⟨rfl, Below.refl _ _⟩
    | 11, _ =>
      intro ρ W hb hc hg hf h0 hd
      have d7 : ρ (.tmp 38) = .bool true := hd 7 38 (by kernel_rfl) (by kernel_rfl)
      have d10 : ρ (.tmp 41) = .bool true := hd 10 41 (by kernel_rfl) (by kernel_rfl)
      clear hd h0
      go_simp
      exact ⟨rfl, Below.refl _ _⟩
    | 12, _ =>
      intro ρ W hb hc hg hf h0 hd
      have d11 : ρ (.tmp 42) = .bool true := hd 11 42 (by kernel_rfl) (by kernel_rfl)
      clear hd h0
      go_simp
      exact ⟨rfl, Below.refl _ _⟩
    | 13, _ =>
      intro ρ W hb hc hg hf h0 hd
      have t8 := h0 8 (by kernel_rfl)
      clear hd h0
      go_simp
      exact ⟨rfl, Below.refl _ _⟩
    | 14, _ =>
      intro ρ W hb hc hg hf h0 hd
      have t10 := h0 10 (by kernel_rfl)
      clear hd h0
      go_simp
      exact ⟨rfl, Below.refl _ _⟩
    | 15, _ =>
      intro ρ W hb hc hg hf h0 hd
      have d13 : ρ (.tmp 44) = .int .i64 (n : Int) := hd 13 44 (by kernel_rfl) (by kernel_rfl)
      have d14 : ρ (.tmp 45) = .int .i64 (n : Int) := hd 14 45 (by kernel_rfl) (by kernel_rfl)
      clear hd h0
      have qn := HQN.out
      go_simp
      exact ⟨rfl, Below.refl _ _⟩
    | 16, _ =>
      intro ρ W hb hc hg hf h0 hd
      have d12 : ρ (.tmp 43) = .bool true := hd 12 43 (by kernel_rfl) (by kernel_rfl)
      have d15 : ρ (.tmp 46) = .bool true := hd 15 46 (by kernel_rfl) (by kernel_rfl)
      clear hd h0
      go_simp
      exact ⟨rfl, Below.refl _ _⟩
    | 17, _ =>
      intro ρ W hb hc hg hf h0 hd
      have d16 : ρ (.tmp 47) = .bool true := hd 16 47 (by kernel_rfl) (by kernel_rfl)
      clear hd h0
      go_simp
      exact ⟨rfl, Below.refl _ _⟩
    | 18, _ =>
      intro ρ W hb hc hg hf h0 hd
      clear hd h0
      go_simp
      exact (alive_any W).mono fun e w' ⟨he, hb⟩ => ⟨_, he, rfl, hb⟩
    | 19, _ =>
      intro ρ W hb hc hg hf h0 hd
      have d17 : ρ (.tmp 48) = .bool true := hd 17 48 (by kernel_rfl) (by kernel_rfl)
      have d18 : ρ (.tmp 49) = .bool true := hd 18 49 (by kernel_rfl) (by kernel_rfl)
      clear hd h0
      go_simp
      exact ⟨rfl, Below.refl _ _⟩
    | 20, _ =>
      intro ρ W hb hc hg hf h0 hd
      have d19 : ρ (.tmp 50) = .bool true := hd 19 50 (by kernel_rfl) (by kernel_rfl)
      clear hd h0
      go_simp
      exact ⟨rfl, Below.refl _ _⟩
    | i + 21, hlt => exact absurd hlt (by omega)
  · intro vs W hb hall
    have hl : vs 20 = .bool true := hall 20 (of_decide_eq_true (by kernel_rfl))
    have HB := Lib.hid (st_call B9.out hb)
    clear hall hb
    rw [lexA_slots vs _ [(some 31, 0), (some 32, 1), (some 33, 2), (some 34, 3), (some 35, 4), (some 36, 5), (some 37, 6), (some 38, 7), (some 39, 8), (some 40, 9), (some 41, 10), (some 42, 11), (some 43, 12), (some 44, 13), (some 45, 14), (some 46, 15), (some 47, 16), (some 48, 17), (some 49, 18), (some 50, 19), (some 6, 20)] (by kernel_rfl)]
    simp only [List.foldl_cons, List.foldl_nil, hl]
    simp only [put_lit, List.set_cons_succ, List.set_cons_zero]
    go_wp2_with fail
    go_ret
    exact ⟨rfl, HB.out⟩

/-! The walk: the Go text returns true, and writes nothing that was there. -/
set_option maxRecDepth 100000 in
set_option maxHeartbeats 16000000 in
theorem walk (s0 : PktMath.Sg) (A0 : Option Addr) (c0 : Nat) (a1 : ByteArray) (x2 : PktMath.Sh) (w : World) (z0 : OptSame.BlkR w A0 s0.opts.blocks) (g0 : s0.ok ∧ s0.opts.blocks.length ≤ maxLen ∧ -9223372036854775808 ≤ s0.opts.scale ∧ s0.opts.scale ≤ 9223372036854775807 ∧ s0.data.size ≤ maxLen) (w1 : a1.size ≤ maxLen) (g2 : x2.ok ∧ -9223372036854775808 ≤ x2.up ∧ x2.up ≤ 9223372036854775807 ∧ -9223372036854775808 ≤ x2.down ∧ x2.down ≤ 9223372036854775807) :
    Calls Tryz.prog 3 #[PktVal.sv s0 A0 c0, .string a1, PktVal.xv x2] w fun e w' => e = .returned (.bool true) ∧ Below w.heap.size w w' := by
  by_cases hh : heavy s0 = true
  · exact turns_skip s0 A0 c0 a1 x2 w z0 g0 w1 g2 (Or.inl hh)
  by_cases hx : 4096 < a1.size
  · exact turns_skip s0 A0 c0 a1 x2 w z0 g0 w1 g2 (Or.inr hx)
  have hh2 : heavy s0 = false := by cases h : heavy s0; rfl; exact absurd h hh
  exact turns_ok s0 A0 c0 a1 x2 w z0 g0 w1 g2 hh2 hx

/-! The row's step, after the guide's own way. -/
set_option maxRecDepth 100000 in
theorem lifted (os : Os) (started : os.Started) (H : Type) (enc : TypeId × Value → H) :
    ReturnsInHanded {} Tryz.checked os 3 .any (Rows.pktTurnsSpec.pre6 enc Tryz.prog Tryz.f3 Rows.pktTurnsRow.domain false) (Rows.pktTurnsSpec.post enc Tryz.prog Tryz.f3 false true false false) := by
  refine returnsInHanded_of_change (C := Tryz.checked) own started (by kernel_rfl) Tryz.func3
    (ChangeSpec.witness6 (enc := enc) (C := Tryz.checked) false ⟨#[], #[.agg #[.int .u32 0, .int .u16 0, .int .u32 0, .int .u16 0, .int .u32 0, .int .u32 0, .int .u8 0, .int .u16 0, .int .u16 0, .int .i64 0, .bool false, .slice none 0 0, .bool false, .int .u32 0, .int .u32 0, .string ByteArray.empty], .string ByteArray.empty, .agg #[.int .u32 0, .int .u16 0, .int .u32 0, .int .u16 0, .int .u32 0, .int .u32 0, .int .u32 0, .int .u32 0, .int .i64 0, .int .i64 0]], []⟩ 8 (by kernel_rfl) (by kernel_rfl) (by kernel_rfl) (by kernel_rfl)) ?_
  intro W base args ds gs before hval0 hW hcnd _
  have hval : ∀ (j : Nat) t v, Tryz.f3.params[j]? = some t → args[j]? = some v → Value.okWide Tryz.prog W .any base t v := hval0
  have hW' := hW
  obtain ⟨p, q, hA0, hV, rfl, hfz, hnd⟩ := hW
  have hA : DataW.TrodAll enc Tryz.prog W 0 (fun _ => true) true Tryz.f3.params.toList args.toList ds p := hA0
  rw [Tryz.params3] at hA hval
  obtain ⟨v0, vs0, d0, ds0, p0, q0, hargs, rfl, rfl, h0, r0⟩ := trodAll_cons hA
  obtain ⟨v1, vs1, d1, ds1, p1, q1, rfl, rfl, rfl, h1, r1⟩ := trodAll_cons r0
  obtain ⟨v2, vs2, d2, ds2, p2, q2, rfl, rfl, rfl, h2, r2⟩ := trodAll_cons r1
  obtain ⟨rfl, rfl, rfl⟩ := trodAll_nil r2
  obtain rfl : args = #[v0, v1, v2] := by cases args; simp_all
  obtain ⟨rfl, rfl⟩ := trodVars_none hV
  have k0 := h0
  have lt0 : ∀ x ∈ p0, x.block < W.heap.size := by obtain ⟨m, hm⟩ := k0; exact DataW.trod_lt m _ _ _ hm
  obtain ⟨s0, A0, c0, rfl, z0, g0⟩ := PktOpen.open_seg (hval 0 30 v0 rfl rfl) h0
  have k1 := h1
  have lt1 : ∀ x ∈ p1, x.block < W.heap.size := by obtain ⟨m, hm⟩ := k1; exact DataW.trod_lt m _ _ _ hm
  obtain ⟨a1, rfl, _, _, w1⟩ := open_string Tryz.underlying9 (hval 1 9 v1 rfl rfl) h1
  have k2 := h2
  have lt2 : ∀ x ∈ p2, x.block < W.heap.size := by obtain ⟨m, hm⟩ := k2; exact DataW.trod_lt m _ _ _ hm
  obtain ⟨x2, rfl, g2⟩ := PktOpen.open_shift (hval 2 32 v2 rfl rfl) h2
  clear hA0 hval0
  refine (walk s0 A0 c0 a1 x2 W z0 g0 w1 g2).mono fun e W' ⟨he, bel⟩ => ?_
  subst he
  exact ⟨_, rfl, _, _, _, [], _, [], hW', trodAll_mk1 (shut_bool Tryz.underlying4 _), (trodAll_cons_mk (Below.trod laidOut (by kernel_rfl) (of_decide_eq_true (by kernel_rfl)) k0 bel lt0) (trodAll_cons_mk (Below.trod laidOut (by kernel_rfl) (of_decide_eq_true (by kernel_rfl)) k1 bel lt1) (trodAll_cons_mk (Below.trod laidOut (by kernel_rfl) (of_decide_eq_true (by kernel_rfl)) k2 bel lt2) trodAll_mk0))), rfl, bel.frame _, fun h => by cases h⟩

theorem over : Rows.pktTurnsRow.holds Tryz.pinned (OpenSpec.ofChange Rows.pktTurnsSpec) :=
  OpenClaim.holds_of_wide 3 Tryz.f3 rfl rfl rfl rfl rfl rfl rfl ⟨rfl, rfl, rfl, rfl, rfl⟩ rfl rfl rfl rfl rfl (by kernel_rfl) Tryz.func3 (by kernel_rfl)
    (of_decide_eq_true (by kernel_rfl)) (by unfold Func.isWrapper; first | (rw [if_pos (by decide +kernel)]; kernel_rfl) | (rw [if_neg (by decide +kernel)]; exact ⟨rfl, rfl⟩))
    (fun os started H enc _ => lifted os started H enc)

/-- The statement. -/
theorem proved : Rows.PktTurnsSaid := over
#print axioms proved
end Go.Proofs.YtpmnmnflaijaaaaGreat.pktTurns
