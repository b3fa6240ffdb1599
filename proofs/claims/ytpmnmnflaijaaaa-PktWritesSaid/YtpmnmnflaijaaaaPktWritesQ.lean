/-
  Proved: the statement 'Rows.PktWritesSaid': for every input the Go function transomlaw08.PktWrites returns true, and each argument reads behind the call as it read before. Conditions: none of our own; those of the given row.
-/
import Derived.Test.YtpmnmnflaijaaaaQPktAlive1
import Derived.Test.YtpmnmnflaijaaaaQPktEncR6
import Derived.Test.YtpmnmnflaijaaaaQPktSameR1
import Derived.Test.YtpmnmnflaijaaaaQRelG2
import Derived.Test.YtpmnmnflaijaaaaQCalm1
import Derived.Test.YtpmnmnflaijaaaaRows
import Derived.WalkKit
import Derived.ProofKit
import Derived.OpenShut
import Derived.ShutString
import Derived.ChangeOld
import Derived.Below
namespace Go.Proofs.Ytpmnmnflaijaaaa.pktWrites
open Go.ChangeShapes Go.WideShapes Go.ChangeAt Go.RowKit
open Go.ChangeMaps (open_string shut_string)
open TupMath SumMath IpMath Litb Calm Rel RelG IpRef OptMath OptSame OptTake5 OptTk PktMath PktVal PktCom PktDecC PktSmall PktBox PktAlive
open Cells (CellsAt put_lit)
set_option linter.unusedVariables false

theorem own : ownKnob Try.prog.godebug = none := by kernel_rfl
theorem laidOut : laidOutB Try.prog = true := by kernel_rfl

theorem encV8_form (s : Sg) : ∃ (S : ByteArray) (n : Int), encV8 s = .tuple #[.string S, .int .i64 n] := by
  unfold encV8
  split
  · exact ⟨_, _, rfl⟩
  · exact ⟨_, _, rfl⟩
def relW8 (s0 s1 : Sg) (A0 A1 : Option Addr) (c0 c1 : Nat) (bm bs : Bool) (S : ByteArray) (n : Int) (nx : Nat) : Nat → Value → World → Prop
  | 0 => fun v _ => v = sv s0 A0 c0
  | 1 => fun v _ => v = .bool bm
  | 2 => fun v _ => v = sv s0 A0 c0
  | 3 => fun v _ => v = .bool bm
  | 4 => fun v _ => v = .bool true
  | 5 => fun v _ => v = .bool true
  | 6 => fun v _ => v = sv s0 A0 c0
  | 7 => fun v _ => v = sv s1 A1 c1
  | 8 => fun v _ => v = .bool bs
  | 9 => fun v _ => v = sv s0 A0 c0
  | 10 => fun v _ => v = sv s1 A1 c1
  | 11 => fun v _ => v = .bool bs
  | 12 => fun v _ => v = .bool true
  | 13 => fun v _ => v = .bool true
  | 14 => fun v _ => v = .bool true
  | 15 => fun v _ => v = sv s0 A0 c0
  | 16 => fun v _ => v = sv s0 A0 c0
  | 17 => fun v _ => v = .bool true
  | 18 => fun v _ => v = .bool true
  | 19 => fun v _ => v = .bool true
  | 20 => fun v _ => v = .string S
  | 21 => fun v _ => v = .string S
  | 22 => fun v _ => v = .bool true
  | 23 => fun v _ => v = .bool true
  | 24 => fun v _ => v = .bool true
  | 25 => fun v _ => v = .int .i64 n
  | 26 => fun v _ => v = .int .i64 n
  | 27 => fun v _ => v = .bool true
  | 28 => fun v _ => v = .bool true
  | 29 => fun v _ => v = .bool true
  | 30 => fun v _ => v = sv s0 A0 c0
  | 31 => fun v _ => v = .int .u32 (nx : Int)
  | 32 => fun v _ => v = sv s0 A0 c0
  | 33 => fun v _ => v = .int .u32 (nx : Int)
  | 34 => fun v _ => v = .bool true
  | 35 => fun v _ => v = .bool true
  | 36 => fun v _ => v = .bool true
  | 37 => fun v _ => v = .bool true
  | 38 => fun v _ => v = .bool true
  | 39 => fun v _ => v = .bool true
  | _ => fun _ _ => True
theorem relW8_more (s0 s1 : Sg) (A0 A1 : Option Addr) (c0 c1 : Nat) (bm bs : Bool) (S : ByteArray) (n : Int) (nx : Nat) (i : Nat) (v : Value) (w w' : World) (hr : relW8 s0 s1 A0 A1 c0 c1 bm bs S n nx i v w) (hb : Below w.heap.size w w') : relW8 s0 s1 A0 A1 c0 c1 bm bs S n nx i v w' := by
  unfold relW8 at hr ⊢
  split at hr <;> exact hr
attribute [local go_sem] relUpon

/-! The walk: the Go text returns true, and writes nothing that was there. -/
set_option maxRecDepth 100000 in
set_option maxHeartbeats 16000000 in
theorem walk (s0 : PktMath.Sg) (A0 : Option Addr) (c0 : Nat) (s1 : PktMath.Sg) (A1 : Option Addr) (c1 : Nat) (w : World) (z0 : OptSame.BlkR w A0 s0.opts.blocks) (g0 : s0.ok ∧ s0.opts.blocks.length ≤ maxLen ∧ -9223372036854775808 ≤ s0.opts.scale ∧ s0.opts.scale ≤ 9223372036854775807 ∧ s0.data.size ≤ maxLen) (z1 : OptSame.BlkR w A1 s1.opts.blocks) (g1 : s1.ok ∧ s1.opts.blocks.length ≤ maxLen ∧ -9223372036854775808 ≤ s1.opts.scale ∧ s1.opts.scale ≤ 9223372036854775807 ∧ s1.data.size ≤ maxLen) :
    Calls Try.prog 3 #[PktVal.sv s0 A0 c0, PktVal.sv s1 A1 c1] w fun e w' => e = .returned (.bool true) ∧ Below w.heap.size w w' := by
  have X0 := Lib.hid ((CellsAt.new w (sc s0 A0 c0) 30).later ((Below.refl _ _).alloc (Nat.le_refl _) (.cells (sc s1 A1 c1) 30)))
  have y0 := CellsAt.new (w.alloc (.cells (sc s0 A0 c0) 30)) (sc s1 A1 c1) 30
  rw [World.size_alloc] at y0
  have Y0 := Lib.hid y0
  clear y0
  have B0 := Lib.hid (st_alloc (st_alloc (Below.refl _ w) (.cells (sc s0 A0 c0) 30)) (.cells (sc s1 A1 c1) 30))
  have HH := Lib.hid (fun W => heavyL s0 A0 c0 W g0.2.2.2.2)
  have HG := Lib.hid (fun W => heavyL s1 A1 c1 W g1.2.2.2.2)
  by_cases hh : heavy s0 = true
  · rw [hh] at HH
    go_enter Try.func3, Try.ntmps3
    have X1 := X0.out
    go_upto_region 1 with fail
    refine wp_region_lit ?_
    refine step_seg rfl _ rfl _ rfl _ _ _ X1 ?_
    go_wp2_with fail
    refine (HH.out _).mono ?_
    rintro e wL ⟨rfl, hb⟩
    have B1 := Lib.hid (st_call B0.out hb)
    clear hb
    go_wp2_with fail
    refine (alive_any _).mono ?_
    rintro e w' ⟨rfl, hb⟩
    have HB := Lib.hid (st_call (B1.out) hb)
    clear hb
    go_wp2_with fail
    go_ret
    exact ⟨rfl, HB.out⟩
  have hh2 : heavy s0 = false := by cases h : heavy s0; rfl; exact absurd h hh
  rw [hh2] at HH
  by_cases hg : heavy s1 = true
  · rw [hg] at HG
    go_enter Try.func3, Try.ntmps3
    have X1 := X0.out
    go_upto_region 1 with fail
    refine wp_region_lit ?_
    refine step_seg rfl _ rfl _ rfl _ _ _ X1 ?_
    go_wp2_with fail
    refine (HH.out _).mono ?_
    rintro e wL ⟨rfl, hb⟩
    have B1 := Lib.hid (st_call B0.out hb)
    have Y1 := Y0.out.later hb
    clear hb X1
    have y0 := Y1.cell 0 _ rfl
    have y1 := Y1.cell 1 _ rfl
    have y2 := Y1.cell 2 _ rfl
    have y3 := Y1.cell 3 _ rfl
    have y4 := Y1.cell 4 _ rfl
    have y5 := Y1.cell 5 _ rfl
    have y6 := Y1.cell 6 _ rfl
    have y7 := Y1.cell 7 _ rfl
    have y8 := Y1.cell 8 _ rfl
    have y9 := Y1.cell 9 _ rfl
    have y10 := Y1.cell 10 _ rfl
    have y11 := Y1.cell 11 _ rfl
    have y12 := Y1.cell 12 _ rfl
    have y13 := Y1.cell 13 _ rfl
    have y14 := Y1.cell 14 _ rfl
    have y15 := Y1.cell 15 _ rfl
    go_wp2_with fail
    refine (HG.out _).mono ?_
    rintro e wL2 ⟨rfl, hb⟩
    have B2 := Lib.hid (st_call B1.out hb)
    clear hb Y1
    go_wp2_with fail
    refine (alive_any _).mono ?_
    rintro e w' ⟨rfl, hb⟩
    have HB := Lib.hid (st_call (B2.out) hb)
    clear hb
    go_wp2_with fail
    go_ret
    exact ⟨rfl, HB.out⟩
  have hg2 : heavy s1 = false := by cases h : heavy s1; rfl; exact absurd h hg
  rw [hg2] at HG
  obtain ⟨f1, f2⟩ := heavy_no hh2
  obtain ⟨f3, f4⟩ := heavy_no hg2
  clear hh hg hh2 hg2
  obtain ⟨S, n, hSn⟩ := encV8_form s0
  have HE := Lib.hid (fun W (hb : Below ((w.alloc (.cells (sc s0 A0 c0) 30)).alloc (.cells (sc s1 A1 c1) 30)).heap.size ((w.alloc (.cells (sc s0 A0 c0) 30)).alloc (.cells (sc s1 A1 c1) 30)) W) => PktEncP.encP8 s0 A0 c0 W ((z0.more B0.out).more hb) g0.1 g0.2.2.2.2)
  have HF := Lib.hid (fun W (hb : Below ((w.alloc (.cells (sc s0 A0 c0) 30)).alloc (.cells (sc s1 A1 c1) 30)).heap.size ((w.alloc (.cells (sc s0 A0 c0) 30)).alloc (.cells (sc s1 A1 c1) 30)) W) => PktEncR.encR8 s0 A0 c0 W ((z0.more B0.out).more hb) g0.1 g0.2.2.2.2)
  rw [hSn] at HE HF
  obtain ⟨bm, hbm⟩ : ∃ bm, mayS s0 = bm := ⟨_, rfl⟩
  obtain ⟨bs, hbs⟩ : ∃ bs, sameS s0 s1 = bs := ⟨_, rfl⟩
  obtain ⟨nx, hnx⟩ : ∃ nx, nxt s0 = nx := ⟨_, rfl⟩
  go_enter Try.func3, Try.ntmps3
  have X1 := X0.out
  go_upto_region 1 with fail
  refine wp_region_lit ?_
  refine step_seg rfl _ rfl _ rfl _ _ _ X1 ?_
  go_wp2_with fail
  refine (HH.out _).mono ?_
  rintro e wL ⟨rfl, hb⟩
  have B1 := Lib.hid (st_call B0.out hb)
  have K1 := Lib.hid hb
  have X2 := Lib.hid (X0.out.later hb)
  have Y1 := Y0.out.later hb
  clear hb X1
  have y0 := Y1.cell 0 _ rfl
  have y1 := Y1.cell 1 _ rfl
  have y2 := Y1.cell 2 _ rfl
  have y3 := Y1.cell 3 _ rfl
  have y4 := Y1.cell 4 _ rfl
  have y5 := Y1.cell 5 _ rfl
  have y6 := Y1.cell 6 _ rfl
  have y7 := Y1.cell 7 _ rfl
  have y8 := Y1.cell 8 _ rfl
  have y9 := Y1.cell 9 _ rfl
  have y10 := Y1.cell 10 _ rfl
  have y11 := Y1.cell 11 _ rfl
  have y12 := Y1.cell 12 _ rfl
  have y13 := Y1.cell 13 _ rfl
  have y14 := Y1.cell 14 _ rfl
  have y15 := Y1.cell 15 _ rfl
  go_wp2_with fail
  refine (HG.out _).mono ?_
  rintro e wL2 ⟨rfl, hb⟩
  have B2 := Lib.hid (st_call B1.out hb)
  have K2 := Lib.hid (st_call K1.out hb)
  have X3 := X2.out.later hb
  have Y3 := Lib.hid (Y1.later hb)
  clear hb Y1 y0 y1 y2 y3 y4 y5 y6 y7 y8 y9 y10 y11 y12 y13 y14 y15
  go_upto_region 3 with fail
  refine wp_region_lit ?_
  refine step_seg rfl _ rfl _ rfl _ _ _ X3 ?_
  go_wp2_with fail
  refine (HE.out _ K2.out).mono ?_
  rintro e wM ⟨rfl, hb⟩
  have B3 := Lib.hid (st_call B2.out hb)
  have K3 := Lib.hid (st_call K2.out hb)
  have X4 := X3.later hb
  have Y4 := Lib.hid (Y3.out.later hb)
  clear hb X3
  go_upto_region 4 with fail
  refine wp_region_lit ?_
  refine step_seg rfl _ rfl _ rfl _ _ _ X4 ?_
  go_wp2_with fail
  refine (HF.out _ K3.out).mono ?_
  rintro e wN ⟨rfl, hb⟩
  have B4 := Lib.hid (st_call B3.out hb)
  have K4 := Lib.hid (st_call K3.out hb)
  have X9 := Lib.hid (X4.later hb)
  have Y9 := Lib.hid (Y4.out.later hb)
  clear hb X4
  have z0' := Lib.hid (fun W (hb : Below wN.heap.size wN W) => (z0.more B4.out).more hb)
  have z1' := Lib.hid (fun W (hb : Below wN.heap.size wN W) => (z1.more B4.out).more hb)
  have H1 := Lib.hid (fun W (hb : Below wN.heap.size wN W) => PktMayP.mayP8 s0 A0 c0 W (z0'.out W hb) g0.1 g0.2.2.2.2)
  have H2 := Lib.hid (fun W (hb : Below wN.heap.size wN W) => PktMayR.mayR8 s0 A0 c0 W (z0'.out W hb) g0.1 g0.2.2.2.2)
  have H3 := Lib.hid (fun W (hb : Below wN.heap.size wN W) => PktSameP.sameP8 s0 s1 A0 c0 A1 c1 W (z0'.out W hb) (z1'.out W hb) (by omega) (by omega))
  have H4 := Lib.hid (fun W (hb : Below wN.heap.size wN W) => PktSameR.sameR8 s0 s1 A0 c0 A1 c1 W (z0'.out W hb) (z1'.out W hb) (by omega) (by omega))
  have H5 := Lib.hid (fun W (hb : Below wN.heap.size wN W) => PktSameP.sameP8 s0 s0 A0 c0 A0 c0 W (z0'.out W hb) (z0'.out W hb) (by omega) (by omega))
  have H6 := Lib.hid (fun W => PktNx.nextP s0 A0 c0 W g0.1 g0.2.2.2.2)
  have H7 := Lib.hid (fun W => PktSmall.nextR s0 A0 c0 W g0.1 g0.2.2.2.2)
  rw [hbm] at H1 H2
  rw [hbs] at H3 H4
  rw [sameS_yes rfl] at H5
  rw [hnx] at H6 H7
  clear hbm hbs hnx hSn
  go_upto_region 5 with fail
  refine wp_region_seeG 65 [(5, true), (14, true), (19, true), (24, true), (29, true), (36, true)] (relW8 s0 s1 A0 A1 c0 c1 bm bs S n nx) rfl (by kernel_rfl) (by kernel_rfl) (by kernel_rfl) (by intro p hp v w h; simp only [List.mem_cons, List.not_mem_nil, or_false] at hp; rcases hp with rfl | rfl | rfl | rfl | rfl | rfl <;> exact h) (relW8_more s0 s1 A0 A1 c0 c1 bm bs S n nx) ?_ ?_
  · intro i hi
    have hi2 : i < 40 := by simpa using hi
    clear hi
    match i, hi2 with
    | 0, _ =>
      intro ρ W hb hc hg hf h0 hd
      have t2 := h0 2 (by kernel_rfl)
      clear hd h0
      exact PktSee.see_seg _ rfl _ t2 _ _ _ (X9.out.later hb) rfl
    | 1, _ =>
      intro ρ W hb hc hg hf h0 hd
      have d0 : ρ (.tmp 26) = sv s0 A0 c0 := hd 0 26 (by kernel_rfl) (by kernel_rfl)
      clear hd h0
      go_simp
      exact (H1.out W hb).mono fun e w' ⟨he, hb⟩ => ⟨_, he, rfl, hb⟩
    | 2, _ =>
      intro ρ W hb hc hg hf h0 hd
      have t2 := h0 2 (by kernel_rfl)
      clear hd h0
      exact PktSee.see_seg _ rfl _ t2 _ _ _ (X9.out.later hb) rfl
    | 3, _ =>
      intro ρ W hb hc hg hf h0 hd
      have d2 : ρ (.tmp 28) = sv s0 A0 c0 := hd 2 28 (by kernel_rfl) (by kernel_rfl)
      clear hd h0
      go_simp
      exact (H2.out W hb).mono fun e w' ⟨he, hb⟩ => ⟨_, he, rfl, hb⟩
    | 4, _ =>
      intro ρ W hb hc hg hf h0 hd
      have d1 : ρ (.tmp 27) = .bool bm := hd 1 27 (by kernel_rfl) (by kernel_rfl)
      have d3 : ρ (.tmp 29) = .bool bm := hd 3 29 (by kernel_rfl) (by kernel_rfl)
      clear hd h0
      go_simp
      exact ⟨rfl, Below.refl _ _⟩
    | 5, _ =>
      intro ρ W hb hc hg hf h0 hd
      have d4 : ρ (.tmp 30) = .bool true := hd 4 30 (by kernel_rfl) (by kernel_rfl)
      clear hd h0
      go_simp
      exact ⟨rfl, Below.refl _ _⟩
    | 6, _ =>
      intro ρ W hb hc hg hf h0 hd
      have t2 := h0 2 (by kernel_rfl)
      clear hd h0
      exact PktSee.see_seg _ rfl _ t2 _ _ _ (X9.out.later hb) rfl
    | 7, _ =>
      intro ρ W hb hc hg hf h0 hd
      have t3 := h0 3 (by kernel_rfl)
      clear hd h0
      exact PktSee.see_seg _ rfl _ t3 _ _ _ (Y9.out.later hb) rfl
    | 8, _ =>
      intro ρ W hb hc hg hf h0 hd
      have d6 : ρ (.tmp 32) = sv s0 A0 c0 := hd 6 32 (by kernel_rfl) (by kernel_rfl)
      have d7 : ρ (.tmp 33) = sv s1 A1 c1 := hd 7 33 (by kernel_rfl) (by kernel_rfl)
      clear hd h0
      go_simp
      exact (H3.out W hb).mono fun e w' ⟨he, hb⟩ => ⟨_, he, rfl, hb⟩
    | 9, _ =>
      intro ρ W hb hc hg hf h0 hd
      have t2 := h0 2 (by kernel_rfl)
      clear hd h0
      exact PktSee.see_seg _ rfl _ t2 _ _ _ (X9.out.later hb) rfl
    | 10, _ =>
      intro ρ W hb hc hg hf h0 hd
      have t3 := h0 3 (by kernel_rfl)
      clear hd h0
      exact PktSee.see_seg _ rfl _ t3 _ _ _ (Y9.out.later hb) rfl
    | 11, _ =>
      intro ρ W hb hc hg hf h0 hd
      have d9 : ρ (.tmp 35) = sv s0 A0 c0 := hd 9 35 (by kernel_rfl) (by kernel_rfl)
      have d10 : ρ (.tmp 36) = sv s1 A1 c1 := hd 10 36 (by kernel_rfl) (by kernel_rfl)
      clear hd h0
      go_simp
      exact (H4.out W hb).mono fun e w' ⟨he, hb⟩ => ⟨_, he, rfl, hb⟩
    | 12, _ =>
      intro ρ W hb hc hg hf h0 hd
      have d8 : ρ (.tmp 34) = .bool bs := hd 8 34 (by kernel_rfl) (by kernel_rfl)
      have d11 : ρ (.tmp 37) = .bool bs := hd 11 37 (by kernel_rfl) (by kernel_rfl)
      clear hd h0
      go_simp
      exact ⟨rfl, Below.refl _ _⟩
    | 13, _ =>
      intro ρ W hb hc hg hf h0 hd
      have d5 : ρ (.tmp 31) = .bool true := hd 5 31 (by kernel_rfl) (by kernel_rfl)
      have d12 : ρ (.tmp 38) = .bool true := hd 12 38 (by kernel_rfl) (by kernel_rfl)
      clear hd h0
      go_simp
      exact ⟨rfl, Below.refl _ _⟩
    | 14, _ =>
      intro ρ W hb hc hg hf h0 hd
      have d13 : ρ (.tmp 39) = .bool true := hd 13 39 (by kernel_rfl) (by kernel_rfl)
      clear hd h0
      go_simp
      exact ⟨rfl, Below.refl _ _⟩
    | 15, _ =>
      intro ρ W hb hc hg hf h0 hd
      have t2 := h0 2 (by kernel_rfl)
      clear hd h0
      exact PktSee.see_seg _ rfl _ t2 _ _ _ (X9.out.later hb) rfl
    | 16, _ =>
      intro ρ W hb hc hg hf h0 hd
      have t2 := h0 2 (by kernel_rfl)
      clear hd h0
      exact PktSee.see_seg _ rfl _ t2 _ _ _ (X9.out.later hb) rfl
    | 17, _ =>
      intro ρ W hb hc hg hf h0 hd
      have d15 : ρ (.tmp 41) = sv s0 A0 c0 := hd 15 41 (by kernel_rfl) (by kernel_rfl)
      have d16 : ρ (.tmp 42) = sv s0 A0 c0 := hd 16 42 (by kernel_rfl) (by kernel_rfl)
      clear hd h0
      go_simp
      exact (H5.out W hb).mono fun e w' ⟨he, hb⟩ => ⟨_, he, rfl, hb⟩
    | 18, _ =>
      intro ρ W hb hc hg hf h0 hd
      have d14 : ρ (.tmp 40) = .bool true := hd 14 40 (by kernel_rfl) (by kernel_rfl)
      have d17 : ρ (.tmp 43) = .bool true := hd 17 43 (by kernel_rfl) (by kernel_rfl)
      clear hd h0
      go_simp
      exact ⟨rfl, Below.refl _ _⟩
    | 19, _ =>
      intro ρ W hb hc hg hf h0 hd
      have d18 : ρ (.tmp 44) = .bool true := hd 18 44 (by kernel_rfl) (by kernel_rfl)
      clear hd h0
      go_simp
      exact ⟨rfl, Below.refl _ _⟩
    | 20, _ =>
      intro ρ W hb hc hg hf h0 hd
      have t5 := h0 5 (by kernel_rfl)
      clear hd h0
      go_simp
      exact ⟨rfl, Below.refl _ _⟩
    | 21, _ =>
      intro ρ W hb hc hg hf h0 hd
      have t7 := h0 7 (by kernel_rfl)
      clear hd h0
      go_simp
      exact ⟨rfl, Below.refl _ _⟩
    | 22, _ =>
      intro ρ W hb hc hg hf h0 hd
      have d20 : ρ (.tmp 46) = .string S := hd 20 46 (by kernel_rfl) (by kernel_rfl)
      have d21 : ρ (.tmp 47) = .string S := hd 21 47 (by kernel_rfl) (by kernel_rfl)
      clear hd h0
      go_simp
      exact ⟨rfl, Below.refl _ _⟩
    | 23, _ =>
      intro ρ W hb hc hg hf h0 hd
      have d19 : ρ (.tmp 45) = .bool true := hd 19 45 (by kernel_rfl) (by kernel_rfl)
      have d22 : ρ (.tmp 48) = .bool true := hd 22 48 (by kernel_rfl) (by kernel_rfl)
      clear hd h0
      go_simp
      exact ⟨rfl, Below.refl _ _⟩
    | 24, _ =>
      intro ρ W hb hc hg hf h0 hd
      have d23 : ρ (.tmp 49) = .bool true := hd 23 49 (by kernel_rfl) (by kernel_rfl)
      clear hd h0
      go_simp
      exact ⟨rfl, Below.refl _ _⟩
    | 25, _ =>
      intro ρ W hb hc hg hf h0 hd
      have t6 := h0 6 (by kernel_rfl)
      clear hd h0
      go_simp
      exact ⟨rfl, Below.refl _ _⟩
    | 26, _ =>
      intro ρ W hb hc hg hf h0 hd
      have t8 := h0 8 (by kernel_rfl)
      clear hd h0
      go_simp
      exact ⟨rfl, Below.refl _ _⟩
    | 27, _ =>
      intro ρ W hb hc hg hf h0 hd
      have d25 : ρ (.tmp 51) = .int .i64 n := hd 25 51 (by kernel_rfl) (by kernel_rfl)
      have d26 : ρ (.tmp 52) = .int .i64 n := hd 26 52 (by kernel_rfl) (by kernel_rfl)
      clear hd h0
      go_simp
      exact ⟨rfl, Below.refl _ _⟩
    | 28, _ =>
      intro ρ W hb hc hg hf h0 hd
      have d24 : ρ (.tmp 50) = .bool true := hd 24 50 (by kernel_rfl) (by kernel_rfl)
      have d27 : ρ (.tmp 53) = .bool true := hd 27 53 (by kernel_rfl) (by kernel_rfl)
      clear hd h0
      go_simp
      exact ⟨rfl, Below.refl _ _⟩
    | 29, _ =>
      intro ρ W hb hc hg hf h0 hd
      have d28 : ρ (.tmp 54) = .bool true := hd 28 54 (by kernel_rfl) (by kernel_rfl)
      clear hd h0
      go_simp
      exact ⟨rfl, Below.refl _ _⟩
    | 30, _ =>
      intro ρ W hb hc hg hf h0 hd
      have t2 := h0 2 (by kernel_rfl)
      clear hd h0
      exact PktSee.see_seg _ rfl _ t2 _ _ _ (X9.out.later hb) rfl
    | 31, _ =>
      intro ρ W hb hc hg hf h0 hd
      have d30 : ρ (.tmp 56) = sv s0 A0 c0 := hd 30 56 (by kernel_rfl) (by kernel_rfl)
      clear hd h0
      go_simp
      exact (H6.out W).mono fun e w' ⟨he, hb⟩ => ⟨_, he, rfl, hb⟩
    | 32, _ =>
      intro ρ W hb hc hg hf h0 hd
      have t2 := h0 2 (by kernel_rfl)
      clear hd h0
      exact PktSee.see_seg _ rfl _ t2 _ _ _ (X9.out.later hb) rfl
    | 33, _ =>
      intro ρ W hb hc hg hf h0 hd
      have d32 : ρ (.tmp 58) = sv s0 A0 c0 := hd 32 58 (by kernel_rfl) (by kernel_rfl)
      clear hd h0
      go_simp
      exact (H7.out W).mono fun e w' ⟨he, hb⟩ => ⟨_, he, rfl, hb⟩
    | 34, _ =>
      intro ρ W hb hc hg hf h0 hd
      have d31 : ρ (.tmp 57) = .int .u32 (nx : Int) := hd 31 57 (by kernel_rfl) (by kernel_rfl)
      have d33 : ρ (.tmp 59) = .int .u32 (nx : Int) := hd 33 59 (by kernel_rfl) (by kernel_rfl)
      clear hd h0
      go_simp
      exact ⟨rfl, Below.refl _ _⟩
    | 35, _ =>
      intro ρ W hb hc hg hf h0 hd
      have d29 : ρ (.tmp 55) = .bool true := hd 29 55 (by kernel_rfl) (by kernel_rfl)
      have d34 : ρ (.tmp 60) = .bool true := hd 34 60 (by kernel_rfl) (by kernel_rfl)
      clear hd h0
      go_simp
      exact ⟨rfl, Below.refl _ _⟩
    | 36, _ =>
      intro ρ W hb hc hg hf h0 hd
      have d35 : ρ (.tmp 61) = .bool true := hd 35 61 (by kernel_rfl) (by kernel_rfl)
      clear hd h0
      go_simp
      exact ⟨rfl, Below.refl _ _⟩
    | 37, _ =>
      intro ρ W hb hc hg hf h0 hd
      clear hd h0
      go_simp
      exact (alive_any W).mono fun e w' ⟨he, hb⟩ => ⟨_, he, rfl, hb⟩
    | 38, _ =>
      intro ρ W hb hc hg hf h0 hd
      have d36 : ρ (.tmp 62) = .bool true := hd 36 62 (by kernel_rfl) (by kernel_rfl)
      have d37 : ρ (.tmp 63) = .bool true := hd 37 63 (by kernel_rfl) (by kernel_rfl)
      clear hd h0
      go_simp
      exact ⟨rfl, Below.refl _ _⟩
    | 39, _ =>
      intro ρ W hb hc hg hf h0 hd
      have d38 : ρ (.tmp 64) = .bool true := hd 38 64 (by kernel_rfl) (by kernel_rfl)
      clear hd h0
      go_simp
      exact ⟨rfl, Below.refl _ _⟩
    | i + 40, hlt => exact absurd hlt (by omega)
  · intro vs W hb hall
    have hl : vs 39 = .bool true := hall 39 (of_decide_eq_true (by kernel_rfl))
    have B9 := Lib.hid (st_call B4.out hb)
    clear hall hb
    rw [lexA_slots vs _ [(some 26, 0), (some 27, 1), (some 28, 2), (some 29, 3), (some 30, 4), (some 31, 5), (some 32, 6), (some 33, 7), (some 34, 8), (some 35, 9), (some 36, 10), (some 37, 11), (some 38, 12), (some 39, 13), (some 40, 14), (some 41, 15), (some 42, 16), (some 43, 17), (some 44, 18), (some 45, 19), (some 46, 20), (some 47, 21), (some 48, 22), (some 49, 23), (some 50, 24), (some 51, 25), (some 52, 26), (some 53, 27), (some 54, 28), (some 55, 29), (some 56, 30), (some 57, 31), (some 58, 32), (some 59, 33), (some 60, 34), (some 61, 35), (some 62, 36), (some 63, 37), (some 64, 38), (some 4, 39)] (by kernel_rfl)]
    simp only [List.foldl_cons, List.foldl_nil, hl]
    simp only [put_lit, List.set_cons_succ, List.set_cons_zero]
    go_wp2_with fail
    go_ret
    exact ⟨rfl, B9.out⟩

/-! The row's step, after the guide's own way. -/
set_option maxRecDepth 100000 in
theorem lifted (os : Os) (started : os.Started) (H : Type) (enc : TypeId × Value → H) :
    ReturnsInHanded {} Try.checked os 3 .any (Rows.pktWritesSpec.pre6 enc Try.prog Try.f3 Rows.pktWritesRow.domain false) (Rows.pktWritesSpec.post enc Try.prog Try.f3 false true false false) := by
  refine returnsInHanded_of_change (C := Try.checked) own started (by kernel_rfl) Try.func3
    (ChangeSpec.witness6 (enc := enc) (C := Try.checked) false ⟨#[], #[.agg #[.int .u32 0, .int .u16 0, .int .u32 0, .int .u16 0, .int .u32 0, .int .u32 0, .int .u8 0, .int .u16 0, .int .u16 0, .int .i64 0, .bool false, .slice none 0 0, .bool false, .int .u32 0, .int .u32 0, .string ByteArray.empty], .agg #[.int .u32 0, .int .u16 0, .int .u32 0, .int .u16 0, .int .u32 0, .int .u32 0, .int .u8 0, .int .u16 0, .int .u16 0, .int .i64 0, .bool false, .slice none 0 0, .bool false, .int .u32 0, .int .u32 0, .string ByteArray.empty]], []⟩ 8 (by kernel_rfl) (by kernel_rfl) (by kernel_rfl) (by kernel_rfl)) ?_
  intro W base args ds gs before hval0 hW hcnd _
  have hval : ∀ (j : Nat) t v, Try.f3.params[j]? = some t → args[j]? = some v → Value.okWide Try.prog W .any base t v := hval0
  have hW' := hW
  obtain ⟨p, q, hA0, hV, rfl, hfz, hnd⟩ := hW
  have hA : DataW.TrodAll enc Try.prog W 0 (fun _ => true) true Try.f3.params.toList args.toList ds p := hA0
  rw [Try.params3] at hA hval
  obtain ⟨v0, vs0, d0, ds0, p0, q0, hargs, rfl, rfl, h0, r0⟩ := trodAll_cons hA
  obtain ⟨v1, vs1, d1, ds1, p1, q1, rfl, rfl, rfl, h1, r1⟩ := trodAll_cons r0
  obtain ⟨rfl, rfl, rfl⟩ := trodAll_nil r1
  obtain rfl : args = #[v0, v1] := by cases args; simp_all
  obtain ⟨rfl, rfl⟩ := trodVars_none hV
  have k0 := h0
  have lt0 : ∀ x ∈ p0, x.block < W.heap.size := by obtain ⟨m, hm⟩ := k0; exact DataW.trod_lt m _ _ _ hm
  obtain ⟨s0, A0, c0, rfl, z0, g0⟩ := PktOpen.open_seg (hval 0 30 v0 rfl rfl) h0
  have k1 := h1
  have lt1 : ∀ x ∈ p1, x.block < W.heap.size := by obtain ⟨m, hm⟩ := k1; exact DataW.trod_lt m _ _ _ hm
  obtain ⟨s1, A1, c1, rfl, z1, g1⟩ := PktOpen.open_seg (hval 1 30 v1 rfl rfl) h1
  clear hA0 hval0
  refine (walk s0 A0 c0 s1 A1 c1 W z0 g0 z1 g1).mono fun e W' ⟨he, bel⟩ => ?_
  subst he
  exact ⟨_, rfl, _, _, _, [], _, [], hW', trodAll_mk1 (shut_bool Try.underlying4 _), (trodAll_cons_mk (Below.trod laidOut (by kernel_rfl) (of_decide_eq_true (by kernel_rfl)) k0 bel lt0) (trodAll_cons_mk (Below.trod laidOut (by kernel_rfl) (of_decide_eq_true (by kernel_rfl)) k1 bel lt1) trodAll_mk0)), rfl, bel.frame _, fun h => by cases h⟩

theorem over : Rows.pktWritesRow.holds Try.pinned (OpenSpec.ofChange Rows.pktWritesSpec) :=
  OpenClaim.holds_of_wide 3 Try.f3 rfl rfl rfl rfl rfl rfl rfl ⟨rfl, rfl, rfl, rfl, rfl⟩ rfl rfl rfl rfl rfl (by kernel_rfl) Try.func3 (by kernel_rfl)
    (of_decide_eq_true (by kernel_rfl)) (by unfold Func.isWrapper; first | (rw [if_pos (by decide +kernel)]; kernel_rfl) | (rw [if_neg (by decide +kernel)]; exact ⟨rfl, rfl⟩))
    (fun os started H enc _ => lifted os started H enc)

/-- The statement. -/
theorem proved : Rows.PktWritesSaid := over
#print axioms proved
end Go.Proofs.Ytpmnmnflaijaaaa.pktWrites
