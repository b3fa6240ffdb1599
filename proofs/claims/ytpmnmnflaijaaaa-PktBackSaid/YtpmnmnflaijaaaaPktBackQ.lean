/-
  Proved: the statement 'Rows.PktBackSaid': for every input the Go function transomlaw08.PktBack returns true, and each argument reads behind the call as it read before. Conditions: none of our own; those of the given row.
-/
import Derived.Test.YtpmnmnflaijaaaaQPktAlive1
import Derived.Test.YtpmnmnflaijaaaaQPktSee4
import Derived.Test.YtpmnmnflaijaaaaQRelG2
import Derived.Test.YtpmnmnflaijaaaaQCalm1
import Derived.Test.YtpmnmnflaijaaaaRows
import Derived.WalkKit
import Derived.ProofKit
import Derived.OpenShut
import Derived.ShutString
import Derived.ChangeOld
import Derived.Below
namespace Go.Proofs.Ytpmnmnflaijaaaa.pktBack
open Go.ChangeShapes Go.WideShapes Go.ChangeAt Go.RowKit
open Go.ChangeMaps (open_string shut_string)
open TupMath SumMath IpMath Litb Calm Rel RelG IpRef OptMath OptSame OptTake5 OptTk PktMath PktVal PktCom PktDecC PktOp PktSmall PktBox PktRwM PktAlM PktAlive
open Cells (CellsAt put_lit)
set_option linter.unusedVariables false

theorem own : ownKnob Try.prog.godebug = none := by kernel_rfl
theorem laidOut : laidOutB Try.prog = true := by kernel_rfl

def relB8 (a1 R2 : ByteArray) (t u : Sg) (x2 : Sh) (A1 A3 : Option Addr) (c1 c3 : Nat) : Nat → Value → World → Prop
  | 0 => fun v _ => v = .int .i64 0
  | 1 => fun v _ => v = .bool false
  | 2 => fun v _ => v = .bool false
  | 3 => fun v _ => v = sv u A3 c3
  | 4 => fun v _ => v = sv t A1 c1
  | 5 => fun v _ => v = xv x2
  | 6 => fun v W => ∃ A c, v = sv u A c ∧ BlkR W A u.opts.blocks
  | 7 => fun v _ => v = .bool true
  | 8 => fun v _ => v = .bool false
  | 9 => fun v _ => v = .bool false
  | 10 => fun v _ => v = .bool false
  | 11 => fun v _ => v = .string R2
  | 12 => fun v _ => v = .int .i64 (a1.size : Int)
  | 13 => fun v _ => v = .string a1
  | 14 => fun v _ => v = .int .i64 (a1.size : Int)
  | 15 => fun v _ => v = .bool false
  | 16 => fun v _ => v = .bool false
  | _ => fun _ _ => True
theorem relB8_more (a1 R2 : ByteArray) (t u : Sg) (x2 : Sh) (A1 A3 : Option Addr) (c1 c3 : Nat) (i : Nat) (v : Value) (w w' : World) (hr : relB8 a1 R2 t u x2 A1 A3 c1 c3 i v w) (hb : Below w.heap.size w w') : relB8 a1 R2 t u x2 A1 A3 c1 c3 i v w' := by
  unfold relB8 at hr ⊢
  split at hr <;> first
    | exact hr
    | (obtain ⟨A, c, e, hR⟩ := hr
       exact ⟨A, c, e, hR.more hb⟩)
attribute [local go_sem] relUpon

set_option maxRecDepth 100000 in
set_option maxHeartbeats 16000000 in
theorem back_skip (s0 : Sg) (A0 : Option Addr) (c0 : Nat) (a1 : ByteArray) (x2 : Sh) (w : World) (z0 : BlkR w A0 s0.opts.blocks) (g0 : s0.ok ∧ s0.opts.blocks.length ≤ maxLen ∧ -9223372036854775808 ≤ s0.opts.scale ∧ s0.opts.scale ≤ 9223372036854775807 ∧ s0.data.size ≤ maxLen) (w1 : a1.size ≤ maxLen) (g2 : x2.ok ∧ -9223372036854775808 ≤ x2.up ∧ x2.up ≤ 9223372036854775807 ∧ -9223372036854775808 ≤ x2.down ∧ x2.down ≤ 9223372036854775807) (h : heavy s0 = true ∨ 4096 < a1.size) : Calls Try.prog 5 #[sv s0 A0 c0, .string a1, xv x2] w fun e w' => e = .returned (.bool true) ∧ Below w.heap.size w w' := by
  have ha9 : a1.size ≤ 9223372036854775807 := by unfold maxLen at w1; omega
  have X0 := Lib.hid ((CellsAt.new w (sc s0 A0 c0) 30).later ((Below.refl _ _).alloc (Nat.le_refl _) (.cells (xc x2) 46)))
  have v0 := CellsAt.new (w.alloc (.cells (sc s0 A0 c0) 30)) (xc x2) 46
  rw [World.size_alloc] at v0
  have V0 := Lib.hid v0
  clear v0
  have B0 := Lib.hid (st_alloc (st_alloc (Below.refl _ w) (.cells (sc s0 A0 c0) 30)) (.cells (xc x2) 46))
  have HH := Lib.hid (fun W => heavyL s0 A0 c0 W g0.2.2.2.2)
  by_cases hh : heavy s0 = true
  · rw [hh] at HH
    go_enter Try.func5, Try.ntmps5
    have X1 := X0.out
    go_upto_region 1 with fail
    refine wp_region_lit ?_
    refine step_seg rfl _ rfl _ rfl _ _ _ X1 ?_
    go_wp2_with fail
    refine (HH.out _).mono ?_
    rintro e wL ⟨rfl, hb⟩
    have B1 := Lib.hid (st_call B0.out hb)
    have K1 := Lib.hid hb
    have X2 := X0.out.later hb
    have V2 := Lib.hid (V0.out.later hb)
    clear hb X1
    clear X2
    go_wp2_with fail
    refine (alive_any _).mono ?_
    rintro e w' ⟨rfl, hb⟩
    have HB := Lib.hid (st_call (B1.out) hb)
    clear hb
    go_wp2_with fail
    go_ret
    exact ⟨rfl, HB.out⟩
  have hh2 : heavy s0 = false := by cases h : heavy s0; rfl; exact absurd h hh
  rw [hh2] at HH
  have hq : (4096 : Int) < (a1.size : Int) := by rcases h with h | h; exact absurd h hh; omega
  clear hh hh2 h
  go_enter Try.func5, Try.ntmps5
  have X1 := X0.out
  go_upto_region 1 with fail
  refine wp_region_lit ?_
  refine step_seg rfl _ rfl _ rfl _ _ _ X1 ?_
  go_wp2_with fail
  refine (HH.out _).mono ?_
  rintro e wL ⟨rfl, hb⟩
  have B1 := Lib.hid (st_call B0.out hb)
  have K1 := Lib.hid hb
  have X2 := X0.out.later hb
  have V2 := Lib.hid (V0.out.later hb)
  clear hb X1
  clear X2
  go_wp2_with fail
  refine (alive_any _).mono ?_
  rintro e w' ⟨rfl, hb⟩
  have HB := Lib.hid (st_call (B1.out) hb)
  clear hb
  go_wp2_with fail
  go_ret
  exact ⟨rfl, HB.out⟩

set_option maxRecDepth 100000 in
set_option maxHeartbeats 16000000 in
theorem back_xe (s0 : Sg) (A0 : Option Addr) (c0 : Nat) (a1 : ByteArray) (x2 : Sh) (w : World) (z0 : BlkR w A0 s0.opts.blocks) (g0 : s0.ok ∧ s0.opts.blocks.length ≤ maxLen ∧ -9223372036854775808 ≤ s0.opts.scale ∧ s0.opts.scale ≤ 9223372036854775807 ∧ s0.data.size ≤ maxLen) (w1 : a1.size ≤ maxLen) (g2 : x2.ok ∧ -9223372036854775808 ≤ x2.up ∧ x2.up ≤ 9223372036854775807 ∧ -9223372036854775808 ≤ x2.down ∧ x2.down ≤ 9223372036854775807) (hh : heavy s0 = false) (hx : ¬ 4096 < a1.size) (hm : mayS s0 = false) (hd : ¬ (dec8 a1).1 = 0) : Calls Try.prog 5 #[sv s0 A0 c0, .string a1, xv x2] w fun e w' => e = .returned (.bool true) ∧ Below w.heap.size w w' := by
  have ha9 : a1.size ≤ 9223372036854775807 := by unfold maxLen at w1; omega
  have X0 := Lib.hid ((CellsAt.new w (sc s0 A0 c0) 30).later ((Below.refl _ _).alloc (Nat.le_refl _) (.cells (xc x2) 46)))
  have v0 := CellsAt.new (w.alloc (.cells (sc s0 A0 c0) 30)) (xc x2) 46
  rw [World.size_alloc] at v0
  have V0 := Lib.hid v0
  clear v0
  have B0 := Lib.hid (st_alloc (st_alloc (Below.refl _ w) (.cells (sc s0 A0 c0) 30)) (.cells (xc x2) 46))
  have HH := Lib.hid (fun W => heavyL s0 A0 c0 W g0.2.2.2.2)
  have HE := Lib.hid (fun W (hb : Below ((w.alloc (.cells (sc s0 A0 c0) 30)).alloc (.cells (xc x2) 46)).heap.size ((w.alloc (.cells (sc s0 A0 c0) 30)).alloc (.cells (xc x2) 46)) W) => PktEncP.encP8 s0 A0 c0 W ((z0.more B0.out).more hb) g0.1 g0.2.2.2.2)
  rw [hh] at HH
  obtain ⟨f1, f2⟩ := heavy_no hh
  have hq : ¬ (4096 : Int) < (a1.size : Int) := by omega
  obtain ⟨n, t, hdt⟩ : ∃ n t, dec8 a1 = (n, t) := ⟨_, _, rfl⟩
  have hrv : rwV a1 x2 = .tuple #[.string ⟨#[]⟩, .int .i64 (n : Int)] := by unfold rwV; rw [if_neg hd, hdt]
  have HD2 := Lib.hid (fun W => decX a1 n t W (by omega) hdt)
  have HR2 := Lib.hid (fun W => PktRw.rewP a1 x2 W (by omega) g2.1 g2.2.1 g2.2.2.1 g2.2.2.2.1 g2.2.2.2.2)
  rw [hrv] at HR2
  have hn0 : n ≠ 0 := by rw [hdt] at hd; exact hd
  have qn : ((n : Int) == 0) = false := beq_eq_false_iff_ne.2 (by omega)
  clear hrv hdt hd hn0
  have hv : encV8 s0 = .tuple #[.string ⟨#[]⟩, .int .i64 2] := if_neg (by rw [hm]; decide)
  rw [hv] at HE
  clear hv hm hh
  go_enter Try.func5, Try.ntmps5
  have X1 := X0.out
  go_upto_region 1 with fail
  refine wp_region_lit ?_
  refine step_seg rfl _ rfl _ rfl _ _ _ X1 ?_
  go_wp2_with fail
  refine (HH.out _).mono ?_
  rintro e wL ⟨rfl, hb⟩
  have B1 := Lib.hid (st_call B0.out hb)
  have K1 := Lib.hid hb
  have X2 := X0.out.later hb
  have V2 := Lib.hid (V0.out.later hb)
  clear hb X1
  go_upto_region 3 with fail
  refine wp_region_lit ?_
  refine step_seg rfl _ rfl _ rfl _ _ _ X2 ?_
  go_wp2_with fail
  refine (HE.out _ K1.out).mono ?_
  rintro e wM ⟨rfl, hb⟩
  have B2 := Lib.hid (st_call B1.out hb)
  have V3 := Lib.hid (V2.out.later hb)
  clear hb X2
  go_wp2_with fail
  refine (HD2.out _).mono ?_
  rintro e wP ⟨⟨A1, c1, rfl, hr1⟩, hb⟩
  have bl := (Below.refl _ wP).alloc (Nat.le_refl _) (.cells (sc t A1 c1) 30)
  have P1 := Lib.hid (st_alloc (st_call B2.out hb) (.cells (sc t A1 c1) 30))
  have V5 := Lib.hid ((V3.out.later hb).later bl)
  have T5 := Lib.hid (CellsAt.new wP (sc t A1 c1) 30)
  have R5 := Lib.hid (hr1.more bl)
  clear hb hr1 bl
  go_upto_region 11 with fail
  refine wp_region_lit ?_
  have V6 := V5.out
  go_wp2_with (refine step_shift rfl _ rfl _ rfl _ V6 ?_)
  refine (HR2.out _).mono ?_
  rintro e wQ ⟨rfl, hb⟩
  have P2 := Lib.hid (st_call P1.out hb)
  have V7 := Lib.hid (V5.out.later hb)
  have T7 := Lib.hid (T5.out.later hb)
  have R7 := Lib.hid (R5.out.more hb)
  clear hb V6
  go_wp2_with fail
  refine (alive_any _).mono ?_
  rintro e w' ⟨rfl, hb⟩
  have HB := Lib.hid (st_call (P2.out) hb)
  clear hb
  go_wp2_with fail
  go_ret
  exact ⟨rfl, HB.out⟩

set_option maxRecDepth 100000 in
set_option maxHeartbeats 16000000 in
theorem back_xo (s0 : Sg) (A0 : Option Addr) (c0 : Nat) (a1 : ByteArray) (x2 : Sh) (w : World) (z0 : BlkR w A0 s0.opts.blocks) (g0 : s0.ok ∧ s0.opts.blocks.length ≤ maxLen ∧ -9223372036854775808 ≤ s0.opts.scale ∧ s0.opts.scale ≤ 9223372036854775807 ∧ s0.data.size ≤ maxLen) (w1 : a1.size ≤ maxLen) (g2 : x2.ok ∧ -9223372036854775808 ≤ x2.up ∧ x2.up ≤ 9223372036854775807 ∧ -9223372036854775808 ≤ x2.down ∧ x2.down ≤ 9223372036854775807) (hh : heavy s0 = false) (hx : ¬ 4096 < a1.size) (hm : mayS s0 = false) (hd : (dec8 a1).1 = 0) : Calls Try.prog 5 #[sv s0 A0 c0, .string a1, xv x2] w fun e w' => e = .returned (.bool true) ∧ Below w.heap.size w w' := by
  have ha9 : a1.size ≤ 9223372036854775807 := by unfold maxLen at w1; omega
  have X0 := Lib.hid ((CellsAt.new w (sc s0 A0 c0) 30).later ((Below.refl _ _).alloc (Nat.le_refl _) (.cells (xc x2) 46)))
  have v0 := CellsAt.new (w.alloc (.cells (sc s0 A0 c0) 30)) (xc x2) 46
  rw [World.size_alloc] at v0
  have V0 := Lib.hid v0
  clear v0
  have B0 := Lib.hid (st_alloc (st_alloc (Below.refl _ w) (.cells (sc s0 A0 c0) 30)) (.cells (xc x2) 46))
  have HH := Lib.hid (fun W => heavyL s0 A0 c0 W g0.2.2.2.2)
  have HE := Lib.hid (fun W (hb : Below ((w.alloc (.cells (sc s0 A0 c0) 30)).alloc (.cells (xc x2) 46)).heap.size ((w.alloc (.cells (sc s0 A0 c0) 30)).alloc (.cells (xc x2) 46)) W) => PktEncP.encP8 s0 A0 c0 W ((z0.more B0.out).more hb) g0.1 g0.2.2.2.2)
  rw [hh] at HH
  obtain ⟨f1, f2⟩ := heavy_no hh
  have hq : ¬ (4096 : Int) < (a1.size : Int) := by omega
  obtain ⟨n, t, hdt⟩ : ∃ n t, dec8 a1 = (n, t) := ⟨_, _, rfl⟩
  have hn0 : n = 0 := by rw [hdt] at hd; exact hd
  subst hn0
  have hrd := rewS_dec (S := a1) hd g2.1
  rw [hdt] at hrd
  obtain ⟨hrd1, hrd2⟩ := hrd
  have hrv : rwV a1 x2 = .tuple #[.string (ofB (rewS a1 x2)), .int .i64 0] := if_pos hd
  have htk : t.ok ∧ t.opts.blocks.length ≤ 40 ∧ t.data.size ≤ 1460 := by
    obtain ⟨c, k, r, hd8⟩ := dec_rd hd
    rw [hdt] at hd8
    injection hd8 with _ e
    rw [e]
    exact ⟨PktRw.rd_sok r, PktRw.rd_few r, r.few⟩
  have HD2 := Lib.hid (fun W => decX a1 0 t W (by omega) hdt)
  have HR2 := Lib.hid (fun W => PktRw.rewP a1 x2 W (by omega) g2.1 g2.2.1 g2.2.2.1 g2.2.2.2.1 g2.2.2.2.2)
  rw [hrv] at HR2
  have HD3 := Lib.hid (fun W => decX (ofB (rewS a1 x2)) 0 (turned t x2) W (by rw [hrd2]; omega) hrd1)
  have HTU := Lib.hid (fun W A c (hB : BlkR W A t.opts.blocks) => PktTdP.turnedP8 t A c x2 W hB htk.1 (by omega) (by omega) g2.1 g2.2.1 g2.2.2.1 g2.2.2.2.1 g2.2.2.2.2)
  have hul : (turned t x2).opts.blocks.length ≤ 1000000 := by show (t.opts.blocks.map _).length ≤ _; rw [List.length_map]; omega
  have HSU := Lib.hid (fun W A c A' c' (hB : BlkR W A (turned t x2).opts.blocks) (hB' : BlkR W A' (turned t x2).opts.blocks) => PktSameP.sameP8 (turned t x2) (turned t x2) A c A' c' W hB hB' hul hul)
  rw [sameS_yes rfl] at HSU
  have HR2S := Lib.hid hrd2
  generalize ofB (rewS a1 x2) = R2 at HR2 HD3 HR2S
  generalize turned t x2 = u at HD3 HTU HSU
  clear hrd1 hrd2 hrv hdt hd htk hul
  have hv : encV8 s0 = .tuple #[.string ⟨#[]⟩, .int .i64 2] := if_neg (by rw [hm]; decide)
  rw [hv] at HE
  clear hv hm hh
  go_enter Try.func5, Try.ntmps5
  have X1 := X0.out
  go_upto_region 1 with fail
  refine wp_region_lit ?_
  refine step_seg rfl _ rfl _ rfl _ _ _ X1 ?_
  go_wp2_with fail
  refine (HH.out _).mono ?_
  rintro e wL ⟨rfl, hb⟩
  have B1 := Lib.hid (st_call B0.out hb)
  have K1 := Lib.hid hb
  have X2 := X0.out.later hb
  have V2 := Lib.hid (V0.out.later hb)
  clear hb X1
  go_upto_region 3 with fail
  refine wp_region_lit ?_
  refine step_seg rfl _ rfl _ rfl _ _ _ X2 ?_
  go_wp2_with fail
  refine (HE.out _ K1.out).mono ?_
  rintro e wM ⟨rfl, hb⟩
  have B2 := Lib.hid (st_call B1.out hb)
  have V3 := Lib.hid (V2.out.later hb)
  clear hb X2
  go_wp2_with fail
  refine (HD2.out _).mono ?_
  rintro e wP ⟨⟨A1, c1, rfl, hr1⟩, hb⟩
  have bl := (Below.refl _ wP).alloc (Nat.le_refl _) (.cells (sc t A1 c1) 30)
  have P1 := Lib.hid (st_alloc (st_call B2.out hb) (.cells (sc t A1 c1) 30))
  have V5 := Lib.hid ((V3.out.later hb).later bl)
  have T5 := Lib.hid (CellsAt.new wP (sc t A1 c1) 30)
  have R5 := Lib.hid (hr1.more bl)
  clear hb hr1 bl
  go_upto_region 11 with fail
  refine wp_region_lit ?_
  have V6 := V5.out
  go_wp2_with (refine step_shift rfl _ rfl _ rfl _ V6 ?_)
  refine (HR2.out _).mono ?_
  rintro e wQ ⟨rfl, hb⟩
  have P2 := Lib.hid (st_call P1.out hb)
  have V7 := Lib.hid (V5.out.later hb)
  have T7 := Lib.hid (T5.out.later hb)
  have R7 := Lib.hid (R5.out.more hb)
  clear hb V6
  go_wp2_with fail
  refine (HD3.out _).mono ?_
  rintro e wR ⟨⟨A3, c3, rfl, hr3⟩, hb⟩
  have bl := (Below.refl _ wR).alloc (Nat.le_refl _) (.cells (sc u A3 c3) 30)
  have P3 := st_alloc (st_call P2.out hb) (.cells (sc u A3 c3) 30)
  have v8 := (V7.out.later hb).later bl
  have t8 := (T7.out.later hb).later bl
  have u8 := CellsAt.new wR (sc u A3 c3) 30
  have r8 := (R7.out.more hb).more bl
  have s8 := hr3.more bl
  clear hb hr3 bl
  go_upto_region 16 with fail
  obtain ⟨W9, hW9⟩ : ∃ W9, wR.alloc (.cells (sc u A3 c3) 30) = W9 := ⟨_, rfl⟩
  rw [hW9] at P3 v8 t8 u8 r8 s8 ⊢
  have B9 := Lib.hid P3
  have V9 := Lib.hid v8
  have T9 := Lib.hid t8
  have U9 := Lib.hid u8
  have HT9 := Lib.hid (fun W (hb : Below W9.heap.size W9 W) => HTU.out W A1 c1 (r8.more hb))
  have HS9 := Lib.hid (fun W A' c' (hb : Below W9.heap.size W9 W) (hR : BlkR W A' u.opts.blocks) => HSU.out W A3 c3 A' c' (s8.more hb) hR)
  clear hW9 P3 v8 t8 u8 r8 s8
  refine wp_region_seeG 114 [(2, false), (10, false)] (relB8 a1 R2 t u x2 A1 A3 c1 c3) rfl (by kernel_rfl) (by kernel_rfl) (by kernel_rfl) (by intro p hp v w h; simp only [List.mem_cons, List.not_mem_nil, or_false] at hp; rcases hp with rfl | rfl <;> exact h) (relB8_more a1 R2 t u x2 A1 A3 c1 c3) ?_ ?_
  · intro i hi
    have hi2 : i < 17 := by simpa using hi
    clear hi
    match i, hi2 with
    | 0, _ =>
      intro ρ W hb hc hg hf h0 hd
      have t20 := h0 20 (by kernel_rfl)
      clear hd h0
      go_simp
      exact ⟨rfl, Below.refl _ _⟩
    | 1, _ =>
      intro ρ W hb hc hg hf h0 hd
      have d0 : ρ (.tmp 96) = .int .i64 0 := hd 0 96 (by kernel_rfl) (by kernel_rfl)
      clear hd h0
      go_simp
      exact ⟨rfl, Below.refl _ _⟩
    | 2, _ =>
      intro ρ W hb hc hg hf h0 hd
      have d1 : ρ (.tmp 97) = .bool false := hd 1 97 (by kernel_rfl) (by kernel_rfl)
      clear hd h0
      go_simp
      exact ⟨rfl, Below.refl _ _⟩
    | 3, _ =>
      intro ρ W hb hc hg hf h0 hd
      have t19 := h0 19 (by kernel_rfl)
      clear hd h0
      exact PktSee.see_seg _ rfl _ t19 _ _ _ (U9.out.later hb) rfl
    | 4, _ =>
      intro ρ W hb hc hg hf h0 hd
      have t15 := h0 15 (by kernel_rfl)
      clear hd h0
      exact PktSee.see_seg _ rfl _ t15 _ _ _ (T9.out.later hb) rfl
    | 5, _ =>
      intro ρ W hb hc hg hf h0 hd
      have t5 := h0 5 (by kernel_rfl)
      clear hd h0
      exact PktSee.see_shift _ rfl _ t5 _ (V9.out.later hb) rfl
    | 6, _ =>
      intro ρ W hb hc hg hf h0 hd
      have d4 : ρ (.tmp 100) = sv t A1 c1 := hd 4 100 (by kernel_rfl) (by kernel_rfl)
      have d5 : ρ (.tmp 101) = xv x2 := hd 5 101 (by kernel_rfl) (by kernel_rfl)
      clear hd h0
      go_simp
      exact (HT9.out W hb).mono fun e w' hq => by obtain ⟨⟨A, c, he, hR⟩, hb⟩ := hq; exact ⟨_, he, ⟨A, c, rfl, hR.blk⟩, hb⟩
    | 7, _ =>
      intro ρ W hb hc hg hf h0 hd
      have d3 : ρ (.tmp 99) = sv u A3 c3 := hd 3 99 (by kernel_rfl) (by kernel_rfl)
      have dp6 : ∃ A c, (ρ (.tmp 102)) = sv u A c ∧ BlkR W A u.opts.blocks := hd 6 102 (by kernel_rfl) (by kernel_rfl)
      obtain ⟨A', c', dp6, hR6⟩ := dp6
      clear hd h0
      go_simp
      exact (HS9.out W A' c' hb hR6).mono fun e w' ⟨he, hb⟩ => ⟨_, he, rfl, hb⟩
    | 8, _ =>
      intro ρ W hb hc hg hf h0 hd
      have d7 : ρ (.tmp 103) = .bool true := hd 7 103 (by kernel_rfl) (by kernel_rfl)
      clear hd h0
      go_simp
      exact ⟨rfl, Below.refl _ _⟩
    | 9, _ =>
      intro ρ W hb hc hg hf h0 hd
      have d2 : ρ (.tmp 98) = .bool false := hd 2 98 (by kernel_rfl) (by kernel_rfl)
      have d8 : ρ (.tmp 104) = .bool false := hd 8 104 (by kernel_rfl) (by kernel_rfl)
      clear hd h0
      go_simp
      exact ⟨rfl, Below.refl _ _⟩
    | 10, _ =>
      intro ρ W hb hc hg hf h0 hd
      have d9 : ρ (.tmp 105) = .bool false := hd 9 105 (by kernel_rfl) (by kernel_rfl)
      clear hd h0
      go_simp
      exact ⟨rfl, Below.refl _ _⟩
    | 11, _ =>
      intro ρ W hb hc hg hf h0 hd
      have t17 := h0 17 (by kernel_rfl)
      clear hd h0
      go_simp
      exact ⟨rfl, Below.refl _ _⟩
    | 12, _ =>
      intro ρ W hb hc hg hf h0 hd
      have d11 : ρ (.tmp 107) = .string R2 := hd 11 107 (by kernel_rfl) (by kernel_rfl)
      clear hd h0
      have hz := HR2S.out
      have hz2 : R2.size ≤ 9223372036854775807 := by omega
      go_simp
      exact ⟨rfl, Below.refl _ _⟩
    | 13, _ =>
      intro ρ W hb hc hg hf h0 hd
      have t1 := h0 1 (by kernel_rfl)
      clear hd h0
      go_simp
      exact ⟨rfl, Below.refl _ _⟩
    | 14, _ =>
      intro ρ W hb hc hg hf h0 hd
      have d13 : ρ (.tmp 109) = .string a1 := hd 13 109 (by kernel_rfl) (by kernel_rfl)
      clear hd h0
      have hz2 := ha9
      go_simp
      exact ⟨rfl, Below.refl _ _⟩
    | 15, _ =>
      intro ρ W hb hc hg hf h0 hd
      have d12 : ρ (.tmp 108) = .int .i64 (a1.size : Int) := hd 12 108 (by kernel_rfl) (by kernel_rfl)
      have d14 : ρ (.tmp 110) = .int .i64 (a1.size : Int) := hd 14 110 (by kernel_rfl) (by kernel_rfl)
      clear hd h0
      go_simp
      exact ⟨rfl, Below.refl _ _⟩
    | 16, _ =>
      intro ρ W hb hc hg hf h0 hd
      have d10 : ρ (.tmp 106) = .bool false := hd 10 106 (by kernel_rfl) (by kernel_rfl)
      have d15 : ρ (.tmp 111) = .bool false := hd 15 111 (by kernel_rfl) (by kernel_rfl)
      clear hd h0
      go_simp
      exact ⟨rfl, Below.refl _ _⟩
    | i + 17, hlt => exact absurd hlt (by omega)
  · intro vs W hb hall
    have hl : vs 16 = .bool false := hall 16 (of_decide_eq_true (by kernel_rfl))
    have B10 := Lib.hid (st_call B9.out hb)
    clear hall hb
    rw [lexA_slots vs _ [(some 96, 0), (some 97, 1), (some 98, 2), (some 99, 3), (some 100, 4), (some 101, 5), (some 102, 6), (some 103, 7), (some 104, 8), (some 105, 9), (some 106, 10), (some 107, 11), (some 108, 12), (some 109, 13), (some 110, 14), (some 111, 15), (some 112, 16)] (by kernel_rfl)]
    simp only [List.foldl_cons, List.foldl_nil, hl]
    simp only [put_lit, List.set_cons_succ, List.set_cons_zero]
    go_wp2_with fail
    refine (alive_any _).mono ?_
    rintro e w' ⟨rfl, hb⟩
    have HB := Lib.hid (st_call (B10.out) hb)
    clear hb
    go_wp2_with fail
    go_ret
    exact ⟨rfl, HB.out⟩

set_option maxRecDepth 100000 in
set_option maxHeartbeats 16000000 in
theorem back_me (s0 : Sg) (A0 : Option Addr) (c0 : Nat) (a1 : ByteArray) (x2 : Sh) (w : World) (z0 : BlkR w A0 s0.opts.blocks) (g0 : s0.ok ∧ s0.opts.blocks.length ≤ maxLen ∧ -9223372036854775808 ≤ s0.opts.scale ∧ s0.opts.scale ≤ 9223372036854775807 ∧ s0.data.size ≤ maxLen) (w1 : a1.size ≤ maxLen) (g2 : x2.ok ∧ -9223372036854775808 ≤ x2.up ∧ x2.up ≤ 9223372036854775807 ∧ -9223372036854775808 ≤ x2.down ∧ x2.down ≤ 9223372036854775807) (hh : heavy s0 = false) (hx : ¬ 4096 < a1.size) (hm : mayS s0 = true) (hd : ¬ (dec8 a1).1 = 0) : Calls Try.prog 5 #[sv s0 A0 c0, .string a1, xv x2] w fun e w' => e = .returned (.bool true) ∧ Below w.heap.size w w' := by
  have ha9 : a1.size ≤ 9223372036854775807 := by unfold maxLen at w1; omega
  have X0 := Lib.hid ((CellsAt.new w (sc s0 A0 c0) 30).later ((Below.refl _ _).alloc (Nat.le_refl _) (.cells (xc x2) 46)))
  have v0 := CellsAt.new (w.alloc (.cells (sc s0 A0 c0) 30)) (xc x2) 46
  rw [World.size_alloc] at v0
  have V0 := Lib.hid v0
  clear v0
  have B0 := Lib.hid (st_alloc (st_alloc (Below.refl _ w) (.cells (sc s0 A0 c0) 30)) (.cells (xc x2) 46))
  have HH := Lib.hid (fun W => heavyL s0 A0 c0 W g0.2.2.2.2)
  have HE := Lib.hid (fun W (hb : Below ((w.alloc (.cells (sc s0 A0 c0) 30)).alloc (.cells (xc x2) 46)).heap.size ((w.alloc (.cells (sc s0 A0 c0) 30)).alloc (.cells (xc x2) 46)) W) => PktEncP.encP8 s0 A0 c0 W ((z0.more B0.out).more hb) g0.1 g0.2.2.2.2)
  rw [hh] at HH
  obtain ⟨f1, f2⟩ := heavy_no hh
  have hq : ¬ (4096 : Int) < (a1.size : Int) := by omega
  obtain ⟨n, t, hdt⟩ : ∃ n t, dec8 a1 = (n, t) := ⟨_, _, rfl⟩
  have hrv : rwV a1 x2 = .tuple #[.string ⟨#[]⟩, .int .i64 (n : Int)] := by unfold rwV; rw [if_neg hd, hdt]
  have HD2 := Lib.hid (fun W => decX a1 n t W (by omega) hdt)
  have HR2 := Lib.hid (fun W => PktRw.rewP a1 x2 W (by omega) g2.1 g2.2.1 g2.2.2.1 g2.2.2.2.1 g2.2.2.2.2)
  rw [hrv] at HR2
  have hn0 : n ≠ 0 := by rw [hdt] at hd; exact hd
  have qn : ((n : Int) == 0) = false := beq_eq_false_iff_ne.2 (by omega)
  clear hrv hdt hd hn0
  have m := of_mayS hm
  have hv : encV8 s0 = .tuple #[.string (ofB (pk s0)), .int .i64 0] := if_pos hm
  have hv2 : encV8 (turned s0 x2) = .tuple #[.string (ofB (pk (turned s0 x2))), .int .i64 0] := if_pos (mayS_of (turned_may g0.1 m x2))
  have hps : (ofB (pk s0)).size ≤ 1540 := by
    have h1 := m.few
    have h2 := m.opts.most
    rw [ofB_size, pk_len]
    omega
  have hdp := pk_dec g0.1 m
  have hrp : rwV (ofB (pk s0)) x2 = .tuple #[.string (ofB (pk (turned s0 x2))), .int .i64 0] := by
    have h : rwV (ofB (pk s0)) x2 = .tuple #[.string (ofB (rewS (ofB (pk s0)) x2)), .int .i64 0] := if_pos (by rw [hdp])
    rw [rewS_is (pk_rd g0.1 m) x2, rew_own g0.1 m g2.1] at h
    exact h
  rw [hv] at HE
  have HP1 := Lib.hid (fun W => decX (ofB (pk s0)) 0 s0 W (by omega) hdp)
  have HP2 := Lib.hid (fun W => PktRw.rewP (ofB (pk s0)) x2 W (by omega) g2.1 g2.2.1 g2.2.2.1 g2.2.2.2.1 g2.2.2.2.2)
  rw [hrp] at HP2
  have HP3 := Lib.hid (fun W (hB : BlkR W A0 s0.opts.blocks) => PktTdP.turnedP8 s0 A0 c0 x2 W hB g0.1 (by omega) (by omega) g2.1 g2.2.1 g2.2.2.1 g2.2.2.2.1 g2.2.2.2.2)
  have HP4 := Lib.hid (fun W A c (hB : BlkR W A (turned s0 x2).opts.blocks) => PktEncP.encP8 (turned s0 x2) A c W hB (turned_ok g0.1 g2.1) (by show s0.data.size ≤ maxLen; exact g0.2.2.2.2))
  rw [hv2] at HP4
  have HP5 := Lib.hid (fun W A c (hB : BlkR W A0 s0.opts.blocks) (hB' : BlkR W A s0.opts.blocks) => PktSameP.sameP8 s0 s0 A0 c0 A c W hB hB' (by omega) (by omega))
  rw [sameS_yes rfl] at HP5
  generalize ofB (pk (turned s0 x2)) = Q at HP2 HP4
  generalize turned s0 x2 = us at HP3 HP4
  generalize ofB (pk s0) = P at HE HP1 HP2
  clear hv hv2 hdp hrp hm hh m hps
  go_enter Try.func5, Try.ntmps5
  have X1 := X0.out
  go_upto_region 1 with fail
  refine wp_region_lit ?_
  refine step_seg rfl _ rfl _ rfl _ _ _ X1 ?_
  go_wp2_with fail
  refine (HH.out _).mono ?_
  rintro e wL ⟨rfl, hb⟩
  have B1 := Lib.hid (st_call B0.out hb)
  have K1 := Lib.hid hb
  have X2 := X0.out.later hb
  have V2 := Lib.hid (V0.out.later hb)
  clear hb X1
  go_upto_region 3 with fail
  refine wp_region_lit ?_
  refine step_seg rfl _ rfl _ rfl _ _ _ X2 ?_
  go_wp2_with fail
  refine (HE.out _ K1.out).mono ?_
  rintro e wM ⟨rfl, hb⟩
  have B2 := Lib.hid (st_call B1.out hb)
  have X3 := Lib.hid (X2.later hb)
  have V3 := Lib.hid (V2.out.later hb)
  clear hb X2
  go_wp2_with fail
  refine (HP1.out _).mono ?_
  rintro e wa ⟨⟨Aa, ca, rfl, hra⟩, hb⟩
  have bl := (Below.refl _ wa).alloc (Nat.le_refl _) (.cells (sc s0 Aa ca) 30)
  have B3 := Lib.hid (st_alloc (st_call B2.out hb) (.cells (sc s0 Aa ca) 30))
  have X4 := Lib.hid ((X3.out.later hb).later bl)
  have V4 := (V3.out.later hb).later bl
  have Y4 := Lib.hid (CellsAt.new wa (sc s0 Aa ca) 30)
  have R4 := Lib.hid (hra.more bl)
  clear hb hra bl
  go_upto_region 6 with fail
  refine wp_region_lit ?_
  go_wp2_with (refine step_shift rfl _ rfl _ rfl _ V4 ?_)
  refine (HP2.out _).mono ?_
  rintro e wb ⟨rfl, hb⟩
  have B4 := Lib.hid (st_call B3.out hb)
  have X5 := X4.out.later hb
  have V5a := V4.later hb
  have Y5 := Lib.hid (Y4.out.later hb)
  have R5a := Lib.hid (R4.out.more hb)
  clear hb V4
  go_upto_region 7 with fail
  refine wp_region_lit ?_
  refine step_seg rfl _ rfl _ rfl _ _ _ X5 ?_
  refine step_shift rfl _ rfl _ rfl _ V5a ?_
  go_wp2_with fail
  refine (HP3.out _ (z0.more B4.out)).mono ?_
  rintro e wc ⟨⟨Ac, cc, rfl, hrc⟩, hb⟩
  have B5 := Lib.hid (st_call B4.out hb)
  have X6 := Lib.hid (X5.later hb)
  have V6a := Lib.hid (V5a.later hb)
  have Y6 := Lib.hid (Y5.out.later hb)
  have R6a := Lib.hid (R5a.out.more hb)
  have S6 := Lib.hid hrc.blk
  clear hb X5 V5a hrc
  go_wp2_with fail
  refine (HP4.out _ Ac cc S6.out).mono ?_
  rintro e wd ⟨rfl, hb⟩
  have B6 := Lib.hid (st_call B5.out hb)
  have X7 := X6.out.later hb
  have V7a := Lib.hid (V6a.out.later hb)
  have Y7 := Y6.out.later hb
  have R7a := Lib.hid (R6a.out.more hb)
  clear hb
  have q0 := X7.cell 0 _ rfl
  have p0 := Y7.cell 0 _ rfl
  have q1 := X7.cell 1 _ rfl
  have p1 := Y7.cell 1 _ rfl
  have q2 := X7.cell 2 _ rfl
  have p2 := Y7.cell 2 _ rfl
  have q3 := X7.cell 3 _ rfl
  have p3 := Y7.cell 3 _ rfl
  have q4 := X7.cell 4 _ rfl
  have p4 := Y7.cell 4 _ rfl
  have q5 := X7.cell 5 _ rfl
  have p5 := Y7.cell 5 _ rfl
  have q6 := X7.cell 6 _ rfl
  have p6 := Y7.cell 6 _ rfl
  have q7 := X7.cell 7 _ rfl
  have p7 := Y7.cell 7 _ rfl
  have q8 := X7.cell 8 _ rfl
  have p8 := Y7.cell 8 _ rfl
  have q9 := X7.cell 9 _ rfl
  have p9 := Y7.cell 9 _ rfl
  have q10 := X7.cell 10 _ rfl
  have p10 := Y7.cell 10 _ rfl
  have q11 := X7.cell 11 _ rfl
  have p11 := Y7.cell 11 _ rfl
  have q12 := X7.cell 12 _ rfl
  have p12 := Y7.cell 12 _ rfl
  have q13 := X7.cell 13 _ rfl
  have p13 := Y7.cell 13 _ rfl
  have q14 := X7.cell 14 _ rfl
  have p14 := Y7.cell 14 _ rfl
  have q15 := X7.cell 15 _ rfl
  have p15 := Y7.cell 15 _ rfl
  go_wp2_with fail
  refine (HP5.out _ Aa ca (z0.more B6.out) R7a.out).mono ?_
  rintro e we ⟨rfl, hb⟩
  have B7 := Lib.hid (st_call B6.out hb)
  have V8a := Lib.hid (V7a.out.later hb)
  clear hb X7 Y7 q0 p0 q1 p1 q2 p2 q3 p3 q4 p4 q5 p5 q6 p6 q7 p7 q8 p8 q9 p9 q10 p10 q11 p11 q12 p12 q13 p13 q14 p14 q15 p15
  go_wp2_with fail
  refine (HD2.out _).mono ?_
  rintro e wP ⟨⟨A1, c1, rfl, hr1⟩, hb⟩
  have bl := (Below.refl _ wP).alloc (Nat.le_refl _) (.cells (sc t A1 c1) 30)
  have P1 := Lib.hid (st_alloc (st_call B7.out hb) (.cells (sc t A1 c1) 30))
  have V5 := Lib.hid ((V8a.out.later hb).later bl)
  have T5 := Lib.hid (CellsAt.new wP (sc t A1 c1) 30)
  have R5 := Lib.hid (hr1.more bl)
  clear hb hr1 bl
  go_upto_region 11 with fail
  refine wp_region_lit ?_
  have V6 := V5.out
  go_wp2_with (refine step_shift rfl _ rfl _ rfl _ V6 ?_)
  refine (HR2.out _).mono ?_
  rintro e wQ ⟨rfl, hb⟩
  have P2 := Lib.hid (st_call P1.out hb)
  have V7 := Lib.hid (V5.out.later hb)
  have T7 := Lib.hid (T5.out.later hb)
  have R7 := Lib.hid (R5.out.more hb)
  clear hb V6
  go_wp2_with fail
  refine (alive_any _).mono ?_
  rintro e w' ⟨rfl, hb⟩
  have HB := Lib.hid (st_call (P2.out) hb)
  clear hb
  go_wp2_with fail
  go_ret
  exact ⟨rfl, HB.out⟩

set_option maxRecDepth 100000 in
set_option maxHeartbeats 16000000 in
theorem back_mo (s0 : Sg) (A0 : Option Addr) (c0 : Nat) (a1 : ByteArray) (x2 : Sh) (w : World) (z0 : BlkR w A0 s0.opts.blocks) (g0 : s0.ok ∧ s0.opts.blocks.length ≤ maxLen ∧ -9223372036854775808 ≤ s0.opts.scale ∧ s0.opts.scale ≤ 9223372036854775807 ∧ s0.data.size ≤ maxLen) (w1 : a1.size ≤ maxLen) (g2 : x2.ok ∧ -9223372036854775808 ≤ x2.up ∧ x2.up ≤ 9223372036854775807 ∧ -9223372036854775808 ≤ x2.down ∧ x2.down ≤ 9223372036854775807) (hh : heavy s0 = false) (hx : ¬ 4096 < a1.size) (hm : mayS s0 = true) (hd : (dec8 a1).1 = 0) : Calls Try.prog 5 #[sv s0 A0 c0, .string a1, xv x2] w fun e w' => e = .returned (.bool true) ∧ Below w.heap.size w w' := by
  have ha9 : a1.size ≤ 9223372036854775807 := by unfold maxLen at w1; omega
  have X0 := Lib.hid ((CellsAt.new w (sc s0 A0 c0) 30).later ((Below.refl _ _).alloc (Nat.le_refl _) (.cells (xc x2) 46)))
  have v0 := CellsAt.new (w.alloc (.cells (sc s0 A0 c0) 30)) (xc x2) 46
  rw [World.size_alloc] at v0
  have V0 := Lib.hid v0
  clear v0
  have B0 := Lib.hid (st_alloc (st_alloc (Below.refl _ w) (.cells (sc s0 A0 c0) 30)) (.cells (xc x2) 46))
  have HH := Lib.hid (fun W => heavyL s0 A0 c0 W g0.2.2.2.2)
  have HE := Lib.hid (fun W (hb : Below ((w.alloc (.cells (sc s0 A0 c0) 30)).alloc (.cells (xc x2) 46)).heap.size ((w.alloc (.cells (sc s0 A0 c0) 30)).alloc (.cells (xc x2) 46)) W) => PktEncP.encP8 s0 A0 c0 W ((z0.more B0.out).more hb) g0.1 g0.2.2.2.2)
  rw [hh] at HH
  obtain ⟨f1, f2⟩ := heavy_no hh
  have hq : ¬ (4096 : Int) < (a1.size : Int) := by omega
  obtain ⟨n, t, hdt⟩ : ∃ n t, dec8 a1 = (n, t) := ⟨_, _, rfl⟩
  have hn0 : n = 0 := by rw [hdt] at hd; exact hd
  subst hn0
  have hrd := rewS_dec (S := a1) hd g2.1
  rw [hdt] at hrd
  obtain ⟨hrd1, hrd2⟩ := hrd
  have hrv : rwV a1 x2 = .tuple #[.string (ofB (rewS a1 x2)), .int .i64 0] := if_pos hd
  have htk : t.ok ∧ t.opts.blocks.length ≤ 40 ∧ t.data.size ≤ 1460 := by
    obtain ⟨c, k, r, hd8⟩ := dec_rd hd
    rw [hdt] at hd8
    injection hd8 with _ e
    rw [e]
    exact ⟨PktRw.rd_sok r, PktRw.rd_few r, r.few⟩
  have HD2 := Lib.hid (fun W => decX a1 0 t W (by omega) hdt)
  have HR2 := Lib.hid (fun W => PktRw.rewP a1 x2 W (by omega) g2.1 g2.2.1 g2.2.2.1 g2.2.2.2.1 g2.2.2.2.2)
  rw [hrv] at HR2
  have HD3 := Lib.hid (fun W => decX (ofB (rewS a1 x2)) 0 (turned t x2) W (by rw [hrd2]; omega) hrd1)
  have HTU := Lib.hid (fun W A c (hB : BlkR W A t.opts.blocks) => PktTdP.turnedP8 t A c x2 W hB htk.1 (by omega) (by omega) g2.1 g2.2.1 g2.2.2.1 g2.2.2.2.1 g2.2.2.2.2)
  have hul : (turned t x2).opts.blocks.length ≤ 1000000 := by show (t.opts.blocks.map _).length ≤ _; rw [List.length_map]; omega
  have HSU := Lib.hid (fun W A c A' c' (hB : BlkR W A (turned t x2).opts.blocks) (hB' : BlkR W A' (turned t x2).opts.blocks) => PktSameP.sameP8 (turned t x2) (turned t x2) A c A' c' W hB hB' hul hul)
  rw [sameS_yes rfl] at HSU
  have HR2S := Lib.hid hrd2
  generalize ofB (rewS a1 x2) = R2 at HR2 HD3 HR2S
  generalize turned t x2 = u at HD3 HTU HSU
  clear hrd1 hrd2 hrv hdt hd htk hul
  have m := of_mayS hm
  have hv : encV8 s0 = .tuple #[.string (ofB (pk s0)), .int .i64 0] := if_pos hm
  have hv2 : encV8 (turned s0 x2) = .tuple #[.string (ofB (pk (turned s0 x2))), .int .i64 0] := if_pos (mayS_of (turned_may g0.1 m x2))
  have hps : (ofB (pk s0)).size ≤ 1540 := by
    have h1 := m.few
    have h2 := m.opts.most
    rw [ofB_size, pk_len]
    omega
  have hdp := pk_dec g0.1 m
  have hrp : rwV (ofB (pk s0)) x2 = .tuple #[.string (ofB (pk (turned s0 x2))), .int .i64 0] := by
    have h : rwV (ofB (pk s0)) x2 = .tuple #[.string (ofB (rewS (ofB (pk s0)) x2)), .int .i64 0] := if_pos (by rw [hdp])
    rw [rewS_is (pk_rd g0.1 m) x2, rew_own g0.1 m g2.1] at h
    exact h
  rw [hv] at HE
  have HP1 := Lib.hid (fun W => decX (ofB (pk s0)) 0 s0 W (by omega) hdp)
  have HP2 := Lib.hid (fun W => PktRw.rewP (ofB (pk s0)) x2 W (by omega) g2.1 g2.2.1 g2.2.2.1 g2.2.2.2.1 g2.2.2.2.2)
  rw [hrp] at HP2
  have HP3 := Lib.hid (fun W (hB : BlkR W A0 s0.opts.blocks) => PktTdP.turnedP8 s0 A0 c0 x2 W hB g0.1 (by omega) (by omega) g2.1 g2.2.1 g2.2.2.1 g2.2.2.2.1 g2.2.2.2.2)
  have HP4 := Lib.hid (fun W A c (hB : BlkR W A (turned s0 x2).opts.blocks) => PktEncP.encP8 (turned s0 x2) A c W hB (turned_ok g0.1 g2.1) (by show s0.data.size ≤ maxLen; exact g0.2.2.2.2))
  rw [hv2] at HP4
  have HP5 := Lib.hid (fun W A c (hB : BlkR W A0 s0.opts.blocks) (hB' : BlkR W A s0.opts.blocks) => PktSameP.sameP8 s0 s0 A0 c0 A c W hB hB' (by omega) (by omega))
  rw [sameS_yes rfl] at HP5
  generalize ofB (pk (turned s0 x2)) = Q at HP2 HP4
  generalize turned s0 x2 = us at HP3 HP4
  generalize ofB (pk s0) = P at HE HP1 HP2
  clear hv hv2 hdp hrp hm hh m hps
  go_enter Try.func5, Try.ntmps5
  have X1 := X0.out
  go_upto_region 1 with fail
  refine wp_region_lit ?_
  refine step_seg rfl _ rfl _ rfl _ _ _ X1 ?_
  go_wp2_with fail
  refine (HH.out _).mono ?_
  rintro e wL ⟨rfl, hb⟩
  have B1 := Lib.hid (st_call B0.out hb)
  have K1 := Lib.hid hb
  have X2 := X0.out.later hb
  have V2 := Lib.hid (V0.out.later hb)
  clear hb X1
  go_upto_region 3 with fail
  refine wp_region_lit ?_
  refine step_seg rfl _ rfl _ rfl _ _ _ X2 ?_
  go_wp2_with fail
  refine (HE.out _ K1.out).mono ?_
  rintro e wM ⟨rfl, hb⟩
  have B2 := Lib.hid (st_call B1.out hb)
  have X3 := Lib.hid (X2.later hb)
  have V3 := Lib.hid (V2.out.later hb)
  clear hb X2
  go_wp2_with fail
  refine (HP1.out _).mono ?_
  rintro e wa ⟨⟨Aa, ca, rfl, hra⟩, hb⟩
  have bl := (Below.refl _ wa).alloc (Nat.le_refl _) (.cells (sc s0 Aa ca) 30)
  have B3 := Lib.hid (st_alloc (st_call B2.out hb) (.cells (sc s0 Aa ca) 30))
  have X4 := Lib.hid ((X3.out.later hb).later bl)
  have V4 := (V3.out.later hb).later bl
  have Y4 := Lib.hid (CellsAt.new wa (sc s0 Aa ca) 30)
  have R4 := Lib.hid (hra.more bl)
  clear hb hra bl
  go_upto_region 6 with fail
  refine wp_region_lit ?_
  go_wp2_with (refine step_shift rfl _ rfl _ rfl _ V4 ?_)
  refine (HP2.out _).mono ?_
  rintro e wb ⟨rfl, hb⟩
  have B4 := Lib.hid (st_call B3.out hb)
  have X5 := X4.out.later hb
  have V5a := V4.later hb
  have Y5 := Lib.hid (Y4.out.later hb)
  have R5a := Lib.hid (R4.out.more hb)
  clear hb V4
  go_upto_region 7 with fail
  refine wp_region_lit ?_
  refine step_seg rfl _ rfl _ rfl _ _ _ X5 ?_
  refine step_shift rfl _ rfl _ rfl _ V5a ?_
  go_wp2_with fail
  refine (HP3.out _ (z0.more B4.out)).mono ?_
  rintro e wc ⟨⟨Ac, cc, rfl, hrc⟩, hb⟩
  have B5 := Lib.hid (st_call B4.out hb)
  have X6 := Lib.hid (X5.later hb)
  have V6a := Lib.hid (V5a.later hb)
  have Y6 := Lib.hid (Y5.out.later hb)
  have R6a := Lib.hid (R5a.out.more hb)
  have S6 := Lib.hid hrc.blk
  clear hb X5 V5a hrc
  go_wp2_with fail
  refine (HP4.out _ Ac cc S6.out).mono ?_
  rintro e wd ⟨rfl, hb⟩
  have B6 := Lib.hid (st_call B5.out hb)
  have X7 := X6.out.later hb
  have V7a := Lib.hid (V6a.out.later hb)
  have Y7 := Y6.out.later hb
  have R7a := Lib.hid (R6a.out.more hb)
  clear hb
  have q0 := X7.cell 0 _ rfl
  have p0 := Y7.cell 0 _ rfl
  have q1 := X7.cell 1 _ rfl
  have p1 := Y7.cell 1 _ rfl
  have q2 := X7.cell 2 _ rfl
  have p2 := Y7.cell 2 _ rfl
  have q3 := X7.cell 3 _ rfl
  have p3 := Y7.cell 3 _ rfl
  have q4 := X7.cell 4 _ rfl
  have p4 := Y7.cell 4 _ rfl
  have q5 := X7.cell 5 _ rfl
  have p5 := Y7.cell 5 _ rfl
  have q6 := X7.cell 6 _ rfl
  have p6 := Y7.cell 6 _ rfl
  have q7 := X7.cell 7 _ rfl
  have p7 := Y7.cell 7 _ rfl
  have q8 := X7.cell 8 _ rfl
  have p8 := Y7.cell 8 _ rfl
  have q9 := X7.cell 9 _ rfl
  have p9 := Y7.cell 9 _ rfl
  have q10 := X7.cell 10 _ rfl
  have p10 := Y7.cell 10 _ rfl
  have q11 := X7.cell 11 _ rfl
  have p11 := Y7.cell 11 _ rfl
  have q12 := X7.cell 12 _ rfl
  have p12 := Y7.cell 12 _ rfl
  have q13 := X7.cell 13 _ rfl
  have p13 := Y7.cell 13 _ rfl
  have q14 := X7.cell 14 _ rfl
  have p14 := Y7.cell 14 _ rfl
  have q15 := X7.cell 15 _ rfl
  have p15 := Y7.cell 15 _ rfl
  go_wp2_with fail
  refine (HP5.out _ Aa ca (z0.more B6.out) R7a.out).mono ?_
  rintro e we ⟨rfl, hb⟩
  have B7 := Lib.hid (st_call B6.out hb)
  have V8a := Lib.hid (V7a.out.later hb)
  clear hb X7 Y7 q0 p0 q1 p1 q2 p2 q3 p3 q4 p4 q5 p5 q6 p6 q7 p7 q8 p8 q9 p9 q10 p10 q11 p11 q12 p12 q13 p13 q14 p14 q15 p15
  go_wp2_with fail
  refine (HD2.out _).mono ?_
  rintro e wP ⟨⟨A1, c1, rfl, hr1⟩, hb⟩
  have bl := (Below.refl _ wP).alloc (Nat.le_refl _) (.cells (sc t A1 c1) 30)
  have P1 := Lib.hid (st_alloc (st_call B7.out hb) (.cells (sc t A1 c1) 30))
  have V5 := Lib.hid ((V8a.out.later hb).later bl)
  have T5 := Lib.hid (CellsAt.new wP (sc t A1 c1) 30)
  have R5 := Lib.hid (hr1.more bl)
  clear hb hr1 bl
  go_upto_region 11 with fail
  refine wp_region_lit ?_
  have V6 := V5.out
  go_wp2_with (refine step_shift rfl _ rfl _ rfl _ V6 ?_)
  refine (HR2.out _).mono ?_
  rintro e wQ ⟨rfl, hb⟩
  have P2 := Lib.hid (st_call P1.out hb)
  have V7 := Lib.hid (V5.out.later hb)
  have T7 := Lib.hid (T5.out.later hb)
  have R7 := Lib.hid (R5.out.more hb)
  clear hb V6
  go_wp2_with fail
  refine (HD3.out _).mono ?_
  rintro e wR ⟨⟨A3, c3, rfl, hr3⟩, hb⟩
  have bl := (Below.refl _ wR).alloc (Nat.le_refl _) (.cells (sc u A3 c3) 30)
  have P3 := st_alloc (st_call P2.out hb) (.cells (sc u A3 c3) 30)
  have v8 := (V7.out.later hb).later bl
  have t8 := (T7.out.later hb).later bl
  have u8 := CellsAt.new wR (sc u A3 c3) 30
  have r8 := (R7.out.more hb).more bl
  have s8 := hr3.more bl
  clear hb hr3 bl
  go_upto_region 16 with fail
  obtain ⟨W9, hW9⟩ : ∃ W9, wR.alloc (.cells (sc u A3 c3) 30) = W9 := ⟨_, rfl⟩
  rw [hW9] at P3 v8 t8 u8 r8 s8 ⊢
  have B9 := Lib.hid P3
  have V9 := Lib.hid v8
  have T9 := Lib.hid t8
  have U9 := Lib.hid u8
  have HT9 := Lib.hid (fun W (hb : Below W9.heap.size W9 W) => HTU.out W A1 c1 (r8.more hb))
  have HS9 := Lib.hid (fun W A' c' (hb : Below W9.heap.size W9 W) (hR : BlkR W A' u.opts.blocks) => HSU.out W A3 c3 A' c' (s8.more hb) hR)
  clear hW9 P3 v8 t8 u8 r8 s8
  refine wp_region_seeG 114 [(2, false), (10, false)] (relB8 a1 R2 t u x2 A1 A3 c1 c3) rfl (by kernel_rfl) (by kernel_rfl) (by kernel_rfl) (by intro p hp v w h; simp only [List.mem_cons, List.not_mem_nil, or_false] at hp; rcases hp with rfl | rfl <;> exact h) (relB8_more a1 R2 t u x2 A1 A3 c1 c3) ?_ ?_
  · intro i hi
    have hi2 : i < 17 := by simpa using hi
    clear hi
    match i, hi2 with
    | 0, _ =>
      intro ρ W hb hc hg hf h0 hd
      have t20 := h0 20 (by kernel_rfl)
      clear hd h0
      go_simp
      exact ⟨rfl, Below.refl _ _⟩
    | 1, _ =>
      intro ρ W hb hc hg hf h0 hd
      have d0 : ρ (.tmp 96) = .int .i64 0 := hd 0 96 (by kernel_rfl) (by kernel_rfl)
      clear hd h0
      go_simp
      exact ⟨rfl, Below.refl _ _⟩
    | 2, _ =>
      intro ρ W hb hc hg hf h0 hd
      have d1 : ρ (.tmp 97) = .bool false := hd 1 97 (by kernel_rfl) (by kernel_rfl)
      clear hd h0
      go_simp
      exact ⟨rfl, Below.refl _ _⟩
    | 3, _ =>
      intro ρ W hb hc hg hf h0 hd
      have t19 := h0 19 (by kernel_rfl)
      clear hd h0
      exact PktSee.see_seg _ rfl _ t19 _ _ _ (U9.out.later hb) rfl
    | 4, _ =>
      intro ρ W hb hc hg hf h0 hd
      have t15 := h0 15 (by kernel_rfl)
      clear hd h0
      exact PktSee.see_seg _ rfl _ t15 _ _ _ (T9.out.later hb) rfl
    | 5, _ =>
      intro ρ W hb hc hg hf h0 hd
      have t5 := h0 5 (by kernel_rfl)
      clear hd h0
      exact PktSee.see_shift _ rfl _ t5 _ (V9.out.later hb) rfl
    | 6, _ =>
      intro ρ W hb hc hg hf h0 hd
      have d4 : ρ (.tmp 100) = sv t A1 c1 := hd 4 100 (by kernel_rfl) (by kernel_rfl)
      have d5 : ρ (.tmp 101) = xv x2 := hd 5 101 (by kernel_rfl) (by kernel_rfl)
      clear hd h0
      go_simp
      exact (HT9.out W hb).mono fun e w' hq => by obtain ⟨⟨A, c, he, hR⟩, hb⟩ := hq; exact ⟨_, he, ⟨A, c, rfl, hR.blk⟩, hb⟩
    | 7, _ =>
      intro ρ W hb hc hg hf h0 hd
      have d3 : ρ (.tmp 99) = sv u A3 c3 := hd 3 99 (by kernel_rfl) (by kernel_rfl)
      have dp6 : ∃ A c, (ρ (.tmp 102)) = sv u A c ∧ BlkR W A u.opts.blocks := hd 6 102 (by kernel_rfl) (by kernel_rfl)
      obtain ⟨A', c', dp6, hR6⟩ := dp6
      clear hd h0
      go_simp
      exact (HS9.out W A' c' hb hR6).mono fun e w' ⟨he, hb⟩ => ⟨_, he, rfl, hb⟩
    | 8, _ =>
      intro ρ W hb hc hg hf h0 hd
      have d7 : ρ (.tmp 103) = .bool true := hd 7 103 (by kernel_rfl) (by kernel_rfl)
      clear hd h0
      go_simp
      exact ⟨rfl, Below.refl _ _⟩
    | 9, _ =>
      intro ρ W hb hc hg hf h0 hd
      have d2 : ρ (.tmp 98) = .bool false := hd 2 98 (by kernel_rfl) (by kernel_rfl)
      have d8 : ρ (.tmp 104) = .bool false := hd 8 104 (by kernel_rfl) (by kernel_rfl)
      clear hd h0
      go_simp
      exact ⟨rfl, Below.refl _ _⟩
    | 10, _ =>
      intro ρ W hb hc hg hf h0 hd
      have d9 : ρ (.tmp 105) = .bool false := hd 9 105 (by kernel_rfl) (by kernel_rfl)
      clear hd h0
      go_simp
      exact ⟨rfl, Below.refl _ _⟩
    | 11, _ =>
      intro ρ W hb hc hg hf h0 hd
      have t17 := h0 17 (by kernel_rfl)
      clear hd h0
      go_simp
      exact ⟨rfl, Below.refl _ _⟩
    | 12, _ =>
      intro ρ W hb hc hg hf h0 hd
      have d11 : ρ (.tmp 107) = .string R2 := hd 11 107 (by kernel_rfl) (by kernel_rfl)
      clear hd h0
      have hz := HR2S.out
      have hz2 : R2.size ≤ 9223372036854775807 := by omega
      go_simp
      exact ⟨rfl, Below.refl _ _⟩
    | 13, _ =>
      intro ρ W hb hc hg hf h0 hd
      have t1 := h0 1 (by kernel_rfl)
      clear hd h0
      go_simp
      exact ⟨rfl, Below.refl _ _⟩
    | 14, _ =>
      intro ρ W hb hc hg hf h0 hd
      have d13 : ρ (.tmp 109) = .string a1 := hd 13 109 (by kernel_rfl) (by kernel_rfl)
      clear hd h0
      have hz2 := ha9
      go_simp
      exact ⟨rfl, Below.refl _ _⟩
    | 15, _ =>
      intro ρ W hb hc hg hf h0 hd
      have d12 : ρ (.tmp 108) = .int .i64 (a1.size : Int) := hd 12 108 (by kernel_rfl) (by kernel_rfl)
      have d14 : ρ (.tmp 110) = .int .i64 (a1.size : Int) := hd 14 110 (by kernel_rfl) (by kernel_rfl)
      clear hd h0
      go_simp
      exact ⟨rfl, Below.refl _ _⟩
    | 16, _ =>
      intro ρ W hb hc hg hf h0 hd
      have d10 : ρ (.tmp 106) = .bool false := hd 10 106 (by kernel_rfl) (by kernel_rfl)
      have d15 : ρ (.tmp 111) = .bool false := hd 15 111 (by kernel_rfl) (by kernel_rfl)
      clear hd h0
      go_simp
      exact ⟨rfl, Below.refl _ _⟩
    | i + 17, hlt => exact absurd hlt (by omega)
  · intro vs W hb hall
    have hl : vs 16 = .bool false := hall 16 (of_decide_eq_true (by kernel_rfl))
    have B10 := Lib.hid (st_call B9.out hb)
    clear hall hb
    rw [lexA_slots vs _ [(some 96, 0), (some 97, 1), (some 98, 2), (some 99, 3), (some 100, 4), (some 101, 5), (some 102, 6), (some 103, 7), (some 104, 8), (some 105, 9), (some 106, 10), (some 107, 11), (some 108, 12), (some 109, 13), (some 110, 14), (some 111, 15), (some 112, 16)] (by kernel_rfl)]
    simp only [List.foldl_cons, List.foldl_nil, hl]
    simp only [put_lit, List.set_cons_succ, List.set_cons_zero]
    go_wp2_with fail
    refine (alive_any _).mono ?_
    rintro e w' ⟨rfl, hb⟩
    have HB := Lib.hid (st_call (B10.out) hb)
    clear hb
    go_wp2_with fail
    go_ret
    exact ⟨rfl, HB.out⟩

/-! The walk: the Go text returns true, and writes nothing that was there. -/
set_option maxRecDepth 100000 in
theorem walk (s0 : PktMath.Sg) (A0 : Option Addr) (c0 : Nat) (a1 : ByteArray) (x2 : PktMath.Sh) (w : World) (z0 : OptSame.BlkR w A0 s0.opts.blocks) (g0 : s0.ok ∧ s0.opts.blocks.length ≤ maxLen ∧ -9223372036854775808 ≤ s0.opts.scale ∧ s0.opts.scale ≤ 9223372036854775807 ∧ s0.data.size ≤ maxLen) (w1 : a1.size ≤ maxLen) (g2 : x2.ok ∧ -9223372036854775808 ≤ x2.up ∧ x2.up ≤ 9223372036854775807 ∧ -9223372036854775808 ≤ x2.down ∧ x2.down ≤ 9223372036854775807) :
    Calls Try.prog 5 #[PktVal.sv s0 A0 c0, .string a1, PktVal.xv x2] w fun e w' => e = .returned (.bool true) ∧ Below w.heap.size w w' := by
  by_cases hh : heavy s0 = true
  · exact back_skip s0 A0 c0 a1 x2 w z0 g0 w1 g2 (.inl hh)
  by_cases hx : 4096 < a1.size
  · exact back_skip s0 A0 c0 a1 x2 w z0 g0 w1 g2 (.inr hx)
  have hh2 : heavy s0 = false := by cases h : heavy s0; rfl; exact absurd h hh
  by_cases hd : (dec8 a1).1 = 0
  · cases hm : mayS s0 with
    | false => exact back_xo s0 A0 c0 a1 x2 w z0 g0 w1 g2 hh2 hx hm hd
    | true => exact back_mo s0 A0 c0 a1 x2 w z0 g0 w1 g2 hh2 hx hm hd
  · cases hm : mayS s0 with
    | false => exact back_xe s0 A0 c0 a1 x2 w z0 g0 w1 g2 hh2 hx hm hd
    | true => exact back_me s0 A0 c0 a1 x2 w z0 g0 w1 g2 hh2 hx hm hd

/-! The row's step, after the guide's own way. -/
set_option maxRecDepth 100000 in
theorem lifted (os : Os) (started : os.Started) (H : Type) (enc : TypeId × Value → H) :
    ReturnsInHanded {} Try.checked os 5 .any (Rows.pktBackSpec.pre6 enc Try.prog Try.f5 Rows.pktBackRow.domain false) (Rows.pktBackSpec.post enc Try.prog Try.f5 false true false false) := by
  refine returnsInHanded_of_change (C := Try.checked) own started (by kernel_rfl) Try.func5
    (ChangeSpec.witness6 (enc := enc) (C := Try.checked) false ⟨#[], #[.agg #[.int .u32 0, .int .u16 0, .int .u32 0, .int .u16 0, .int .u32 0, .int .u32 0, .int .u8 0, .int .u16 0, .int .u16 0, .int .i64 0, .bool false, .slice none 0 0, .bool false, .int .u32 0, .int .u32 0, .string ByteArray.empty], .string ByteArray.empty, .agg #[.int .u32 0, .int .u16 0, .int .u32 0, .int .u16 0, .int .u32 0, .int .u32 0, .int .u32 0, .int .u32 0, .int .i64 0, .int .i64 0]], []⟩ 8 (by kernel_rfl) (by kernel_rfl) (by kernel_rfl) (by kernel_rfl)) ?_
  intro W base args ds gs before hval0 hW hcnd _
  have hval : ∀ (j : Nat) t v, Try.f5.params[j]? = some t → args[j]? = some v → Value.okWide Try.prog W .any base t v := hval0
  have hW' := hW
  obtain ⟨p, q, hA0, hV, rfl, hfz, hnd⟩ := hW
  have hA : DataW.TrodAll enc Try.prog W 0 (fun _ => true) true Try.f5.params.toList args.toList ds p := hA0
  rw [Try.params5] at hA hval
  obtain ⟨v0, vs0, d0, ds0, p0, q0, hargs, rfl, rfl, h0, r0⟩ := trodAll_cons hA
  obtain ⟨v1, vs1, d1, ds1, p1, q1, rfl, rfl, rfl, h1, r1⟩ := trodAll_cons r0
  obtain ⟨v2, vs2, d2, ds2, p2, q2, rfl, rfl, rfl, h2, r2⟩ := trodAll_cons r1
  obtain ⟨rfl, rfl, rfl⟩ := trodAll_nil r2
  obtain rfl : args = #[v0, v1, v2] := by cases args; simp_all
  obtain ⟨rfl, rfl⟩ := trodVars_none hV
  have k0 := h0
  have lt0 : ∀ x ∈ p0, x.block < W.heap.size := by obtain ⟨m, hm⟩ := k0; exact DataW.trod_lt m _ _ _ hm
  obtain ⟨s0, A0, c0, rfl, z0, g0⟩ := PktOpen.open_seg (hval 0 30 v0 rfl rfl) h0
  have k1 := h1
  have lt1 : ∀ x ∈ p1, x.block < W.heap.size := by obtain ⟨m, hm⟩ := k1; exact DataW.trod_lt m _ _ _ hm
  obtain ⟨a1, rfl, _, _, w1⟩ := open_string Try.underlying9 (hval 1 9 v1 rfl rfl) h1
  have k2 := h2
  have lt2 : ∀ x ∈ p2, x.block < W.heap.size := by obtain ⟨m, hm⟩ := k2; exact DataW.trod_lt m _ _ _ hm
  obtain ⟨x2, rfl, g2⟩ := PktOpen.open_shift (hval 2 46 v2 rfl rfl) h2
  clear hA0 hval0
  refine (walk s0 A0 c0 a1 x2 W z0 g0 w1 g2).mono fun e W' ⟨he, bel⟩ => ?_
  subst he
  exact ⟨_, rfl, _, _, _, [], _, [], hW', trodAll_mk1 (shut_bool Try.underlying4 _), (trodAll_cons_mk (Below.trod laidOut (by kernel_rfl) (of_decide_eq_true (by kernel_rfl)) k0 bel lt0) (trodAll_cons_mk (Below.trod laidOut (by kernel_rfl) (of_decide_eq_true (by kernel_rfl)) k1 bel lt1) (trodAll_cons_mk (Below.trod laidOut (by kernel_rfl) (of_decide_eq_true (by kernel_rfl)) k2 bel lt2) trodAll_mk0))), rfl, bel.frame _, fun h => by cases h⟩

theorem over : Rows.pktBackRow.holds Try.pinned (OpenSpec.ofChange Rows.pktBackSpec) :=
  OpenClaim.holds_of_wide 5 Try.f5 rfl rfl rfl rfl rfl rfl rfl ⟨rfl, rfl, rfl, rfl, rfl⟩ rfl rfl rfl rfl rfl (by kernel_rfl) Try.func5 (by kernel_rfl)
    (of_decide_eq_true (by kernel_rfl)) (by unfold Func.isWrapper; first | (rw [if_pos (by decide +kernel)]; kernel_rfl) | (rw [if_neg (by decide +kernel)]; exact ⟨rfl, rfl⟩))
    (fun os started H enc _ => lifted os started H enc)

/-- The statement. -/
theorem proved : Rows.PktBackSaid := over
#print axioms proved
end Go.Proofs.Ytpmnmnflaijaaaa.pktBack
