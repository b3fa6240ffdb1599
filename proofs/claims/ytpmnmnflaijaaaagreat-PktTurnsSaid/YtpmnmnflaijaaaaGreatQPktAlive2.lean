/-
  Laws for a proof of package pkt: 2 texts in one.
-/
import Derived.Test.YtpmnmnflaijaaaaGreatQPktRwRM7
import Derived.Test.YtpmnmnflaijaaaaGreatQPktSee2
import Derived.Test.YtpmnmnflaijaaaaGreatQPktSameP3
import Derived.Test.YtpmnmnflaijaaaaGreatQPktDecP4
import Derived.Test.YtpmnmnflaijaaaaGreatQPktTdP2
import Derived.Test.YtpmnmnflaijaaaaGreatQPktRw4
import Derived.Test.YtpmnmnflaijaaaaGreatQPktNx2
import Derived.Test.YtpmnmnflaijaaaaGreatQRelG2
namespace Go.Proofs.YtpmnmnflaijaaaaGreat.PktAlive
open Go.Proofs.YtpmnmnflaijaaaaGreat.Own
open Go.RowKit TupMath SumMath Litb Calm Rel RelG IpMath IpRef OptMath OptSame OptMay OptTake5 OptTk PktMath PktVal PktSmall PktCom PktDecC PktOp PktRwM PktBox PktAlM
open Cells (CellsAt)
set_option linter.unusedVariables false
set_option linter.unusedSimpArgs false
set_option maxRecDepth 100000
attribute [local go_sem] Oper.semAt_some
theorem segL (w : World) : Calls Tryz.prog 12 #[] w fun e w' => e = .returned (sv asg none 0) ∧ Below w.heap.size w w' := by
 go_enter Tryz.func12, Tryz.ntmps12
 go_wp2_with fail
 refine bodyPost_ret (v := sv asg none 0) ?_ rfl ⟨rfl, st_alloc (Below.refl _ _) _⟩
 simp [results, Tryz.f12, go_sem, asg]
def heavy (s : Sg) : Bool := decide (4096 < s.data.size) || decide (100 < s.opts.blocks.length)
theorem heavy_no {s : Sg} (h : heavy s = false) : s.data.size ≤ 4096 ∧ s.opts.blocks.length ≤ 100 := by
 unfold heavy at h
 simp only [Bool.or_eq_false_iff, decide_eq_false_iff_not, Nat.not_lt] at h
 exact h
theorem heavyL (s : Sg) (A : Option Addr) (c : Nat) (w : World) (hd : s.data.size ≤ maxLen) : Calls Tryz.prog 4 #[sv s A c] w fun e w' => e = .returned (.bool (heavy s)) ∧ Below w.heap.size w w' := by
 have hd2 : s.data.size ≤ 9223372036854775807 := Nat.le_trans hd (by decide)
 by_cases h : 4096 < s.data.size
 · have HV : Hid (heavy s = true) := Lib.hid (by unfold heavy; rw [decide_eq_true h]; rfl)
   have q : (4096 : Int) < (s.data.size : Int) := by omega
   go_enter Tryz.func4, Tryz.ntmps4
   go_wp2_with fail
   go_ret
   exact ⟨by rw [HV.out]; rfl, st_alloc (Below.refl _ _) _⟩
 · have HV : Hid (heavy s = decide (100 < s.opts.blocks.length)) := Lib.hid (by unfold heavy; rw [decide_eq_false h]; rfl)
   have q : ¬ (4096 : Int) < (s.data.size : Int) := by omega
   have q2 : decide ((4096 : Int) < (s.data.size : Int)) = false := decide_eq_false q
   go_enter Tryz.func4, Tryz.ntmps4
   go_wp2_with fail
   go_ret
   exact ⟨by rw [HV.out]; exact congrArg (fun b => Ending.returned (.bool b)) (decide_eq_decide.2 (by omega)), st_alloc (Below.refl _ _) _⟩
theorem decX (S : ByteArray) (n : Nat) (s : Sg) (w : World) (hs : S.size ≤ 1000000) (h : dec8 S = (n, s)) : Calls Tryz.prog 13 #[.string S] w fun e w' => (∃ A c, e = .returned (.tuple #[sv s A c, .int .i64 (n : Int)]) ∧ BlkR w' A s.opts.blocks) ∧ Below w.heap.size w w' :=
 (PktDecP.decP8 S w hs).mono fun e w' hq => by
   unfold DecOut8 at hq
   rw [h] at hq
   obtain ⟨⟨A, c, he, hr⟩, hb⟩ := hq
   exact ⟨⟨A, c, he, hr.blk⟩, hb⟩
def relA (P : ByteArray) (g u : Sg) (A3 A8 : Option Addr) (c3 c8 b12 : Nat) : Nat → Value → World → Prop
 | 0 => fun v _ => v = .string P
 | 1 => fun v _ => v = .int .i64 (P.size : Int)
 | 2 => fun v _ => v = .bool true
 | 3 => fun v _ => v = .bool true
 | 4 => fun v _ => v = .int .i64 0
 | 5 => fun v _ => v = .bool true
 | 6 => fun v _ => v = .bool true
 | 7 => fun v _ => v = .bool true
 | 8 => fun v _ => v = sv g A3 c3
 | 9 => fun v _ => v = sv g none 0
 | 10 => fun v _ => v = .bool true
 | 11 => fun v _ => v = .bool true
 | 12 => fun v _ => v = .bool true
 | 13 => fun v _ => v = .int .i64 0
 | 14 => fun v _ => v = .bool true
 | 15 => fun v _ => v = .bool true
 | 16 => fun v _ => v = .bool true
 | 17 => fun v _ => v = .int .i64 50
 | 18 => fun v _ => v = .bool true
 | 19 => fun v _ => v = .bool true
 | 20 => fun v _ => v = .bool true
 | 21 => fun v _ => v = .int .i64 2
 | 22 => fun v _ => v = .bool true
 | 23 => fun v _ => v = .bool true
 | 24 => fun v _ => v = .bool true
 | 25 => fun v _ => v = .int .i64 0
 | 26 => fun v _ => v = .bool true
 | 27 => fun v _ => v = .bool true
 | 28 => fun v _ => v = .bool true
 | 29 => fun v _ => v = .int .i64 0
 | 30 => fun v _ => v = .bool true
 | 31 => fun v _ => v = .bool true
 | 32 => fun v _ => v = .bool true
 | 33 => fun v _ => v = .pointer (some ⟨b12, 4, none⟩)
 | 34 => fun v _ => v = .int .u32 (u.seq : Int)
 | 35 => fun v _ => v = .bool true
 | 36 => fun v _ => v = .bool true
 | 37 => fun v _ => v = .bool true
 | 38 => fun v _ => v = .pointer (some ⟨b12, 5, none⟩)
 | 39 => fun v _ => v = .int .u32 (u.ack : Int)
 | 40 => fun v _ => v = .bool true
 | 41 => fun v _ => v = .bool true
 | 42 => fun v _ => v = .bool true
 | 43 => fun v _ => v = .pointer (some ⟨b12, 7, none⟩)
 | 44 => fun v _ => v = .int .u16 (u.win : Int)
 | 45 => fun v _ => v = .bool true
 | 46 => fun v _ => v = .bool true
 | 47 => fun v _ => v = .bool true
 | 48 => fun v _ => v = .pointer (some ⟨b12, 2, none⟩)
 | 49 => fun v _ => v = .pointer (some ⟨b12, 3, none⟩)
 | 50 => fun v _ => v = .int .u16 (u.dport : Int)
 | 51 => fun v _ => v = .bool true
 | 52 => fun v _ => v = .bool true
 | 53 => fun v _ => v = .bool true
 | 54 => fun v _ => v = sv u A8 c8
 | 55 => fun v _ => v = sv g none 0
 | 56 => fun v _ => v = xv ash
 | 57 => fun v W => ∃ A c, v = sv u A c
 | 58 => fun v _ => v = .bool true
 | 59 => fun v _ => v = .bool true
 | 60 => fun v _ => v = .bool true
 | 61 => fun v _ => v = sv g none 0
 | 62 => fun v _ => v = .int .u32 8
 | 63 => fun v _ => v = .bool true
 | 64 => fun v _ => v = .bool true
 | 65 => fun v _ => v = .bool true
 | 66 => fun v _ => v = sv g none 0
 | 67 => fun v _ => v = .bool true
 | 68 => fun v _ => v = .bool true
 | 69 => fun v _ => v = .bool true
 | _ => fun _ _ => True
set_option maxHeartbeats 2000000 in
theorem relA_more (P : ByteArray) (g u : Sg) (A3 A8 : Option Addr) (c3 c8 b12 : Nat) (i : Nat) (v : Value) (w w' : World) (hr : relA P g u A3 A8 c3 c8 b12 i v w) (hb : Below w.heap.size w w') : relA P g u A3 A8 c3 c8 b12 i v w' := by
 unfold relA at hr ⊢
 split at hr <;> exact hr
attribute [local go_sem] relUpon
def findReg (k : Nat) : Code → Option Code
 | .region id ops d => if id = k then some (.region id ops d) else none
 | .seq a b => match findReg k a with
   | some c => some c
   | none => findReg k b
 | .loop c => findReg k c
 | .block _ c => findReg k c
 | .scope c => findReg k c
 | .cond _ a b => match findReg k a with
   | some c => some c
   | none => findReg k b
 | _ => none
noncomputable def reg8 : Code := (Tryz.f5.body.bind (findReg 8)).getD .skip
theorem lexA_defers (ops : Array Oper) (a0 : Act) (vs : Nat → Value) : ∀ k, (lexA ops a0 vs k).defers = a0.defers
 | 0 => rfl
 | k + 1 => by
   have h := lexA_defers ops a0 vs k
   unfold lexA at h ⊢
   rw [List.range_succ, List.foldl_append]
   simp only [List.foldl_cons, List.foldl_nil]
   unfold Act.put
   split <;> exact h
set_option maxHeartbeats 16000000 in
theorem alive_last (P : ByteArray) (g u : Sg) (A3 A8 : Option Addr) (c3 c8 b3 b9 b12 : Nat) (W8 : World) (hX : CellsAt W8 b3 (sc g A3 c3)) (hY : CellsAt W8 b9 (xc ash)) (hZ : CellsAt W8 b12 (sc u A8 c8))
   (h0 : ∀ W, Calls Tryz.prog 12 #[] W fun e w' => e = .returned (sv g none 0) ∧ Below W.heap.size W w')
   (h8 : ∀ A c W, Calls Tryz.prog 15 #[sv g A c, sv g none 0] W fun e w' => e = .returned (.bool true) ∧ Below W.heap.size W w')
   (h9 : ∀ W, Calls Tryz.prog 9 #[sv g none 0, xv ash] W fun e w' => (∃ A c, e = .returned (sv u A c) ∧ Row (fun b => W.heap.size ≤ b) w' A u.opts.blocks) ∧ Below W.heap.size W w')
   (h10 : ∀ A c A' c' W, Calls Tryz.prog 15 #[sv u A c, sv u A' c'] W fun e w' => e = .returned (.bool true) ∧ Below W.heap.size W w')
   (h11 : ∀ W, Calls Tryz.prog 16 #[sv g none 0] W fun e w' => e = .returned (.int .u32 ((8 : Nat) : Int)) ∧ Below W.heap.size W w')
   (h12 : ∀ W, Calls Tryz.prog 17 #[sv g none 0] W fun e w' => e = .returned (.bool true) ∧ Below W.heap.size W w')
   (q44 : ((P.size : Int) == 44) = true) (q12 : ((u.seq : Int) == 12) = true) (q0 : ((u.ack : Int) == 0) = true) (q200 : ((u.win : Int) == 200) = true) (q4 : ((u.dport : Int) == 4) = true) (hPs : P.size ≤ 9223372036854775807)
   (t0 t5 t7 t10 t14 t15 t16 t17 t18 t19 t20 t21 t22 t23 t24 t25 t26 t27 t28 t29 t30 t31 t32 t33 t34 t35 t36 t37 t38 t39 t40 t41 t42 t43 t44 t45 t46 t47 t48 t49 t50 t51 t52 t53 t54 t55 t56 t57 t58 t59 t60 t61 t62 t63 t64 t65 t66 t67 t68 t69 t70 t71 t72 t73 t74 t75 t76 t77 t78 t79 t80 t81 t82 t83 t84 t85 t86 t87 t88 t89 t90 t91 t92 t93 t94 t95 t96 t97 t98 t99 t100 t101 t102 t103 t104 t105 t106 t107 t108 t109 t110 t111 t112 t113 t114 t115 t116 : Value) (Q : Exit → Act → World → Prop) (hQ : ∀ (a : Act) W, a.tmps.getD 0 undef = .bool true → a.defers = [] → Below W8.heap.size W8 W → Q .normal a W) :
   Code.wp Tryz.prog reg8 Q ⟨#[t0, .string P, .int .i64 0, .pointer (some ⟨b3, 0, none⟩), .int .i64 0, t5, .int .i64 50, t7, .int .i64 2, .pointer (some ⟨b9, 0, none⟩), t10, .int .i64 0, .pointer (some ⟨b12, 0, none⟩), .int .i64 0, t14, t15, t16, t17, t18, t19, t20, t21, t22, t23, t24, t25, t26, t27, t28, t29, t30, t31, t32, t33, t34, t35, t36, t37, t38, t39, t40, t41, t42, t43, t44, t45, t46, t47, t48, t49, t50, t51, t52, t53, t54, t55, t56, t57, t58, t59, t60, t61, t62, t63, t64, t65, t66, t67, t68, t69, t70, t71, t72, t73, t74, t75, t76, t77, t78, t79, t80, t81, t82, t83, t84, t85, t86, t87, t88, t89, t90, t91, t92, t93, t94, t95, t96, t97, t98, t99, t100, t101, t102, t103, t104, t105, t106, t107, t108, t109, t110, t111, t112, t113, t114, t115, t116], []⟩ W8 := by
 have X9 := Lib.hid hX
 have Y8 := Lib.hid hY
 have Z8 := Lib.hid hZ
 have H0 := Lib.hid h0
 have H8 := Lib.hid h8
 have H9 := Lib.hid h9
 have H10 := Lib.hid h10
 have H11 := Lib.hid h11
 have H12 := Lib.hid h12
 have HQ := Lib.hid hQ
 clear hX hY hZ h0 h8 h9 h10 h11 h12 hQ
 conv => arg 2; whnf
 refine wp_region_seeG 117 [(3, true), (7, true), (12, true), (16, true), (20, true), (24, true), (28, true), (32, true), (37, true), (42, true), (47, true), (53, true), (60, true), (65, true)] (relA P g u A3 A8 c3 c8 b12) rfl (by kernel_rfl) (by kernel_rfl) (by kernel_rfl) (by intro p hp v w h; simp only [List.mem_cons, List.not_mem_nil, or_false] at hp; rcases hp with rfl | rfl | rfl | rfl | rfl | rfl | rfl | rfl | rfl | rfl | rfl | rfl | rfl | rfl <;> exact h) (relA_more P g u A3 A8 c3 c8 b12) ?_ ?_
 · intro i hi
   have hi2 : i < 70 := by simpa using hi
   clear hi
   match i, hi2 with
   | 0, _ =>
     intro ρ W hb hc hg hf h0 hd
     have t1 := h0 1 (by kernel_rfl)
     clear hd h0
     go_simp
     exact ⟨rfl, Below.refl _ _⟩
   | 1, _ =>
     intro ρ W hb hc hg hf h0 hd
     have d0 : ρ (.tmp 48) = .string P := hd 0 48 (by kernel_rfl) (by kernel_rfl)
     clear hd h0
     go_simp
     exact ⟨rfl, Below.refl _ _⟩
   | 2, _ =>
     intro ρ W hb hc hg hf h0 hd
     have d1 : ρ (.tmp 49) = .int .i64 (P.size : Int) := hd 1 49 (by kernel_rfl) (by kernel_rfl)
     clear hd h0
     go_simp
     exact ⟨rfl, Below.refl _ _⟩
   | 3, _ =>
     intro ρ W hb hc hg hf h0 hd
     have d2 : ρ (.tmp 50) = .bool true := hd 2 50 (by kernel_rfl) (by kernel_rfl)
     clear hd h0
     go_simp
     exact ⟨rfl, Below.refl _ _⟩
   | 4, _ =>
     intro ρ W hb hc hg hf h0 hd
     have t2 := h0 2 (by kernel_rfl)
     clear hd h0
     go_simp
     exact ⟨rfl, Below.refl _ _⟩
   | 5, _ =>
     intro ρ W hb hc hg hf h0 hd
     have d4 : ρ (.tmp 52) = .int .i64 0 := hd 4 52 (by kernel_rfl) (by kernel_rfl)
     clear hd h0
     go_simp
     exact ⟨rfl, Below.refl _ _⟩
   | 6, _ =>
     intro ρ W hb hc hg hf h0 hd
     have d3 : ρ (.tmp 51) = .bool true := hd 3 51 (by kernel_rfl) (by kernel_rfl)
     have d5 : ρ (.tmp 53) = .bool true := hd 5 53 (by kernel_rfl) (by kernel_rfl)
     clear hd h0
     go_simp
     exact ⟨rfl, Below.refl _ _⟩
   | 7, _ =>
     intro ρ W hb hc hg hf h0 hd
     have d6 : ρ (.tmp 54) = .bool true := hd 6 54 (by kernel_rfl) (by kernel_rfl)
     clear hd h0
     go_simp
     exact ⟨rfl, Below.refl _ _⟩
   | 8, _ =>
     intro ρ W hb hc hg hf h0 hd
     have t3 := h0 3 (by kernel_rfl)
     have C := X9.out.later hb
     have k0 := C.cell 0 _ rfl
     have k1 := C.cell 1 _ rfl
     have k2 := C.cell 2 _ rfl
     have k3 := C.cell 3 _ rfl
     have k4 := C.cell 4 _ rfl
     have k5 := C.cell 5 _ rfl
     have k6 := C.cell 6 _ rfl
     have k7 := C.cell 7 _ rfl
     have k8 := C.cell 8 _ rfl
     have k9 := C.cell 9 _ rfl
     have k10 := C.cell 10 _ rfl
     have k11 := C.cell 11 _ rfl
     have k12 := C.cell 12 _ rfl
     have k13 := C.cell 13 _ rfl
     have k14 := C.cell 14 _ rfl
     have k15 := C.cell 15 _ rfl
     clear hd h0
     go_simp
     exact ⟨rfl, Below.refl _ _⟩
   | 9, _ =>
     intro ρ W hb hc hg hf h0 hd
     clear hd h0
     go_simp
     exact (H0.out W).mono fun e w' ⟨he, hb⟩ => ⟨_, he, rfl, hb⟩
   | 10, _ =>
     intro ρ W hb hc hg hf h0 hd
     have d8 : ρ (.tmp 56) = sv g A3 c3 := hd 8 56 (by kernel_rfl) (by kernel_rfl)
     have d9 : ρ (.tmp 57) = sv g none 0 := hd 9 57 (by kernel_rfl) (by kernel_rfl)
     clear hd h0
     go_simp
     exact (H8.out A3 c3 W).mono fun e w' ⟨he, hb⟩ => ⟨_, he, rfl, hb⟩
   | 11, _ =>
     intro ρ W hb hc hg hf h0 hd
     have d7 : ρ (.tmp 55) = .bool true := hd 7 55 (by kernel_rfl) (by kernel_rfl)
     have d10 : ρ (.tmp 58) = .bool true := hd 10 58 (by kernel_rfl) (by kernel_rfl)
     clear hd h0
     go_simp
     exact ⟨rfl, Below.refl _ _⟩
   | 12, _ =>
     intro ρ W hb hc hg hf h0 hd
     have d11 : ρ (.tmp 59) = .bool true := hd 11 59 (by kernel_rfl) (by kernel_rfl)
     clear hd h0
     go_simp
     exact ⟨rfl, Below.refl _ _⟩
   | 13, _ =>
     intro ρ W hb hc hg hf h0 hd
     have t4 := h0 4 (by kernel_rfl)
     clear hd h0
     go_simp
     exact ⟨rfl, Below.refl _ _⟩
   | 14, _ =>
     intro ρ W hb hc hg hf h0 hd
     have d13 : ρ (.tmp 61) = .int .i64 0 := hd 13 61 (by kernel_rfl) (by kernel_rfl)
     clear hd h0
     go_simp
     exact ⟨rfl, Below.refl _ _⟩
   | 15, _ =>
     intro ρ W hb hc hg hf h0 hd
     have d12 : ρ (.tmp 60) = .bool true := hd 12 60 (by kernel_rfl) (by kernel_rfl)
     have d14 : ρ (.tmp 62) = .bool true := hd 14 62 (by kernel_rfl) (by kernel_rfl)
     clear hd h0
     go_simp
     exact ⟨rfl, Below.refl _ _⟩
   | 16, _ =>
     intro ρ W hb hc hg hf h0 hd
     have d15 : ρ (.tmp 63) = .bool true := hd 15 63 (by kernel_rfl) (by kernel_rfl)
     clear hd h0
     go_simp
     exact ⟨rfl, Below.refl _ _⟩
   | 17, _ =>
     intro ρ W hb hc hg hf h0 hd
     have t6 := h0 6 (by kernel_rfl)
     clear hd h0
     go_simp
     exact ⟨rfl, Below.refl _ _⟩
   | 18, _ =>
     intro ρ W hb hc hg hf h0 hd
     have d17 : ρ (.tmp 65) = .int .i64 50 := hd 17 65 (by kernel_rfl) (by kernel_rfl)
     clear hd h0
     go_simp
     exact ⟨rfl, Below.refl _ _⟩
   | 19, _ =>
     intro ρ W hb hc hg hf h0 hd
     have d16 : ρ (.tmp 64) = .bool true := hd 16 64 (by kernel_rfl) (by kernel_rfl)
     have d18 : ρ (.tmp 66) = .bool true := hd 18 66 (by kernel_rfl) (by kernel_rfl)
     clear hd h0
     go_simp
     exact ⟨rfl, Below.refl _ _⟩
   | 20, _ =>
     intro ρ W hb hc hg hf h0 hd
     have d19 : ρ (.tmp 67) = .bool true := hd 19 67 (by kernel_rfl) (by kernel_rfl)
     clear hd h0
     go_simp
     exact ⟨rfl, Below.refl _ _⟩
   | 21, _ =>
     intro ρ W hb hc hg hf h0 hd
     have t8 := h0 8 (by kernel_rfl)
     clear hd h0
     go_simp
     exact ⟨rfl, Below.refl _ _⟩
   | 22, _ =>
     intro ρ W hb hc hg hf h0 hd
     have d21 : ρ (.tmp 69) = .int .i64 2 := hd 21 69 (by kernel_rfl) (by kernel_rfl)
     clear hd h0
     go_simp
     exact ⟨rfl, Below.refl _ _⟩
   | 23, _ =>
     intro ρ W hb hc hg hf h0 hd
     have d20 : ρ (.tmp 68) = .bool true := hd 20 68 (by kernel_rfl) (by kernel_rfl)
     have d22 : ρ (.tmp 70) = .bool true := hd 22 70 (by kernel_rfl) (by kernel_rfl)
     clear hd h0
     go_simp
     exact ⟨rfl, Below.refl _ _⟩
   | 24, _ =>
     intro ρ W hb hc hg hf h0 hd
     have d23 : ρ (.tmp 71) = .bool true := hd 23 71 (by kernel_rfl) (by kernel_rfl)
     clear hd h0
     go_simp
     exact ⟨rfl, Below.refl _ _⟩
   | 25, _ =>
     intro ρ W hb hc hg hf h0 hd
     have t11 := h0 11 (by kernel_rfl)
     clear hd h0
     go_simp
     exact ⟨rfl, Below.refl _ _⟩
   | 26, _ =>
     intro ρ W hb hc hg hf h0 hd
     have d25 : ρ (.tmp 73) = .int .i64 0 := hd 25 73 (by kernel_rfl) (by kernel_rfl)
     clear hd h0
     go_simp
     exact ⟨rfl, Below.refl _ _⟩
   | 27, _ =>
     intro ρ W hb hc hg hf h0 hd
     have d24 : ρ (.tmp 72) = .bool true := hd 24 72 (by kernel_rfl) (by kernel_rfl)
     have d26 : ρ (.tmp 74) = .bool true := hd 26 74 (by kernel_rfl) (by kernel_rfl)
     clear hd h0
     go_simp
     exact ⟨rfl, Below.refl _ _⟩
   | 28, _ =>
     intro ρ W hb hc hg hf h0 hd
     have d27 : ρ (.tmp 75) = .bool true := hd 27 75 (by kernel_rfl) (by kernel_rfl)
     clear hd h0
     go_simp
     exact ⟨rfl, Below.refl _ _⟩
   | 29, _ =>
     intro ρ W hb hc hg hf h0 hd
     have t13 := h0 13 (by kernel_rfl)
     clear hd h0
     go_simp
     exact ⟨rfl, Below.refl _ _⟩
   | 30, _ =>
     intro ρ W hb hc hg hf h0 hd
     have d29 : ρ (.tmp 77) = .int .i64 0 := hd 29 77 (by kernel_rfl) (by kernel_rfl)
     clear hd h0
     go_simp
     exact ⟨rfl, Below.refl _ _⟩
   | 31, _ =>
     intro ρ W hb hc hg hf h0 hd
     have d28 : ρ (.tmp 76) = .bool true := hd 28 76 (by kernel_rfl) (by kernel_rfl)
     have d30 : ρ (.tmp 78) = .bool true := hd 30 78 (by kernel_rfl) (by kernel_rfl)
     clear hd h0
     go_simp
     exact ⟨rfl, Below.refl _ _⟩
   | 32, _ =>
     intro ρ W hb hc hg hf h0 hd
     have d31 : ρ (.tmp 79) = .bool true := hd 31 79 (by kernel_rfl) (by kernel_rfl)
     clear hd h0
     go_simp
     exact ⟨rfl, Below.refl _ _⟩
   | 33, _ =>
     intro ρ W hb hc hg hf h0 hd
     have t12 := h0 12 (by kernel_rfl)
     clear hd h0
     go_simp
     exact ⟨rfl, Below.refl _ _⟩
   | 34, _ =>
     intro ρ W hb hc hg hf h0 hd
     have d33 : ρ (.tmp 81) = .pointer (some ⟨b12, 4, none⟩) := hd 33 81 (by kernel_rfl) (by kernel_rfl)
     have k4 := (Z8.out.later hb).cell 4 _ rfl
     clear hd h0
     go_simp
     exact ⟨rfl, Below.refl _ _⟩
   | 35, _ =>
     intro ρ W hb hc hg hf h0 hd
     have d34 : ρ (.tmp 82) = .int .u32 (u.seq : Int) := hd 34 82 (by kernel_rfl) (by kernel_rfl)
     clear hd h0
     go_simp
     exact ⟨rfl, Below.refl _ _⟩
   | 36, _ =>
     intro ρ W hb hc hg hf h0 hd
     have d32 : ρ (.tmp 80) = .bool true := hd 32 80 (by kernel_rfl) (by kernel_rfl)
     have d35 : ρ (.tmp 83) = .bool true := hd 35 83 (by kernel_rfl) (by kernel_rfl)
     clear hd h0
     go_simp
     exact ⟨rfl, Below.refl _ _⟩
   | 37, _ =>
     intro ρ W hb hc hg hf h0 hd
     have d36 : ρ (.tmp 84) = .bool true := hd 36 84 (by kernel_rfl) (by kernel_rfl)
     clear hd h0
     go_simp
     exact ⟨rfl, Below.refl _ _⟩
   | 38, _ =>
     intro ρ W hb hc hg hf h0 hd
     have t12 := h0 12 (by kernel_rfl)
     clear hd h0
     go_simp
     exact ⟨rfl, Below.refl _ _⟩
   | 39, _ =>
     intro ρ W hb hc hg hf h0 hd
     have d38 : ρ (.tmp 86) = .pointer (some ⟨b12, 5, none⟩) := hd 38 86 (by kernel_rfl) (by kernel_rfl)
     have k5 := (Z8.out.later hb).cell 5 _ rfl
     clear hd h0
     go_simp
     exact ⟨rfl, Below.refl _ _⟩
   | 40, _ =>
     intro ρ W hb hc hg hf h0 hd
     have d39 : ρ (.tmp 87) = .int .u32 (u.ack : Int) := hd 39 87 (by kernel_rfl) (by kernel_rfl)
     clear hd h0
     go_simp
     exact ⟨rfl, Below.refl _ _⟩
   | 41, _ =>
     intro ρ W hb hc hg hf h0 hd
     have d37 : ρ (.tmp 85) = .bool true := hd 37 85 (by kernel_rfl) (by kernel_rfl)
     have d40 : ρ (.tmp 88) = .bool true := hd 40 88 (by kernel_rfl) (by kernel_rfl)
     clear hd h0
     go_simp
     exact ⟨rfl, Below.refl _ _⟩
   | 42, _ =>
     intro ρ W hb hc hg hf h0 hd
     have d41 : ρ (.tmp 89) = .bool true := hd 41 89 (by kernel_rfl) (by kernel_rfl)
     clear hd h0
     go_simp
     exact ⟨rfl, Below.refl _ _⟩
   | 43, _ =>
     intro ρ W hb hc hg hf h0 hd
     have t12 := h0 12 (by kernel_rfl)
     clear hd h0
     go_simp
     exact ⟨rfl, Below.refl _ _⟩
   | 44, _ =>
     intro ρ W hb hc hg hf h0 hd
     have d43 : ρ (.tmp 91) = .pointer (some ⟨b12, 7, none⟩) := hd 43 91 (by kernel_rfl) (by kernel_rfl)
     have k7 := (Z8.out.later hb).cell 7 _ rfl
     clear hd h0
     go_simp
     exact ⟨rfl, Below.refl _ _⟩
   | 45, _ =>
     intro ρ W hb hc hg hf h0 hd
     have d44 : ρ (.tmp 92) = .int .u16 (u.win : Int) := hd 44 92 (by kernel_rfl) (by kernel_rfl)
     clear hd h0
     go_simp
     exact ⟨rfl, Below.refl _ _⟩
   | 46, _ =>
     intro ρ W hb hc hg hf h0 hd
     have d42 : ρ (.tmp 90) = .bool true := hd 42 90 (by kernel_rfl) (by kernel_rfl)
     have d45 : ρ (.tmp 93) = .bool true := hd 45 93 (by kernel_rfl) (by kernel_rfl)
     clear hd h0
     go_simp
     exact ⟨rfl, Below.refl _ _⟩
   | 47, _ =>
     intro ρ W hb hc hg hf h0 hd
     have d46 : ρ (.tmp 94) = .bool true := hd 46 94 (by kernel_rfl) (by kernel_rfl)
     clear hd h0
     go_simp
     exact ⟨rfl, Below.refl _ _⟩
   | 48, _ =>
     intro ρ W hb hc hg hf h0 hd
     have t12 := h0 12 (by kernel_rfl)
     clear hd h0
     go_simp
     exact ⟨rfl, Below.refl _ _⟩
   | 49, _ =>
     intro ρ W hb hc hg hf h0 hd
     have d48 : ρ (.tmp 96) = .pointer (some ⟨b12, 2, none⟩) := hd 48 96 (by kernel_rfl) (by kernel_rfl)
     clear hd h0
     go_simp
     exact ⟨rfl, Below.refl _ _⟩
   | 50, _ =>
     intro ρ W hb hc hg hf h0 hd
     have d49 : ρ (.tmp 97) = .pointer (some ⟨b12, 3, none⟩) := hd 49 97 (by kernel_rfl) (by kernel_rfl)
     have k3 := (Z8.out.later hb).cell 3 _ rfl
     clear hd h0
     go_simp
     exact ⟨rfl, Below.refl _ _⟩
   | 51, _ =>
     intro ρ W hb hc hg hf h0 hd
     have d50 : ρ (.tmp 98) = .int .u16 (u.dport : Int) := hd 50 98 (by kernel_rfl) (by kernel_rfl)
     clear hd h0
     go_simp
     exact ⟨rfl, Below.refl _ _⟩
   | 52, _ =>
     intro ρ W hb hc hg hf h0 hd
     have d47 : ρ (.tmp 95) = .bool true := hd 47 95 (by kernel_rfl) (by kernel_rfl)
     have d51 : ρ (.tmp 99) = .bool true := hd 51 99 (by kernel_rfl) (by kernel_rfl)
     clear hd h0
     go_simp
     exact ⟨rfl, Below.refl _ _⟩
   | 53, _ =>
     intro ρ W hb hc hg hf h0 hd
     have d52 : ρ (.tmp 100) = .bool true := hd 52 100 (by kernel_rfl) (by kernel_rfl)
     clear hd h0
     go_simp
     exact ⟨rfl, Below.refl _ _⟩
   | 54, _ =>
     intro ρ W hb hc hg hf h0 hd
     have t12 := h0 12 (by kernel_rfl)
     have C := Z8.out.later hb
     have k0 := C.cell 0 _ rfl
     have k1 := C.cell 1 _ rfl
     have k2 := C.cell 2 _ rfl
     have k3 := C.cell 3 _ rfl
     have k4 := C.cell 4 _ rfl
     have k5 := C.cell 5 _ rfl
     have k6 := C.cell 6 _ rfl
     have k7 := C.cell 7 _ rfl
     have k8 := C.cell 8 _ rfl
     have k9 := C.cell 9 _ rfl
     have k10 := C.cell 10 _ rfl
     have k11 := C.cell 11 _ rfl
     have k12 := C.cell 12 _ rfl
     have k13 := C.cell 13 _ rfl
     have k14 := C.cell 14 _ rfl
     have k15 := C.cell 15 _ rfl
     clear hd h0
     go_simp
     exact ⟨rfl, Below.refl _ _⟩
   | 55, _ =>
     intro ρ W hb hc hg hf h0 hd
     clear hd h0
     go_simp
     exact (H0.out W).mono fun e w' ⟨he, hb⟩ => ⟨_, he, rfl, hb⟩
   | 56, _ =>
     intro ρ W hb hc hg hf h0 hd
     have t9 := h0 9 (by kernel_rfl)
     have C := Y8.out.later hb
     have k0 := C.cell 0 _ rfl
     have k1 := C.cell 1 _ rfl
     have k2 := C.cell 2 _ rfl
     have k3 := C.cell 3 _ rfl
     have k4 := C.cell 4 _ rfl
     have k5 := C.cell 5 _ rfl
     have k6 := C.cell 6 _ rfl
     have k7 := C.cell 7 _ rfl
     have k8 := C.cell 8 _ rfl
     have k9 := C.cell 9 _ rfl
     clear hd h0
     go_simp
     exact ⟨rfl, Below.refl _ _⟩
   | 57, _ =>
     intro ρ W hb hc hg hf h0 hd
     have d55 : ρ (.tmp 103) = sv g none 0 := hd 55 103 (by kernel_rfl) (by kernel_rfl)
     have d56 : ρ (.tmp 104) = xv ash := hd 56 104 (by kernel_rfl) (by kernel_rfl)
     clear hd h0
     go_simp
     exact (H9.out W).mono fun e w' hq => by obtain ⟨⟨A, c, he, _⟩, hb⟩ := hq; exact ⟨_, he, ⟨A, c, rfl⟩, hb⟩
   | 58, _ =>
     intro ρ W hb hc hg hf h0 hd
     have d54 : ρ (.tmp 102) = sv u A8 c8 := hd 54 102 (by kernel_rfl) (by kernel_rfl)
     have dp57 : ∃ A c, (ρ (.tmp 105)) = sv u A c := hd 57 105 (by kernel_rfl) (by kernel_rfl)
     obtain ⟨A', c', dp57⟩ := dp57
     clear hd h0
     go_simp
     exact (H10.out A8 c8 A' c' W).mono fun e w' ⟨he, hb⟩ => ⟨_, he, rfl, hb⟩
   | 59, _ =>
     intro ρ W hb hc hg hf h0 hd
     have d53 : ρ (.tmp 101) = .bool true := hd 53 101 (by kernel_rfl) (by kernel_rfl)
     have d58 : ρ (.tmp 106) = .bool true := hd 58 106 (by kernel_rfl) (by kernel_rfl)
     clear hd h0
     go_simp
     exact ⟨rfl, Below.refl _ _⟩
   | 60, _ =>
     intro ρ W hb hc hg hf h0 hd
     have d59 : ρ (.tmp 107) = .bool true := hd 59 107 (by kernel_rfl) (by kernel_rfl)
     clear hd h0
     go_simp
     exact ⟨rfl, Below.refl _ _⟩
   | 61, _ =>
     intro ρ W hb hc hg hf h0 hd
     clear hd h0
     go_simp
     exact (H0.out W).mono fun e w' ⟨he, hb⟩ => ⟨_, he, rfl, hb⟩
   | 62, _ =>
     intro ρ W hb hc hg hf h0 hd
     have d61 : ρ (.tmp 109) = sv g none 0 := hd 61 109 (by kernel_rfl) (by kernel_rfl)
     clear hd h0
     go_simp
     exact (H11.out W).mono fun e w' ⟨he, hb⟩ => ⟨_, he, rfl, hb⟩
   | 63, _ =>
     intro ρ W hb hc hg hf h0 hd
     have d62 : ρ (.tmp 110) = .int .u32 8 := hd 62 110 (by kernel_rfl) (by kernel_rfl)
     clear hd h0
     go_simp
     exact ⟨rfl, Below.refl _ _⟩
   | 64, _ =>
     intro ρ W hb hc hg hf h0 hd
     have d60 : ρ (.tmp 108) = .bool true := hd 60 108 (by kernel_rfl) (by kernel_rfl)
     have d63 : ρ (.tmp 111) = .bool true := hd 63 111 (by kernel_rfl) (by kernel_rfl)
     clear hd h0
     go_simp
     exact ⟨rfl, Below.refl _ _⟩
   | 65, _ =>
     intro ρ W hb hc hg hf h0 hd
     have d64 : ρ (.tmp 112) = .bool true := hd 64 112 (by kernel_rfl) (by kernel_rfl)
     clear hd h0
     go_simp
     exact ⟨rfl, Below.refl _ _⟩
   | 66, _ =>
     intro ρ W hb hc hg hf h0 hd
     clear hd h0
     go_simp
     exact (H0.out W).mono fun e w' ⟨he, hb⟩ => ⟨_, he, rfl, hb⟩
   | 67, _ =>
     intro ρ W hb hc hg hf h0 hd
     have d66 : ρ (.tmp 114) = sv g none 0 := hd 66 114 (by kernel_rfl) (by kernel_rfl)
     clear hd h0
     go_simp
     exact (H12.out W).mono fun e w' ⟨he, hb⟩ => ⟨_, he, rfl, hb⟩
   | 68, _ =>
     intro ρ W hb hc hg hf h0 hd
     have d65 : ρ (.tmp 113) = .bool true := hd 65 113 (by kernel_rfl) (by kernel_rfl)
     have d67 : ρ (.tmp 115) = .bool true := hd 67 115 (by kernel_rfl) (by kernel_rfl)
     clear hd h0
     go_simp
     exact ⟨rfl, Below.refl _ _⟩
   | 69, _ =>
     intro ρ W hb hc hg hf h0 hd
     have d68 : ρ (.tmp 116) = .bool true := hd 68 116 (by kernel_rfl) (by kernel_rfl)
     clear hd h0
     go_simp
     exact ⟨rfl, Below.refl _ _⟩
   | i + 70, hlt => exact absurd hlt (by omega)
 · intro vs W hb hall
   exact HQ.out _ W ((lexA_get (N := 117) (by kernel_rfl) rfl vs 0 69 _ (by kernel_rfl) (of_decide_eq_true (by kernel_rfl))).trans (hall 69 (of_decide_eq_true (by kernel_rfl)))) (lexA_defers _ _ _ _) hb
end Go.Proofs.YtpmnmnflaijaaaaGreat.PktAlive
namespace Go.Proofs.YtpmnmnflaijaaaaGreat.PktAlive
open Go.Proofs.YtpmnmnflaijaaaaGreat.Own
open Go.RowKit TupMath SumMath Litb Calm Rel RelG IpMath IpRef OptMath OptSame OptMay OptTake5 OptTk PktMath PktVal PktSmall PktCom PktDecC PktOp PktRwM PktBox PktAlM
open Cells (CellsAt)
set_option linter.unusedVariables false
set_option linter.unusedSimpArgs false
set_option maxRecDepth 100000
attribute [local go_sem] Oper.semAt_some
set_option maxHeartbeats 16000000 in
theorem alive_any (w : World) : Calls Tryz.prog 5 #[] w fun e w' => e = .returned (.bool true) ∧ Below w.heap.size w w' := by
 have H0 := Lib.hid (fun W => segL W)
 have H1 := fun W => PktEncP.encP8 asg none 0 W (BlkR.nil _ _) asg_ok (by decide)
 rw [asg_enc] at H1
 have H1 := Lib.hid H1
 have hP := asg_size
 have H2 := Lib.hid (fun W => decX (ofB (pk asg)) 0 asg W (by rw [asg_size]; decide) asg_dec)
 have H3 : Hid (∀ W, Calls Tryz.prog 13 #[.string ⟨#[]⟩] W fun e w' => (∃ A c, e = .returned (.tuple #[sv zeroS A c, .int .i64 50]) ∧ BlkR w' A zeroS.opts.blocks) ∧ Below W.heap.size W w') := Lib.hid (fun W => decX ⟨#[]⟩ 50 zeroS W (by decide) none_dec)
 have H4 : Hid (∀ W, Calls Tryz.prog 14 #[] W fun e w' => e = .returned (.agg #[.int .u16 0, .int .i64 (-1), .bool false, .slice none 0 0, .bool false, .int .u32 0, .int .u32 0]) ∧ Below W.heap.size W w') := Lib.hid (fun W => OptP.noneP W)
 have H5 : Hid (∀ W, Calls Tryz.prog 11 #[.agg #[.int .u32 0, .int .u16 0, .int .u32 0, .int .u16 0, .int .u32 0, .int .u32 0, .int .u8 3, .int .u16 0, .int .u16 0, .int .i64 (-1), .bool false, .slice none 0 0, .bool false, .int .u32 0, .int .u32 0, .string ⟨#[]⟩]] W fun e w' => e = .returned (.tuple #[.string ⟨#[]⟩, .int .i64 2]) ∧ Below W.heap.size W w') := Lib.hid (fun W => by
   have q := PktEncP.encP8 ahu none 0 W (BlkR.nil _ _) ahu_ok (by decide)
   rw [ahu_enc] at q
   exact q)
 have H6 := fun W => PktRw.rewP (ofB (pk asg)) ash W (by rw [asg_size]; decide) ash_ok (by decide) (by decide) (by decide) (by decide)
 rw [asg_rew] at H6
 have H6 := Lib.hid H6
 have H7 := Lib.hid (fun W => decX (ofB (rewS (ofB (pk asg)) ash)) 0 (turned asg ash) W (by rw [asg_size2]; decide) asg_redec)
 have H9 := Lib.hid (fun W => PktTdP.turnedP8 asg none 0 ash W (BlkR.nil _ _) asg_ok (by decide) (by decide) ash_ok (by decide) (by decide) (by decide) (by decide))
 have H8 := fun A c W => PktSameP.sameP8 asg asg A c none 0 W (BlkR.nil _ _) (BlkR.nil _ _) (by decide) (by decide)
 rw [sameS_yes rfl] at H8
 have H8 := Lib.hid H8
 have H10 := fun A c A' c' W => PktSameP.sameP8 (turned asg ash) (turned asg ash) A c A' c' W (BlkR.nil _ _) (BlkR.nil _ _) (by decide) (by decide)
 rw [sameS_yes rfl] at H10
 have H10 := Lib.hid H10
 have H11 := fun W => PktNx.nextP asg none 0 W asg_ok (by decide)
 rw [show nxt asg = 8 from by decide +kernel] at H11
 have H11 := Lib.hid H11
 have H12 := fun W => PktMayP.mayP8 asg none 0 W (BlkR.nil _ _) asg_ok (by decide)
 rw [asg_mayS] at H12
 have H12 := Lib.hid H12
 obtain ⟨u1, u2, u3, u4⟩ := asg_turned
 have q44 : (((ofB (pk asg)).size : Int) == 44) = true := by rw [hP]; rfl
 have q12 : (((turned asg ash).seq : Int) == 12) = true := by rw [u1]; rfl
 have q0 : (((turned asg ash).ack : Int) == 0) = true := by rw [u2]; rfl
 have q200 : (((turned asg ash).win : Int) == 200) = true := by rw [u3]; rfl
 have q4 : (((turned asg ash).dport : Int) == 4) = true := by rw [u4]; rfl
 have hPs : (ofB (pk asg)).size ≤ 9223372036854775807 := by omega
 generalize turned asg ash = u at H7 H9 H10 q12 q0 q200 q4
 generalize ofB (rewS (ofB (pk asg)) ash) = T at H6 H7
 generalize ofB (pk asg) = P at H1 H2 H6 q44 hPs
 generalize asg = g at H0 H1 H2 H8 H9 H11 H12
 generalize zeroS = z at H3
 clear u1 u2 u3 u4 hP
 go_enter Tryz.func5, Tryz.ntmps5
 go_wp2_with fail
 refine (H0.out _).mono ?_
 rintro e w1 ⟨rfl, hb⟩
 have B1 := Lib.hid hb
 clear hb
 go_wp2_with fail
 refine (H1.out _).mono ?_
 rintro e w2 ⟨rfl, hb⟩
 have B2 := Lib.hid (st_call B1.out hb)
 clear hb
 go_wp2_with fail
 refine (H2.out _).mono ?_
 rintro e w3 ⟨⟨A3, c3, rfl, -⟩, hb⟩
 have B3 := Lib.hid (st_alloc (st_call B2.out hb) (.cells (sc g A3 c3) 30))
 have X3 := Lib.hid (CellsAt.new w3 (sc g A3 c3) 30)
 clear hb
 go_wp2_with fail
 refine (H3.out _).mono ?_
 rintro e w4 ⟨⟨A4, c4, rfl, -⟩, hb⟩
 have B4 := Lib.hid (st_alloc (st_call B3.out hb) (.cells (sc z A4 c4) 30))
 have X4 := Lib.hid ((X3.out.later hb).later ((Below.refl _ w4).alloc (Nat.le_refl _) (.cells (sc z A4 c4) 30)))
 clear hb
 go_wp2_with fail
 refine (H4.out _).mono ?_
 rintro e w5 ⟨rfl, hb⟩
 have B5 := Lib.hid (st_call B4.out hb)
 have X5 := Lib.hid (X4.out.later hb)
 clear hb
 go_wp2_with fail
 refine (H5.out _).mono ?_
 rintro e w6 ⟨rfl, hb⟩
 have B6 := Lib.hid (st_alloc (st_call B5.out hb) (.cells #[.int .u32 1, .int .u16 2, .int .u32 3, .int .u16 4, .int .u32 5, .int .u32 6, .int .u32 0, .int .u32 0, .int .i64 1, .int .i64 0] 32))
 have X6 := Lib.hid ((X5.out.later hb).later ((Below.refl _ w6).alloc (Nat.le_refl _) (.cells #[.int .u32 1, .int .u16 2, .int .u32 3, .int .u16 4, .int .u32 5, .int .u32 6, .int .u32 0, .int .u32 0, .int .i64 1, .int .i64 0] 32)))
 have Y6 : CellsAt (w6.alloc (.cells #[.int .u32 1, .int .u16 2, .int .u32 3, .int .u16 4, .int .u32 5, .int .u32 6, .int .u32 0, .int .u32 0, .int .i64 1, .int .i64 0] 32)) w6.heap.size (xc ash) := CellsAt.new w6 #[.int .u32 1, .int .u16 2, .int .u32 3, .int .u16 4, .int .u32 5, .int .u32 6, .int .u32 0, .int .u32 0, .int .i64 1, .int .i64 0] 32
 clear hb
 go_wp2_with (first | (refine step_seg rfl _ rfl _ rfl _ _ _ (by assumption) ?_) | (refine step_shift rfl _ rfl _ rfl _ (by assumption) ?_))
 refine (H6.out _).mono ?_
 rintro e w7 ⟨rfl, hb⟩
 have B7 := Lib.hid (st_call B6.out hb)
 have X7 := Lib.hid (X6.out.later hb)
 have Y7 := Lib.hid (Y6.later hb)
 clear hb Y6
 go_wp2_with fail
 refine (H7.out _).mono ?_
 rintro e w8 ⟨⟨A8, c8, rfl, -⟩, hb⟩
 have B8 := Lib.hid (st_alloc (st_call B7.out hb) (.cells (sc u A8 c8) 30))
 have X9 := Lib.hid ((X7.out.later hb).later ((Below.refl _ w8).alloc (Nat.le_refl _) (.cells (sc u A8 c8) 30)))
 have Y8 := Lib.hid ((Y7.out.later hb).later ((Below.refl _ w8).alloc (Nat.le_refl _) (.cells (sc u A8 c8) 30)))
 have Z8 := Lib.hid (CellsAt.new w8 (sc u A8 c8) 30)
 clear hb X4 X5 X6 X7 Y7
 obtain ⟨b3, hb3⟩ : ∃ b3, w3.heap.size = b3 := ⟨_, rfl⟩
 obtain ⟨b9, hb9⟩ : ∃ b9, w6.heap.size = b9 := ⟨_, rfl⟩
 obtain ⟨b12, hb12⟩ : ∃ b12, w8.heap.size = b12 := ⟨_, rfl⟩
 rw [hb3] at X9
 rw [hb9] at Y8
 rw [hb12] at Z8
 go_upto_region 8 with fail
 (try rw [hb3])
 (try rw [hb9])
 (try rw [hb12])
 obtain ⟨W8, hW8⟩ : ∃ W8, w8.alloc (.cells (sc u A8 c8) 30) = W8 := ⟨_, rfl⟩
 rw [hW8] at B8 X9 Y8 Z8 ⊢
 clear hW8 hb3 hb9 hb12
 refine alive_last P g u A3 A8 c3 c8 b3 b9 b12 W8 X9.out Y8.out Z8.out H0.out H8.out H9.out H10.out H11.out H12.out q44 q12 q0 q200 q4 hPs _ _ _ _ _ _ _ _ _ _ _ _ _ _ _ _ _ _ _ _ _ _ _ _ _ _ _ _ _ _ _ _ _ _ _ _ _ _ _ _ _ _ _ _ _ _ _ _ _ _ _ _ _ _ _ _ _ _ _ _ _ _ _ _ _ _ _ _ _ _ _ _ _ _ _ _ _ _ _ _ _ _ _ _ _ _ _ _ _ _ _ _ _ _ _ _ _ _ _ _ _ _ _ _ _ _ _ _ ?_
 intro a W ha hd hb
 have B9 := Lib.hid (st_call B8.out hb)
 clear hb
 show (_ : Act → World → Prop) a W
 rename_i hK
 refine hK _ _ ?_
 go_wp2
 refine bodyPost_ret (v := .bool true) ?_ hd ⟨rfl, B9.out⟩
 exact (results_tmp rfl _ _ _).trans (congrArg (Result.ok · W) ha)
end Go.Proofs.YtpmnmnflaijaaaaGreat.PktAlive
