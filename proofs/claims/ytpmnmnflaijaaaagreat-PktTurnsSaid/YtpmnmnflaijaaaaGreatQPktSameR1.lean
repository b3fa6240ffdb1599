/-
  Laws for a proof of package pkt: 1 texts in one.
-/
import Derived.Test.YtpmnmnflaijaaaaGreatQOptTurn10
import Derived.Test.YtpmnmnflaijaaaaGreatQOptFew9
namespace Go.Proofs.YtpmnmnflaijaaaaGreat.PktSameR
open Go.Proofs.YtpmnmnflaijaaaaGreat.Own
open Go.RowKit TupMath SumMath Litb Calm Rel RelT RelK IpMath IpRef OptMath OptRef OptPlc OptSame Boxes OptMay PktMath PktVal PktSmall PktCom
set_option linter.unusedVariables false
set_option linter.unusedSimpArgs false
set_option maxRecDepth 100000
attribute [local go_sem] Oper.semAt_some
set_option maxHeartbeats 16000000 in
theorem sameR8 (s t : Sg) (A : Option Addr) (c : Nat) (Q : Option Addr) (q : Nat) (w : World) (hA : BlkR w A s.opts.blocks) (hQ : BlkR w Q t.opts.blocks) (lA : s.opts.blocks.length ≤ 1000000) (lQ : t.opts.blocks.length ≤ 1000000) :
   Calls Tryz.prog 8 #[sv s A c, sv t Q q] w fun e w' => e = .returned (.bool (sameS s t)) ∧ Below w.heap.size w w' := by
 have HBE := Lib.hid (st_alloc (st_alloc (Below.refl _ w) (.cells (sc s A c) 30)) (.cells (sc t Q q) 30))
 have HA := Lib.hid (hA.more HBE.out)
 have HQ := Lib.hid (hQ.more HBE.out)
 have HZ : Hid (((w.alloc (.cells (sc s A c) 30)).alloc (.cells (sc t Q q) 30)).heap.size = w.heap.size + 2) := Lib.hid (by simp)
 have HX := Lib.hid (fun (j : Nat) (v : Value) (hv : (sc s A c)[j]? = some v) => ((((Below.refl _ _).alloc (Nat.le_refl _) (.cells (sc t Q q) 30)).cell (p := ⟨w.heap.size, j, none⟩) (by simp)).trans (World.cell?_alloc_mark w (sc s A c) 30 (0, 0) j)).trans hv)
 have HY := Lib.hid (fun (j : Nat) (v : Value) (hv : (sc t Q q)[j]? = some v) => by
   have h := (World.cell?_alloc_mark (w.alloc (.cells (sc s A c) 30)) (sc t Q q) 30 (0, 0) j).trans hv
   rw [World.size_alloc] at h
   exact h)
 clear hA hQ
 by_cases c0 : s.sip = t.sip
 rotate_left
 · rw [sameS_no (s := s) (t := t) (fun e => c0 (by rw [e]))]
   have q0 : ((s.sip : Int) == (t.sip : Int)) = false := beq_eq_false_iff_ne.2 (by omega)
   clear c0
   go_enter Tryz.func8, Tryz.ntmps8
   go_wp2_with fail
   go_ret
   exact ⟨rfl, st_alloc (st_alloc (Below.refl _ _) _) _⟩
 have q0 : ((s.sip : Int) == (t.sip : Int)) = true := beq_iff_eq.2 (by omega)
 by_cases c1 : s.sport = t.sport
 rotate_left
 · rw [sameS_no (s := s) (t := t) (fun e => c1 (by rw [e]))]
   have q1 : ((s.sport : Int) == (t.sport : Int)) = false := beq_eq_false_iff_ne.2 (by omega)
   clear c1
   go_enter Tryz.func8, Tryz.ntmps8
   go_wp2_with fail
   go_ret
   exact ⟨rfl, st_alloc (st_alloc (Below.refl _ _) _) _⟩
 have q1 : ((s.sport : Int) == (t.sport : Int)) = true := beq_iff_eq.2 (by omega)
 by_cases c2 : s.dip = t.dip
 rotate_left
 · rw [sameS_no (s := s) (t := t) (fun e => c2 (by rw [e]))]
   have q2 : ((s.dip : Int) == (t.dip : Int)) = false := beq_eq_false_iff_ne.2 (by omega)
   clear c2
   go_enter Tryz.func8, Tryz.ntmps8
   go_wp2_with fail
   go_ret
   exact ⟨rfl, st_alloc (st_alloc (Below.refl _ _) _) _⟩
 have q2 : ((s.dip : Int) == (t.dip : Int)) = true := beq_iff_eq.2 (by omega)
 by_cases c3 : s.dport = t.dport
 rotate_left
 · rw [sameS_no (s := s) (t := t) (fun e => c3 (by rw [e]))]
   have q3 : ((s.dport : Int) == (t.dport : Int)) = false := beq_eq_false_iff_ne.2 (by omega)
   clear c3
   go_enter Tryz.func8, Tryz.ntmps8
   go_wp2_with fail
   go_ret
   exact ⟨rfl, st_alloc (st_alloc (Below.refl _ _) _) _⟩
 have q3 : ((s.dport : Int) == (t.dport : Int)) = true := beq_iff_eq.2 (by omega)
 by_cases c4 : s.seq = t.seq
 rotate_left
 · rw [sameS_no (s := s) (t := t) (fun e => c4 (by rw [e]))]
   have q4 : ((s.seq : Int) == (t.seq : Int)) = false := beq_eq_false_iff_ne.2 (by omega)
   clear c4
   go_enter Tryz.func8, Tryz.ntmps8
   go_wp2_with fail
   go_ret
   exact ⟨rfl, st_alloc (st_alloc (Below.refl _ _) _) _⟩
 have q4 : ((s.seq : Int) == (t.seq : Int)) = true := beq_iff_eq.2 (by omega)
 by_cases c5 : s.ack = t.ack
 rotate_left
 · rw [sameS_no (s := s) (t := t) (fun e => c5 (by rw [e]))]
   have q5 : ((s.ack : Int) == (t.ack : Int)) = false := beq_eq_false_iff_ne.2 (by omega)
   clear c5
   go_enter Tryz.func8, Tryz.ntmps8
   go_wp2_with fail
   go_ret
   exact ⟨rfl, st_alloc (st_alloc (Below.refl _ _) _) _⟩
 have q5 : ((s.ack : Int) == (t.ack : Int)) = true := beq_iff_eq.2 (by omega)
 by_cases c6 : s.flags = t.flags
 rotate_left
 · rw [sameS_no (s := s) (t := t) (fun e => c6 (by rw [e]))]
   have q6 : ((s.flags : Int) == (t.flags : Int)) = false := beq_eq_false_iff_ne.2 (by omega)
   clear c6
   go_enter Tryz.func8, Tryz.ntmps8
   go_wp2_with fail
   go_ret
   exact ⟨rfl, st_alloc (st_alloc (Below.refl _ _) _) _⟩
 have q6 : ((s.flags : Int) == (t.flags : Int)) = true := beq_iff_eq.2 (by omega)
 by_cases c7 : s.win = t.win
 rotate_left
 · rw [sameS_no (s := s) (t := t) (fun e => c7 (by rw [e]))]
   have q7 : ((s.win : Int) == (t.win : Int)) = false := beq_eq_false_iff_ne.2 (by omega)
   clear c7
   go_enter Tryz.func8, Tryz.ntmps8
   go_wp2_with fail
   go_ret
   exact ⟨rfl, st_alloc (st_alloc (Below.refl _ _) _) _⟩
 have q7 : ((s.win : Int) == (t.win : Int)) = true := beq_iff_eq.2 (by omega)
 have HC := Lib.hid (And.intro c0 (And.intro c1 (And.intro c2 (And.intro c3 (And.intro c4 (And.intro c5 (And.intro c6 c7)))))))
 have HM : Hid (s.opts = t.opts → s.data = t.data → sameS s t = true) := Lib.hid (fun h1 h2 => sameS_yes (by
   obtain ⟨a1, a2, a3, a4, a5, a6, a7, a8, a9, a10⟩ := s
   obtain ⟨b1, b2, b3, b4, b5, b6, b7, b8, b9, b10⟩ := t
   simp only at c0 c1 c2 c3 c4 c5 c6 c7 h1 h2
   subst c0 c1 c2 c3 c4 c5 c6 c7 h1 h2
   rfl))
 clear c0 c1 c2 c3 c4 c5 c6 c7 HC
 have x8 : ((w.alloc (.cells (sc s A c) 30)).alloc (.cells (sc t Q q) 30)).cell? ⟨w.heap.size, 8, none⟩ = some (.int .u16 (s.opts.mss : Int)) := HX.out 8 _ rfl
 have x9 : ((w.alloc (.cells (sc s A c) 30)).alloc (.cells (sc t Q q) 30)).cell? ⟨w.heap.size, 9, none⟩ = some (.int .i64 s.opts.scale) := HX.out 9 _ rfl
 have x10 : ((w.alloc (.cells (sc s A c) 30)).alloc (.cells (sc t Q q) 30)).cell? ⟨w.heap.size, 10, none⟩ = some (.bool s.opts.sack) := HX.out 10 _ rfl
 have x11 : ((w.alloc (.cells (sc s A c) 30)).alloc (.cells (sc t Q q) 30)).cell? ⟨w.heap.size, 11, none⟩ = some (.slice A s.opts.blocks.length c) := HX.out 11 _ rfl
 have x12 : ((w.alloc (.cells (sc s A c) 30)).alloc (.cells (sc t Q q) 30)).cell? ⟨w.heap.size, 12, none⟩ = some (.bool s.opts.time) := HX.out 12 _ rfl
 have x13 : ((w.alloc (.cells (sc s A c) 30)).alloc (.cells (sc t Q q) 30)).cell? ⟨w.heap.size, 13, none⟩ = some (.int .u32 (s.opts.val : Int)) := HX.out 13 _ rfl
 have x14 : ((w.alloc (.cells (sc s A c) 30)).alloc (.cells (sc t Q q) 30)).cell? ⟨w.heap.size, 14, none⟩ = some (.int .u32 (s.opts.echo : Int)) := HX.out 14 _ rfl
 have y8 : ((w.alloc (.cells (sc s A c) 30)).alloc (.cells (sc t Q q) 30)).cell? ⟨w.heap.size + 1, 8, none⟩ = some (.int .u16 (t.opts.mss : Int)) := HY.out 8 _ rfl
 have y9 : ((w.alloc (.cells (sc s A c) 30)).alloc (.cells (sc t Q q) 30)).cell? ⟨w.heap.size + 1, 9, none⟩ = some (.int .i64 t.opts.scale) := HY.out 9 _ rfl
 have y10 : ((w.alloc (.cells (sc s A c) 30)).alloc (.cells (sc t Q q) 30)).cell? ⟨w.heap.size + 1, 10, none⟩ = some (.bool t.opts.sack) := HY.out 10 _ rfl
 have y11 : ((w.alloc (.cells (sc s A c) 30)).alloc (.cells (sc t Q q) 30)).cell? ⟨w.heap.size + 1, 11, none⟩ = some (.slice Q t.opts.blocks.length q) := HY.out 11 _ rfl
 have y12 : ((w.alloc (.cells (sc s A c) 30)).alloc (.cells (sc t Q q) 30)).cell? ⟨w.heap.size + 1, 12, none⟩ = some (.bool t.opts.time) := HY.out 12 _ rfl
 have y13 : ((w.alloc (.cells (sc s A c) 30)).alloc (.cells (sc t Q q) 30)).cell? ⟨w.heap.size + 1, 13, none⟩ = some (.int .u32 (t.opts.val : Int)) := HY.out 13 _ rfl
 have y14 : ((w.alloc (.cells (sc s A c) 30)).alloc (.cells (sc t Q q) 30)).cell? ⟨w.heap.size + 1, 14, none⟩ = some (.int .u32 (t.opts.echo : Int)) := HY.out 14 _ rfl
 have z := HZ.out
 go_enter Tryz.func8, Tryz.ntmps8
 go_wp2_with fail
 refine (OptSame.sameR s.opts t.opts A c Q q _ HA.out HQ.out lA lQ).mono ?_
 rintro e wB ⟨rfl, hb⟩
 have HB2 := Lib.hid (st_call HBE.out hb)
 have u15 : wB.cell? ⟨w.heap.size, 15, none⟩ = some (.string s.data) := (hb.cell (p := ⟨w.heap.size, 15, none⟩) (by rw [HZ.out]; show w.heap.size < w.heap.size + 2; omega)).trans (HX.out 15 _ rfl)
 have v15 : wB.cell? ⟨w.heap.size + 1, 15, none⟩ = some (.string t.data) := (hb.cell (p := ⟨w.heap.size + 1, 15, none⟩) (by rw [HZ.out]; show w.heap.size + 1 < w.heap.size + 2; omega)).trans (HY.out 15 _ rfl)
 clear hb x8 x9 x10 x11 x12 x13 x14 y8 y9 y10 y11 y12 y13 y14
 by_cases co : s.opts = t.opts
 · rw [decide_eq_true co]
   by_cases cd : s.data = t.data
   · have HV := Lib.hid (HM.out co cd)
     have hq : (s.data.toList == t.data.toList) = true := by rw [cd]; exact beq_self_eq_true _
     clear co cd HM
     go_wp2_with fail
     go_ret
     exact ⟨by rw [HV.out]; rfl, HB2.out⟩
   · have HV := Lib.hid (sameS_no (s := s) (t := t) (fun e => cd (by rw [e])))
     have hq : (s.data.toList == t.data.toList) = false := bytes_ne cd
     clear co cd HM
     go_wp2_with fail
     go_ret
     exact ⟨by rw [HV.out]; rfl, HB2.out⟩
 · have HV := Lib.hid (sameS_no (s := s) (t := t) (fun e => co (by rw [e])))
   rw [decide_eq_false co]
   clear co HM
   go_wp2_with fail
   go_ret
   exact ⟨by rw [HV.out]; rfl, HB2.out⟩
end Go.Proofs.YtpmnmnflaijaaaaGreat.PktSameR
