/-
  Laws for a proof of package pkt: 3 texts in one.
-/
import Derived.Test.YtpmnmnflaijaaaaGreatQTcpRef4
import Derived.Test.YtpmnmnflaijaaaaGreatQTcpMath5
import Derived.Test.YtpmnmnflaijaaaaGreatQRelL3
import Derived.BigGuard
namespace Go.Proofs.YtpmnmnflaijaaaaGreat.OptRef
open Go.RowKit TupMath SumMath Litb Calm Rel RelT IpMath IpRef OptMath
set_option linter.unusedVariables false
set_option maxRecDepth 100000
theorem ret_b {a b : Bool} (h : a = b) : Ending.returned (.bool a) = .returned (.bool b) := by rw [h]
theorem beq_nat (a b : Nat) : (((a : Nat) : Int) == ((b : Nat) : Int)) = (a == b) := by
 rw [Bool.eq_iff_iff, beq_iff_eq, beq_iff_eq]
 omega
set_option maxHeartbeats 4000000 in
theorem rightR (k n : Nat) (w : World) (hk : k ≤ 255) (hn : n ≤ 255) : Calls Tryz.prog 93 #[.int .i64 (k : Int), .int .i64 (n : Int)] w fun e w' => e = .returned (.bool (right k n)) ∧ w' = w := by
 by_cases c2 : k = 2
 · subst c2
   go_enter Tryz.func93, Tryz.ntmps93
   go_wp2
   go_ret
   exact ⟨ret_b (beq_nat n 4), rfl⟩
 by_cases c3 : k = 3
 · subst c3
   go_enter Tryz.func93, Tryz.ntmps93
   go_wp2
   go_ret
   exact ⟨ret_b (beq_nat n 3), rfl⟩
 by_cases c4 : k = 4
 · subst c4
   go_enter Tryz.func93, Tryz.ntmps93
   go_wp2
   go_ret
   exact ⟨ret_b (beq_nat n 2), rfl⟩
 by_cases c5 : k = 5
 · subst c5
   by_cases a : n = 10
   · subst a
     go_enter Tryz.func93, Tryz.ntmps93
     go_wp2
     go_ret
     exact ⟨rfl, rfl⟩
   by_cases b : n = 18
   · subst b
     go_enter Tryz.func93, Tryz.ntmps93
     go_wp2
     go_ret
     exact ⟨rfl, rfl⟩
   by_cases c : n = 26
   · subst c
     go_enter Tryz.func93, Tryz.ntmps93
     go_wp2
     go_ret
     exact ⟨rfl, rfl⟩
   by_cases d : n = 34
   · subst d
     go_enter Tryz.func93, Tryz.ntmps93
     go_wp2
     go_ret
     exact ⟨rfl, rfl⟩
   have e : right 5 n = false := by simp [right, a, b, c, d]
   rw [e]
   have q1 : ((n : Int) == 10) = false := beq_eq_false_iff_ne.2 (by omega)
   have q2 : ((n : Int) == 18) = false := beq_eq_false_iff_ne.2 (by omega)
   have q3 : ((n : Int) == 26) = false := beq_eq_false_iff_ne.2 (by omega)
   have q4 : ((n : Int) == 34) = false := beq_eq_false_iff_ne.2 (by omega)
   go_enter Tryz.func93, Tryz.ntmps93
   go_wp2
   go_ret
   exact ⟨rfl, rfl⟩
 by_cases c8 : k = 8
 · subst c8
   go_enter Tryz.func93, Tryz.ntmps93
   go_wp2
   go_ret
   exact ⟨ret_b (beq_nat n 10), rfl⟩
 have e : right k n = decide ((2 : Int) ≤ (n : Int)) := by
   unfold right
   rw [if_neg c2, if_neg c3, if_neg c4, if_neg c5, if_neg c8, decide_eq_decide]
   omega
 rw [e]
 have q2 : ((k : Int) == 2) = false := beq_eq_false_iff_ne.2 (by omega)
 have q3 : ((k : Int) == 3) = false := beq_eq_false_iff_ne.2 (by omega)
 have q4 : ((k : Int) == 4) = false := beq_eq_false_iff_ne.2 (by omega)
 have q5 : ((k : Int) == 5) = false := beq_eq_false_iff_ne.2 (by omega)
 have q8 : ((k : Int) == 8) = false := beq_eq_false_iff_ne.2 (by omega)
 clear e
 go_enter Tryz.func93, Tryz.ntmps93
 go_wp2
 go_ret
 exact ⟨rfl, rfl⟩
set_option maxHeartbeats 4000000 in
theorem knownR (k : Nat) (w : World) (hk : k ≤ 255) : Calls Tryz.prog 94 #[.int .i64 (k : Int)] w fun e w' => e = .returned (.bool (known k)) ∧ w' = w := by
 by_cases c8 : k = 8
 · subst c8
   go_enter Tryz.func94, Tryz.ntmps94
   go_wp2
   go_ret
   exact ⟨rfl, rfl⟩
 have q8 : ((k : Int) == 8) = false := beq_eq_false_iff_ne.2 (by omega)
 by_cases c2 : 2 ≤ k
 · by_cases c5 : k ≤ 5
   · have e : known k = true := by unfold known; simp [c2, c5]
     rw [e]
     have i2 : (2 : Int) ≤ (k : Int) := by omega
     have i5 : (k : Int) ≤ 5 := by omega
     go_enter Tryz.func94, Tryz.ntmps94
     go_wp2
     go_ret
     exact ⟨rfl, rfl⟩
   · have e : known k = false := by unfold known; simp [c5, c8]
     rw [e]
     have i2 : (2 : Int) ≤ (k : Int) := by omega
     have i5 : ¬ (k : Int) ≤ 5 := by omega
     go_enter Tryz.func94, Tryz.ntmps94
     go_wp2
     go_ret
     exact ⟨rfl, rfl⟩
 · have e : known k = false := by unfold known; simp [c2, c8]
   rw [e]
   have i2 : ¬ (2 : Int) ≤ (k : Int) := by omega
   go_enter Tryz.func94, Tryz.ntmps94
   go_wp2
   go_ret
   exact ⟨rfl, rfl⟩
def addA (l : List Nat) (a x : Nat) : List Nat := l.take a ++ (addw ((l.drop a).take 4) x ++ l.drop (a + 4))
theorem addA_len (l : List Nat) (a x : Nat) (h : a + 4 ≤ l.length) : (addA l a x).length = l.length := by
 unfold addA
 rw [List.length_append, List.length_append, addw_len, List.length_take, List.length_drop]
 omega
theorem addA_le {l : List Nat} (a x : Nat) (h : ∀ y ∈ l, y ≤ 255) : ∀ y ∈ addA l a x, y ≤ 255 := by
 intro y hy
 unfold addA at hy
 rcases List.mem_append.1 hy with hy | hy
 · exact h y (List.mem_of_mem_take hy)
 rcases List.mem_append.1 hy with hy | hy
 · exact w4_le _ (by have := Nat.mod_lt (v256 ((l.drop a).take 4) + x) (show 0 < 4294967296 by decide); omega) y hy
 · exact h y (List.mem_of_mem_drop hy)
end Go.Proofs.YtpmnmnflaijaaaaGreat.OptRef
namespace Go.Proofs.YtpmnmnflaijaaaaGreat.TcpEnc
open Go.RowKit TupMath SumMath Litb Calm Rel RelT IpMath IpRef TcpMath TcpRef
set_option linter.unusedVariables false
set_option maxRecDepth 100000
def mayB (h : Th) : Bool := decide (h.opts.size % 4 = 0) && decide (h.opts.size ≤ 40) && decide (h.flags < 64)
theorem may_of {h : Th} (hm : mayB h = true) : h.may := by
 unfold mayB at hm
 simp only [Bool.and_eq_true, decide_eq_true_eq] at hm
 exact ⟨hm.1.1, hm.1.2, hm.2⟩
theorem of_may {h : Th} (m : h.may) : mayB h = true := by
 unfold mayB
 simp only [Bool.and_eq_true, decide_eq_true_eq]
 exact ⟨⟨m.four, m.most⟩, m.flags⟩
def encV6 (src dst : Nat) (h : Th) (d : ByteArray) : Value :=
 if mayB h = true then (if 20 + h.opts.size + d.size ≤ 65515 then .tuple #[.string (ofB (seg src dst h (bz d))), .int .i64 0] else .tuple #[.string ⟨#[]⟩, .int .i64 4]) else .tuple #[.string ⟨#[]⟩, .int .i64 2]
theorem encV6_ok {src dst : Nat} {h : Th} {d : ByteArray} (m : h.may) (hn : 20 + h.opts.size + d.size ≤ 65515) : encV6 src dst h d = .tuple #[.string (ofB (seg src dst h (bz d))), .int .i64 0] := by unfold encV6; rw [if_pos (of_may m), if_pos hn]
theorem encV6_arg {src dst : Nat} {h : Th} {d : ByteArray} (m : ¬ h.may) : encV6 src dst h d = .tuple #[.string ⟨#[]⟩, .int .i64 2] := by unfold encV6; rw [if_neg (fun e => m (may_of e))]
theorem encV6_long {src dst : Nat} {h : Th} {d : ByteArray} (m : h.may) (hn : ¬ 20 + h.opts.size + d.size ≤ 65515) : encV6 src dst h d = .tuple #[.string ⟨#[]⟩, .int .i64 4] := by unfold encV6; rw [if_pos (of_may m), if_neg hn]
attribute [local go_sem] relUpon
end Go.Proofs.YtpmnmnflaijaaaaGreat.TcpEnc
namespace Go.Proofs.YtpmnmnflaijaaaaGreat.OptRef
open Go.RowKit TupMath SumMath Litb Calm Rel RelT IpMath IpRef OptMath
set_option linter.unusedVariables false
set_option maxRecDepth 100000
def relA (s : ByteArray) (a x q y : Nat) : Nat → Value → World → Prop
 | 0 => fun v _ => v = .string s
 | 1 => fun v _ => v = .int .i64 (a : Int)
 | 2 => fun v _ => v = .string (s.extract 0 a)
 | 3 => fun v _ => v = .string s
 | 4 => fun v _ => v = .int .i64 (a : Int)
 | 5 => fun v _ => v = .int .i64 (a : Int)
 | 6 => fun v _ => v = .int .i64 ((a : Int) + 4)
 | 7 => fun v _ => v = .string (s.extract a (a + 4))
 | 8 => fun v _ => v = .int .u32 (q : Int)
 | 9 => fun v _ => v = .int .u32 (x : Int)
 | 10 => fun v _ => v = .int .u32 (y : Int)
 | 11 => fun v _ => v = .string (ofB (w4 y))
 | 12 => fun v _ => v = .string (s.extract 0 a ++ ofB (w4 y))
 | 13 => fun v _ => v = .string s
 | 14 => fun v _ => v = .int .i64 (a : Int)
 | 15 => fun v _ => v = .int .i64 ((a : Int) + 4)
 | 16 => fun v _ => v = .string (s.extract (a + 4) s.size)
 | 17 => fun v _ => v = .string (s.extract 0 a ++ ofB (w4 y) ++ s.extract (a + 4) s.size)
 | 18 => fun v _ => v = .string (s.extract 0 a ++ ofB (w4 y) ++ s.extract (a + 4) s.size)
 | _ => fun _ _ => True
theorem relA_more (s : ByteArray) (a x q y : Nat) (i : Nat) (u : Value) (w w' : World) (hr : relA s a x q y i u w) (hb : Below w.heap.size w w') : relA s a x q y i u w' := by
 unfold relA at hr ⊢
 split at hr <;> exact hr
attribute [local go_sem] relUpon
set_option maxHeartbeats 8000000 in
theorem addR (s : ByteArray) (a x : Nat) (w : World) (ha : a + 4 ≤ s.size) (hs : s.size ≤ 1000000) (hx : x ≤ 4294967295) : Calls Tryz.prog 58 #[.string s, .int .i64 (a : Int), .int .u32 (x : Int)] w fun e w' => e = .returned (.string (ofB (addA (bz s) a x))) ∧ Below w.heap.size w w' := by
 have hv := fun W => (numR (s.extract a (a + 4)) W (by rw [ByteArray.size_extract]; omega))
 have hve : bz (s.extract a (a + 4)) = ((bz s).drop a).take 4 := by
   rw [bz_extract s a (a + 4) ha, List.drop_take]
   congr 1
   omega
 rw [hve] at hv
 have hv2 : v256 (((bz s).drop a).take 4) < 256 ^ 4 := by
   have h := v256_lt (((bz s).drop a).take 4) (fun z hz => bz_le s z (List.mem_of_mem_drop (List.mem_of_mem_take hz)))
   rw [List.length_take, List.length_drop, bz_len, show min 4 (s.size - a) = 4 by omega] at h
   exact h
 have hp4 : (256 : Nat) ^ 4 = 4294967296 := by decide
 rw [hp4] at hv2
 have hval : s.extract 0 a ++ ofB (w4 ((v256 (((bz s).drop a).take 4) + x) % 4294967296)) ++ s.extract (a + 4) s.size = ofB (addA (bz s) a x) := by
   apply bz_inj
   rw [bz_append, bz_append, bz_ofB (addA_le a x (bz_le s)), bz_ofB (w4_le _ (by have := Nat.mod_lt (v256 (((bz s).drop a).take 4) + x) (show 0 < 4294967296 by decide); omega)), bz_extract s 0 a (by omega), bz_extract s _ _ (Nat.le_refl _)]
   have e0 : (bz s).take s.size = bz s := List.take_of_length_le (by rw [bz_len]; exact Nat.le_refl _)
   rw [e0, List.drop_zero]
   unfold addA addw
   rw [List.append_assoc]
 generalize v256 (((bz s).drop a).take 4) = q at hv hv2 hval
 obtain ⟨y, hyd⟩ : ∃ y, y = (q + x) % 4294967296 := ⟨_, rfl⟩
 rw [← hyd] at hval
 have hy : y ≤ 4294967295 := by omega
 have HY := Lib.hid (show IntKind.u32.wrap ((q : Int) + (x : Int)) = (y : Int) by rw [IntKind.wrap_u32]; omega)
 have hv3 : ∀ W, Calls Tryz.prog 29 #[.string (s.extract a (a + 4))] W fun e w' => e = .returned (.int .u32 (q : Int)) ∧ Below W.heap.size W w' := fun W => (hv W).mono fun e w' ⟨h1, h2⟩ => ⟨h1, by rw [h2]; exact Below.refl _ _⟩
 have HV := Lib.hid hv3
 have HVAL := Lib.hid hval
 have Z0 : (ofB (w4 y)).size = 4 := ofB_size _
 have Z1 : min a s.size + (ofB (w4 y)).size ≤ 9223372036854775807 := by omega
 have Z2 : min a s.size + (ofB (w4 y)).size + (s.size - (a + 4)) ≤ 9223372036854775807 := by omega
 clear hv hv3 hval hyd Z0 hve
 have i1 : (a : Int) ≤ (s.size : Int) := by omega
 have i2 : (a : Int) + 4 ≤ (s.size : Int) := by omega
 have i3 : (a : Int) ≤ (a : Int) + 4 := by omega
 go_enter Tryz.func58, Tryz.ntmps58
 go_wp2_with fail
 refine wp_region_see 25 (relA s a x q y) rfl (by kernel_rfl) (by kernel_rfl) (by kernel_rfl) (relA_more s a x q y) ?_ ?_
 · intro i hi
   have hi2 : i < 19 := by simpa using hi
   clear hi
   match i, hi2 with
   | 0, _ =>
     intro ρ W hb hc hg hf h0 hd
     have t0 := h0 0 (by kernel_rfl)
     clear hd h0
     go_simp
     exact ⟨rfl, Below.refl _ _⟩
   | 1, _ =>
     intro ρ W hb hc hg hf h0 hd
     have t1 := h0 1 (by kernel_rfl)
     clear hd h0
     go_simp
     exact ⟨rfl, Below.refl _ _⟩
   | 2, _ =>
     intro ρ W hb hc hg hf h0 hd
     have d0 : ρ (.tmp 7) = .string s := hd 0 7 (by kernel_rfl) (by kernel_rfl)
     have d1 : ρ (.tmp 8) = .int .i64 (a : Int) := hd 1 8 (by kernel_rfl) (by kernel_rfl)
     clear hd h0
     go_simp
     exact ⟨rfl, Below.refl _ _⟩
   | 3, _ =>
     intro ρ W hb hc hg hf h0 hd
     have t0 := h0 0 (by kernel_rfl)
     clear hd h0
     go_simp
     exact ⟨rfl, Below.refl _ _⟩
   | 4, _ =>
     intro ρ W hb hc hg hf h0 hd
     have t1 := h0 1 (by kernel_rfl)
     clear hd h0
     go_simp
     exact ⟨rfl, Below.refl _ _⟩
   | 5, _ =>
     intro ρ W hb hc hg hf h0 hd
     have t1 := h0 1 (by kernel_rfl)
     clear hd h0
     go_simp
     exact ⟨rfl, Below.refl _ _⟩
   | 6, _ =>
     intro ρ W hb hc hg hf h0 hd
     have d5 : ρ (.tmp 12) = .int .i64 (a : Int) := hd 5 12 (by kernel_rfl) (by kernel_rfl)
     clear hd h0
     have n1 : 0 ≤ (a : Int) + 4 := by omega
     have n2 : ((a : Int) + 4).toNat = a + 4 := by omega
     have n3 : IntKind.i64.wrap ((a : Int) + 4) = (a : Int) + 4 := IntWalk.i64_in _ (by omega)
     go_simp
     exact ⟨rfl, Below.refl _ _⟩
   | 7, _ =>
     intro ρ W hb hc hg hf h0 hd
     have d3 : ρ (.tmp 10) = .string s := hd 3 10 (by kernel_rfl) (by kernel_rfl)
     have d4 : ρ (.tmp 11) = .int .i64 (a : Int) := hd 4 11 (by kernel_rfl) (by kernel_rfl)
     have d6 : ρ (.tmp 13) = .int .i64 ((a : Int) + 4) := hd 6 13 (by kernel_rfl) (by kernel_rfl)
     clear hd h0
     have n1 : 0 ≤ (a : Int) + 4 := by omega
     have n2 : ((a : Int) + 4).toNat = a + 4 := by omega
     go_simp
     exact ⟨rfl, Below.refl _ _⟩
   | 8, _ =>
     intro ρ W hb hc hg hf h0 hd
     have d7 : ρ (.tmp 14) = .string (s.extract a (a + 4)) := hd 7 14 (by kernel_rfl) (by kernel_rfl)
     clear hd h0
     go_simp
     exact (HV.out W).mono fun e w' ⟨he, hb⟩ => ⟨_, he, rfl, hb⟩
   | 9, _ =>
     intro ρ W hb hc hg hf h0 hd
     have t2 := h0 2 (by kernel_rfl)
     clear hd h0
     go_simp
     exact ⟨rfl, Below.refl _ _⟩
   | 10, _ =>
     intro ρ W hb hc hg hf h0 hd
     have d8 : ρ (.tmp 15) = .int .u32 (q : Int) := hd 8 15 (by kernel_rfl) (by kernel_rfl)
     have d9 : ρ (.tmp 16) = .int .u32 (x : Int) := hd 9 16 (by kernel_rfl) (by kernel_rfl)
     clear hd h0
     have m1 := HY.out
     go_simp
     exact ⟨rfl, Below.refl _ _⟩
   | 11, _ =>
     intro ρ W hb hc hg hf h0 hd
     have d10 : ρ (.tmp 17) = .int .u32 (y : Int) := hd 10 17 (by kernel_rfl) (by kernel_rfl)
     clear hd h0
     go_simp
     exact (fourR y W hy).mono fun e w' ⟨he, hb⟩ => ⟨_, he, rfl, hb⟩
   | 12, _ =>
     intro ρ W hb hc hg hf h0 hd
     have d2 : ρ (.tmp 9) = .string (s.extract 0 a) := hd 2 9 (by kernel_rfl) (by kernel_rfl)
     have d11 : ρ (.tmp 18) = .string (ofB (w4 y)) := hd 11 18 (by kernel_rfl) (by kernel_rfl)
     clear hd h0
     go_simp
     first | exact ⟨rfl, Below.refl _ _⟩ | (rw [if_neg (Nat.not_lt.2 Z1)]; exact ⟨rfl, Below.refl _ _⟩)
   | 13, _ =>
     intro ρ W hb hc hg hf h0 hd
     have t0 := h0 0 (by kernel_rfl)
     clear hd h0
     go_simp
     exact ⟨rfl, Below.refl _ _⟩
   | 14, _ =>
     intro ρ W hb hc hg hf h0 hd
     have t1 := h0 1 (by kernel_rfl)
     clear hd h0
     go_simp
     exact ⟨rfl, Below.refl _ _⟩
   | 15, _ =>
     intro ρ W hb hc hg hf h0 hd
     have d14 : ρ (.tmp 21) = .int .i64 (a : Int) := hd 14 21 (by kernel_rfl) (by kernel_rfl)
     clear hd h0
     have n1 : 0 ≤ (a : Int) + 4 := by omega
     have n2 : ((a : Int) + 4).toNat = a + 4 := by omega
     have n3 : IntKind.i64.wrap ((a : Int) + 4) = (a : Int) + 4 := IntWalk.i64_in _ (by omega)
     go_simp
     exact ⟨rfl, Below.refl _ _⟩
   | 16, _ =>
     intro ρ W hb hc hg hf h0 hd
     have d13 : ρ (.tmp 20) = .string s := hd 13 20 (by kernel_rfl) (by kernel_rfl)
     have d15 : ρ (.tmp 22) = .int .i64 ((a : Int) + 4) := hd 15 22 (by kernel_rfl) (by kernel_rfl)
     clear hd h0
     have n1 : 0 ≤ (a : Int) + 4 := by omega
     have n2 : ((a : Int) + 4).toNat = a + 4 := by omega
     go_simp
     exact ⟨rfl, Below.refl _ _⟩
   | 17, _ =>
     intro ρ W hb hc hg hf h0 hd
     have d12 : ρ (.tmp 19) = .string (s.extract 0 a ++ ofB (w4 y)) := hd 12 19 (by kernel_rfl) (by kernel_rfl)
     have d16 : ρ (.tmp 23) = .string (s.extract (a + 4) s.size) := hd 16 23 (by kernel_rfl) (by kernel_rfl)
     clear hd h0
     go_simp
     first | exact ⟨rfl, Below.refl _ _⟩ | (rw [if_neg (Nat.not_lt.2 Z2)]; exact ⟨rfl, Below.refl _ _⟩)
   | 18, _ =>
     intro ρ W hb hc hg hf h0 hd
     have d17 : ρ (.tmp 24) = .string (s.extract 0 a ++ ofB (w4 y) ++ s.extract (a + 4) s.size) := hd 17 24 (by kernel_rfl) (by kernel_rfl)
     clear hd h0
     go_simp
     exact ⟨rfl, Below.refl _ _⟩
   | i + 19, hlt => exact absurd hlt (by omega)
 · intro vs W hb hall
   have h18 : vs 18 = .string (s.extract 0 a ++ ofB (w4 y) ++ s.extract (a + 4) s.size) := hall 18 (of_decide_eq_true (by kernel_rfl))
   clear hall
   go_wp2
   refine bodyPost_ret (v := .string (s.extract 0 a ++ ofB (w4 y) ++ s.extract (a + 4) s.size)) ?_ rfl ⟨by rw [HVAL.out], hb⟩
   rw [← h18]
   exact (results_tmp rfl _ _ _).trans (congrArg (Result.ok · W) (lexA_get (N := 25) (by kernel_rfl) rfl vs 6 18 _ (by kernel_rfl) (of_decide_eq_true (by kernel_rfl))))
end Go.Proofs.YtpmnmnflaijaaaaGreat.OptRef
