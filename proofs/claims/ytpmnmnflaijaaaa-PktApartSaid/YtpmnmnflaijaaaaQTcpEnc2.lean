/-
  Laws for a proof of package pkt: 2 texts in one.
-/
import Derived.Test.YtpmnmnflaijaaaaQTcpRef4
import Derived.Test.YtpmnmnflaijaaaaQTcpMath5
import Derived.Test.YtpmnmnflaijaaaaQRelL3
import Derived.BigGuard
namespace Go.Proofs.Ytpmnmnflaijaaaa.OptRef
open Go.RowKit TupMath SumMath Litb Calm Rel RelT IpMath IpRef OptMath
set_option linter.unusedVariables false
set_option maxRecDepth 100000

theorem ret_b {a b : Bool} (h : a = b) : Ending.returned (.bool a) = .returned (.bool b) := by rw [h]
theorem beq_nat (a b : Nat) : (((a : Nat) : Int) == ((b : Nat) : Int)) = (a == b) := by
  rw [Bool.eq_iff_iff, beq_iff_eq, beq_iff_eq]
  omega
set_option maxHeartbeats 4000000 in
theorem rightR (k n : Nat) (w : World) (hk : k ≤ 255) (hn : n ≤ 255) : Calls Try.prog 109 #[.int .i64 (k : Int), .int .i64 (n : Int)] w fun e w' => e = .returned (.bool (right k n)) ∧ w' = w := by
  by_cases c2 : k = 2
  · subst c2
    go_enter Try.func109, Try.ntmps109
    go_wp2
    go_ret
    exact ⟨ret_b (beq_nat n 4), rfl⟩
  by_cases c3 : k = 3
  · subst c3
    go_enter Try.func109, Try.ntmps109
    go_wp2
    go_ret
    exact ⟨ret_b (beq_nat n 3), rfl⟩
  by_cases c4 : k = 4
  · subst c4
    go_enter Try.func109, Try.ntmps109
    go_wp2
    go_ret
    exact ⟨ret_b (beq_nat n 2), rfl⟩
  by_cases c5 : k = 5
  · subst c5
    by_cases a : n = 10
    · subst a
      go_enter Try.func109, Try.ntmps109
      go_wp2
      go_ret
      exact ⟨rfl, rfl⟩
    by_cases b : n = 18
    · subst b
      go_enter Try.func109, Try.ntmps109
      go_wp2
      go_ret
      exact ⟨rfl, rfl⟩
    by_cases c : n = 26
    · subst c
      go_enter Try.func109, Try.ntmps109
      go_wp2
      go_ret
      exact ⟨rfl, rfl⟩
    by_cases d : n = 34
    · subst d
      go_enter Try.func109, Try.ntmps109
      go_wp2
      go_ret
      exact ⟨rfl, rfl⟩
    have e : right 5 n = false := by simp [right, a, b, c, d]
    rw [e]
    have q1 : ((n : Int) == 10) = false := beq_eq_false_iff_ne.2 (by omega)
    have q2 : ((n : Int) == 18) = false := beq_eq_false_iff_ne.2 (by omega)
    have q3 : ((n : Int) == 26) = false := beq_eq_false_iff_ne.2 (by omega)
    have q4 : ((n : Int) == 34) = false := beq_eq_false_iff_ne.2 (by omega)
    go_enter Try.func109, Try.ntmps109
    go_wp2
    go_ret
    exact ⟨rfl, rfl⟩
  by_cases c8 : k = 8
  · subst c8
    go_enter Try.func109, Try.ntmps109
    go_wp2
    go_ret
    exact ⟨ret_b (beq_nat n 10), rfl⟩
  have e : right k n = decide ((2 : Int) ≤ (n : Int)) := by
    unfold right
    rw [if_neg c2, if_neg c3, if_neg c4, if_neg c5, if_neg c8, decide_eq_decide]
    omega
  rw [e]
  have q2 : ((k : Int) == 2) = false := beq_eq_false_iff_ne.2 (by omega)
  have q3 : ((k : Int) == 3) = false := beq_eq_false_iff_ne.2 (by omega)
  have q4 : ((k : Int) == 4) = false := beq_eq_false_iff_ne.2 (by omega)
  have q5 : ((k : Int) == 5) = false := beq_eq_false_iff_ne.2 (by omega)
  have q8 : ((k : Int) == 8) = false := beq_eq_false_iff_ne.2 (by omega)
  clear e
  go_enter Try.func109, Try.ntmps109
  go_wp2
  go_ret
  exact ⟨rfl, rfl⟩
set_option maxHeartbeats 4000000 in
theorem knownR (k : Nat) (w : World) (hk : k ≤ 255) : Calls Try.prog 110 #[.int .i64 (k : Int)] w fun e w' => e = .returned (.bool (known k)) ∧ w' = w := by
  by_cases c8 : k = 8
  · subst c8
    go_enter Try.func110, Try.ntmps110
    go_wp2
    go_ret
    exact ⟨rfl, rfl⟩
  have q8 : ((k : Int) == 8) = false := beq_eq_false_iff_ne.2 (by omega)
  by_cases c2 : 2 ≤ k
  · by_cases c5 : k ≤ 5
    · have e : known k = true := by unfold known; simp [c2, c5]
      rw [e]
      have i2 : (2 : Int) ≤ (k : Int) := by omega
      have i5 : (k : Int) ≤ 5 := by omega
      go_enter Try.func110, Try.ntmps110
      go_wp2
      go_ret
      exact ⟨rfl, rfl⟩
    · have e : known k = false := by unfold known; simp [c5, c8]
      rw [e]
      have i2 : (2 : Int) ≤ (k : Int) := by omega
      have i5 : ¬ (k : Int) ≤ 5 := by omega
      go_enter Try.func110, Try.ntmps110
      go_wp2
      go_ret
      exact ⟨rfl, rfl⟩
  · have e : known k = false := by unfold known; simp [c2, c8]
    rw [e]
    have i2 : ¬ (2 : Int) ≤ (k : Int) := by omega
    go_enter Try.func110, Try.ntmps110
    go_wp2
    go_ret
    exact ⟨rfl, rfl⟩
/-- four bytes of a text, at a place, added to -/
def addA (l : List Nat) (a x : Nat) : List Nat := l.take a ++ (addw ((l.drop a).take 4) x ++ l.drop (a + 4))
theorem addA_len (l : List Nat) (a x : Nat) (h : a + 4 ≤ l.length) : (addA l a x).length = l.length := by
  unfold addA
  rw [List.length_append, List.length_append, addw_len, List.length_take, List.length_drop]
  omega
theorem addA_le {l : List Nat} (a x : Nat) (h : ∀ y ∈ l, y ≤ 255) : ∀ y ∈ addA l a x, y ≤ 255 := by
  intro y hy
  unfold addA at hy
  rcases List.mem_append.1 hy with hy | hy
  · exact h y (List.mem_of_mem_take hy)
  rcases List.mem_append.1 hy with hy | hy
  · exact w4_le _ (by have := Nat.mod_lt (v256 ((l.drop a).take 4) + x) (show 0 < 4294967296 by decide); omega) y hy
  · exact h y (List.mem_of_mem_drop hy)
end Go.Proofs.Ytpmnmnflaijaaaa.OptRef

namespace Go.Proofs.Ytpmnmnflaijaaaa.TcpEnc
open Go.RowKit TupMath SumMath Litb Calm Rel RelT IpMath IpRef TcpMath TcpRef
set_option linter.unusedVariables false
set_option maxRecDepth 100000

def mayB (h : Th) : Bool := decide (h.opts.size % 4 = 0) && decide (h.opts.size ≤ 40) && decide (h.flags < 64)
theorem may_of {h : Th} (hm : mayB h = true) : h.may := by
  unfold mayB at hm
  simp only [Bool.and_eq_true, decide_eq_true_eq] at hm
  exact ⟨hm.1.1, hm.1.2, hm.2⟩
theorem of_may {h : Th} (m : h.may) : mayB h = true := by
  unfold mayB
  simp only [Bool.and_eq_true, decide_eq_true_eq]
  exact ⟨⟨m.four, m.most⟩, m.flags⟩
/-- what Encode answers -/
def encV6 (src dst : Nat) (h : Th) (d : ByteArray) : Value :=
  if mayB h = true then (if 20 + h.opts.size + d.size ≤ 65515 then .tuple #[.string (ofB (seg src dst h (bz d))), .int .i64 0] else .tuple #[.string ⟨#[]⟩, .int .i64 4]) else .tuple #[.string ⟨#[]⟩, .int .i64 2]
theorem encV6_ok {src dst : Nat} {h : Th} {d : ByteArray} (m : h.may) (hn : 20 + h.opts.size + d.size ≤ 65515) : encV6 src dst h d = .tuple #[.string (ofB (seg src dst h (bz d))), .int .i64 0] := by unfold encV6; rw [if_pos (of_may m), if_pos hn]
theorem encV6_arg {src dst : Nat} {h : Th} {d : ByteArray} (m : ¬ h.may) : encV6 src dst h d = .tuple #[.string ⟨#[]⟩, .int .i64 2] := by unfold encV6; rw [if_neg (fun e => m (may_of e))]
theorem encV6_long {src dst : Nat} {h : Th} {d : ByteArray} (m : h.may) (hn : ¬ 20 + h.opts.size + d.size ≤ 65515) : encV6 src dst h d = .tuple #[.string ⟨#[]⟩, .int .i64 4] := by unfold encV6; rw [if_pos (of_may m), if_neg hn]

def relE6 (src dst : Nat) (h : Th) (d : ByteArray) (c : Nat) : Nat → Value → World → Prop
  | 0 => fun v _ => v = tv h
  | 1 => fun v _ => v = .string d
  | 2 => fun v _ => v = .int .u32 (src : Int)
  | 3 => fun v _ => v = .int .u32 (dst : Int)
  | 4 => fun v _ => v = tv h
  | 5 => fun v _ => v = .string d
  | 6 => fun v _ => v = .string (ofB (raw h (bz d) 0))
  | 7 => fun v _ => v = .int .u16 (c : Int)
  | 8 => fun v _ => v = .string (ofB (raw h (bz d) c))
  | _ => fun _ _ => True
theorem relE6_more (src dst : Nat) (h : Th) (d : ByteArray) (c : Nat) (i : Nat) (v : Value) (w w' : World) (hr : relE6 src dst h d c i v w) (hb : Below w.heap.size w w') : relE6 src dst h d c i v w' := by
  unfold relE6 at hr ⊢
  split at hr <;> exact hr
attribute [local go_sem] relUpon

set_option maxHeartbeats 16000000 in
theorem encR6 (src dst : Nat) (h : Th) (d : ByteArray) (w : World) (hs : src ≤ 4294967295) (hd : dst ≤ 4294967295) (k : h.ok) (ho : h.opts.size ≤ 1000000) (hl : d.size ≤ 1000000) : Calls Try.prog 28 #[.int .u32 (src : Int), .int .u32 (dst : Int), tv h, .string d] w fun e w' => e = .returned (encV6 src dst h d) ∧ Below w.heap.size w w' := by
  have hf := k.flags
  by_cases c1 : h.opts.size % 4 = 0
  rotate_left
  · rw [encV6_arg (fun m => c1 m.four)]
    have q : ((h.opts.size : Int) % 4 == 0) = false := beq_eq_false_iff_ne.2 (by omega)
    have q2 : ((h.opts.size : Int) % 4 != 0) = true := bne_iff_ne.2 (by omega)
    go_enter Try.func28, Try.ntmps28
    go_wp2
    go_ret2
    exact ⟨rfl, st_alloc (Below.refl _ _) _⟩
  have q : ((h.opts.size : Int) % 4 == 0) = true := beq_iff_eq.2 (by omega)
  have q2 : ((h.opts.size : Int) % 4 != 0) = false := by rw [bne, q]; rfl
  by_cases c2 : h.opts.size ≤ 40
  rotate_left
  · rw [encV6_arg (fun m => c2 m.most)]
    have q3 : (40 : Int) < (h.opts.size : Int) := by omega
    clear c1
    go_enter Try.func28, Try.ntmps28
    go_wp2
    go_ret2
    exact ⟨rfl, st_alloc (Below.refl _ _) _⟩
  have q3 : ¬ (40 : Int) < (h.opts.size : Int) := by omega
  by_cases c3 : h.flags < 64
  rotate_left
  · rw [encV6_arg (fun m => c3 m.flags)]
    have q4 : (64 : Int) ≤ (h.flags : Int) := by omega
    clear c1
    go_enter Try.func28, Try.ntmps28
    go_wp2
    go_ret2
    exact ⟨rfl, st_alloc (Below.refl _ _) _⟩
  have q4 : ¬ (64 : Int) ≤ (h.flags : Int) := by omega
  have m : h.may := ⟨c1, c2, c3⟩
  by_cases hn : 20 + h.opts.size + d.size ≤ 65515
  rotate_left
  · rw [encV6_long m hn]
    have q5 : (65515 : Int) < 20 + (h.opts.size : Int) + (d.size : Int) := by omega
    clear c1
    go_enter Try.func28, Try.ntmps28
    go_wp2
    go_ret2
    exact ⟨rfl, st_alloc (Below.refl _ _) _⟩
  rw [encV6_ok m hn]
  have q5 : ¬ (65515 : Int) < 20 + (h.opts.size : Int) + (d.size : Int) := by omega
  have hr0 := fun W => rawR h d 0 W k c2 hl (by decide)
  have hsm := fun W => sum6R src dst (ofB (raw h (bz d) 0)) W hs hd (by rw [ofB_size, raw_len, bz_len]; omega)
  rw [bz_ofB (raw_le h k m (bz d) 0 (bz_le d) (by decide))] at hsm
  have hr1 := fun W => rawR h d (tsum src dst (raw h (bz d) 0)) W k c2 hl (tsum_le _ _ _)
  unfold seg
  generalize tsum src dst (raw h (bz d) 0) = c at hsm hr1
  have HR0 := Lib.hid hr0
  have HSM := Lib.hid hsm
  have HR1 := Lib.hid hr1
  clear hr0 hsm hr1 c1 hn m
  go_enter Try.func28, Try.ntmps28
  have cells : ∀ W, Below (w.alloc (.cells #[.int .u16 (h.src : Int), .int .u16 (h.dst : Int), .int .u32 (h.seq : Int), .int .u32 (h.ack : Int), .int .u8 (h.flags : Int), .int .u16 (h.win : Int), .int .u16 (h.urg : Int), .string h.opts] 59)).heap.size (w.alloc (.cells #[.int .u16 (h.src : Int), .int .u16 (h.dst : Int), .int .u32 (h.seq : Int), .int .u32 (h.ack : Int), .int .u8 (h.flags : Int), .int .u16 (h.win : Int), .int .u16 (h.urg : Int), .string h.opts] 59)) W → ∀ (j : Nat) (v : Value), (#[.int .u16 (h.src : Int), .int .u16 (h.dst : Int), .int .u32 (h.seq : Int), .int .u32 (h.ack : Int), .int .u8 (h.flags : Int), .int .u16 (h.win : Int), .int .u16 (h.urg : Int), .string h.opts] : Array Value)[j]? = some v → W.cell? ⟨w.heap.size, j, none⟩ = some v := fun W hb j v hv =>
    ((hb.cell (p := ⟨w.heap.size, j, none⟩) (by simp)).trans (World.cell?_alloc_mark w _ _ (0, 0) j)).trans hv
  go_wp2_with fail
  refine wp_region_see_tail 9 43 (relE6 src dst h d c) rfl (by kernel_rfl) (by kernel_rfl) (by kernel_rfl) (by kernel_rfl) (relE6_more src dst h d c) ?_ ?_
  · intro i hi
    have hi2 : i < 9 := by simpa using hi
    clear hi
    match i, hi2 with
    | 0, _ =>
      intro ρ W hb hc hg hf h0 hd
      have t6 := h0 6 (by kernel_rfl)
      have c0 := cells W hb 0 _ rfl
      have c1 := cells W hb 1 _ rfl
      have c2 := cells W hb 2 _ rfl
      have c3 := cells W hb 3 _ rfl
      have c4 := cells W hb 4 _ rfl
      have c5 := cells W hb 5 _ rfl
      have c6 := cells W hb 6 _ rfl
      have c7 := cells W hb 7 _ rfl
      clear hd h0
      go_simp
      exact ⟨rfl, Below.refl _ _⟩
    | 1, _ =>
      intro ρ W hb hc hg hf h0 hd
      have t3 := h0 3 (by kernel_rfl)
      clear hd h0
      go_simp
      exact ⟨rfl, Below.refl _ _⟩
    | 2, _ =>
      intro ρ W hb hc hg hf h0 hd
      have t0 := h0 0 (by kernel_rfl)
      clear hd h0
      go_simp
      exact ⟨rfl, Below.refl _ _⟩
    | 3, _ =>
      intro ρ W hb hc hg hf h0 hd
      have t1 := h0 1 (by kernel_rfl)
      clear hd h0
      go_simp
      exact ⟨rfl, Below.refl _ _⟩
    | 4, _ =>
      intro ρ W hb hc hg hf h0 hd
      have t6 := h0 6 (by kernel_rfl)
      have c0 := cells W hb 0 _ rfl
      have c1 := cells W hb 1 _ rfl
      have c2 := cells W hb 2 _ rfl
      have c3 := cells W hb 3 _ rfl
      have c4 := cells W hb 4 _ rfl
      have c5 := cells W hb 5 _ rfl
      have c6 := cells W hb 6 _ rfl
      have c7 := cells W hb 7 _ rfl
      clear hd h0
      go_simp
      exact ⟨rfl, Below.refl _ _⟩
    | 5, _ =>
      intro ρ W hb hc hg hf h0 hd
      have t3 := h0 3 (by kernel_rfl)
      clear hd h0
      go_simp
      exact ⟨rfl, Below.refl _ _⟩
    | 6, _ =>
      intro ρ W hb hc hg hf h0 hd
      have d4 : ρ (.tmp 38) = tv h := hd 4 38 (by kernel_rfl) (by kernel_rfl)
      have d5 : ρ (.tmp 39) = .string d := hd 5 39 (by kernel_rfl) (by kernel_rfl)
      clear hd h0
      go_simp
      exact (HR0.out W).mono fun e w' ⟨he, hb⟩ => ⟨_, he, rfl, hb⟩
    | 7, _ =>
      intro ρ W hb hc hg hf h0 hd
      have d2 : ρ (.tmp 36) = .int .u32 (src : Int) := hd 2 36 (by kernel_rfl) (by kernel_rfl)
      have d3 : ρ (.tmp 37) = .int .u32 (dst : Int) := hd 3 37 (by kernel_rfl) (by kernel_rfl)
      have d6 : ρ (.tmp 40) = .string (ofB (raw h (bz d) 0)) := hd 6 40 (by kernel_rfl) (by kernel_rfl)
      clear hd h0
      go_simp
      exact (HSM.out W).mono fun e w' ⟨he, hb⟩ => ⟨_, he, rfl, hb⟩
    | 8, _ =>
      intro ρ W hb hc hg hf h0 hd
      have d0 : ρ (.tmp 34) = tv h := hd 0 34 (by kernel_rfl) (by kernel_rfl)
      have d1 : ρ (.tmp 35) = .string d := hd 1 35 (by kernel_rfl) (by kernel_rfl)
      have d7 : ρ (.tmp 41) = .int .u16 (c : Int) := hd 7 41 (by kernel_rfl) (by kernel_rfl)
      clear hd h0
      go_simp
      exact (HR1.out W).mono fun e w' ⟨he, hb⟩ => ⟨_, he, rfl, hb⟩
    | i + 9, hlt => exact absurd hlt (by omega)
  · intro vs W hb hall
    have h8 : vs 8 = .string (ofB (raw h (bz d) c)) := hall 8 (by omega)
    have HB := Lib.hid (st_call (st_alloc (Below.refl _ _) _) hb)
    clear hall cells hb
    rw [lexA_slots vs 9 [(some 34, 0), (some 35, 1), (some 36, 2), (some 37, 3), (some 38, 4), (some 39, 5), (some 40, 6), (some 41, 7), (some 42, 8)] (by kernel_rfl)]
    simp only [List.foldl_cons, List.foldl_nil, h8]
    show wpList _ _ _ [_, _] _ _
    go_wp2_with fail
    go_ret2
    exact ⟨rfl, HB.out⟩
end Go.Proofs.Ytpmnmnflaijaaaa.TcpEnc
