/-
  The document's own answer of layer 6: Encode.
-/
import Derived.Test.YtkilkjjmanedcaaTcpRef
import Derived.Test.YtkilkjjmanedcaaRelT
import Derived.BigGuard
namespace Go.Proofs.Ytkilkjjmanedcaa.TcpEnc
open Go.RowKit TupMath SumMath Litb Calm Rel RelT IpMath IpRef TcpMath TcpRef
set_option linter.unusedVariables false
set_option maxRecDepth 100000

def mayB (h : Th) : Bool := decide (h.opts.size % 4 = 0) && decide (h.opts.size ≤ 40) && decide (h.flags < 64)
theorem may_of {h : Th} (hm : mayB h = true) : h.may := by
  unfold mayB at hm
  simp only [Bool.and_eq_true, decide_eq_true_eq] at hm
  exact ⟨hm.1.1, hm.1.2, hm.2⟩
theorem of_may {h : Th} (m : h.may) : mayB h = true := by
  unfold mayB
  simp only [Bool.and_eq_true, decide_eq_true_eq]
  exact ⟨⟨m.four, m.most⟩, m.flags⟩
/-- what Encode answers -/
def encV6 (src dst : Nat) (h : Th) (d : ByteArray) : Value :=
  if mayB h = true then (if 20 + h.opts.size + d.size ≤ 65515 then .tuple #[.string (ofB (seg src dst h (bz d))), .int .i64 0] else .tuple #[.string ⟨#[]⟩, .int .i64 4]) else .tuple #[.string ⟨#[]⟩, .int .i64 2]
theorem encV6_ok {src dst : Nat} {h : Th} {d : ByteArray} (m : h.may) (hn : 20 + h.opts.size + d.size ≤ 65515) : encV6 src dst h d = .tuple #[.string (ofB (seg src dst h (bz d))), .int .i64 0] := by unfold encV6; rw [if_pos (of_may m), if_pos hn]
theorem encV6_arg {src dst : Nat} {h : Th} {d : ByteArray} (m : ¬ h.may) : encV6 src dst h d = .tuple #[.string ⟨#[]⟩, .int .i64 2] := by unfold encV6; rw [if_neg (fun e => m (may_of e))]
theorem encV6_long {src dst : Nat} {h : Th} {d : ByteArray} (m : h.may) (hn : ¬ 20 + h.opts.size + d.size ≤ 65515) : encV6 src dst h d = .tuple #[.string ⟨#[]⟩, .int .i64 4] := by unfold encV6; rw [if_pos (of_may m), if_neg hn]

def relE6 (src dst : Nat) (h : Th) (d : ByteArray) (c : Nat) : Nat → Value → World → Prop
  | 0 => fun v _ => v = tv h
  | 1 => fun v _ => v = .string d
  | 2 => fun v _ => v = .int .u32 (src : Int)
  | 3 => fun v _ => v = .int .u32 (dst : Int)
  | 4 => fun v _ => v = tv h
  | 5 => fun v _ => v = .string d
  | 6 => fun v _ => v = .string (ofB (raw h (bz d) 0))
  | 7 => fun v _ => v = .int .u16 (c : Int)
  | 8 => fun v _ => v = .string (ofB (raw h (bz d) c))
  | _ => fun _ _ => True
theorem relE6_more (src dst : Nat) (h : Th) (d : ByteArray) (c : Nat) (i : Nat) (v : Value) (w w' : World) (hr : relE6 src dst h d c i v w) (hb : Below w.heap.size w w') : relE6 src dst h d c i v w' := by
  unfold relE6 at hr ⊢
  split at hr <;> exact hr
attribute [local go_sem] relUpon

set_option maxHeartbeats 16000000 in
theorem encR6 (src dst : Nat) (h : Th) (d : ByteArray) (w : World) (hs : src ≤ 4294967295) (hd : dst ≤ 4294967295) (k : h.ok) (ho : h.opts.size ≤ 1000000) (hl : d.size ≤ 1000000) : Calls Try.prog 9 #[.int .u32 (src : Int), .int .u32 (dst : Int), tv h, .string d] w fun e w' => e = .returned (encV6 src dst h d) ∧ Below w.heap.size w w' := by
  have hf := k.flags
  by_cases c1 : h.opts.size % 4 = 0
  rotate_left
  · rw [encV6_arg (fun m => c1 m.four)]
    have q : ((h.opts.size : Int) % 4 == 0) = false := beq_eq_false_iff_ne.2 (by omega)
    have q2 : ((h.opts.size : Int) % 4 != 0) = true := bne_iff_ne.2 (by omega)
    go_enter Try.func9, Try.ntmps9
    go_wp2
    go_ret2
    exact ⟨rfl, st_alloc (Below.refl _ _) _⟩
  have q : ((h.opts.size : Int) % 4 == 0) = true := beq_iff_eq.2 (by omega)
  have q2 : ((h.opts.size : Int) % 4 != 0) = false := by rw [bne, q]; rfl
  by_cases c2 : h.opts.size ≤ 40
  rotate_left
  · rw [encV6_arg (fun m => c2 m.most)]
    have q3 : (40 : Int) < (h.opts.size : Int) := by omega
    clear c1
    go_enter Try.func9, Try.ntmps9
    go_wp2
    go_ret2
    exact ⟨rfl, st_alloc (Below.refl _ _) _⟩
  have q3 : ¬ (40 : Int) < (h.opts.size : Int) := by omega
  by_cases c3 : h.flags < 64
  rotate_left
  · rw [encV6_arg (fun m => c3 m.flags)]
    have q4 : (64 : Int) ≤ (h.flags : Int) := by omega
    clear c1
    go_enter Try.func9, Try.ntmps9
    go_wp2
    go_ret2
    exact ⟨rfl, st_alloc (Below.refl _ _) _⟩
  have q4 : ¬ (64 : Int) ≤ (h.flags : Int) := by omega
  have m : h.may := ⟨c1, c2, c3⟩
  by_cases hn : 20 + h.opts.size + d.size ≤ 65515
  rotate_left
  · rw [encV6_long m hn]
    have q5 : (65515 : Int) < 20 + (h.opts.size : Int) + (d.size : Int) := by omega
    clear c1
    go_enter Try.func9, Try.ntmps9
    go_wp2
    go_ret2
    exact ⟨rfl, st_alloc (Below.refl _ _) _⟩
  rw [encV6_ok m hn]
  have q5 : ¬ (65515 : Int) < 20 + (h.opts.size : Int) + (d.size : Int) := by omega
  have hr0 := fun W => rawR h d 0 W k c2 hl (by decide)
  have hsm := fun W => sum6R src dst (ofB (raw h (bz d) 0)) W hs hd (by rw [ofB_size, raw_len, bz_len]; omega)
  rw [bz_ofB (raw_le h k m (bz d) 0 (bz_le d) (by decide))] at hsm
  have hr1 := fun W => rawR h d (tsum src dst (raw h (bz d) 0)) W k c2 hl (tsum_le _ _ _)
  unfold seg
  generalize tsum src dst (raw h (bz d) 0) = c at hsm hr1
  have HR0 := Lib.hid hr0
  have HSM := Lib.hid hsm
  have HR1 := Lib.hid hr1
  clear hr0 hsm hr1 c1 hn m
  go_enter Try.func9, Try.ntmps9
  have cells : ∀ W, Below (w.alloc (.cells #[.int .u16 (h.src : Int), .int .u16 (h.dst : Int), .int .u32 (h.seq : Int), .int .u32 (h.ack : Int), .int .u8 (h.flags : Int), .int .u16 (h.win : Int), .int .u16 (h.urg : Int), .string h.opts] 25)).heap.size (w.alloc (.cells #[.int .u16 (h.src : Int), .int .u16 (h.dst : Int), .int .u32 (h.seq : Int), .int .u32 (h.ack : Int), .int .u8 (h.flags : Int), .int .u16 (h.win : Int), .int .u16 (h.urg : Int), .string h.opts] 25)) W → ∀ (j : Nat) (v : Value), (#[.int .u16 (h.src : Int), .int .u16 (h.dst : Int), .int .u32 (h.seq : Int), .int .u32 (h.ack : Int), .int .u8 (h.flags : Int), .int .u16 (h.win : Int), .int .u16 (h.urg : Int), .string h.opts] : Array Value)[j]? = some v → W.cell? ⟨w.heap.size, j, none⟩ = some v := fun W hb j v hv =>
    ((hb.cell (p := ⟨w.heap.size, j, none⟩) (by simp)).trans (World.cell?_alloc_mark w _ _ (0, 0) j)).trans hv
  go_wp2_with fail
  refine wp_region_see_tail 9 43 (relE6 src dst h d c) rfl (by kernel_rfl) (by kernel_rfl) (by kernel_rfl) (by kernel_rfl) (relE6_more src dst h d c) ?_ ?_
  · intro i hi
    have hi2 : i < 9 := by simpa using hi
    clear hi
    match i, hi2 with
    | 0, _ =>
      intro ρ W hb hc hg hf h0 hd
      have t6 := h0 6 (by kernel_rfl)
      have c0 := cells W hb 0 _ rfl
      have c1 := cells W hb 1 _ rfl
      have c2 := cells W hb 2 _ rfl
      have c3 := cells W hb 3 _ rfl
      have c4 := cells W hb 4 _ rfl
      have c5 := cells W hb 5 _ rfl
      have c6 := cells W hb 6 _ rfl
      have c7 := cells W hb 7 _ rfl
      clear hd h0
      go_simp
      exact ⟨rfl, Below.refl _ _⟩
    | 1, _ =>
      intro ρ W hb hc hg hf h0 hd
      have t3 := h0 3 (by kernel_rfl)
      clear hd h0
      go_simp
      exact ⟨rfl, Below.refl _ _⟩
    | 2, _ =>
      intro ρ W hb hc hg hf h0 hd
      have t0 := h0 0 (by kernel_rfl)
      clear hd h0
      go_simp
      exact ⟨rfl, Below.refl _ _⟩
    | 3, _ =>
      intro ρ W hb hc hg hf h0 hd
      have t1 := h0 1 (by kernel_rfl)
      clear hd h0
      go_simp
      exact ⟨rfl, Below.refl _ _⟩
    | 4, _ =>
      intro ρ W hb hc hg hf h0 hd
      have t6 := h0 6 (by kernel_rfl)
      have c0 := cells W hb 0 _ rfl
      have c1 := cells W hb 1 _ rfl
      have c2 := cells W hb 2 _ rfl
      have c3 := cells W hb 3 _ rfl
      have c4 := cells W hb 4 _ rfl
      have c5 := cells W hb 5 _ rfl
      have c6 := cells W hb 6 _ rfl
      have c7 := cells W hb 7 _ rfl
      clear hd h0
      go_simp
      exact ⟨rfl, Below.refl _ _⟩
    | 5, _ =>
      intro ρ W hb hc hg hf h0 hd
      have t3 := h0 3 (by kernel_rfl)
      clear hd h0
      go_simp
      exact ⟨rfl, Below.refl _ _⟩
    | 6, _ =>
      intro ρ W hb hc hg hf h0 hd
      have d4 : ρ (.tmp 38) = tv h := hd 4 38 (by kernel_rfl) (by kernel_rfl)
      have d5 : ρ (.tmp 39) = .string d := hd 5 39 (by kernel_rfl) (by kernel_rfl)
      clear hd h0
      go_simp
      exact (HR0.out W).mono fun e w' ⟨he, hb⟩ => ⟨_, he, rfl, hb⟩
    | 7, _ =>
      intro ρ W hb hc hg hf h0 hd
      have d2 : ρ (.tmp 36) = .int .u32 (src : Int) := hd 2 36 (by kernel_rfl) (by kernel_rfl)
      have d3 : ρ (.tmp 37) = .int .u32 (dst : Int) := hd 3 37 (by kernel_rfl) (by kernel_rfl)
      have d6 : ρ (.tmp 40) = .string (ofB (raw h (bz d) 0)) := hd 6 40 (by kernel_rfl) (by kernel_rfl)
      clear hd h0
      go_simp
      exact (HSM.out W).mono fun e w' ⟨he, hb⟩ => ⟨_, he, rfl, hb⟩
    | 8, _ =>
      intro ρ W hb hc hg hf h0 hd
      have d0 : ρ (.tmp 34) = tv h := hd 0 34 (by kernel_rfl) (by kernel_rfl)
      have d1 : ρ (.tmp 35) = .string d := hd 1 35 (by kernel_rfl) (by kernel_rfl)
      have d7 : ρ (.tmp 41) = .int .u16 (c : Int) := hd 7 41 (by kernel_rfl) (by kernel_rfl)
      clear hd h0
      go_simp
      exact (HR1.out W).mono fun e w' ⟨he, hb⟩ => ⟨_, he, rfl, hb⟩
    | i + 9, hlt => exact absurd hlt (by omega)
  · intro vs W hb hall
    have h8 : vs 8 = .string (ofB (raw h (bz d) c)) := hall 8 (by omega)
    have HB := Lib.hid (st_call (st_alloc (Below.refl _ _) _) hb)
    clear hall cells hb
    rw [lexA_slots vs 9 [(some 34, 0), (some 35, 1), (some 36, 2), (some 37, 3), (some 38, 4), (some 39, 5), (some 40, 6), (some 41, 7), (some 42, 8)] (by kernel_rfl)]
    simp only [List.foldl_cons, List.foldl_nil, h8]
    show wpList _ _ _ [_, _] _ _
    go_wp2_with fail
    go_ret2
    exact ⟨rfl, HB.out⟩
end Go.Proofs.Ytkilkjjmanedcaa.TcpEnc
