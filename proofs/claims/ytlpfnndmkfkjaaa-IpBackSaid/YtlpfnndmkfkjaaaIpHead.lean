/-
  The document's own answer of layer 5: a head's bytes.
-/
import Derived.Test.YtlpfnndmkfkjaaaIpRef
namespace Go.Proofs.Ytlpfnndmkfkjaaa.IpHead
open Go.RowKit TupMath SumMath IpMath Litb Calm Rel IpRef
set_option linter.unusedVariables false
set_option maxRecDepth 100000

/-- a head, as a value -/
abbrev hv (h : Hd) : Value := .agg #[.int .u32 (h.src : Int), .int .u32 (h.dst : Int), .int .u8 (h.proto : Int), .int .u8 (h.ttl : Int), .int .u8 (h.tos : Int), .int .u16 (h.id : Int), .bool h.df]
/-- a slice of bytes in a block that stands -/
def Hold (L : List Nat) (v : Value) (w : World) : Prop := ∃ b, v = .slice (some ⟨b, 0, none⟩) L.length L.length ∧ b < w.heap.size ∧ ∀ (j : Nat) (x : Nat), L[j]? = some x → w.cell? ⟨b, j, none⟩ = some (.int .u8 (x : Int))
theorem Hold.more {L : List Nat} {v : Value} {w w' : World} (h : Hold L v w) (hb : Below w.heap.size w w') : Hold L v w' := by
  obtain ⟨b, e, hlt, hc⟩ := h
  exact ⟨b, e, Nat.lt_of_lt_of_le hlt hb.size, fun j x hx => (hb.cell (p := ⟨b, j, none⟩) hlt).trans (hc j x hx)⟩
theorem Hold.new (w : World) (L : List Nat) (T : TypeId) : Hold L (.slice (some ⟨w.heap.size, 0, none⟩) L.length L.length) (w.alloc (.cells (L.map fun x : Nat => Value.int .u8 (x : Int)).toArray T)) :=
  ⟨w.heap.size, rfl, by simp, fun j x hx => (World.cell?_alloc_mark w _ T (0, 0) j).trans (by simp [hx])⟩

/-- the pieces put together so far -/
def hp (h : Hd) (n s : Nat) (k : Nat) : List Nat :=
  ([[69, h.tos], w2 n, w2 h.id, [if h.df then 64 else 0, 0], [h.ttl, h.proto], w2 s, w4 h.src, w4 h.dst].take k).flatten
def rels (h : Hd) (n s : Nat) (b : Nat) : Nat → Value → World → Prop
  | 0 => fun v _ => v = .pointer (some ⟨b, 4, none⟩)
  | 1 => fun v _ => v = .int .u8 (h.tos : Int)
  | 2 => Hold [h.tos]
  | 3 => fun v _ => v = .string (ofB [h.tos])
  | 4 => fun v _ => v = .string (ofB (hp h n s 1))
  | 5 => fun v _ => v = .int .i64 (n : Int)
  | 6 => fun v _ => v = .int .u16 (n : Int)
  | 7 => fun v _ => v = .string (ofB (w2 n))
  | 8 => fun v _ => v = .string (ofB (hp h n s 2))
  | 9 => fun v _ => v = .pointer (some ⟨b, 5, none⟩)
  | 10 => fun v _ => v = .int .u16 (h.id : Int)
  | 11 => fun v _ => v = .string (ofB (w2 h.id))
  | 12 => fun v _ => v = .string (ofB (hp h n s 3))
  | 13 => fun v _ => v = .string (ofB [if h.df then 64 else 0, 0])
  | 14 => fun v _ => v = .string (ofB (hp h n s 4))
  | 15 => fun v _ => v = .pointer (some ⟨b, 3, none⟩)
  | 16 => fun v _ => v = .int .u8 (h.ttl : Int)
  | 17 => fun v _ => v = .pointer (some ⟨b, 2, none⟩)
  | 18 => fun v _ => v = .int .u8 (h.proto : Int)
  | 19 => Hold [h.ttl, h.proto]
  | 20 => fun v _ => v = .string (ofB [h.ttl, h.proto])
  | 21 => fun v _ => v = .string (ofB (hp h n s 5))
  | 22 => fun v _ => v = .int .u16 (s : Int)
  | 23 => fun v _ => v = .string (ofB (w2 s))
  | 24 => fun v _ => v = .string (ofB (hp h n s 6))
  | 25 => fun v _ => v = .pointer (some ⟨b, 0, none⟩)
  | 26 => fun v _ => v = .int .u32 (h.src : Int)
  | 27 => fun v _ => v = .string (ofB (w4 h.src))
  | 28 => fun v _ => v = .string (ofB (hp h n s 7))
  | 29 => fun v _ => v = .pointer (some ⟨b, 1, none⟩)
  | 30 => fun v _ => v = .int .u32 (h.dst : Int)
  | 31 => fun v _ => v = .string (ofB (w4 h.dst))
  | 32 => fun v _ => v = .string (ofB (hp h n s 8))
  | 33 => fun v _ => v = .string (ofB (hp h n s 8))
  | _ => fun _ _ => True
theorem rels_more (h : Hd) (n s b : Nat) (i : Nat) (v : Value) (w w' : World) (hr : rels h n s b i v w) (hb : Below w.heap.size w w') : rels h n s b i v w' := by
  unfold rels at hr ⊢
  split at hr <;> first | exact hr | exact hr.more hb

attribute [local go_sem] relUpon

theorem app_size {a b : List Nat} (h : a.length + b.length ≤ 9223372036854775807) : (ofB a).size + (ofB b).size ≤ 9223372036854775807 := by rw [ofB_size, ofB_size]; exact h

set_option maxHeartbeats 16000000 in
theorem headR (h : Hd) (n s : Nat) (w : World) (k : h.ok) (hn : n ≤ 65535) (hs : s ≤ 65535) : Calls Try.prog 17 #[hv h, .int .i64 (n : Int), .int .u16 (s : Int)] w fun e w' => e = .returned (.string (ofB (hd h n s))) ∧ Below w.heap.size w w' := by
  have l1 : ∀ x ∈ [h.tos], x ≤ 255 := by intro x hx; simp at hx; have := k.tos; omega
  have l2 : ∀ x ∈ [h.ttl, h.proto], x ≤ 255 := by intro x hx; simp at hx; have := k.ttl; have := k.proto; omega
  cases hdf : h.df
  all_goals
    go_enter Try.func17, Try.ntmps17
    go_wp2_with fail
    have cells : ∀ (d : Bool) W, Below (w.alloc (.cells #[.int .u32 (h.src : Int), .int .u32 (h.dst : Int), .int .u8 (h.proto : Int), .int .u8 (h.ttl : Int), .int .u8 (h.tos : Int), .int .u16 (h.id : Int), .bool d] 25)).heap.size (w.alloc (.cells #[.int .u32 (h.src : Int), .int .u32 (h.dst : Int), .int .u8 (h.proto : Int), .int .u8 (h.ttl : Int), .int .u8 (h.tos : Int), .int .u16 (h.id : Int), .bool d] 25)) W → ∀ (j : Nat) (v : Value), (#[.int .u32 (h.src : Int), .int .u32 (h.dst : Int), .int .u8 (h.proto : Int), .int .u8 (h.ttl : Int), .int .u8 (h.tos : Int), .int .u16 (h.id : Int), .bool d] : Array Value)[j]? = some v → W.cell? ⟨w.heap.size, j, none⟩ = some v := fun d W hb j v hv =>
      ((hb.cell (p := ⟨w.heap.size, j, none⟩) (by simp)).trans (World.cell?_alloc_mark w _ _ (0, 0) j)).trans hv
    refine wp_region_see 43 (rels h n s w.heap.size) rfl (by kernel_rfl) (by kernel_rfl) (by kernel_rfl) (rels_more h n s w.heap.size) ?_ ?_
    · intro i hi
      have hi2 : i < 34 := by simpa using hi
      clear hi
      match i, hi2 with
      | 0, _ =>
        intro ρ W hb hc hg hf h0 hd
        have b3 := h0 3 (by kernel_rfl)
        clear hd h0
        go_simp
        exact ⟨rfl, Below.refl _ _⟩
      | 1, _ =>
        intro ρ W hb hc hg hf h0 hd
        have d0 : ρ (.tmp 10) = .pointer (some ⟨w.heap.size, 4, none⟩) := hd 0 10 (by kernel_rfl) (by kernel_rfl)
        have c4 := cells _ W hb 4 _ rfl
        clear hd h0
        go_simp
        exact ⟨rfl, Below.refl _ _⟩
      | 2, _ =>
        intro ρ W hb hc hg hf h0 hd
        have d1 : ρ (.tmp 11) = .int .u8 (h.tos : Int) := hd 1 11 (by kernel_rfl) (by kernel_rfl)
        clear hd h0
        go_simp
        exact ⟨Hold.new W [h.tos] _, st_alloc (Below.refl _ _) _⟩
      | 3, _ =>
        intro ρ W hb hc hg hf h0 hd
        have dh : Hold [h.tos] (ρ (.tmp 12)) W := hd 2 12 (by kernel_rfl) (by kernel_rfl)
        obtain ⟨b, eb, _, hcl⟩ := dh
        have hcv : (convert 38 9 (.slice (some ⟨b, 0, none⟩) 1 1)).run Try.prog W = .ok (.string (ofB [h.tos])) W := held_back Try.prog 38 9 5 Try.underlying38 Try.underlying5 Try.underlying9 [h.tos] l1 W b [h.tos].length hcl
        clear hcl
        clear hd h0
        go_simp
        exact ⟨rfl, Below.refl _ _⟩
      | 4, _ =>
        intro ρ W hb hc hg hf h0 hd
        have d3 : ρ (.tmp 13) = .string (ofB [h.tos]) := hd 3 13 (by kernel_rfl) (by kernel_rfl)
        have hz := app_size (a := [69]) (b := [h.tos]) (Nat.le_of_ble_eq_true rfl)
        have hz1 : 1 + (ofB [h.tos]).size ≤ 9223372036854775807 := hz
        clear hd h0
        go_simp
        exact ⟨congrArg Value.string (ofB_app [69] [h.tos]), Below.refl _ _⟩
      | 5, _ =>
        intro ρ W hb hc hg hf h0 hd
        have b1 := h0 1 (by kernel_rfl)
        clear hd h0
        go_simp
        exact ⟨rfl, Below.refl _ _⟩
      | 6, _ =>
        intro ρ W hb hc hg hf h0 hd
        have d5 : ρ (.tmp 15) = .int .i64 (n : Int) := hd 5 15 (by kernel_rfl) (by kernel_rfl)
        have e16 : IntKind.u16.wrap (n : Int) = (n : Int) := by rw [IntKind.wrap_u16]; omega
        clear hd h0
        go_simp
        exact ⟨rfl, Below.refl _ _⟩
      | 7, _ =>
        intro ρ W hb hc hg hf h0 hd
        have d6 : ρ (.tmp 16) = .int .u16 (n : Int) := hd 6 16 (by kernel_rfl) (by kernel_rfl)
        clear hd h0
        go_simp
        exact (wordR n W hn).mono fun e w' ⟨he, hb⟩ => ⟨_, he, rfl, hb⟩
      | 8, _ =>
        intro ρ W hb hc hg hf h0 hd
        have d4 : ρ (.tmp 14) = .string (ofB (hp h n s 1)) := hd 4 14 (by kernel_rfl) (by kernel_rfl)
        have d7 : ρ (.tmp 17) = .string (ofB (w2 n)) := hd 7 17 (by kernel_rfl) (by kernel_rfl)
        have hz := app_size (a := (hp h n s 1)) (b := (w2 n)) (Nat.le_of_ble_eq_true rfl)
        clear hd h0
        go_simp
        exact ⟨by rw [ofB_app]; rfl, Below.refl _ _⟩
      | 9, _ =>
        intro ρ W hb hc hg hf h0 hd
        have b3 := h0 3 (by kernel_rfl)
        clear hd h0
        go_simp
        exact ⟨rfl, Below.refl _ _⟩
      | 10, _ =>
        intro ρ W hb hc hg hf h0 hd
        have d9 : ρ (.tmp 19) = .pointer (some ⟨w.heap.size, 5, none⟩) := hd 9 19 (by kernel_rfl) (by kernel_rfl)
        have c5 := cells _ W hb 5 _ rfl
        clear hd h0
        go_simp
        exact ⟨rfl, Below.refl _ _⟩
      | 11, _ =>
        intro ρ W hb hc hg hf h0 hd
        have d10 : ρ (.tmp 20) = .int .u16 (h.id : Int) := hd 10 20 (by kernel_rfl) (by kernel_rfl)
        clear hd h0
        go_simp
        exact (wordR h.id W k.id).mono fun e w' ⟨he, hb⟩ => ⟨_, he, rfl, hb⟩
      | 12, _ =>
        intro ρ W hb hc hg hf h0 hd
        have d8 : ρ (.tmp 18) = .string (ofB (hp h n s 2)) := hd 8 18 (by kernel_rfl) (by kernel_rfl)
        have d11 : ρ (.tmp 21) = .string (ofB (w2 h.id)) := hd 11 21 (by kernel_rfl) (by kernel_rfl)
        have hz := app_size (a := (hp h n s 2)) (b := (w2 h.id)) (Nat.le_of_ble_eq_true rfl)
        clear hd h0
        go_simp
        exact ⟨by rw [ofB_app]; rfl, Below.refl _ _⟩
      | 13, _ =>
        intro ρ W hb hc hg hf h0 hd
        have b7 := h0 7 (by kernel_rfl)
        clear hd h0
        go_simp
        refine ⟨?_, Below.refl _ _⟩
        show _ = Value.string (ofB [if h.df then 64 else 0, 0])
        rw [hdf]
        rfl
      | 14, _ =>
        intro ρ W hb hc hg hf h0 hd
        have d12 : ρ (.tmp 22) = .string (ofB (hp h n s 3)) := hd 12 22 (by kernel_rfl) (by kernel_rfl)
        have d13 : ρ (.tmp 23) = .string (ofB [if h.df then 64 else 0, 0]) := hd 13 23 (by kernel_rfl) (by kernel_rfl)
        have hz := app_size (a := (hp h n s 3)) (b := [if h.df then 64 else 0, 0]) (Nat.le_of_ble_eq_true rfl)
        clear hd h0
        go_simp
        refine ⟨?_, Below.refl _ _⟩
        show _ = Value.string (ofB (hp h n s 4))
        rw [ofB_app]
        unfold hp
        rw [hdf]
        rfl
      | 15, _ =>
        intro ρ W hb hc hg hf h0 hd
        have b3 := h0 3 (by kernel_rfl)
        clear hd h0
        go_simp
        exact ⟨rfl, Below.refl _ _⟩
      | 16, _ =>
        intro ρ W hb hc hg hf h0 hd
        have d15 : ρ (.tmp 25) = .pointer (some ⟨w.heap.size, 3, none⟩) := hd 15 25 (by kernel_rfl) (by kernel_rfl)
        have c3 := cells _ W hb 3 _ rfl
        clear hd h0
        go_simp
        exact ⟨rfl, Below.refl _ _⟩
      | 17, _ =>
        intro ρ W hb hc hg hf h0 hd
        have b3 := h0 3 (by kernel_rfl)
        clear hd h0
        go_simp
        exact ⟨rfl, Below.refl _ _⟩
      | 18, _ =>
        intro ρ W hb hc hg hf h0 hd
        have d17 : ρ (.tmp 27) = .pointer (some ⟨w.heap.size, 2, none⟩) := hd 17 27 (by kernel_rfl) (by kernel_rfl)
        have c2 := cells _ W hb 2 _ rfl
        clear hd h0
        go_simp
        exact ⟨rfl, Below.refl _ _⟩
      | 19, _ =>
        intro ρ W hb hc hg hf h0 hd
        have d16 : ρ (.tmp 26) = .int .u8 (h.ttl : Int) := hd 16 26 (by kernel_rfl) (by kernel_rfl)
        have d18 : ρ (.tmp 28) = .int .u8 (h.proto : Int) := hd 18 28 (by kernel_rfl) (by kernel_rfl)
        clear hd h0
        go_simp
        exact ⟨Hold.new W [h.ttl, h.proto] _, st_alloc (Below.refl _ _) _⟩
      | 20, _ =>
        intro ρ W hb hc hg hf h0 hd
        have dh : Hold [h.ttl, h.proto] (ρ (.tmp 29)) W := hd 19 29 (by kernel_rfl) (by kernel_rfl)
        obtain ⟨b, eb, _, hcl⟩ := dh
        have hcv : (convert 38 9 (.slice (some ⟨b, 0, none⟩) 2 2)).run Try.prog W = .ok (.string (ofB [h.ttl, h.proto])) W := held_back Try.prog 38 9 5 Try.underlying38 Try.underlying5 Try.underlying9 [h.ttl, h.proto] l2 W b [h.ttl, h.proto].length hcl
        clear hcl
        clear hd h0
        go_simp
        exact ⟨rfl, Below.refl _ _⟩
      | 21, _ =>
        intro ρ W hb hc hg hf h0 hd
        have d14 : ρ (.tmp 24) = .string (ofB (hp h n s 4)) := hd 14 24 (by kernel_rfl) (by kernel_rfl)
        have d20 : ρ (.tmp 30) = .string (ofB [h.ttl, h.proto]) := hd 20 30 (by kernel_rfl) (by kernel_rfl)
        have hz := app_size (a := (hp h n s 4)) (b := [h.ttl, h.proto]) (Nat.le_of_ble_eq_true rfl)
        clear hd h0
        go_simp
        exact ⟨by rw [ofB_app]; rfl, Below.refl _ _⟩
      | 22, _ =>
        intro ρ W hb hc hg hf h0 hd
        have b2 := h0 2 (by kernel_rfl)
        clear hd h0
        go_simp
        exact ⟨rfl, Below.refl _ _⟩
      | 23, _ =>
        intro ρ W hb hc hg hf h0 hd
        have d22 : ρ (.tmp 32) = .int .u16 (s : Int) := hd 22 32 (by kernel_rfl) (by kernel_rfl)
        clear hd h0
        go_simp
        exact (wordR s W hs).mono fun e w' ⟨he, hb⟩ => ⟨_, he, rfl, hb⟩
      | 24, _ =>
        intro ρ W hb hc hg hf h0 hd
        have d21 : ρ (.tmp 31) = .string (ofB (hp h n s 5)) := hd 21 31 (by kernel_rfl) (by kernel_rfl)
        have d23 : ρ (.tmp 33) = .string (ofB (w2 s)) := hd 23 33 (by kernel_rfl) (by kernel_rfl)
        have hz := app_size (a := (hp h n s 5)) (b := (w2 s)) (Nat.le_of_ble_eq_true rfl)
        clear hd h0
        go_simp
        exact ⟨by rw [ofB_app]; rfl, Below.refl _ _⟩
      | 25, _ =>
        intro ρ W hb hc hg hf h0 hd
        have b3 := h0 3 (by kernel_rfl)
        clear hd h0
        go_simp
        exact ⟨rfl, Below.refl _ _⟩
      | 26, _ =>
        intro ρ W hb hc hg hf h0 hd
        have d25 : ρ (.tmp 35) = .pointer (some ⟨w.heap.size, 0, none⟩) := hd 25 35 (by kernel_rfl) (by kernel_rfl)
        have c0 := cells _ W hb 0 _ rfl
        clear hd h0
        go_simp
        exact ⟨rfl, Below.refl _ _⟩
      | 27, _ =>
        intro ρ W hb hc hg hf h0 hd
        have d26 : ρ (.tmp 36) = .int .u32 (h.src : Int) := hd 26 36 (by kernel_rfl) (by kernel_rfl)
        clear hd h0
        go_simp
        exact (fourR h.src W k.src).mono fun e w' ⟨he, hb⟩ => ⟨_, he, rfl, hb⟩
      | 28, _ =>
        intro ρ W hb hc hg hf h0 hd
        have d24 : ρ (.tmp 34) = .string (ofB (hp h n s 6)) := hd 24 34 (by kernel_rfl) (by kernel_rfl)
        have d27 : ρ (.tmp 37) = .string (ofB (w4 h.src)) := hd 27 37 (by kernel_rfl) (by kernel_rfl)
        have hz := app_size (a := (hp h n s 6)) (b := (w4 h.src)) (Nat.le_of_ble_eq_true rfl)
        clear hd h0
        go_simp
        exact ⟨by rw [ofB_app]; rfl, Below.refl _ _⟩
      | 29, _ =>
        intro ρ W hb hc hg hf h0 hd
        have b3 := h0 3 (by kernel_rfl)
        clear hd h0
        go_simp
        exact ⟨rfl, Below.refl _ _⟩
      | 30, _ =>
        intro ρ W hb hc hg hf h0 hd
        have d29 : ρ (.tmp 39) = .pointer (some ⟨w.heap.size, 1, none⟩) := hd 29 39 (by kernel_rfl) (by kernel_rfl)
        have c1 := cells _ W hb 1 _ rfl
        clear hd h0
        go_simp
        exact ⟨rfl, Below.refl _ _⟩
      | 31, _ =>
        intro ρ W hb hc hg hf h0 hd
        have d30 : ρ (.tmp 40) = .int .u32 (h.dst : Int) := hd 30 40 (by kernel_rfl) (by kernel_rfl)
        clear hd h0
        go_simp
        exact (fourR h.dst W k.dst).mono fun e w' ⟨he, hb⟩ => ⟨_, he, rfl, hb⟩
      | 32, _ =>
        intro ρ W hb hc hg hf h0 hd
        have d28 : ρ (.tmp 38) = .string (ofB (hp h n s 7)) := hd 28 38 (by kernel_rfl) (by kernel_rfl)
        have d31 : ρ (.tmp 41) = .string (ofB (w4 h.dst)) := hd 31 41 (by kernel_rfl) (by kernel_rfl)
        have hz := app_size (a := (hp h n s 7)) (b := (w4 h.dst)) (Nat.le_of_ble_eq_true rfl)
        clear hd h0
        go_simp
        exact ⟨by rw [ofB_app]; rfl, Below.refl _ _⟩
      | 33, _ =>
        intro ρ W hb hc hg hf h0 hd
        have d32 : ρ (.tmp 42) = .string (ofB (hp h n s 8)) := hd 32 42 (by kernel_rfl) (by kernel_rfl)
        clear hd h0
        go_simp
        exact ⟨rfl, Below.refl _ _⟩
      | i + 34, hlt => omega
    · intro vs W hb hall
      have h33 : vs 33 = .string (ofB (hp h n s 8)) := hall 33 (of_decide_eq_true (by kernel_rfl))
      clear hall
      go_wp2
      refine bodyPost_ret (v := .string (ofB (hp h n s 8))) ?_ rfl ⟨by rfl, st_call (st_alloc (Below.refl _ _) _) hb⟩
      rw [← h33]
      exact (results_tmp rfl _ _ _).trans (congrArg (Result.ok · W) (lexA_get (N := 43) (by kernel_rfl) rfl vs 6 33 _ (by kernel_rfl) (of_decide_eq_true (by kernel_rfl))))
end Go.Proofs.Ytlpfnndmkfkjaaa.IpHead
