/-
  Laws for a proof of package pkt: 4 texts in one.
-/
import Derived.Test.YtpmnmnflaijaaaaQLitb1
import Derived.Test.YtpmnmnflaijaaaaQTcpMath5
import Derived.Test.YtpmnmnflaijaaaaQCalm1
import Derived.Test.YtpmnmnflaijaaaaQRelG2
import Derived.Test.YtpmnmnflaijaaaaQSumPlainB4
import Derived.Deep.LoopGhost
import Derived.Lib.Hide
namespace Go.Proofs.Ytpmnmnflaijaaaa.IpRef
open Go.RowKit TupMath SumMath IpMath Litb Calm
set_option linter.unusedVariables false
set_option maxRecDepth 100000

theorem w2_le (n : Nat) (h : n ≤ 65535) : ∀ x ∈ w2 n, x ≤ 255 := by intro x hx; simp [w2] at hx; omega
theorem w4_le (n : Nat) (h : n ≤ 4294967295) : ∀ x ∈ w4 n, x ≤ 255 := by intro x hx; simp [w4] at hx; omega
theorem ofB_app (a b : List Nat) : ofB a ++ ofB b = ofB (a ++ b) := by
  apply ByteArray.ext
  rw [ByteArray.data_append]
  simp [ofB]

theorem w4_two (n : Nat) : w2 (n / 65536) ++ w2 (n % 65536) = w4 n := by
  have a : n / 65536 / 256 = n / 16777216 := by omega
  have b : n % 65536 / 256 = n / 256 % 256 := by omega
  have c : n % 65536 % 256 = n % 256 := by omega
  simp only [w2, w4, a, b, c]
  rfl

set_option maxHeartbeats 4000000 in
theorem wordR (n : Nat) (w : World) (hn : n ≤ 65535) : Calls Try.prog 93 #[.int .u16 (n : Int)] w fun e w' => e = .returned (.string (ofB (w2 n))) ∧ Below w.heap.size w w' := by
  have hcv := lit2_back Try.prog 50 9 5 Try.underlying50 Try.underlying5 Try.underlying9 (n / 256) (n % 256) (by omega) (by omega) ((n : Int) / 256) ((n : Int) % 256) (by omega) (by omega) w 5
  go_enter Try.func93, Try.ntmps93
  go_wp2
  go_ret
  exact ⟨rfl, st_alloc (Below.refl _ _) _⟩
set_option maxHeartbeats 4000000 in
theorem fourR (n : Nat) (w : World) (hn : n ≤ 4294967295) : Calls Try.prog 94 #[.int .u32 (n : Int)] w fun e w' => e = .returned (.string (ofB (w4 n))) ∧ Below w.heap.size w w' := by
  have e1 : IntKind.u16.wrap ((n : Int) / 65536) = ((n / 65536 : Nat) : Int) := by rw [IntKind.wrap_u16]; omega
  have e2 : IntKind.u16.wrap (n : Int) = ((n % 65536 : Nat) : Int) := by rw [IntKind.wrap_u16]; omega
  have hsz : (ofB (w2 (n / 65536))).size + (ofB (w2 (n % 65536))).size ≤ 9223372036854775807 := by rw [ofB_size, ofB_size]; simp [w2]
  go_enter Try.func94, Try.ntmps94
  go_wp2_with fail
  refine (wordR (n / 65536) _ (by omega)).mono ?_
  rintro e w1 ⟨rfl, hb1⟩
  go_wp2_with fail
  refine (wordR (n % 65536) _ (by omega)).mono ?_
  rintro e w2' ⟨rfl, hb2⟩
  go_wp2_with fail
  go_ret
  refine ⟨?_, st_call hb1 hb2⟩
  rw [ofB_app, w4_two]
  rfl

set_option maxHeartbeats 4000000 in
theorem numR (s : ByteArray) (w : World) (hs : s.size ≤ 4) : Calls Try.prog 108 #[.string s] w fun e w' => e = .returned (.int .u32 ((v256 (bz s) : Nat) : Int)) ∧ w' = w := by
  have HLe := Lib.hid (bz_le s)
  go_enter Try.func108, Try.ntmps108
  go_wp2
  go_loopw [3, 4] (fun x i wr => ∃ k : Nat, i = .int .i64 (k : Int) ∧ k ≤ s.size ∧ x = .int .u32 ((v256 ((bz s).take k) : Nat) : Int) ∧ wr = w) (fun _ i _ => s.size - (intOf i).toNat)
  case atStart => exact ⟨0, rfl, by omega, rfl, rfl⟩
  case round =>
    obtain ⟨k, rfl, hk, rfl, rfl⟩ := hrel
    by_cases hlt : k < s.size
    · have ak := bz_at s k hlt
      obtain ⟨x, hx⟩ : ∃ x, s[k].toNat = x := ⟨_, rfl⟩
      rw [hx] at ak
      have qx : x ≤ 255 := HLe.out _ (List.mem_of_getElem? ak)
      have hs1 := take_snoc ak
      have hlt2 := v256_lt ((bz s).take k) (fun z hz => HLe.out z (List.mem_of_mem_take hz))
      have hlk : ((bz s).take k).length = k := by rw [List.length_take, bz_len]; omega
      rw [hlk] at hlt2
      have hpow : 256 ^ k ≤ 256 ^ 3 := Nat.pow_le_pow_right (by decide) (by omega)
      have e3 : (256 : Nat) ^ 3 = 16777216 := by decide
      have HS := Lib.hid hs1
      obtain ⟨v, hv⟩ : ∃ v, v256 ((bz s).take k) = v := ⟨_, rfl⟩
      rw [hv] at hlt2 ⊢
      have hv2 : v ≤ 16777215 := by omega
      have HV := Lib.hid hv
      have hlti : (k : Int) < (s.size : Int) := by omega
      clear hs1 hlt2 hlk hpow hv ak e3
      go_wp2
      go_roundw
      case rel => exact ⟨k + 1, by go_num, by omega, by rw [HS.out, v256_snoc, HV.out]; congr 1; omega, by trivial⟩
      case measure => simp only [intOf]; omega
    · have hlti : ¬ (k : Int) < (s.size : Int) := by omega
      have HALL := Lib.hid (show (bz s).take k = bz s from List.take_of_length_le (by rw [bz_len]; omega))
      go_wp2
      go_ret
      exact ⟨by rw [HALL.out]; rfl, rfl⟩
end Go.Proofs.Ytpmnmnflaijaaaa.IpRef

namespace Go.Proofs.Ytpmnmnflaijaaaa.IpHead
open Go.RowKit TupMath SumMath IpMath Litb Calm Rel IpRef
set_option linter.unusedVariables false
set_option maxRecDepth 100000

/-- a head, as a value -/
abbrev hv (h : Hd) : Value := .agg #[.int .u32 (h.src : Int), .int .u32 (h.dst : Int), .int .u8 (h.proto : Int), .int .u8 (h.ttl : Int), .int .u8 (h.tos : Int), .int .u16 (h.id : Int), .bool h.df]
/-- a slice of bytes in a block that stands -/
def Hold (L : List Nat) (v : Value) (w : World) : Prop := ∃ b, v = .slice (some ⟨b, 0, none⟩) L.length L.length ∧ b < w.heap.size ∧ ∀ (j : Nat) (x : Nat), L[j]? = some x → w.cell? ⟨b, j, none⟩ = some (.int .u8 (x : Int))
theorem Hold.more {L : List Nat} {v : Value} {w w' : World} (h : Hold L v w) (hb : Below w.heap.size w w') : Hold L v w' := by
  obtain ⟨b, e, hlt, hc⟩ := h
  exact ⟨b, e, Nat.lt_of_lt_of_le hlt hb.size, fun j x hx => (hb.cell (p := ⟨b, j, none⟩) hlt).trans (hc j x hx)⟩
theorem Hold.new (w : World) (L : List Nat) (T : TypeId) : Hold L (.slice (some ⟨w.heap.size, 0, none⟩) L.length L.length) (w.alloc (.cells (L.map fun x : Nat => Value.int .u8 (x : Int)).toArray T)) :=
  ⟨w.heap.size, rfl, by simp, fun j x hx => (World.cell?_alloc_mark w _ T (0, 0) j).trans (by simp [hx])⟩

/-- the pieces put together so far -/
def hp (h : Hd) (n s : Nat) (k : Nat) : List Nat :=
  ([[69, h.tos], w2 n, w2 h.id, [if h.df then 64 else 0, 0], [h.ttl, h.proto], w2 s, w4 h.src, w4 h.dst].take k).flatten
def rels (h : Hd) (n s : Nat) (b : Nat) : Nat → Value → World → Prop
  | 0 => fun v _ => v = .pointer (some ⟨b, 4, none⟩)
  | 1 => fun v _ => v = .int .u8 (h.tos : Int)
  | 2 => Hold [h.tos]
  | 3 => fun v _ => v = .string (ofB [h.tos])
  | 4 => fun v _ => v = .string (ofB (hp h n s 1))
  | 5 => fun v _ => v = .int .i64 (n : Int)
  | 6 => fun v _ => v = .int .u16 (n : Int)
  | 7 => fun v _ => v = .string (ofB (w2 n))
  | 8 => fun v _ => v = .string (ofB (hp h n s 2))
  | 9 => fun v _ => v = .pointer (some ⟨b, 5, none⟩)
  | 10 => fun v _ => v = .int .u16 (h.id : Int)
  | 11 => fun v _ => v = .string (ofB (w2 h.id))
  | 12 => fun v _ => v = .string (ofB (hp h n s 3))
  | 13 => fun v _ => v = .string (ofB [if h.df then 64 else 0, 0])
  | 14 => fun v _ => v = .string (ofB (hp h n s 4))
  | 15 => fun v _ => v = .pointer (some ⟨b, 3, none⟩)
  | 16 => fun v _ => v = .int .u8 (h.ttl : Int)
  | 17 => fun v _ => v = .pointer (some ⟨b, 2, none⟩)
  | 18 => fun v _ => v = .int .u8 (h.proto : Int)
  | 19 => Hold [h.ttl, h.proto]
  | 20 => fun v _ => v = .string (ofB [h.ttl, h.proto])
  | 21 => fun v _ => v = .string (ofB (hp h n s 5))
  | 22 => fun v _ => v = .int .u16 (s : Int)
  | 23 => fun v _ => v = .string (ofB (w2 s))
  | 24 => fun v _ => v = .string (ofB (hp h n s 6))
  | 25 => fun v _ => v = .pointer (some ⟨b, 0, none⟩)
  | 26 => fun v _ => v = .int .u32 (h.src : Int)
  | 27 => fun v _ => v = .string (ofB (w4 h.src))
  | 28 => fun v _ => v = .string (ofB (hp h n s 7))
  | 29 => fun v _ => v = .pointer (some ⟨b, 1, none⟩)
  | 30 => fun v _ => v = .int .u32 (h.dst : Int)
  | 31 => fun v _ => v = .string (ofB (w4 h.dst))
  | 32 => fun v _ => v = .string (ofB (hp h n s 8))
  | 33 => fun v _ => v = .string (ofB (hp h n s 8))
  | _ => fun _ _ => True
theorem rels_more (h : Hd) (n s b : Nat) (i : Nat) (v : Value) (w w' : World) (hr : rels h n s b i v w) (hb : Below w.heap.size w w') : rels h n s b i v w' := by
  unfold rels at hr ⊢
  split at hr <;> first | exact hr | exact hr.more hb

attribute [local go_sem] relUpon

theorem app_size {a b : List Nat} (h : a.length + b.length ≤ 9223372036854775807) : (ofB a).size + (ofB b).size ≤ 9223372036854775807 := by rw [ofB_size, ofB_size]; exact h

set_option maxHeartbeats 16000000 in
theorem headR (h : Hd) (n s : Nat) (w : World) (k : h.ok) (hn : n ≤ 65535) (hs : s ≤ 65535) : Calls Try.prog 60 #[hv h, .int .i64 (n : Int), .int .u16 (s : Int)] w fun e w' => e = .returned (.string (ofB (hd h n s))) ∧ Below w.heap.size w w' := by
  have l1 : ∀ x ∈ [h.tos], x ≤ 255 := by intro x hx; simp at hx; have := k.tos; omega
  have l2 : ∀ x ∈ [h.ttl, h.proto], x ≤ 255 := by intro x hx; simp at hx; have := k.ttl; have := k.proto; omega
  cases hdf : h.df
  all_goals
    go_enter Try.func60, Try.ntmps60
    go_wp2_with fail
    have cells : ∀ (d : Bool) W, Below (w.alloc (.cells #[.int .u32 (h.src : Int), .int .u32 (h.dst : Int), .int .u8 (h.proto : Int), .int .u8 (h.ttl : Int), .int .u8 (h.tos : Int), .int .u16 (h.id : Int), .bool d] 62)).heap.size (w.alloc (.cells #[.int .u32 (h.src : Int), .int .u32 (h.dst : Int), .int .u8 (h.proto : Int), .int .u8 (h.ttl : Int), .int .u8 (h.tos : Int), .int .u16 (h.id : Int), .bool d] 62)) W → ∀ (j : Nat) (v : Value), (#[.int .u32 (h.src : Int), .int .u32 (h.dst : Int), .int .u8 (h.proto : Int), .int .u8 (h.ttl : Int), .int .u8 (h.tos : Int), .int .u16 (h.id : Int), .bool d] : Array Value)[j]? = some v → W.cell? ⟨w.heap.size, j, none⟩ = some v := fun d W hb j v hv =>
      ((hb.cell (p := ⟨w.heap.size, j, none⟩) (by simp)).trans (World.cell?_alloc_mark w _ _ (0, 0) j)).trans hv
    refine wp_region_see 43 (rels h n s w.heap.size) rfl (by kernel_rfl) (by kernel_rfl) (by kernel_rfl) (rels_more h n s w.heap.size) ?_ ?_
    · intro i hi
      have hi2 : i < 34 := by simpa using hi
      clear hi
      match i, hi2 with
      | 0, _ =>
        intro ρ W hb hc hg hf h0 hd
        have b3 := h0 3 (by kernel_rfl)
        clear hd h0
        go_simp
        exact ⟨rfl, Below.refl _ _⟩
      | 1, _ =>
        intro ρ W hb hc hg hf h0 hd
        have d0 : ρ (.tmp 10) = .pointer (some ⟨w.heap.size, 4, none⟩) := hd 0 10 (by kernel_rfl) (by kernel_rfl)
        have c4 := cells _ W hb 4 _ rfl
        clear hd h0
        go_simp
        exact ⟨rfl, Below.refl _ _⟩
      | 2, _ =>
        intro ρ W hb hc hg hf h0 hd
        have d1 : ρ (.tmp 11) = .int .u8 (h.tos : Int) := hd 1 11 (by kernel_rfl) (by kernel_rfl)
        clear hd h0
        go_simp
        exact ⟨Hold.new W [h.tos] _, st_alloc (Below.refl _ _) _⟩
      | 3, _ =>
        intro ρ W hb hc hg hf h0 hd
        have dh : Hold [h.tos] (ρ (.tmp 12)) W := hd 2 12 (by kernel_rfl) (by kernel_rfl)
        obtain ⟨b, eb, _, hcl⟩ := dh
        have hcv : (convert 50 9 (.slice (some ⟨b, 0, none⟩) 1 1)).run Try.prog W = .ok (.string (ofB [h.tos])) W := held_back Try.prog 50 9 5 Try.underlying50 Try.underlying5 Try.underlying9 [h.tos] l1 W b [h.tos].length hcl
        clear hcl
        clear hd h0
        go_simp
        exact ⟨rfl, Below.refl _ _⟩
      | 4, _ =>
        intro ρ W hb hc hg hf h0 hd
        have d3 : ρ (.tmp 13) = .string (ofB [h.tos]) := hd 3 13 (by kernel_rfl) (by kernel_rfl)
        have hz := app_size (a := [69]) (b := [h.tos]) (Nat.le_of_ble_eq_true rfl)
        have hz1 : 1 + (ofB [h.tos]).size ≤ 9223372036854775807 := hz
        clear hd h0
        go_simp
        exact ⟨congrArg Value.string (ofB_app [69] [h.tos]), Below.refl _ _⟩
      | 5, _ =>
        intro ρ W hb hc hg hf h0 hd
        have b1 := h0 1 (by kernel_rfl)
        clear hd h0
        go_simp
        exact ⟨rfl, Below.refl _ _⟩
      | 6, _ =>
        intro ρ W hb hc hg hf h0 hd
        have d5 : ρ (.tmp 15) = .int .i64 (n : Int) := hd 5 15 (by kernel_rfl) (by kernel_rfl)
        have e16 : IntKind.u16.wrap (n : Int) = (n : Int) := by rw [IntKind.wrap_u16]; omega
        clear hd h0
        go_simp
        exact ⟨rfl, Below.refl _ _⟩
      | 7, _ =>
        intro ρ W hb hc hg hf h0 hd
        have d6 : ρ (.tmp 16) = .int .u16 (n : Int) := hd 6 16 (by kernel_rfl) (by kernel_rfl)
        clear hd h0
        go_simp
        exact (wordR n W hn).mono fun e w' ⟨he, hb⟩ => ⟨_, he, rfl, hb⟩
      | 8, _ =>
        intro ρ W hb hc hg hf h0 hd
        have d4 : ρ (.tmp 14) = .string (ofB (hp h n s 1)) := hd 4 14 (by kernel_rfl) (by kernel_rfl)
        have d7 : ρ (.tmp 17) = .string (ofB (w2 n)) := hd 7 17 (by kernel_rfl) (by kernel_rfl)
        have hz := app_size (a := (hp h n s 1)) (b := (w2 n)) (Nat.le_of_ble_eq_true rfl)
        clear hd h0
        go_simp
        exact ⟨by rw [ofB_app]; rfl, Below.refl _ _⟩
      | 9, _ =>
        intro ρ W hb hc hg hf h0 hd
        have b3 := h0 3 (by kernel_rfl)
        clear hd h0
        go_simp
        exact ⟨rfl, Below.refl _ _⟩
      | 10, _ =>
        intro ρ W hb hc hg hf h0 hd
        have d9 : ρ (.tmp 19) = .pointer (some ⟨w.heap.size, 5, none⟩) := hd 9 19 (by kernel_rfl) (by kernel_rfl)
        have c5 := cells _ W hb 5 _ rfl
        clear hd h0
        go_simp
        exact ⟨rfl, Below.refl _ _⟩
      | 11, _ =>
        intro ρ W hb hc hg hf h0 hd
        have d10 : ρ (.tmp 20) = .int .u16 (h.id : Int) := hd 10 20 (by kernel_rfl) (by kernel_rfl)
        clear hd h0
        go_simp
        exact (wordR h.id W k.id).mono fun e w' ⟨he, hb⟩ => ⟨_, he, rfl, hb⟩
      | 12, _ =>
        intro ρ W hb hc hg hf h0 hd
        have d8 : ρ (.tmp 18) = .string (ofB (hp h n s 2)) := hd 8 18 (by kernel_rfl) (by kernel_rfl)
        have d11 : ρ (.tmp 21) = .string (ofB (w2 h.id)) := hd 11 21 (by kernel_rfl) (by kernel_rfl)
        have hz := app_size (a := (hp h n s 2)) (b := (w2 h.id)) (Nat.le_of_ble_eq_true rfl)
        clear hd h0
        go_simp
        exact ⟨by rw [ofB_app]; rfl, Below.refl _ _⟩
      | 13, _ =>
        intro ρ W hb hc hg hf h0 hd
        have b7 := h0 7 (by kernel_rfl)
        clear hd h0
        go_simp
        refine ⟨?_, Below.refl _ _⟩
        show _ = Value.string (ofB [if h.df then 64 else 0, 0])
        rw [hdf]
        rfl
      | 14, _ =>
        intro ρ W hb hc hg hf h0 hd
        have d12 : ρ (.tmp 22) = .string (ofB (hp h n s 3)) := hd 12 22 (by kernel_rfl) (by kernel_rfl)
        have d13 : ρ (.tmp 23) = .string (ofB [if h.df then 64 else 0, 0]) := hd 13 23 (by kernel_rfl) (by kernel_rfl)
        have hz := app_size (a := (hp h n s 3)) (b := [if h.df then 64 else 0, 0]) (Nat.le_of_ble_eq_true rfl)
        clear hd h0
        go_simp
        refine ⟨?_, Below.refl _ _⟩
        show _ = Value.string (ofB (hp h n s 4))
        rw [ofB_app]
        unfold hp
        rw [hdf]
        rfl
      | 15, _ =>
        intro ρ W hb hc hg hf h0 hd
        have b3 := h0 3 (by kernel_rfl)
        clear hd h0
        go_simp
        exact ⟨rfl, Below.refl _ _⟩
      | 16, _ =>
        intro ρ W hb hc hg hf h0 hd
        have d15 : ρ (.tmp 25) = .pointer (some ⟨w.heap.size, 3, none⟩) := hd 15 25 (by kernel_rfl) (by kernel_rfl)
        have c3 := cells _ W hb 3 _ rfl
        clear hd h0
        go_simp
        exact ⟨rfl, Below.refl _ _⟩
      | 17, _ =>
        intro ρ W hb hc hg hf h0 hd
        have b3 := h0 3 (by kernel_rfl)
        clear hd h0
        go_simp
        exact ⟨rfl, Below.refl _ _⟩
      | 18, _ =>
        intro ρ W hb hc hg hf h0 hd
        have d17 : ρ (.tmp 27) = .pointer (some ⟨w.heap.size, 2, none⟩) := hd 17 27 (by kernel_rfl) (by kernel_rfl)
        have c2 := cells _ W hb 2 _ rfl
        clear hd h0
        go_simp
        exact ⟨rfl, Below.refl _ _⟩
      | 19, _ =>
        intro ρ W hb hc hg hf h0 hd
        have d16 : ρ (.tmp 26) = .int .u8 (h.ttl : Int) := hd 16 26 (by kernel_rfl) (by kernel_rfl)
        have d18 : ρ (.tmp 28) = .int .u8 (h.proto : Int) := hd 18 28 (by kernel_rfl) (by kernel_rfl)
        clear hd h0
        go_simp
        exact ⟨Hold.new W [h.ttl, h.proto] _, st_alloc (Below.refl _ _) _⟩
      | 20, _ =>
        intro ρ W hb hc hg hf h0 hd
        have dh : Hold [h.ttl, h.proto] (ρ (.tmp 29)) W := hd 19 29 (by kernel_rfl) (by kernel_rfl)
        obtain ⟨b, eb, _, hcl⟩ := dh
        have hcv : (convert 50 9 (.slice (some ⟨b, 0, none⟩) 2 2)).run Try.prog W = .ok (.string (ofB [h.ttl, h.proto])) W := held_back Try.prog 50 9 5 Try.underlying50 Try.underlying5 Try.underlying9 [h.ttl, h.proto] l2 W b [h.ttl, h.proto].length hcl
        clear hcl
        clear hd h0
        go_simp
        exact ⟨rfl, Below.refl _ _⟩
      | 21, _ =>
        intro ρ W hb hc hg hf h0 hd
        have d14 : ρ (.tmp 24) = .string (ofB (hp h n s 4)) := hd 14 24 (by kernel_rfl) (by kernel_rfl)
        have d20 : ρ (.tmp 30) = .string (ofB [h.ttl, h.proto]) := hd 20 30 (by kernel_rfl) (by kernel_rfl)
        have hz := app_size (a := (hp h n s 4)) (b := [h.ttl, h.proto]) (Nat.le_of_ble_eq_true rfl)
        clear hd h0
        go_simp
        exact ⟨by rw [ofB_app]; rfl, Below.refl _ _⟩
      | 22, _ =>
        intro ρ W hb hc hg hf h0 hd
        have b2 := h0 2 (by kernel_rfl)
        clear hd h0
        go_simp
        exact ⟨rfl, Below.refl _ _⟩
      | 23, _ =>
        intro ρ W hb hc hg hf h0 hd
        have d22 : ρ (.tmp 32) = .int .u16 (s : Int) := hd 22 32 (by kernel_rfl) (by kernel_rfl)
        clear hd h0
        go_simp
        exact (wordR s W hs).mono fun e w' ⟨he, hb⟩ => ⟨_, he, rfl, hb⟩
      | 24, _ =>
        intro ρ W hb hc hg hf h0 hd
        have d21 : ρ (.tmp 31) = .string (ofB (hp h n s 5)) := hd 21 31 (by kernel_rfl) (by kernel_rfl)
        have d23 : ρ (.tmp 33) = .string (ofB (w2 s)) := hd 23 33 (by kernel_rfl) (by kernel_rfl)
        have hz := app_size (a := (hp h n s 5)) (b := (w2 s)) (Nat.le_of_ble_eq_true rfl)
        clear hd h0
        go_simp
        exact ⟨by rw [ofB_app]; rfl, Below.refl _ _⟩
      | 25, _ =>
        intro ρ W hb hc hg hf h0 hd
        have b3 := h0 3 (by kernel_rfl)
        clear hd h0
        go_simp
        exact ⟨rfl, Below.refl _ _⟩
      | 26, _ =>
        intro ρ W hb hc hg hf h0 hd
        have d25 : ρ (.tmp 35) = .pointer (some ⟨w.heap.size, 0, none⟩) := hd 25 35 (by kernel_rfl) (by kernel_rfl)
        have c0 := cells _ W hb 0 _ rfl
        clear hd h0
        go_simp
        exact ⟨rfl, Below.refl _ _⟩
      | 27, _ =>
        intro ρ W hb hc hg hf h0 hd
        have d26 : ρ (.tmp 36) = .int .u32 (h.src : Int) := hd 26 36 (by kernel_rfl) (by kernel_rfl)
        clear hd h0
        go_simp
        exact (fourR h.src W k.src).mono fun e w' ⟨he, hb⟩ => ⟨_, he, rfl, hb⟩
      | 28, _ =>
        intro ρ W hb hc hg hf h0 hd
        have d24 : ρ (.tmp 34) = .string (ofB (hp h n s 6)) := hd 24 34 (by kernel_rfl) (by kernel_rfl)
        have d27 : ρ (.tmp 37) = .string (ofB (w4 h.src)) := hd 27 37 (by kernel_rfl) (by kernel_rfl)
        have hz := app_size (a := (hp h n s 6)) (b := (w4 h.src)) (Nat.le_of_ble_eq_true rfl)
        clear hd h0
        go_simp
        exact ⟨by rw [ofB_app]; rfl, Below.refl _ _⟩
      | 29, _ =>
        intro ρ W hb hc hg hf h0 hd
        have b3 := h0 3 (by kernel_rfl)
        clear hd h0
        go_simp
        exact ⟨rfl, Below.refl _ _⟩
      | 30, _ =>
        intro ρ W hb hc hg hf h0 hd
        have d29 : ρ (.tmp 39) = .pointer (some ⟨w.heap.size, 1, none⟩) := hd 29 39 (by kernel_rfl) (by kernel_rfl)
        have c1 := cells _ W hb 1 _ rfl
        clear hd h0
        go_simp
        exact ⟨rfl, Below.refl _ _⟩
      | 31, _ =>
        intro ρ W hb hc hg hf h0 hd
        have d30 : ρ (.tmp 40) = .int .u32 (h.dst : Int) := hd 30 40 (by kernel_rfl) (by kernel_rfl)
        clear hd h0
        go_simp
        exact (fourR h.dst W k.dst).mono fun e w' ⟨he, hb⟩ => ⟨_, he, rfl, hb⟩
      | 32, _ =>
        intro ρ W hb hc hg hf h0 hd
        have d28 : ρ (.tmp 38) = .string (ofB (hp h n s 7)) := hd 28 38 (by kernel_rfl) (by kernel_rfl)
        have d31 : ρ (.tmp 41) = .string (ofB (w4 h.dst)) := hd 31 41 (by kernel_rfl) (by kernel_rfl)
        have hz := app_size (a := (hp h n s 7)) (b := (w4 h.dst)) (Nat.le_of_ble_eq_true rfl)
        clear hd h0
        go_simp
        exact ⟨by rw [ofB_app]; rfl, Below.refl _ _⟩
      | 33, _ =>
        intro ρ W hb hc hg hf h0 hd
        have d32 : ρ (.tmp 42) = .string (ofB (hp h n s 8)) := hd 32 42 (by kernel_rfl) (by kernel_rfl)
        clear hd h0
        go_simp
        exact ⟨rfl, Below.refl _ _⟩
      | i + 34, hlt => omega
    · intro vs W hb hall
      have h33 : vs 33 = .string (ofB (hp h n s 8)) := hall 33 (of_decide_eq_true (by kernel_rfl))
      clear hall
      go_wp2
      refine bodyPost_ret (v := .string (ofB (hp h n s 8))) ?_ rfl ⟨by rfl, st_call (st_alloc (Below.refl _ _) _) hb⟩
      rw [← h33]
      exact (results_tmp rfl _ _ _).trans (congrArg (Result.ok · W) (lexA_get (N := 43) (by kernel_rfl) rfl vs 6 33 _ (by kernel_rfl) (of_decide_eq_true (by kernel_rfl))))
end Go.Proofs.Ytpmnmnflaijaaaa.IpHead

namespace Go.Proofs.Ytpmnmnflaijaaaa.IpEnc
open Go.RowKit TupMath SumMath IpMath Litb Calm Rel IpRef IpHead
set_option linter.unusedVariables false
set_option maxRecDepth 100000

theorem sumR (l : List Nat) (hl : ∀ x ∈ l, x ≤ 255) (w : World) (hs : l.length ≤ 1000000) : Calls Try.prog 61 #[.string (ofB l)] w fun e w' => e = .returned (.int .u16 ((cs l : Nat) : Int)) ∧ w = w' := by
  have h := SumPlain.ofR_any (ofB l) w (by rw [ofB_size]; exact hs)
  have e : SumPlain.bz (ofB l) = l := bz_ofB hl
  rw [e] at h
  exact h
theorem ofB_bz (s : ByteArray) : ofB (bz s) = s := bz_inj (bz_ofB (bz_le s))
/-- what Encode answers -/
def encV (h : Hd) (l : ByteArray) : Value := if 20 + l.size ≤ 65535 then .tuple #[.string (ofB (pkt h (bz l))), .int .i64 0] else .tuple #[.string ⟨#[]⟩, .int .i64 4]

set_option maxHeartbeats 8000000 in
theorem encR (h : Hd) (l : ByteArray) (w : World) (k : h.ok) (hl : l.size ≤ 1000000) : Calls Try.prog 29 #[hv h, .string l] w fun e w' => e = .returned (encV h l) ∧ Below w.heap.size w w' := by
  unfold encV
  by_cases hn : 20 + l.size ≤ 65535
  · rw [if_pos hn]
    have hls : l.size ≤ 65535 := by omega
    have e20 : (20 : Int) + (l.size : Int) = ((20 + l.size : Nat) : Int) := by omega
    have HP := Lib.hid (show pkt h (bz l) = hd h (20 + l.size) (cs (hd h (20 + l.size) 0)) ++ bz l by unfold pkt; rw [bz_len])
    generalize 20 + l.size = n at hn e20 HP
    have hle0 := hd_le h k n 0 hn (by decide)
    have hcs := cs_le (hd h n 0)
    have hz : (ofB (hd h n (cs (hd h n 0)))).size + l.size ≤ 9223372036854775807 := by rw [ofB_size, hd_len]; omega
    have hsum := fun (W : World) => same_below (sumR (hd h n 0) hle0 W (by rw [hd_len]; decide))
    generalize cs (hd h n 0) = c at hcs HP hz hsum
    have HSUM := Lib.hid hsum
    clear hsum hle0
    have hni : ¬ (65535 : Int) < (n : Int) := by omega
    go_enter Try.func29, Try.ntmps29
    have cells := fun (j : Nat) => World.cell?_alloc_mark w #[.int .u32 (h.src : Int), .int .u32 (h.dst : Int), .int .u8 (h.proto : Int), .int .u8 (h.ttl : Int), .int .u8 (h.tos : Int), .int .u16 (h.id : Int), .bool h.df] 62 (0, 0) j
    have B0 := st_alloc (Below.refl _ w) (.cells #[.int .u32 (h.src : Int), .int .u32 (h.dst : Int), .int .u8 (h.proto : Int), .int .u8 (h.ttl : Int), .int .u8 (h.tos : Int), .int .u16 (h.id : Int), .bool h.df] 62)
    go_wp2_with fail
    have hlt : w.heap.size < (w.alloc (.cells #[.int .u32 (h.src : Int), .int .u32 (h.dst : Int), .int .u8 (h.proto : Int), .int .u8 (h.ttl : Int), .int .u8 (h.tos : Int), .int .u16 (h.id : Int), .bool h.df] 62)).heap.size := by simp
    generalize w.alloc (.cells #[.int .u32 (h.src : Int), .int .u32 (h.dst : Int), .int .u8 (h.proto : Int), .int .u8 (h.ttl : Int), .int .u8 (h.tos : Int), .int .u16 (h.id : Int), .bool h.df] 62) = w1 at cells B0 hlt ⊢
    have at_ := fun (j : Nat) (i : Later w1.heap.size w1) => (i.h.cell (p := ⟨w.heap.size, j, none⟩) hlt).trans (cells j)
    have c0 : ∀ i : Later w1.heap.size w1, i.w.cell? ⟨w.heap.size, 0, none⟩ = some (.int .u32 (h.src : Int)) := at_ 0
    have c1 : ∀ i : Later w1.heap.size w1, i.w.cell? ⟨w.heap.size, 1, none⟩ = some (.int .u32 (h.dst : Int)) := at_ 1
    have c2 : ∀ i : Later w1.heap.size w1, i.w.cell? ⟨w.heap.size, 2, none⟩ = some (.int .u8 (h.proto : Int)) := at_ 2
    have c3 : ∀ i : Later w1.heap.size w1, i.w.cell? ⟨w.heap.size, 3, none⟩ = some (.int .u8 (h.ttl : Int)) := at_ 3
    have c4 : ∀ i : Later w1.heap.size w1, i.w.cell? ⟨w.heap.size, 4, none⟩ = some (.int .u8 (h.tos : Int)) := at_ 4
    have c5 : ∀ i : Later w1.heap.size w1, i.w.cell? ⟨w.heap.size, 5, none⟩ = some (.int .u16 (h.id : Int)) := at_ 5
    have c6 : ∀ i : Later w1.heap.size w1, i.w.cell? ⟨w.heap.size, 6, none⟩ = some (.bool h.df) := at_ 6
    have KH : Hid (∀ i : Later w1.heap.size w1, Calls Try.prog 60 #[hv h, .int .i64 (n : Int), .int .u16 0] i.w fun e w' => e = .returned (.string (ofB (hd h n 0))) ∧ Below i.w.heap.size i.w w') := Lib.hid fun i => headR h n 0 i.w k hn (by decide)
    have KS := Lib.hid (fun (i : Later w1.heap.size w1) => HSUM.out i.w)
    have KG := Lib.hid (fun (i : Later w1.heap.size w1) => headR h n c i.w k hn hcs)
    clear cells at_
    refine wp_region_later (n := w1.heap.size) w1 (Below.refl _ _) (by kernel_rfl) (by kernel_rfl) ?_
    repeat (go_big_quiet_step (fail))
    quiet_step ((go_at_call 60; exact later_calls (Nat.le_refl _) _ (KH.out _)))
    quiet_step ((go_at_call 61; exact later_calls (Nat.le_refl _) _ (KS.out _)))
    quiet_step ((go_at_call 60; exact later_calls (Nat.le_refl _) _ (KG.out _)))
    repeat (first | go_big_quiet_step (fail) | quiet_step (fail))
    refine wpQuiet_nil ?_
    rintro W ⟨⟨wj, hj⟩, rfl⟩
    go_wp2
    go_ret2
    refine ⟨?_, st_call B0 hj⟩
    rw [HP.out, ← ofB_app, ofB_bz]
    rfl
  · rw [if_neg hn]
    have hni : (65535 : Int) < 20 + (l.size : Int) := by omega
    go_enter Try.func29, Try.ntmps29
    go_wp2
    go_ret2
    exact ⟨rfl, st_alloc (Below.refl _ _) _⟩
end Go.Proofs.Ytpmnmnflaijaaaa.IpEnc

namespace Go.Proofs.Ytpmnmnflaijaaaa.TcpRef
open Go.RowKit TupMath SumMath Litb Calm Rel IpMath IpRef TcpMath
set_option linter.unusedVariables false
set_option maxRecDepth 100000

/-- a head, as a value -/
abbrev tv (h : Th) : Value := .agg #[.int .u16 (h.src : Int), .int .u16 (h.dst : Int), .int .u32 (h.seq : Int), .int .u32 (h.ack : Int), .int .u8 (h.flags : Int), .int .u16 (h.win : Int), .int .u16 (h.urg : Int), .string h.opts]
theorem ofB_bz (s : ByteArray) : ofB (bz s) = s := bz_inj (bz_ofB (bz_le s))
theorem app_size {a b : List Nat} (h : a.length + b.length ≤ 9223372036854775807) : (ofB a).size + (ofB b).size ≤ 9223372036854775807 := by rw [ofB_size, ofB_size]; exact h

set_option maxHeartbeats 4000000 in
theorem sum6R (src dst : Nat) (s : ByteArray) (w : World) (hs : src ≤ 4294967295) (hd : dst ≤ 4294967295) (hn : s.size ≤ 65535) : Calls Try.prog 59 #[.int .u32 (src : Int), .int .u32 (dst : Int), .string s] w fun e w' => e = .returned (.int .u16 ((tsum src dst (bz s) : Nat) : Int)) ∧ Below w.heap.size w w' := by
  have e16 : IntKind.u16.wrap (s.size : Int) = (s.size : Int) := by rw [IntKind.wrap_u16]; omega
  have hval : ofB (w4 src) ++ ofB (w4 dst) ++ ⟨#[0, 6]⟩ ++ ofB (w2 s.size) ++ s = ofB (ps src dst s.size ++ bz s) := by
    have e06 : (⟨#[0, 6]⟩ : ByteArray) = ofB [0, 6] := rfl
    rw [e06, ofB_app (w4 src) (w4 dst), ofB_app (w4 src ++ w4 dst) [0, 6], ofB_app (w4 src ++ w4 dst ++ [0, 6]) (w2 s.size), ← ofB_app _ (bz s), ofB_bz]
    rfl
  have hle : ∀ x ∈ ps src dst s.size ++ bz s, x ≤ 255 := by
    intro x hx
    rcases List.mem_append.1 hx with hx | hx
    · simp only [ps, w2, w4, List.cons_append, List.nil_append, List.mem_cons, List.not_mem_nil, or_false] at hx
      omega
    · exact bz_le s x hx
  have hsum := fun W => SumPlain.ofR_any (ofB (ps src dst s.size ++ bz s)) W (by rw [ofB_size, List.length_append, ps_len, bz_len]; omega)
  have e2 : SumPlain.bz (ofB (ps src dst s.size ++ bz s)) = ps src dst s.size ++ bz s := bz_ofB hle
  have e3 : cs (ps src dst s.size ++ bz s) = tsum src dst (bz s) := by unfold tsum; rw [bz_len]
  rw [e2, e3, ← hval] at hsum
  have HSUM := Lib.hid hsum
  clear hsum e2 e3 hle hval
  have y1 : (ofB (w4 src)).size = 4 := ofB_size _
  have y2 : (ofB (w4 dst)).size = 4 := ofB_size _
  have y3 : (ofB (w2 s.size)).size = 2 := ofB_size _
  have Y := Lib.hid (show (ofB (w4 src)).size = 4 ∧ (ofB (w4 dst)).size = 4 ∧ (ofB (w2 s.size)).size = 2 from ⟨y1, y2, y3⟩)
  have z1 : (ofB (w4 src)).size + (ofB (w4 dst)).size ≤ 9223372036854775807 := by omega
  have z2 : (ofB (w4 src)).size + (ofB (w4 dst)).size + 2 ≤ 9223372036854775807 := by omega
  have z3 : (ofB (w4 src)).size + (ofB (w4 dst)).size + 2 + (ofB (w2 s.size)).size ≤ 9223372036854775807 := by omega
  have z4 : (ofB (w4 src)).size + (ofB (w4 dst)).size + 2 + (ofB (w2 s.size)).size + s.size ≤ 9223372036854775807 := by omega
  clear y1 y2 y3
  go_enter Try.func59, Try.ntmps59
  go_wp2_with fail
  refine (fourR src _ hs).mono ?_
  rintro e wA ⟨rfl, hb1⟩
  have B1 := Lib.hid hb1
  clear hb1
  go_wp2_with fail
  refine (fourR dst _ hd).mono ?_
  rintro e wB ⟨rfl, hb2⟩
  have B2 := Lib.hid (st_call B1.out hb2)
  clear hb2
  go_wp2_with fail
  refine (wordR s.size _ hn).mono ?_
  rintro e wC ⟨rfl, hb3⟩
  have B3 := Lib.hid (st_call B2.out hb3)
  clear hb3
  go_wp2_with fail
  refine (HSUM.out _).mono ?_
  rintro e wD ⟨rfl, rfl⟩
  go_wp2_with fail
  go_ret
  exact ⟨rfl, B3.out⟩

/-- the pieces put together so far -/
def rp (h : Th) (d : ByteArray) (s : Nat) (k : Nat) : List Nat :=
  ([w2 h.src, w2 h.dst, w4 h.seq, w4 h.ack, [off h, h.flags], w2 h.win, w2 s, w2 h.urg, bz h.opts, bz d].take k).flatten
theorem rp_all (h : Th) (d : ByteArray) (s : Nat) : rp h d s 10 = raw h (bz d) s := by
  unfold rp raw front
  simp
theorem rp9 (h : Th) (d : ByteArray) (s : Nat) : ofB (rp h d s 8) ++ h.opts = ofB (rp h d s 9) := by
  have e : rp h d s 9 = rp h d s 8 ++ bz h.opts := by unfold rp; simp
  rw [e, ← ofB_app, ofB_bz]
theorem rp10 (h : Th) (d : ByteArray) (s : Nat) : ofB (rp h d s 9) ++ d = ofB (rp h d s 10) := by
  have e : rp h d s 10 = rp h d s 9 ++ bz d := by unfold rp; simp
  rw [e, ← ofB_app, ofB_bz]
theorem rp9_len (h : Th) (d : ByteArray) (s : Nat) : (rp h d s 9).length = 20 + h.opts.size := by
  have e : rp h d s 9 = rp h d s 8 ++ bz h.opts := by unfold rp; simp
  rw [e, List.length_append, bz_len]
  rfl
def relW (h : Th) (d : ByteArray) (s b : Nat) : Nat → Value → World → Prop
  | 0 => fun v _ => v = .pointer (some ⟨b, 0, none⟩)
  | 1 => fun v _ => v = .int .u16 (h.src : Int)
  | 2 => fun v _ => v = .string (ofB (w2 h.src))
  | 3 => fun v _ => v = .pointer (some ⟨b, 1, none⟩)
  | 4 => fun v _ => v = .int .u16 (h.dst : Int)
  | 5 => fun v _ => v = .string (ofB (w2 h.dst))
  | 6 => fun v _ => v = .string (ofB (rp h d s 2))
  | 7 => fun v _ => v = .pointer (some ⟨b, 2, none⟩)
  | 8 => fun v _ => v = .int .u32 (h.seq : Int)
  | 9 => fun v _ => v = .string (ofB (w4 h.seq))
  | 10 => fun v _ => v = .string (ofB (rp h d s 3))
  | 11 => fun v _ => v = .pointer (some ⟨b, 3, none⟩)
  | 12 => fun v _ => v = .int .u32 (h.ack : Int)
  | 13 => fun v _ => v = .string (ofB (w4 h.ack))
  | 14 => fun v _ => v = .string (ofB (rp h d s 4))
  | 15 => fun v _ => v = .int .u8 ((off h : Nat) : Int)
  | 16 => fun v _ => v = .pointer (some ⟨b, 4, none⟩)
  | 17 => fun v _ => v = .int .u8 (h.flags : Int)
  | 18 => HoldK .u8 [off h, h.flags]
  | 19 => fun v _ => v = .string (ofB ([off h, h.flags]))
  | 20 => fun v _ => v = .string (ofB (rp h d s 5))
  | 21 => fun v _ => v = .pointer (some ⟨b, 5, none⟩)
  | 22 => fun v _ => v = .int .u16 (h.win : Int)
  | 23 => fun v _ => v = .string (ofB (w2 h.win))
  | 24 => fun v _ => v = .string (ofB (rp h d s 6))
  | 25 => fun v _ => v = .int .u16 (s : Int)
  | 26 => fun v _ => v = .string (ofB (w2 s))
  | 27 => fun v _ => v = .string (ofB (rp h d s 7))
  | 28 => fun v _ => v = .pointer (some ⟨b, 6, none⟩)
  | 29 => fun v _ => v = .int .u16 (h.urg : Int)
  | 30 => fun v _ => v = .string (ofB (w2 h.urg))
  | 31 => fun v _ => v = .string (ofB (rp h d s 8))
  | 32 => fun v _ => v = .pointer (some ⟨b, 7, none⟩)
  | 33 => fun v _ => v = .string h.opts
  | 34 => fun v _ => v = .string (ofB (rp h d s 9))
  | 35 => fun v _ => v = .string d
  | 36 => fun v _ => v = .string (ofB (rp h d s 10))
  | 37 => fun v _ => v = .string (ofB (rp h d s 10))
  | _ => fun _ _ => True
theorem relW_more (h : Th) (d : ByteArray) (s b : Nat) (i : Nat) (v : Value) (w w' : World) (hr : relW h d s b i v w) (hb : Below w.heap.size w w') : relW h d s b i v w' := by
  unfold relW at hr ⊢
  split at hr <;> first | exact hr | exact hr.more hb
attribute [local go_sem] relUpon

set_option maxHeartbeats 16000000 in
theorem rawR (h : Th) (d : ByteArray) (s : Nat) (w : World) (k : h.ok) (ho : h.opts.size ≤ 40) (hd : d.size ≤ 1000000) (hs : s ≤ 65535) : Calls Try.prog 58 #[tv h, .string d, .int .u16 (s : Int)] w fun e w' => e = .returned (.string (ofB (raw h (bz d) s))) ∧ Below w.heap.size w w' := by
  have hof : off h ≤ 240 := by unfold off; omega
  have eo : ((20 : Int) + (h.opts.size : Int)) / 4 * 16 = ((off h : Nat) : Int) := by unfold off; omega
  have l1 : ∀ x ∈ [off h, h.flags], x ≤ 255 := by intro x hx; simp at hx; have := k.flags; omega
  go_enter Try.func58, Try.ntmps58
  have cells : ∀ W, Below (w.alloc (.cells #[.int .u16 (h.src : Int), .int .u16 (h.dst : Int), .int .u32 (h.seq : Int), .int .u32 (h.ack : Int), .int .u8 (h.flags : Int), .int .u16 (h.win : Int), .int .u16 (h.urg : Int), .string h.opts] 59)).heap.size (w.alloc (.cells #[.int .u16 (h.src : Int), .int .u16 (h.dst : Int), .int .u32 (h.seq : Int), .int .u32 (h.ack : Int), .int .u8 (h.flags : Int), .int .u16 (h.win : Int), .int .u16 (h.urg : Int), .string h.opts] 59)) W → ∀ (j : Nat) (v : Value), (#[.int .u16 (h.src : Int), .int .u16 (h.dst : Int), .int .u32 (h.seq : Int), .int .u32 (h.ack : Int), .int .u8 (h.flags : Int), .int .u16 (h.win : Int), .int .u16 (h.urg : Int), .string h.opts] : Array Value)[j]? = some v → W.cell? ⟨w.heap.size, j, none⟩ = some v := fun W hb j v hv =>
    ((hb.cell (p := ⟨w.heap.size, j, none⟩) (by simp)).trans (World.cell?_alloc_mark w _ _ (0, 0) j)).trans hv
  go_wp2_with fail
  refine wp_region_see 52 (relW h d s w.heap.size) rfl (by kernel_rfl) (by kernel_rfl) (by kernel_rfl) (relW_more h d s w.heap.size) ?_ ?_
  · intro i hi
    have hi2 : i < 38 := by simpa using hi
    clear hi
    match i, hi2 with
    | 0, _ =>
      intro ρ W hb hc hg hf h0 hd
      have t3 := h0 3 (by kernel_rfl)
      clear hd h0
      go_simp
      exact ⟨rfl, Below.refl _ _⟩
    | 1, _ =>
      intro ρ W hb hc hg hf h0 hd
      have d0 : ρ (.tmp 15) = .pointer (some ⟨w.heap.size, 0, none⟩) := hd 0 15 (by kernel_rfl) (by kernel_rfl)
      have c0 := cells W hb 0 _ rfl
      clear hd h0
      go_simp
      exact ⟨rfl, Below.refl _ _⟩
    | 2, _ =>
      intro ρ W hb hc hg hf h0 hd
      have d1 : ρ (.tmp 16) = .int .u16 (h.src : Int) := hd 1 16 (by kernel_rfl) (by kernel_rfl)
      clear hd h0
      go_simp
      exact (wordR h.src W k.src).mono fun e w' ⟨he, hb⟩ => ⟨_, he, rfl, hb⟩
    | 3, _ =>
      intro ρ W hb hc hg hf h0 hd
      have t3 := h0 3 (by kernel_rfl)
      clear hd h0
      go_simp
      exact ⟨rfl, Below.refl _ _⟩
    | 4, _ =>
      intro ρ W hb hc hg hf h0 hd
      have d3 : ρ (.tmp 18) = .pointer (some ⟨w.heap.size, 1, none⟩) := hd 3 18 (by kernel_rfl) (by kernel_rfl)
      have c1 := cells W hb 1 _ rfl
      clear hd h0
      go_simp
      exact ⟨rfl, Below.refl _ _⟩
    | 5, _ =>
      intro ρ W hb hc hg hf h0 hd
      have d4 : ρ (.tmp 19) = .int .u16 (h.dst : Int) := hd 4 19 (by kernel_rfl) (by kernel_rfl)
      clear hd h0
      go_simp
      exact (wordR h.dst W k.dst).mono fun e w' ⟨he, hb⟩ => ⟨_, he, rfl, hb⟩
    | 6, _ =>
      intro ρ W hb hc hg hf h0 hd
      have d2 : ρ (.tmp 17) = .string (ofB (w2 h.src)) := hd 2 17 (by kernel_rfl) (by kernel_rfl)
      have d5 : ρ (.tmp 20) = .string (ofB (w2 h.dst)) := hd 5 20 (by kernel_rfl) (by kernel_rfl)
      have hz := app_size (a := w2 h.src) (b := w2 h.dst) (Nat.le_of_ble_eq_true rfl)
      clear hd h0
      go_simp
      exact ⟨by rw [ofB_app]; rfl, Below.refl _ _⟩
    | 7, _ =>
      intro ρ W hb hc hg hf h0 hd
      have t3 := h0 3 (by kernel_rfl)
      clear hd h0
      go_simp
      exact ⟨rfl, Below.refl _ _⟩
    | 8, _ =>
      intro ρ W hb hc hg hf h0 hd
      have d7 : ρ (.tmp 22) = .pointer (some ⟨w.heap.size, 2, none⟩) := hd 7 22 (by kernel_rfl) (by kernel_rfl)
      have c2 := cells W hb 2 _ rfl
      clear hd h0
      go_simp
      exact ⟨rfl, Below.refl _ _⟩
    | 9, _ =>
      intro ρ W hb hc hg hf h0 hd
      have d8 : ρ (.tmp 23) = .int .u32 (h.seq : Int) := hd 8 23 (by kernel_rfl) (by kernel_rfl)
      clear hd h0
      go_simp
      exact (fourR h.seq W k.seq).mono fun e w' ⟨he, hb⟩ => ⟨_, he, rfl, hb⟩
    | 10, _ =>
      intro ρ W hb hc hg hf h0 hd
      have d6 : ρ (.tmp 21) = .string (ofB (rp h d s 2)) := hd 6 21 (by kernel_rfl) (by kernel_rfl)
      have d9 : ρ (.tmp 24) = .string (ofB (w4 h.seq)) := hd 9 24 (by kernel_rfl) (by kernel_rfl)
      have hz := app_size (a := rp h d s 2) (b := w4 h.seq) (Nat.le_of_ble_eq_true rfl)
      clear hd h0
      go_simp
      exact ⟨by rw [ofB_app]; rfl, Below.refl _ _⟩
    | 11, _ =>
      intro ρ W hb hc hg hf h0 hd
      have t3 := h0 3 (by kernel_rfl)
      clear hd h0
      go_simp
      exact ⟨rfl, Below.refl _ _⟩
    | 12, _ =>
      intro ρ W hb hc hg hf h0 hd
      have d11 : ρ (.tmp 26) = .pointer (some ⟨w.heap.size, 3, none⟩) := hd 11 26 (by kernel_rfl) (by kernel_rfl)
      have c3 := cells W hb 3 _ rfl
      clear hd h0
      go_simp
      exact ⟨rfl, Below.refl _ _⟩
    | 13, _ =>
      intro ρ W hb hc hg hf h0 hd
      have d12 : ρ (.tmp 27) = .int .u32 (h.ack : Int) := hd 12 27 (by kernel_rfl) (by kernel_rfl)
      clear hd h0
      go_simp
      exact (fourR h.ack W k.ack).mono fun e w' ⟨he, hb⟩ => ⟨_, he, rfl, hb⟩
    | 14, _ =>
      intro ρ W hb hc hg hf h0 hd
      have d10 : ρ (.tmp 25) = .string (ofB (rp h d s 3)) := hd 10 25 (by kernel_rfl) (by kernel_rfl)
      have d13 : ρ (.tmp 28) = .string (ofB (w4 h.ack)) := hd 13 28 (by kernel_rfl) (by kernel_rfl)
      have hz := app_size (a := rp h d s 3) (b := w4 h.ack) (Nat.le_of_ble_eq_true rfl)
      clear hd h0
      go_simp
      exact ⟨by rw [ofB_app]; rfl, Below.refl _ _⟩
    | 15, _ =>
      intro ρ W hb hc hg hf h0 hd
      have t7 := h0 7 (by kernel_rfl)
      clear hd h0
      go_simp
      exact ⟨rfl, Below.refl _ _⟩
    | 16, _ =>
      intro ρ W hb hc hg hf h0 hd
      have t3 := h0 3 (by kernel_rfl)
      clear hd h0
      go_simp
      exact ⟨rfl, Below.refl _ _⟩
    | 17, _ =>
      intro ρ W hb hc hg hf h0 hd
      have d16 : ρ (.tmp 31) = .pointer (some ⟨w.heap.size, 4, none⟩) := hd 16 31 (by kernel_rfl) (by kernel_rfl)
      have c4 := cells W hb 4 _ rfl
      clear hd h0
      go_simp
      exact ⟨rfl, Below.refl _ _⟩
    | 18, _ =>
      intro ρ W hb hc hg hf h0 hd
      have d15 : ρ (.tmp 30) = .int .u8 ((off h : Nat) : Int) := hd 15 30 (by kernel_rfl) (by kernel_rfl)
      have d17 : ρ (.tmp 32) = .int .u8 (h.flags : Int) := hd 17 32 (by kernel_rfl) (by kernel_rfl)
      clear hd h0
      go_simp
      exact ⟨HoldK.new .u8 W [off h, h.flags] _, st_alloc (Below.refl _ _) _⟩
    | 19, _ =>
      intro ρ W hb hc hg hf h0 hd
      have dh18 : HoldK .u8 [off h, h.flags] (ρ (.tmp 33)) W := hd 18 33 (by kernel_rfl) (by kernel_rfl)
      obtain ⟨b, eb, _, hcl⟩ := dh18
      have hcv : (convert 50 9 (.slice (some ⟨b, 0, none⟩) 2 2)).run Try.prog W = .ok (.string (ofB [off h, h.flags])) W := held_back Try.prog 50 9 5 Try.underlying50 Try.underlying5 Try.underlying9 [off h, h.flags] l1 W b [off h, h.flags].length hcl
      clear hcl
      clear hd h0
      go_simp
      exact ⟨rfl, Below.refl _ _⟩
    | 20, _ =>
      intro ρ W hb hc hg hf h0 hd
      have d14 : ρ (.tmp 29) = .string (ofB (rp h d s 4)) := hd 14 29 (by kernel_rfl) (by kernel_rfl)
      have d19 : ρ (.tmp 34) = .string (ofB ([off h, h.flags])) := hd 19 34 (by kernel_rfl) (by kernel_rfl)
      have hz := app_size (a := rp h d s 4) (b := [off h, h.flags]) (Nat.le_of_ble_eq_true rfl)
      clear hd h0
      go_simp
      exact ⟨by rw [ofB_app]; rfl, Below.refl _ _⟩
    | 21, _ =>
      intro ρ W hb hc hg hf h0 hd
      have t3 := h0 3 (by kernel_rfl)
      clear hd h0
      go_simp
      exact ⟨rfl, Below.refl _ _⟩
    | 22, _ =>
      intro ρ W hb hc hg hf h0 hd
      have d21 : ρ (.tmp 36) = .pointer (some ⟨w.heap.size, 5, none⟩) := hd 21 36 (by kernel_rfl) (by kernel_rfl)
      have c5 := cells W hb 5 _ rfl
      clear hd h0
      go_simp
      exact ⟨rfl, Below.refl _ _⟩
    | 23, _ =>
      intro ρ W hb hc hg hf h0 hd
      have d22 : ρ (.tmp 37) = .int .u16 (h.win : Int) := hd 22 37 (by kernel_rfl) (by kernel_rfl)
      clear hd h0
      go_simp
      exact (wordR h.win W k.win).mono fun e w' ⟨he, hb⟩ => ⟨_, he, rfl, hb⟩
    | 24, _ =>
      intro ρ W hb hc hg hf h0 hd
      have d20 : ρ (.tmp 35) = .string (ofB (rp h d s 5)) := hd 20 35 (by kernel_rfl) (by kernel_rfl)
      have d23 : ρ (.tmp 38) = .string (ofB (w2 h.win)) := hd 23 38 (by kernel_rfl) (by kernel_rfl)
      have hz := app_size (a := rp h d s 5) (b := w2 h.win) (Nat.le_of_ble_eq_true rfl)
      clear hd h0
      go_simp
      exact ⟨by rw [ofB_app]; rfl, Below.refl _ _⟩
    | 25, _ =>
      intro ρ W hb hc hg hf h0 hd
      have t2 := h0 2 (by kernel_rfl)
      clear hd h0
      go_simp
      exact ⟨rfl, Below.refl _ _⟩
    | 26, _ =>
      intro ρ W hb hc hg hf h0 hd
      have d25 : ρ (.tmp 40) = .int .u16 (s : Int) := hd 25 40 (by kernel_rfl) (by kernel_rfl)
      clear hd h0
      go_simp
      exact (wordR s W hs).mono fun e w' ⟨he, hb⟩ => ⟨_, he, rfl, hb⟩
    | 27, _ =>
      intro ρ W hb hc hg hf h0 hd
      have d24 : ρ (.tmp 39) = .string (ofB (rp h d s 6)) := hd 24 39 (by kernel_rfl) (by kernel_rfl)
      have d26 : ρ (.tmp 41) = .string (ofB (w2 s)) := hd 26 41 (by kernel_rfl) (by kernel_rfl)
      have hz := app_size (a := rp h d s 6) (b := w2 s) (Nat.le_of_ble_eq_true rfl)
      clear hd h0
      go_simp
      exact ⟨by rw [ofB_app]; rfl, Below.refl _ _⟩
    | 28, _ =>
      intro ρ W hb hc hg hf h0 hd
      have t3 := h0 3 (by kernel_rfl)
      clear hd h0
      go_simp
      exact ⟨rfl, Below.refl _ _⟩
    | 29, _ =>
      intro ρ W hb hc hg hf h0 hd
      have d28 : ρ (.tmp 43) = .pointer (some ⟨w.heap.size, 6, none⟩) := hd 28 43 (by kernel_rfl) (by kernel_rfl)
      have c6 := cells W hb 6 _ rfl
      clear hd h0
      go_simp
      exact ⟨rfl, Below.refl _ _⟩
    | 30, _ =>
      intro ρ W hb hc hg hf h0 hd
      have d29 : ρ (.tmp 44) = .int .u16 (h.urg : Int) := hd 29 44 (by kernel_rfl) (by kernel_rfl)
      clear hd h0
      go_simp
      exact (wordR h.urg W k.urg).mono fun e w' ⟨he, hb⟩ => ⟨_, he, rfl, hb⟩
    | 31, _ =>
      intro ρ W hb hc hg hf h0 hd
      have d27 : ρ (.tmp 42) = .string (ofB (rp h d s 7)) := hd 27 42 (by kernel_rfl) (by kernel_rfl)
      have d30 : ρ (.tmp 45) = .string (ofB (w2 h.urg)) := hd 30 45 (by kernel_rfl) (by kernel_rfl)
      have hz := app_size (a := rp h d s 7) (b := w2 h.urg) (Nat.le_of_ble_eq_true rfl)
      clear hd h0
      go_simp
      exact ⟨by rw [ofB_app]; rfl, Below.refl _ _⟩
    | 32, _ =>
      intro ρ W hb hc hg hf h0 hd
      have t3 := h0 3 (by kernel_rfl)
      clear hd h0
      go_simp
      exact ⟨rfl, Below.refl _ _⟩
    | 33, _ =>
      intro ρ W hb hc hg hf h0 hd
      have d32 : ρ (.tmp 47) = .pointer (some ⟨w.heap.size, 7, none⟩) := hd 32 47 (by kernel_rfl) (by kernel_rfl)
      have c7 := cells W hb 7 _ rfl
      clear hd h0
      go_simp
      exact ⟨rfl, Below.refl _ _⟩
    | 34, _ =>
      intro ρ W hb hc hg hf h0 hd
      have d31 : ρ (.tmp 46) = .string (ofB (rp h d s 8)) := hd 31 46 (by kernel_rfl) (by kernel_rfl)
      have d33 : ρ (.tmp 48) = .string h.opts := hd 33 48 (by kernel_rfl) (by kernel_rfl)
      have hz : (ofB (rp h d s 8)).size + h.opts.size ≤ 9223372036854775807 := by rw [ofB_size]; show 20 + _ ≤ _; omega
      clear hd h0
      go_simp
      rw [if_neg (Nat.not_lt.2 hz)]
      exact ⟨congrArg Value.string (rp9 h d s), Below.refl _ _⟩
    | 35, _ =>
      intro ρ W hb hc hg hf h0 hd
      have t1 := h0 1 (by kernel_rfl)
      clear hd h0
      go_simp
      exact ⟨rfl, Below.refl _ _⟩
    | 36, _ =>
      intro ρ W hb hc hg hf h0 hd
      have d34 : ρ (.tmp 49) = .string (ofB (rp h d s 9)) := hd 34 49 (by kernel_rfl) (by kernel_rfl)
      have d35 : ρ (.tmp 50) = .string d := hd 35 50 (by kernel_rfl) (by kernel_rfl)
      have hz : (ofB (rp h d s 9)).size + d.size ≤ 9223372036854775807 := by rw [ofB_size, rp9_len]; omega
      clear hd h0
      go_simp
      rw [if_neg (Nat.not_lt.2 hz)]
      exact ⟨congrArg Value.string (rp10 h d s), Below.refl _ _⟩
    | 37, _ =>
      intro ρ W hb hc hg hf h0 hd
      have d36 : ρ (.tmp 51) = .string (ofB (rp h d s 10)) := hd 36 51 (by kernel_rfl) (by kernel_rfl)
      clear hd h0
      go_simp
      exact ⟨rfl, Below.refl _ _⟩
    | i + 38, hlt => exact absurd hlt (by omega)
  · intro vs W hb hall
    have h37 : vs 37 = .string (ofB (rp h d s 10)) := hall 37 (of_decide_eq_true (by kernel_rfl))
    clear hall
    go_wp2
    refine bodyPost_ret (v := .string (ofB (rp h d s 10))) ?_ rfl ⟨by rw [rp_all], st_call (st_alloc (Below.refl _ _) _) hb⟩
    rw [← h37]
    exact (results_tmp rfl _ _ _).trans (congrArg (Result.ok · W) (lexA_get (N := 52) (by kernel_rfl) rfl vs 6 37 _ (by kernel_rfl) (of_decide_eq_true (by kernel_rfl))))
end Go.Proofs.Ytpmnmnflaijaaaa.TcpRef
