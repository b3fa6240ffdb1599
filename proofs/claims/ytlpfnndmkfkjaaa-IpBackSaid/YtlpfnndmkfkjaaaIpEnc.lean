/-
  The document's own answers of layer 5: Encode, Decode.
-/
import Derived.Test.YtlpfnndmkfkjaaaIpHead
namespace Go.Proofs.Ytlpfnndmkfkjaaa.IpEnc
open Go.RowKit TupMath SumMath IpMath Litb Calm Rel IpRef IpHead
set_option linter.unusedVariables false
set_option maxRecDepth 100000

theorem sumR (l : List Nat) (hl : ∀ x ∈ l, x ≤ 255) (w : World) (hs : l.length ≤ 1000000) : Calls Try.prog 18 #[.string (ofB l)] w fun e w' => e = .returned (.int .u16 ((cs l : Nat) : Int)) ∧ w = w' := by
  have h := SumPlain.ofR_any (ofB l) w (by rw [ofB_size]; exact hs)
  have e : SumPlain.bz (ofB l) = l := bz_ofB hl
  rw [e] at h
  exact h
theorem ofB_bz (s : ByteArray) : ofB (bz s) = s := bz_inj (bz_ofB (bz_le s))
/-- what Encode answers -/
def encV (h : Hd) (l : ByteArray) : Value := if 20 + l.size ≤ 65535 then .tuple #[.string (ofB (pkt h (bz l))), .int .i64 0] else .tuple #[.string ⟨#[]⟩, .int .i64 4]

set_option maxHeartbeats 8000000 in
theorem encR (h : Hd) (l : ByteArray) (w : World) (k : h.ok) (hl : l.size ≤ 1000000) : Calls Try.prog 9 #[hv h, .string l] w fun e w' => e = .returned (encV h l) ∧ Below w.heap.size w w' := by
  unfold encV
  by_cases hn : 20 + l.size ≤ 65535
  · rw [if_pos hn]
    have hls : l.size ≤ 65535 := by omega
    have e20 : (20 : Int) + (l.size : Int) = ((20 + l.size : Nat) : Int) := by omega
    have HP := Lib.hid (show pkt h (bz l) = hd h (20 + l.size) (cs (hd h (20 + l.size) 0)) ++ bz l by unfold pkt; rw [bz_len])
    generalize 20 + l.size = n at hn e20 HP
    have hle0 := hd_le h k n 0 hn (by decide)
    have hcs := cs_le (hd h n 0)
    have hz : (ofB (hd h n (cs (hd h n 0)))).size + l.size ≤ 9223372036854775807 := by rw [ofB_size, hd_len]; omega
    have hsum := fun (W : World) => same_below (sumR (hd h n 0) hle0 W (by rw [hd_len]; decide))
    generalize cs (hd h n 0) = c at hcs HP hz hsum
    have HSUM := Lib.hid hsum
    clear hsum hle0
    have hni : ¬ (65535 : Int) < (n : Int) := by omega
    go_enter Try.func9, Try.ntmps9
    have cells := fun (j : Nat) => World.cell?_alloc_mark w #[.int .u32 (h.src : Int), .int .u32 (h.dst : Int), .int .u8 (h.proto : Int), .int .u8 (h.ttl : Int), .int .u8 (h.tos : Int), .int .u16 (h.id : Int), .bool h.df] 25 (0, 0) j
    have B0 := st_alloc (Below.refl _ w) (.cells #[.int .u32 (h.src : Int), .int .u32 (h.dst : Int), .int .u8 (h.proto : Int), .int .u8 (h.ttl : Int), .int .u8 (h.tos : Int), .int .u16 (h.id : Int), .bool h.df] 25)
    go_wp2_with fail
    have hlt : w.heap.size < (w.alloc (.cells #[.int .u32 (h.src : Int), .int .u32 (h.dst : Int), .int .u8 (h.proto : Int), .int .u8 (h.ttl : Int), .int .u8 (h.tos : Int), .int .u16 (h.id : Int), .bool h.df] 25)).heap.size := by simp
    generalize w.alloc (.cells #[.int .u32 (h.src : Int), .int .u32 (h.dst : Int), .int .u8 (h.proto : Int), .int .u8 (h.ttl : Int), .int .u8 (h.tos : Int), .int .u16 (h.id : Int), .bool h.df] 25) = w1 at cells B0 hlt ⊢
    have at_ := fun (j : Nat) (i : Later w1.heap.size w1) => (i.h.cell (p := ⟨w.heap.size, j, none⟩) hlt).trans (cells j)
    have c0 : ∀ i : Later w1.heap.size w1, i.w.cell? ⟨w.heap.size, 0, none⟩ = some (.int .u32 (h.src : Int)) := at_ 0
    have c1 : ∀ i : Later w1.heap.size w1, i.w.cell? ⟨w.heap.size, 1, none⟩ = some (.int .u32 (h.dst : Int)) := at_ 1
    have c2 : ∀ i : Later w1.heap.size w1, i.w.cell? ⟨w.heap.size, 2, none⟩ = some (.int .u8 (h.proto : Int)) := at_ 2
    have c3 : ∀ i : Later w1.heap.size w1, i.w.cell? ⟨w.heap.size, 3, none⟩ = some (.int .u8 (h.ttl : Int)) := at_ 3
    have c4 : ∀ i : Later w1.heap.size w1, i.w.cell? ⟨w.heap.size, 4, none⟩ = some (.int .u8 (h.tos : Int)) := at_ 4
    have c5 : ∀ i : Later w1.heap.size w1, i.w.cell? ⟨w.heap.size, 5, none⟩ = some (.int .u16 (h.id : Int)) := at_ 5
    have c6 : ∀ i : Later w1.heap.size w1, i.w.cell? ⟨w.heap.size, 6, none⟩ = some (.bool h.df) := at_ 6
    have KH : Hid (∀ i : Later w1.heap.size w1, Calls Try.prog 17 #[hv h, .int .i64 (n : Int), .int .u16 0] i.w fun e w' => e = .returned (.string (ofB (hd h n 0))) ∧ Below i.w.heap.size i.w w') := Lib.hid fun i => headR h n 0 i.w k hn (by decide)
    have KS := Lib.hid (fun (i : Later w1.heap.size w1) => HSUM.out i.w)
    have KG := Lib.hid (fun (i : Later w1.heap.size w1) => headR h n c i.w k hn hcs)
    clear cells at_
    refine wp_region_later (n := w1.heap.size) w1 (Below.refl _ _) (by kernel_rfl) (by kernel_rfl) ?_
    repeat (go_big_quiet_step (fail))
    quiet_step ((go_at_call 17; exact later_calls (Nat.le_refl _) _ (KH.out _)))
    quiet_step ((go_at_call 18; exact later_calls (Nat.le_refl _) _ (KS.out _)))
    quiet_step ((go_at_call 17; exact later_calls (Nat.le_refl _) _ (KG.out _)))
    repeat (first | go_big_quiet_step (fail) | quiet_step (fail))
    refine wpQuiet_nil ?_
    rintro W ⟨⟨wj, hj⟩, rfl⟩
    go_wp2
    go_ret2
    refine ⟨?_, st_call B0 hj⟩
    rw [HP.out, ← ofB_app, ofB_bz]
    rfl
  · rw [if_neg hn]
    have hni : (65535 : Int) < 20 + (l.size : Int) := by omega
    go_enter Try.func9, Try.ntmps9
    go_wp2
    go_ret2
    exact ⟨rfl, st_alloc (Below.refl _ _) _⟩
end Go.Proofs.Ytlpfnndmkfkjaaa.IpEnc
