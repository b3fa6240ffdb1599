/-
  The program's Read, Bytes, Turned.
-/
import Derived.Test.YtpphpnnehljekaaDoorTupTake
import Derived.Test.YtpphpnnehljekaaDoorTupRef3
namespace Go.Proofs.YtpphpnnehljekaaDoor.TupRead
open Go.RowKit Own TupMath TupMath2 Bytes TupLib TupLay TupTake TupRef TupRef3
set_option linter.unusedVariables false
set_option maxRecDepth 100000

/-- what Read, and the document's Read, answer -/
def ReadOut (l : List Nat) (w : World) (e : Ending) (w' : World) : Prop :=
  (if l.length = 6 then ∃ ip po : Nat, e = .returned (.tuple #[.agg #[.int .u32 (ip : Int), .int .u16 (po : Int)], .int .i64 0]) ∧ l = b32 ip ++ b16 po ∧ ip ≤ 4294967295 ∧ po ≤ 65535
      else e = .returned (.tuple #[.agg #[.int .u32 0, .int .u16 0], .int .i64 8])) ∧ Below w.heap.size w w'

set_option maxHeartbeats 8000000 in
theorem read_any (s : ByteArray) (w : World) (hs : s.size ≤ 1000000) : Calls Tryd.prog 8 #[.string s] w (ReadOut (bz s) w) := by
  unfold ReadOut
  by_cases h6 : s.size = 6
  · have hl : (bz s).length = 6 := by rw [bz_len]; exact h6
    obtain ⟨y0, y1, y2, y3, y4, y5, hbz⟩ : ∃ y0 y1 y2 y3 y4 y5, bz s = [y0, y1, y2, y3, y4, y5] := by
      generalize bz s = l at hl
      match l, hl with
      | [y0, y1, y2, y3, y4, y5], _ => exact ⟨y0, y1, y2, y3, y4, y5, rfl⟩
    have hle : ∀ x ∈ [y0, y1, y2, y3, y4, y5], x ≤ 255 := by rw [← hbz]; exact bz_le s
    have q0 : y0 ≤ 255 := hle _ (by simp)
    have q1 : y1 ≤ 255 := hle _ (by simp)
    have q2 : y2 ≤ 255 := hle _ (by simp)
    have q3 : y3 ≤ 255 := hle _ (by simp)
    have q4 : y4 ≤ 255 := hle _ (by simp)
    have q5 : y5 ≤ 255 := hle _ (by simp)
    simp only [if_pos hl]
    have HBZ := Lib.hid hbz
    obtain ⟨ip, hip⟩ : ∃ ip, y0 * 16777216 + y1 * 65536 + y2 * 256 + y3 = ip := ⟨_, rfl⟩
    obtain ⟨po, hpo⟩ : ∃ po, y4 * 256 + y5 = po := ⟨_, rfl⟩
    have HIP := Lib.hid hip
    have HPO := Lib.hid hpo
    clear hip hpo
    clear hl hbz hle
    go_enter Tryd.func8, Tryd.ntmps8
    go_wp2_with fail
    refine (take32 s y0 y1 y2 y3 _ (by omega) hs (by rw [HBZ.out]; rfl) (by rw [HBZ.out]; rfl) (by rw [HBZ.out]; rfl) (by rw [HBZ.out]; rfl)).mono ?_
    rw [HIP.out]
    rintro e w1 ⟨rfl, hb1⟩
    have d0 := (hb1.cell (p := ⟨w.heap.size, 0, none⟩) (by simp)).trans (show _ = some (Value.int .u32 0) by simp)
    have d1 := (hb1.cell (p := ⟨w.heap.size, 1, none⟩) (by simp)).trans (show _ = some (Value.int .u16 0) by simp)
    have f0 := (hb1.frozen (p := ⟨w.heap.size, 0, none⟩) (by simp)).trans (show _ = false by simp)
    have f1 := (hb1.frozen (p := ⟨w.heap.size, 1, none⟩) (by simp)).trans (show _ = false by simp)
    have sz1 := hb1.size
    rw [World.size_alloc] at sz1
    have HB1 := Lib.hid (st_call (st_alloc (Below.refl _ w) (.cells #[.int .u32 0, .int .u16 0] 25)) hb1)
    clear hb1
    go_wp2_with fail
    refine (take16 s y4 y5 _ (by omega) hs (by rw [HBZ.out]; rfl) (by rw [HBZ.out]; rfl)).mono ?_
    rw [HPO.out]
    rintro e w2 ⟨rfl, hb2⟩
    replace d0 := (hb2.cell (p := ⟨w.heap.size, 0, none⟩) (by simp; omega)).trans d0
    replace d1 := (hb2.cell (p := ⟨w.heap.size, 1, none⟩) (by simp; omega)).trans d1
    replace f0 := (hb2.frozen (p := ⟨w.heap.size, 0, none⟩) (by simp; omega)).trans f0
    replace f1 := (hb2.frozen (p := ⟨w.heap.size, 1, none⟩) (by simp; omega)).trans f1
    have HB2 := Lib.hid (st_call HB1.out hb2)
    clear hb2
    go_wp2
    obtain ⟨k0, k1, kB⟩ := box_set (.int .u32 (ip : Int)) (.int .u16 (po : Int)) _ _ HB2.out d0 d1
    obtain ⟨W, hW⟩ : ∃ W, (w2.setCell ⟨w.heap.size, 0, none⟩ (.int .u32 (ip : Int))).setCell ⟨w.heap.size, 1, none⟩ (.int .u16 (po : Int)) = W := ⟨_, rfl⟩
    rw [hW] at k0 k1 kB ⊢
    refine bodyPost_ret (v := .tuple #[.agg #[.int .u32 (ip : Int), .int .u16 (po : Int)], .int .i64 0]) ?_ rfl ?_
    · clear hW
      simp [results, Tryd.f8, go_sem, k0, k1]
    · have e1 := HIP.out
      have e2 := HPO.out
      refine ⟨⟨ip, po, rfl, ?_, by omega, by omega⟩, kB⟩
      rw [HBZ.out]
      simp only [b32, b16, List.cons_append, List.nil_append, List.cons.injEq, and_true]
      omega
  · have hl : ¬ (bz s).length = 6 := by rw [bz_len]; exact h6
    simp only [if_neg hl]
    clear hl
    go_enter Tryd.func8, Tryd.ntmps8
    go_wp2
    refine bodyPost_ret (v := .tuple #[.agg #[.int .u32 0, .int .u16 0], .int .i64 8]) ?_ rfl ?_
    · simp [results, Tryd.f8, go_sem]
    · exact ⟨rfl, st_alloc (Below.refl _ _) _⟩

/-- the document's Read, in the same words -/
theorem readR_out (s : ByteArray) (w : World) (hs : s.size ≤ 1000000) : Calls Tryd.prog 9 #[.string s] w (ReadOut (bz s) w) := by
  refine (readR_any s w (by omega)).mono ?_
  rintro e w' ⟨h, hb⟩
  refine ⟨?_, hb⟩
  rw [bz_len]
  split at h
  · rename_i h6
    rw [if_pos h6]
    exact h
  · rename_i h6
    rw [if_neg h6]
    exact h
theorem read_is {ip po : Nat} {w w' : World} {e : Ending} (h : ReadOut (b32 ip ++ b16 po) w e w') (hi : ip ≤ 4294967295) (hp : po ≤ 65535) : e = .returned (.tuple #[.agg #[.int .u32 (ip : Int), .int .u16 (po : Int)], .int .i64 0]) ∧ Below w.heap.size w w' := by
  refine ⟨?_, h.2⟩
  have h1 := h.1
  rw [if_pos (by rfl)] at h1
  obtain ⟨i, p, he, hl, _, _⟩ := h1
  simp only [b32, b16, List.cons_append, List.nil_append, List.cons.injEq, and_true] at hl
  obtain rfl : i = ip := by omega
  obtain rfl : p = po := by omega
  exact he

theorem turned_any (a b c d : Nat) (w : World) : Calls Tryd.prog 16 #[.agg #[.int .u32 (a : Int), .int .u16 (b : Int), .int .u32 (c : Int), .int .u16 (d : Int)]] w fun e w' =>
    e = .returned (.agg #[.int .u32 (c : Int), .int .u16 (d : Int), .int .u32 (a : Int), .int .u16 (b : Int)]) ∧ Below w.heap.size w w' := by
  go_enter Tryd.func16, Tryd.ntmps16
  go_wp2
  obtain ⟨W, hW⟩ : ∃ W, (w.alloc (.cells #[.int .u32 (a : Int), .int .u16 (b : Int), .int .u32 (c : Int), .int .u16 (d : Int)] 27)).alloc (.cells #[.int .u32 (c : Int), .int .u16 (d : Int), .int .u32 (a : Int), .int .u16 (b : Int)] 27) = W := ⟨_, rfl⟩
  have k : ∀ j, W.cell? ⟨w.heap.size + 1, j, none⟩ = (#[.int .u32 (c : Int), .int .u16 (d : Int), .int .u32 (a : Int), .int .u16 (b : Int)] : Array Value)[j]? := fun j => by
    rw [← hW]
    have h := World.cell?_alloc_mark (w.alloc (.cells #[.int .u32 (a : Int), .int .u16 (b : Int), .int .u32 (c : Int), .int .u16 (d : Int)] 27)) #[.int .u32 (c : Int), .int .u16 (d : Int), .int .u32 (a : Int), .int .u16 (b : Int)] 27 (0, 0) j
    rw [World.size_alloc] at h
    exact h
  have k0 := k 0
  have k1 := k 1
  have k2 := k 2
  have k3 := k 3
  have kB : Below w.heap.size w W := by rw [← hW]; exact st_alloc (st_alloc (Below.refl _ _) _) _
  rw [hW]
  refine bodyPost_ret (v := .agg #[.int .u32 (c : Int), .int .u16 (d : Int), .int .u32 (a : Int), .int .u16 (b : Int)]) ?_ rfl ⟨rfl, kB⟩
  clear hW k
  simp [results, Tryd.f16, go_sem, k0, k1, k2, k3]
end Go.Proofs.YtpphpnnehljekaaDoor.TupRead
