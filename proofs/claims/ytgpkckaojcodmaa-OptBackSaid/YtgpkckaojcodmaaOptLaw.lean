/-
  Layer 7's statements' own functions: long, turned.
-/
import Derived.Test.YtgpkckaojcodmaaOptTurn
import Derived.Test.YtgpkckaojcodmaaRelK
namespace Go.Proofs.Ytgpkckaojcodmaa.OptLaw
open Go.RowKit Own TupMath SumMath Litb Calm Rel RelT RelK IpMath OptMath OptRef OptPlc OptSame Boxes OptTake5 OptTk
open Cells (CellsAt Apart put_lit)
set_option linter.unusedVariables false
set_option maxRecDepth 100000

theorem longL (o : Opn) (A : Option Addr) (c : Nat) (w : World) (hl : o.blocks.length ≤ maxLen) : Calls Try.prog 7 #[ov o A c] w fun e w' => e = .returned (.bool (decide (100 < o.blocks.length))) ∧ Below w.heap.size w w' := by
  have e : decide (100 < o.blocks.length) = decide ((100 : Int) < (o.blocks.length : Int)) := decide_eq_decide.2 (by omega)
  rw [e]
  go_enter Try.func7, Try.ntmps7
  go_wp2_with fail
  go_ret
  exact ⟨rfl, st_alloc (Below.refl _ _) _⟩

def relU7 (A0 : Option Addr) (L : List (Nat × Nat)) (c0 g off n c j f t fx tx bl b0 : Nat) : Nat → Value → World → Prop
  | 0 => fun v _ => v = .slice A0 L.length c0
  | 1 => fun v _ => v = .pointer (some ⟨b0, 3, none⟩)
  | 2 => fun v _ => v = .slice (some ⟨g, off, none⟩) n c
  | 3 => fun v _ => v = .int .i64 (j : Int)
  | 4 => fun v _ => v = .pointer (some ⟨g, off + j * 2, none⟩)
  | 5 => fun v _ => v = .pointer (some ⟨g, off + j * 2, none⟩)
  | 6 => fun v _ => v = .int .u32 (f : Int)
  | 7 => fun v _ => v = .int .u32 (bl : Int)
  | 8 => fun v _ => v = .int .u32 (fx : Int)
  | 9 => fun v _ => v = .pointer (some ⟨b0, 3, none⟩)
  | 10 => fun v _ => v = .slice (some ⟨g, off, none⟩) n c
  | 11 => fun v _ => v = .int .i64 (j : Int)
  | 12 => fun v _ => v = .pointer (some ⟨g, off + j * 2, none⟩)
  | 13 => fun v _ => v = .pointer (some ⟨g, off + j * 2 + 1, none⟩)
  | 14 => fun v _ => v = .int .u32 (t : Int)
  | 15 => fun v _ => v = .int .u32 (bl : Int)
  | 16 => fun v _ => v = .int .u32 (tx : Int)
  | 17 => fun v _ => v = .agg #[.int .u32 (fx : Int), .int .u32 (tx : Int)]
  | 18 => fun v W => ∃ B, v = .slice (some ⟨B, 0, none⟩) 1 1 ∧ W.heap[B]? = some (.cells #[.int .u32 (fx : Int), .int .u32 (tx : Int)] 62 (0, 0))
  | _ => fun _ _ => True
theorem relU7_more (A0 : Option Addr) (L : List (Nat × Nat)) (c0 g off n c j f t fx tx bl b0 : Nat) (i : Nat) (v : Value) (w w' : World) (hr : relU7 A0 L c0 g off n c j f t fx tx bl b0 i v w) (hb : Below w.heap.size w w') : relU7 A0 L c0 g off n c j f t fx tx bl b0 i v w' := by
  unfold relU7 at hr ⊢
  split at hr <;> first
    | exact hr
    | (obtain ⟨B, e, h⟩ := hr
       exact ⟨B, e, box_more h hb⟩)
attribute [local go_sem] relUpon
/-- blocks, each number with another one added -/
def shiftB (bl : Nat) (L : List (Nat × Nat)) : List (Nat × Nat) := L.map fun p => ((p.1 + bl) % 4294967296, (p.2 + bl) % 4294967296)

set_option maxHeartbeats 16000000 in
theorem turnedL (o : Opn) (A : Option Addr) (c bl v e : Nat) (w : World) (hbk : BlkR w A o.blocks) (k : o.ok) (hl : o.blocks.length ≤ 1000) (hb : bl ≤ 4294967295) (hv : v ≤ 4294967295) (he : e ≤ 4294967295) :
    Calls Try.prog 21 #[ov o A c, .int .u32 (bl : Int), .int .u32 (v : Int), .int .u32 (e : Int)] w fun r w' => (∃ A' c', r = .returned (ov (turnedO bl v e o) A' c') ∧ BlkR w' A' (turnedO bl v e o).blocks) ∧ Below w.heap.size w w' := by
  obtain ⟨mss, scale, sack, blocks, time, val, echo⟩ := o
  have kb := k.blocks
  have kv := k.val
  have ke := k.echo
  simp only at kb kv ke hl hbk
  clear k
  obtain ⟨o2, ho2⟩ : ∃ o2, turnedO bl v e ⟨mss, scale, sack, blocks, time, val, echo⟩ = o2 := ⟨_, rfl⟩
  rw [ho2]
  have HO2 := Lib.hid ho2
  have HKB := Lib.hid kb
  have HBK := Lib.hid hbk
  clear ho2 kb hbk
  have C0 : CellsAt ((w.alloc (.cells (oc ⟨mss, scale, sack, blocks, time, val, echo⟩ A c) 26)).alloc (.cells #[.int .u16 0, .int .i64 0, .bool false, .slice none 0 0, .bool false, .int .u32 0, .int .u32 0] 26)) w.heap.size (oc ⟨mss, scale, sack, blocks, time, val, echo⟩ A c) :=
    (CellsAt.new w (oc ⟨mss, scale, sack, blocks, time, val, echo⟩ A c) 26).later ((Below.refl _ _).alloc (Nat.le_refl _) _)
  have D0 := CellsAt.new (w.alloc (.cells (oc ⟨mss, scale, sack, blocks, time, val, echo⟩ A c) 26)) #[.int .u16 0, .int .i64 0, .bool false, .slice none 0 0, .bool false, .int .u32 0, .int .u32 0] 26
  rw [World.size_alloc] at D0
  have B0 := st_alloc (st_alloc (Below.refl _ w) (.cells (oc ⟨mss, scale, sack, blocks, time, val, echo⟩ A c) 26)) (.cells #[.int .u16 0, .int .i64 0, .bool false, .slice none 0 0, .bool false, .int .u32 0, .int .u32 0] 26)
  have HC0 := Lib.hid C0
  have HD0 := Lib.hid D0
  have HB0 := Lib.hid B0
  clear C0 D0 B0
  go_enter Try.func21, Try.ntmps21
  go_wp2_with fail
  go_loopw [9, 10] (fun lv i wr => ∃ (j : Nat) (A0 : Option Addr) (c0 : Nat) (L : List (Nat × Nat)), i = .int .i64 (j : Int) ∧ j ≤ blocks.length ∧ lv = .slice A0 L.length c0 ∧ L = shiftB bl (blocks.take j) ∧ CellsAt wr w.heap.size (oc ⟨mss, scale, sack, blocks, time, val, echo⟩ A c) ∧ CellsAt wr (w.heap.size + 1) #[.int .u16 0, .int .i64 0, .bool false, .slice none 0 0, .bool false, .int .u32 0, .int .u32 0] ∧ OwnB wr (w.heap.size + 2) (.slice A0 L.length c0) L ∧ Below w.heap.size w wr) (fun _ i _ => blocks.length - (intOf i).toNat)
  case atStart => exact ⟨0, none, 0, [], rfl, by omega, rfl, rfl, HC0.out, HD0.out, ownB_nil _ _, HB0.out⟩
  case round =>
    obtain ⟨j, A0, c0, L, rfl, hj, rfl, hL, hC, hD, hO, hB⟩ := hrel
    have HL := Lib.hid hL
    have hLl : L.length = min j blocks.length := by rw [hL]; unfold shiftB; rw [List.length_map, List.length_take]
    have HLL := Lib.hid hLl
    have HC := Lib.hid hC
    have HD := Lib.hid hD
    have HO := Lib.hid hO
    have HB := Lib.hid hB
    have hd1 := hD.lt
    clear hL hC hD hO hB
    by_cases hlt : j < blocks.length
    · have HLT := Lib.hid hlt
      have hli : (j : Int) < (blocks.length : Int) := by omega
      obtain ⟨g, off, rfl, hg, hgc⟩ := HBK.out (show 0 < blocks.length by omega)
      obtain ⟨⟨f, t⟩, hft⟩ : ∃ p, blocks[j]? = some p := ⟨_, List.getElem?_eq_getElem hlt⟩
      obtain ⟨d0, d1⟩ := hgc j (f, t) hft
      simp only at d0 d1
      have HE0 := Lib.hid (fun W (hb2 : Below wr.heap.size wr W) => (hb2.cell (p := ⟨g, off + j * 2, none⟩) (show g < _ from Nat.lt_of_lt_of_le hg HB.out.size)).trans ((HB.out.cell (p := ⟨g, off + j * 2, none⟩) hg).trans d0))
      have HE1 := Lib.hid (fun W (hb2 : Below wr.heap.size wr W) => (hb2.cell (p := ⟨g, off + j * 2 + 1, none⟩) (show g < _ from Nat.lt_of_lt_of_le hg HB.out.size)).trans ((HB.out.cell (p := ⟨g, off + j * 2 + 1, none⟩) hg).trans d1))
      obtain ⟨hf, ht⟩ := HKB.out (f, t) (List.mem_of_getElem? hft)
      simp only at hf ht
      obtain ⟨fx, hfx⟩ : ∃ x, (f + bl) % 4294967296 = x := ⟨_, rfl⟩
      obtain ⟨tx, htx⟩ : ∃ x, (t + bl) % 4294967296 = x := ⟨_, rfl⟩
      have hsn : shiftB bl (blocks.take (j + 1)) = shiftB bl (blocks.take j) ++ [(fx, tx)] := by
        unfold shiftB
        rw [take_snocG hft, List.map_append]
        simp only [List.map_cons, List.map_nil, hfx, htx]
      have HSN := Lib.hid hsn
      have wf : IntKind.u32.wrap ((f : Int) + (bl : Int)) = (fx : Int) := by rw [IntKind.wrap_u32]; omega
      have wt : IntKind.u32.wrap ((t : Int) + (bl : Int)) = (tx : Int) := by rw [IntKind.wrap_u32]; omega
      have hL4 : L.length ≤ 1000 := by omega
      clear d0 d1 hgc hft hsn hfx htx hLl
      have c3 := HC.out.cell 3 _ rfl
      go_wp2_with fail
      clear c3
      refine wp_region_seeK 19 53 (relU7 A0 L c0 g off blocks.length c j f t fx tx bl w.heap.size) rfl (by kernel_rfl) (by kernel_rfl) (by kernel_rfl) (by kernel_rfl) (relU7_more A0 L c0 g off blocks.length c j f t fx tx bl w.heap.size) ?_ ?_
      · intro i hi
        have hi2 : i < 19 := by simpa using hi
        clear hi
        match i, hi2 with
        | 0, _ =>
          intro ρ W hb hc hg hf h0 hd
          have t9 := h0 9 (by kernel_rfl)
          clear hd h0
          go_simp
          exact ⟨rfl, Below.refl _ _⟩
        | 1, _ =>
          intro ρ W hb hc hg hf h0 hd
          have t4 := h0 4 (by kernel_rfl)
          clear hd h0
          go_simp
          exact ⟨rfl, Below.refl _ _⟩
        | 2, _ =>
          intro ρ W hb hc hg hf h0 hd
          have d1 : ρ (.tmp 19) = .pointer (some ⟨w.heap.size, 3, none⟩) := hd 1 19 (by kernel_rfl) (by kernel_rfl)
          have c3 := (HC.out.later hb).cell 3 _ rfl
          clear hd h0
          go_simp
          exact ⟨rfl, Below.refl _ _⟩
        | 3, _ =>
          intro ρ W hb hc hg hf h0 hd
          have t10 := h0 10 (by kernel_rfl)
          clear hd h0
          go_simp
          exact ⟨rfl, Below.refl _ _⟩
        | 4, _ =>
          intro ρ W hb hc hg hf h0 hd
          have d2 : ρ (.tmp 20) = .slice (some ⟨g, off, none⟩) blocks.length c := hd 2 20 (by kernel_rfl) (by kernel_rfl)
          have d3 : ρ (.tmp 21) = .int .i64 (j : Int) := hd 3 21 (by kernel_rfl) (by kernel_rfl)
          clear hd h0
          go_simp
          exact ⟨rfl, Below.refl _ _⟩
        | 5, _ =>
          intro ρ W hb hc hg hf h0 hd
          have d4 : ρ (.tmp 22) = .pointer (some ⟨g, off + j * 2, none⟩) := hd 4 22 (by kernel_rfl) (by kernel_rfl)
          clear hd h0
          go_simp
          exact ⟨rfl, Below.refl _ _⟩
        | 6, _ =>
          intro ρ W hb hc hg hf h0 hd
          have d5 : ρ (.tmp 23) = .pointer (some ⟨g, off + j * 2, none⟩) := hd 5 23 (by kernel_rfl) (by kernel_rfl)
          have e0 := HE0.out W hb
          clear hd h0
          go_simp
          exact ⟨rfl, Below.refl _ _⟩
        | 7, _ =>
          intro ρ W hb hc hg hf h0 hd
          have t1 := h0 1 (by kernel_rfl)
          clear hd h0
          go_simp
          exact ⟨rfl, Below.refl _ _⟩
        | 8, _ =>
          intro ρ W hb hc hg hf h0 hd
          have d6 : ρ (.tmp 24) = .int .u32 (f : Int) := hd 6 24 (by kernel_rfl) (by kernel_rfl)
          have d7 : ρ (.tmp 25) = .int .u32 (bl : Int) := hd 7 25 (by kernel_rfl) (by kernel_rfl)
          clear hd h0
          go_simp
          exact ⟨rfl, Below.refl _ _⟩
        | 9, _ =>
          intro ρ W hb hc hg hf h0 hd
          have t4 := h0 4 (by kernel_rfl)
          clear hd h0
          go_simp
          exact ⟨rfl, Below.refl _ _⟩
        | 10, _ =>
          intro ρ W hb hc hg hf h0 hd
          have d9 : ρ (.tmp 27) = .pointer (some ⟨w.heap.size, 3, none⟩) := hd 9 27 (by kernel_rfl) (by kernel_rfl)
          have c3 := (HC.out.later hb).cell 3 _ rfl
          clear hd h0
          go_simp
          exact ⟨rfl, Below.refl _ _⟩
        | 11, _ =>
          intro ρ W hb hc hg hf h0 hd
          have t10 := h0 10 (by kernel_rfl)
          clear hd h0
          go_simp
          exact ⟨rfl, Below.refl _ _⟩
        | 12, _ =>
          intro ρ W hb hc hg hf h0 hd
          have d10 : ρ (.tmp 28) = .slice (some ⟨g, off, none⟩) blocks.length c := hd 10 28 (by kernel_rfl) (by kernel_rfl)
          have d11 : ρ (.tmp 29) = .int .i64 (j : Int) := hd 11 29 (by kernel_rfl) (by kernel_rfl)
          clear hd h0
          go_simp
          exact ⟨rfl, Below.refl _ _⟩
        | 13, _ =>
          intro ρ W hb hc hg hf h0 hd
          have d12 : ρ (.tmp 30) = .pointer (some ⟨g, off + j * 2, none⟩) := hd 12 30 (by kernel_rfl) (by kernel_rfl)
          clear hd h0
          go_simp
          exact ⟨rfl, Below.refl _ _⟩
        | 14, _ =>
          intro ρ W hb hc hg hf h0 hd
          have d13 : ρ (.tmp 31) = .pointer (some ⟨g, off + j * 2 + 1, none⟩) := hd 13 31 (by kernel_rfl) (by kernel_rfl)
          have e1 := HE1.out W hb
          clear hd h0
          go_simp
          exact ⟨rfl, Below.refl _ _⟩
        | 15, _ =>
          intro ρ W hb hc hg hf h0 hd
          have t1 := h0 1 (by kernel_rfl)
          clear hd h0
          go_simp
          exact ⟨rfl, Below.refl _ _⟩
        | 16, _ =>
          intro ρ W hb hc hg hf h0 hd
          have d14 : ρ (.tmp 32) = .int .u32 (t : Int) := hd 14 32 (by kernel_rfl) (by kernel_rfl)
          have d15 : ρ (.tmp 33) = .int .u32 (bl : Int) := hd 15 33 (by kernel_rfl) (by kernel_rfl)
          clear hd h0
          go_simp
          exact ⟨rfl, Below.refl _ _⟩
        | 17, _ =>
          intro ρ W hb hc hg hf h0 hd
          have d8 : ρ (.tmp 26) = .int .u32 (fx : Int) := hd 8 26 (by kernel_rfl) (by kernel_rfl)
          have d16 : ρ (.tmp 34) = .int .u32 (tx : Int) := hd 16 34 (by kernel_rfl) (by kernel_rfl)
          clear hd h0
          go_simp
          exact ⟨rfl, Below.refl _ _⟩
        | 18, _ =>
          intro ρ W hb hc hg hf h0 hd
          have d17 : ρ (.tmp 35) = .agg #[.int .u32 (fx : Int), .int .u32 (tx : Int)] := hd 17 35 (by kernel_rfl) (by kernel_rfl)
          clear hd h0
          go_simp
          exact ⟨⟨_, rfl, box_new _ _⟩, st_alloc (Below.refl _ _) _⟩
        | i + 19, hlt => exact absurd hlt (by omega)
      · intro vs W hb hall
        have h0 : vs 0 = .slice A0 L.length c0 := hall 0 (by omega)
        obtain ⟨B, h18, hblk⟩ : ∃ B, vs 18 = .slice (some ⟨B, 0, none⟩) 1 1 ∧ W.heap[B]? = some (.cells #[.int .u32 (fx : Int), .int .u32 (tx : Int)] 62 (0, 0)) := hall 18 (by omega)
        clear hall
        rw [lexA_slots vs 19 [(some 18, 0), (some 19, 1), (some 20, 2), (some 21, 3), (some 22, 4), (some 23, 5), (some 24, 6), (some 25, 7), (some 26, 8), (some 27, 9), (some 28, 10), (some 29, 11), (some 30, 12), (some 31, 13), (some 32, 14), (some 33, 15), (some 34, 16), (some 35, 17), (some 36, 18)] (by kernel_rfl)]
        simp only [List.foldl_cons, List.foldl_nil, h0, h18]
        show wpList _ _ _ [_, _] _ _
        simp only [put_lit, List.set_cons_succ, List.set_cons_zero]
        have C1 := HC.out.later hb
        have D1 := HD.out.later hb
        have O1 := HO.out.stays hb
        have B1 := st_call HB.out hb
        have hsz := D1.lt
        refine app_blk W rfl _ _ rfl (w.heap.size + 2) _ L rfl O1 fx tx B rfl hblk (by omega) (by omega) ?_
        intro A' c' w' hO' hB'
        have C2 := Lib.hid (C1.more (by omega) hB')
        have D2 := Lib.hid (D1.more (by omega) hB')
        have O2 := Lib.hid hO'
        have B2 := Lib.hid (B1.trans (hB'.mono (by omega)))
        clear C1 D1 O1 B1 hO' hB' hblk h0 h18 hb
        go_wp2_with fail
        go_roundw
        case rel => exact ⟨j + 1, A', c', L ++ [(fx, tx)], by go_num, HLT.out, by rw [List.length_append]; rfl, by rw [HSN.out, HL.out], C2.out, D2.out, by rw [List.length_append]; exact O2.out, B2.out⟩
        case measure => have := HLT.out; simp [intOf]; omega
    · obtain rfl : j = blocks.length := by omega
      have hli : ¬ ((blocks.length : Nat) : Int) < (blocks.length : Int) := by omega
      have hLL : L = shiftB bl blocks := by rw [HL.out, List.take_of_length_le (Nat.le_refl _)]
      have HLB := Lib.hid hLL
      clear hLL hLl
      cases time
      · have x0 := HC.out.cell 0 _ rfl
        have f0 := HC.out.free 0 (show 0 < 7 by decide)
        have x1 := HC.out.cell 1 _ rfl
        have f1 := HC.out.free 1 (show 1 < 7 by decide)
        have x2 := HC.out.cell 2 _ rfl
        have f2 := HC.out.free 2 (show 2 < 7 by decide)
        have x3 := HC.out.cell 3 _ rfl
        have f3 := HC.out.free 3 (show 3 < 7 by decide)
        have x4 := HC.out.cell 4 _ rfl
        have f4 := HC.out.free 4 (show 4 < 7 by decide)
        have x5 := HC.out.cell 5 _ rfl
        have f5 := HC.out.free 5 (show 5 < 7 by decide)
        have x6 := HC.out.cell 6 _ rfl
        have f6 := HC.out.free 6 (show 6 < 7 by decide)
        have d0 := HD.out.cell 0 _ rfl
        have g0 := HD.out.free 0 (show 0 < 7 by decide)
        have d1 := HD.out.cell 1 _ rfl
        have g1 := HD.out.free 1 (show 1 < 7 by decide)
        have d2 := HD.out.cell 2 _ rfl
        have g2 := HD.out.free 2 (show 2 < 7 by decide)
        have d3 := HD.out.cell 3 _ rfl
        have g3 := HD.out.free 3 (show 3 < 7 by decide)
        have d4 := HD.out.cell 4 _ rfl
        have g4 := HD.out.free 4 (show 4 < 7 by decide)
        have d5 := HD.out.cell 5 _ rfl
        have g5 := HD.out.free 5 (show 5 < 7 by decide)
        have d6 := HD.out.cell 6 _ rfl
        have g6 := HD.out.free 6 (show 6 < 7 by decide)
        have e2 : o2 = ⟨mss, scale, sack, L, false, val, echo⟩ := by rw [← HO2.out, HLB.out]; rfl
        have HE := Lib.hid e2
        clear e2
        go_wp2_with fail
        have O1 := Lib.hid (HO.out.put w.heap.size 3 (.slice A0 L.length c0) (by omega))
        have B1 := Lib.hid (HB.out.setCell (Nat.le_refl w.heap.size) (p := ⟨w.heap.size, 3, none⟩) (.slice A0 L.length c0))
        obtain ⟨W9, hW9, hC9, hA9, hb9⟩ := (HD.out.other w.heap.size 3 (.slice A0 L.length c0) (by omega)).anew rfl (.int .u16 (mss : Int)) (.int .i64 scale) (.bool sack) (.slice A0 L.length c0) (.bool false) (.int .u32 (val : Int)) (.int .u32 (echo : Int))
        rw [hW9]
        have e0 := hC9.cell 0 _ rfl
        have e1 := hC9.cell 1 _ rfl
        have e2 := hC9.cell 2 _ rfl
        have e3 := hC9.cell 3 _ rfl
        have e4 := hC9.cell 4 _ rfl
        have e5 := hC9.cell 5 _ rfl
        have e6 := hC9.cell 6 _ rfl
        have R9 := Lib.hid (((OwnB.row O1.out rfl).apart (w.heap.size + 1) (fun b hb => by omega) hA9).blk)
        have B9 := Lib.hid (B1.out.trans (hb9.mono (by omega)))
        rw [HE.out]
        refine bodyPost_ret (v := ov ⟨mss, scale, sack, L, false, val, echo⟩ A0 c0) ?_ rfl ⟨⟨A0, ⟨c0, rfl⟩, R9.out⟩, B9.out⟩
        simp [results, Try.f21, go_sem, e0, e1, e2, e3, e4, e5, e6]
      · have x0 := HC.out.cell 0 _ rfl
        have f0 := HC.out.free 0 (show 0 < 7 by decide)
        have x1 := HC.out.cell 1 _ rfl
        have f1 := HC.out.free 1 (show 1 < 7 by decide)
        have x2 := HC.out.cell 2 _ rfl
        have f2 := HC.out.free 2 (show 2 < 7 by decide)
        have x3 := HC.out.cell 3 _ rfl
        have f3 := HC.out.free 3 (show 3 < 7 by decide)
        have x4 := HC.out.cell 4 _ rfl
        have f4 := HC.out.free 4 (show 4 < 7 by decide)
        have x5 := HC.out.cell 5 _ rfl
        have f5 := HC.out.free 5 (show 5 < 7 by decide)
        have x6 := HC.out.cell 6 _ rfl
        have f6 := HC.out.free 6 (show 6 < 7 by decide)
        have d0 := HD.out.cell 0 _ rfl
        have g0 := HD.out.free 0 (show 0 < 7 by decide)
        have d1 := HD.out.cell 1 _ rfl
        have g1 := HD.out.free 1 (show 1 < 7 by decide)
        have d2 := HD.out.cell 2 _ rfl
        have g2 := HD.out.free 2 (show 2 < 7 by decide)
        have d3 := HD.out.cell 3 _ rfl
        have g3 := HD.out.free 3 (show 3 < 7 by decide)
        have d4 := HD.out.cell 4 _ rfl
        have g4 := HD.out.free 4 (show 4 < 7 by decide)
        have d5 := HD.out.cell 5 _ rfl
        have g5 := HD.out.free 5 (show 5 < 7 by decide)
        have d6 := HD.out.cell 6 _ rfl
        have g6 := HD.out.free 6 (show 6 < 7 by decide)
        have wv : IntKind.u32.wrap ((val : Int) + (v : Int)) = ((val : Int) + (v : Int)) % 4294967296 := by rw [IntKind.wrap_u32]
        have we : IntKind.u32.wrap ((echo : Int) + (e : Int)) = ((echo : Int) + (e : Int)) % 4294967296 := by rw [IntKind.wrap_u32]
        have e2 : o2 = ⟨mss, scale, sack, L, true, ((val + v) % 4294967296), ((echo + e) % 4294967296)⟩ := by rw [← HO2.out, HLB.out]; rfl
        have HE := Lib.hid e2
        clear e2
        go_wp2_with fail
        have O1 := Lib.hid (((HO.out.put w.heap.size 3 (.slice A0 L.length c0) (by omega)).put w.heap.size 5 (.int .u32 (((val : Int) + (v : Int)) % 4294967296)) (by omega)).put w.heap.size 6 (.int .u32 (((echo : Int) + (e : Int)) % 4294967296)) (by omega))
        have B1 := Lib.hid (((HB.out.setCell (Nat.le_refl w.heap.size) (p := ⟨w.heap.size, 3, none⟩) (.slice A0 L.length c0)).setCell (Nat.le_refl w.heap.size) (p := ⟨w.heap.size, 5, none⟩) (.int .u32 (((val : Int) + (v : Int)) % 4294967296))).setCell (Nat.le_refl w.heap.size) (p := ⟨w.heap.size, 6, none⟩) (.int .u32 (((echo : Int) + (e : Int)) % 4294967296)))
        obtain ⟨W9, hW9, hC9, hA9, hb9⟩ := (((HD.out.other w.heap.size 3 (.slice A0 L.length c0) (by omega)).other w.heap.size 5 (.int .u32 (((val : Int) + (v : Int)) % 4294967296)) (by omega)).other w.heap.size 6 (.int .u32 (((echo : Int) + (e : Int)) % 4294967296)) (by omega)).anew rfl (.int .u16 (mss : Int)) (.int .i64 scale) (.bool sack) (.slice A0 L.length c0) (.bool true) (.int .u32 (((val : Int) + (v : Int)) % 4294967296)) (.int .u32 (((echo : Int) + (e : Int)) % 4294967296))
        rw [hW9]
        have e0 := hC9.cell 0 _ rfl
        have e1 := hC9.cell 1 _ rfl
        have e2 := hC9.cell 2 _ rfl
        have e3 := hC9.cell 3 _ rfl
        have e4 := hC9.cell 4 _ rfl
        have e5 := hC9.cell 5 _ rfl
        have e6 := hC9.cell 6 _ rfl
        have R9 := Lib.hid (((OwnB.row O1.out rfl).apart (w.heap.size + 1) (fun b hb => by omega) hA9).blk)
        have B9 := Lib.hid (B1.out.trans (hb9.mono (by omega)))
        rw [HE.out]
        refine bodyPost_ret (v := ov ⟨mss, scale, sack, L, true, ((val + v) % 4294967296), ((echo + e) % 4294967296)⟩ A0 c0) ?_ rfl ⟨⟨A0, ⟨c0, rfl⟩, R9.out⟩, B9.out⟩
        simp [results, Try.f21, go_sem, e0, e1, e2, e3, e4, e5, e6]

end Go.Proofs.Ytgpkckaojcodmaa.OptLaw
