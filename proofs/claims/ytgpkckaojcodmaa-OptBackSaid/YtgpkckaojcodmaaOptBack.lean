/-
  Proved: the statement 'Rows.OptBackSaid': for every input the Go function transomlaw07.OptBack returns true, and each argument reads behind the call as it read before. Conditions: none of our own; those of the given row.
-/
import Derived.Test.YtgpkckaojcodmaaRows
import Derived.Test.YtgpkckaojcodmaaOptOpen
import Derived.Test.YtgpkckaojcodmaaOptAlive
import Derived.Test.YtgpkckaojcodmaaOptFew
import Derived.Test.YtgpkckaojcodmaaOptBackM
import Derived.Test.YtgpkckaojcodmaaRelG
import Derived.Deep.DeepCutAuto
import Derived.WalkKit
import Derived.ProofKit
import Derived.OpenShut
import Derived.ShutString
import Derived.ChangeOld
import Derived.Below
namespace Go.Proofs.Ytgpkckaojcodmaa.optBack
open Go.ChangeShapes Go.WideShapes Go.ChangeAt Go.RowKit
open Go.ChangeMaps (open_string shut_string)
open OptBackM RelG
open OptFew TupMath SumMath IpMath Litb Calm Rel IpRef OptMath OptRef OptSame OptMay OptTake5 OptTk OptDec OptTurnM OptTurn OptLaw OptP OptAlive
open Cells (CellsAt)
set_option linter.unusedVariables false

theorem own : ownKnob Try.prog.godebug = none := by kernel_rfl
theorem laidOut : laidOutB Try.prog = true := by kernel_rfl

/-- what Encode answers: the code tells whether the options may be -/
theorem enc_form (o : Opn) : ∃ (S : ByteArray) (n : Nat), encV7 o = .tuple #[.string S, .int .i64 (n : Int)] ∧ S.size ≤ 40 ∧ (n = 0 → OptMath.May o ∧ S = ofB (rawO o)) := by
  unfold encV7
  by_cases h : mayO o = true
  · rw [if_pos h]
    have m := may_of h
    exact ⟨_, 0, rfl, by rw [ofB_size]; exact m.most, fun _ => ⟨m, rfl⟩⟩
  · rw [if_neg h]
    exact ⟨_, 2, rfl, by decide, fun h => by cases h⟩
def relB7 (op oT : Opn) (A4 A5 : Option Addr) (c4 c5 a2 a3 a4 : Nat) (s2 U : ByteArray) : Nat → Value → World → Prop
  | 0 => fun v _ => v = .int .i64 0
  | 1 => fun v _ => v = .bool false
  | 2 => fun v _ => v = .bool false
  | 3 => fun v _ => v = ov oT A5 c5
  | 4 => fun v _ => v = ov op A4 c4
  | 5 => fun v _ => v = .int .u32 (a2 : Int)
  | 6 => fun v _ => v = .int .u32 (a3 : Int)
  | 7 => fun v _ => v = .int .u32 (a4 : Int)
  | 8 => fun v W => ∃ A' c', v = ov oT A' c' ∧ BlkR W A' oT.blocks
  | 9 => fun v _ => v = .bool true
  | 10 => fun v _ => v = .bool false
  | 11 => fun v _ => v = .bool false
  | 12 => fun v _ => v = .bool false
  | 13 => fun v _ => v = .string s2
  | 14 => fun v _ => v = .string s2
  | 15 => fun v _ => v = .bool false
  | 16 => fun v _ => v = .bool false
  | 17 => fun v _ => v = .bool false
  | 18 => fun v _ => v = .int .i64 0
  | 19 => fun v _ => v = .bool false
  | 20 => fun v _ => v = .bool false
  | 21 => fun v _ => v = .bool false
  | 22 => fun v _ => v = .string U
  | 23 => fun v _ => v = .int .i64 (U.size : Int)
  | 24 => fun v _ => v = .string s2
  | 25 => fun v _ => v = .int .i64 (s2.size : Int)
  | 26 => fun v _ => v = .bool false
  | 27 => fun v _ => v = .bool false
  | _ => fun _ _ => True
theorem relB7_more (op oT : Opn) (A4 A5 : Option Addr) (c4 c5 a2 a3 a4 : Nat) (s2 U : ByteArray) (i : Nat) (v : Value) (w w' : World) (hr : relB7 op oT A4 A5 c4 c5 a2 a3 a4 s2 U i v w) (hb : Below w.heap.size w w') : relB7 op oT A4 A5 c4 c5 a2 a3 a4 s2 U i v w' := by
  unfold relB7 at hr ⊢
  split at hr <;> first
    | exact hr
    | (obtain ⟨A', c', e, hR⟩ := hr
       exact ⟨A', c', e, hR.more hb⟩)
attribute [local go_sem] relUpon

/-! The walk: the Go text returns true, and writes nothing that was there. -/
set_option maxRecDepth 100000 in
set_option maxHeartbeats 16000000 in
theorem walk (o0 : OptMath.Opn) (A0 : Option Addr) (c0 : Nat) (a1 : ByteArray) (a2 : Int) (a3 : Int) (a4 : Int) (w : World) (z0 : OptSame.BlkR w A0 o0.blocks) (g0 : o0.ok ∧ o0.blocks.length ≤ maxLen ∧ -9223372036854775808 ≤ o0.scale ∧ o0.scale ≤ 9223372036854775807) (w1 : a1.size ≤ maxLen) (w2 : (Lit.int .u32 a2).wf = true) (w3 : (Lit.int .u32 a3).wf = true) (w4 : (Lit.int .u32 a4).wf = true) :
    Calls Try.prog 5 #[OptSame.ov o0 A0 c0, .string a1, .int .u32 a2, .int .u32 a3, .int .u32 a4] w fun e w' => e = .returned (.bool true) ∧ Below w.heap.size w w' := by
  unfold maxLen at w1
  have ⟨b2, b2'⟩ := bounds_u32 w2
  obtain ⟨a2, rfl⟩ := Int.eq_ofNat_of_zero_le b2
  clear w2 b2
  have sb2 : a2 ≤ 4294967295 := by omega
  clear b2'
  have ⟨b3, b3'⟩ := bounds_u32 w3
  obtain ⟨a3, rfl⟩ := Int.eq_ofNat_of_zero_le b3
  clear w3 b3
  have s3 : a3 ≤ 4294967295 := by omega
  clear b3'
  have ⟨b4, b4'⟩ := bounds_u32 w4
  obtain ⟨a4, rfl⟩ := Int.eq_ofNat_of_zero_le b4
  clear w4 b4
  have s4 : a4 ≤ 4294967295 := by omega
  clear b4'
  have X0 := Lib.hid (CellsAt.new w #[.int .u16 (o0.mss : Int), .int .i64 o0.scale, .bool o0.sack, .slice A0 o0.blocks.length c0, .bool o0.time, .int .u32 (o0.val : Int), .int .u32 (o0.echo : Int)] 26)
  have B0 := Lib.hid (st_alloc (Below.refl _ w) (.cells #[.int .u16 (o0.mss : Int), .int .i64 o0.scale, .bool o0.sack, .slice A0 o0.blocks.length c0, .bool o0.time, .int .u32 (o0.val : Int), .int .u32 (o0.echo : Int)] 26))
  by_cases hl0 : 100 < o0.blocks.length
  · go_enter Try.func5, Try.ntmps5
    go_wp2_with fail
    refine (longL o0 A0 c0 _ g0.2.1).mono ?_
    rintro e wL ⟨rfl, hb⟩
    have X1 := Lib.hid (X0.out.later hb)
    have B1 := Lib.hid (st_call B0.out hb)
    clear hb
    rw [decide_eq_true hl0]
    go_wp2_with fail
    refine (alive_any _).mono ?_
    rintro e w' ⟨rfl, hb⟩
    have HB := Lib.hid (st_call B1.out hb)
    clear hb
    go_wp2_with fail
    go_ret
    exact ⟨rfl, HB.out⟩
  by_cases hx : 1024 < a1.size
  · go_enter Try.func5, Try.ntmps5
    go_wp2_with fail
    refine (longL o0 A0 c0 _ g0.2.1).mono ?_
    rintro e wL ⟨rfl, hb⟩
    have X1 := Lib.hid (X0.out.later hb)
    have B1 := Lib.hid (st_call B0.out hb)
    clear hb
    rw [decide_eq_false hl0]
    go_wp2_with fail
    refine (alive_any _).mono ?_
    rintro e w' ⟨rfl, hb⟩
    have HB := Lib.hid (st_call B1.out hb)
    clear hb
    go_wp2_with fail
    go_ret
    exact ⟨rfl, HB.out⟩
  have C1 := fun W (hw : Below w.heap.size w W) => encP7 o0 A0 c0 W (z0.more hw) g0.1
  obtain ⟨S, n, hV, hSz, hSn⟩ := enc_form o0
  rw [hV] at C1
  clear hV
  have H1 := Lib.hid C1
  have Z0 := Lib.hid z0
  have HSN := Lib.hid hSn
  clear C1 z0 hSn
  go_enter Try.func5, Try.ntmps5
  go_wp2_with fail
  refine (longL o0 A0 c0 _ g0.2.1).mono ?_
  rintro e wL ⟨rfl, hb⟩
  have X1 := Lib.hid (X0.out.later hb)
  have B1 := Lib.hid (st_call B0.out hb)
  clear hb
  rw [decide_eq_false hl0]
  have x0 : (wL).cell? ⟨w.heap.size, 0, none⟩ = some (.int .u16 (o0.mss : Int)) := X1.out.cell 0 _ rfl
  have x1 : (wL).cell? ⟨w.heap.size, 1, none⟩ = some (.int .i64 o0.scale) := X1.out.cell 1 _ rfl
  have x2 : (wL).cell? ⟨w.heap.size, 2, none⟩ = some (.bool o0.sack) := X1.out.cell 2 _ rfl
  have x3 : (wL).cell? ⟨w.heap.size, 3, none⟩ = some (.slice A0 o0.blocks.length c0) := X1.out.cell 3 _ rfl
  have x4 : (wL).cell? ⟨w.heap.size, 4, none⟩ = some (.bool o0.time) := X1.out.cell 4 _ rfl
  have x5 : (wL).cell? ⟨w.heap.size, 5, none⟩ = some (.int .u32 (o0.val : Int)) := X1.out.cell 5 _ rfl
  have x6 : (wL).cell? ⟨w.heap.size, 6, none⟩ = some (.int .u32 (o0.echo : Int)) := X1.out.cell 6 _ rfl
  go_wp2_with fail
  clear x0 x1 x2 x3 x4 x5 x6
  refine (H1.out _ B1.out).mono ?_
  rintro e wA ⟨rfl, hb⟩
  have X2 := Lib.hid (X1.out.later hb)
  have B2 := Lib.hid (st_call B1.out hb)
  clear hb
  go_upto_if 38 with (fail)
  go_cut [38] (fun _ wx => Below wA.heap.size wA wx)
  case first =>
    by_cases h0 : n = 0
    rotate_left
    · have q0 : ((n : Int) == 0) = false := beq_eq_false_iff_ne.2 (by omega)
      go_wp2_with fail
      go_meet
      exact Below.refl _ _
    obtain ⟨m0, e0⟩ := HSN.out h0
    obtain ⟨hd, h4, h40⟩ := was_written g0.1 m0 (raw_le o0 g0.1 m0)
    rw [← e0] at hd h4 h40
    have C3 := fun W => decP7 S W (by omega)
    unfold DecOut at C3
    rw [hd] at C3
    have H3 := Lib.hid C3
    have i4 : ((S.size : Int) % 4 == 0) = true := beq_iff_eq.2 (by omega)
    have i5 : ((S.size : Int) % 4 != 0) = false := by rw [bne, i4]; rfl
    have i40 : ¬ (40 : Int) < (S.size : Int) := by omega
    clear C3 hd h4 h40 e0 m0
    subst h0
    go_wp2_with fail
    refine (H3.out _).mono ?_
    rintro e wB ⟨⟨A3, c3, rfl, hR3⟩, hb⟩
    have bl := (Below.refl _ wB).alloc (Nat.le_refl _) (.cells #[.int .u16 (o0.mss : Int), .int .i64 o0.scale, .bool o0.sack, .slice A3 o0.blocks.length c3, .bool o0.time, .int .u32 (o0.val : Int), .int .u32 (o0.echo : Int)] 26)
    have X3 := (X2.out.later hb).later bl
    have U0 := CellsAt.new wB #[.int .u16 (o0.mss : Int), .int .i64 o0.scale, .bool o0.sack, .slice A3 o0.blocks.length c3, .bool o0.time, .int .u32 (o0.val : Int), .int .u32 (o0.echo : Int)] 26
    have R3 := hR3.blk.more bl
    have B3 := Lib.hid (st_alloc hb (.cells #[.int .u16 (o0.mss : Int), .int .i64 o0.scale, .bool o0.sack, .slice A3 o0.blocks.length c3, .bool o0.time, .int .u32 (o0.val : Int), .int .u32 (o0.echo : Int)] 26))
    have hsm := sameP o0 o0 A0 c0 A3 c3 _ (Z0.out.more (B2.out.trans (B3.out.mono B2.out.size))) R3 (by omega) (by omega)
    rw [decide_eq_true (rfl : o0 = o0)] at hsm
    have HSM := Lib.hid hsm
    clear bl hR3 R3 hsm
    clear hb
    have x0 : (wB.alloc (.cells #[.int .u16 (o0.mss : Int), .int .i64 o0.scale, .bool o0.sack, .slice A3 o0.blocks.length c3, .bool o0.time, .int .u32 (o0.val : Int), .int .u32 (o0.echo : Int)] 26)).cell? ⟨w.heap.size, 0, none⟩ = some (.int .u16 (o0.mss : Int)) := X3.cell 0 _ rfl
    have x1 : (wB.alloc (.cells #[.int .u16 (o0.mss : Int), .int .i64 o0.scale, .bool o0.sack, .slice A3 o0.blocks.length c3, .bool o0.time, .int .u32 (o0.val : Int), .int .u32 (o0.echo : Int)] 26)).cell? ⟨w.heap.size, 1, none⟩ = some (.int .i64 o0.scale) := X3.cell 1 _ rfl
    have x2 : (wB.alloc (.cells #[.int .u16 (o0.mss : Int), .int .i64 o0.scale, .bool o0.sack, .slice A3 o0.blocks.length c3, .bool o0.time, .int .u32 (o0.val : Int), .int .u32 (o0.echo : Int)] 26)).cell? ⟨w.heap.size, 2, none⟩ = some (.bool o0.sack) := X3.cell 2 _ rfl
    have x3 : (wB.alloc (.cells #[.int .u16 (o0.mss : Int), .int .i64 o0.scale, .bool o0.sack, .slice A3 o0.blocks.length c3, .bool o0.time, .int .u32 (o0.val : Int), .int .u32 (o0.echo : Int)] 26)).cell? ⟨w.heap.size, 3, none⟩ = some (.slice A0 o0.blocks.length c0) := X3.cell 3 _ rfl
    have x4 : (wB.alloc (.cells #[.int .u16 (o0.mss : Int), .int .i64 o0.scale, .bool o0.sack, .slice A3 o0.blocks.length c3, .bool o0.time, .int .u32 (o0.val : Int), .int .u32 (o0.echo : Int)] 26)).cell? ⟨w.heap.size, 4, none⟩ = some (.bool o0.time) := X3.cell 4 _ rfl
    have x5 : (wB.alloc (.cells #[.int .u16 (o0.mss : Int), .int .i64 o0.scale, .bool o0.sack, .slice A3 o0.blocks.length c3, .bool o0.time, .int .u32 (o0.val : Int), .int .u32 (o0.echo : Int)] 26)).cell? ⟨w.heap.size, 5, none⟩ = some (.int .u32 (o0.val : Int)) := X3.cell 5 _ rfl
    have x6 : (wB.alloc (.cells #[.int .u16 (o0.mss : Int), .int .i64 o0.scale, .bool o0.sack, .slice A3 o0.blocks.length c3, .bool o0.time, .int .u32 (o0.val : Int), .int .u32 (o0.echo : Int)] 26)).cell? ⟨w.heap.size, 6, none⟩ = some (.int .u32 (o0.echo : Int)) := X3.cell 6 _ rfl
    have u0 : (wB.alloc (.cells #[.int .u16 (o0.mss : Int), .int .i64 o0.scale, .bool o0.sack, .slice A3 o0.blocks.length c3, .bool o0.time, .int .u32 (o0.val : Int), .int .u32 (o0.echo : Int)] 26)).cell? ⟨wB.heap.size, 0, none⟩ = some (.int .u16 (o0.mss : Int)) := U0.cell 0 _ rfl
    have u1 : (wB.alloc (.cells #[.int .u16 (o0.mss : Int), .int .i64 o0.scale, .bool o0.sack, .slice A3 o0.blocks.length c3, .bool o0.time, .int .u32 (o0.val : Int), .int .u32 (o0.echo : Int)] 26)).cell? ⟨wB.heap.size, 1, none⟩ = some (.int .i64 o0.scale) := U0.cell 1 _ rfl
    have u2 : (wB.alloc (.cells #[.int .u16 (o0.mss : Int), .int .i64 o0.scale, .bool o0.sack, .slice A3 o0.blocks.length c3, .bool o0.time, .int .u32 (o0.val : Int), .int .u32 (o0.echo : Int)] 26)).cell? ⟨wB.heap.size, 2, none⟩ = some (.bool o0.sack) := U0.cell 2 _ rfl
    have u3 : (wB.alloc (.cells #[.int .u16 (o0.mss : Int), .int .i64 o0.scale, .bool o0.sack, .slice A3 o0.blocks.length c3, .bool o0.time, .int .u32 (o0.val : Int), .int .u32 (o0.echo : Int)] 26)).cell? ⟨wB.heap.size, 3, none⟩ = some (.slice A3 o0.blocks.length c3) := U0.cell 3 _ rfl
    have u4 : (wB.alloc (.cells #[.int .u16 (o0.mss : Int), .int .i64 o0.scale, .bool o0.sack, .slice A3 o0.blocks.length c3, .bool o0.time, .int .u32 (o0.val : Int), .int .u32 (o0.echo : Int)] 26)).cell? ⟨wB.heap.size, 4, none⟩ = some (.bool o0.time) := U0.cell 4 _ rfl
    have u5 : (wB.alloc (.cells #[.int .u16 (o0.mss : Int), .int .i64 o0.scale, .bool o0.sack, .slice A3 o0.blocks.length c3, .bool o0.time, .int .u32 (o0.val : Int), .int .u32 (o0.echo : Int)] 26)).cell? ⟨wB.heap.size, 5, none⟩ = some (.int .u32 (o0.val : Int)) := U0.cell 5 _ rfl
    have u6 : (wB.alloc (.cells #[.int .u16 (o0.mss : Int), .int .i64 o0.scale, .bool o0.sack, .slice A3 o0.blocks.length c3, .bool o0.time, .int .u32 (o0.val : Int), .int .u32 (o0.echo : Int)] 26)).cell? ⟨wB.heap.size, 6, none⟩ = some (.int .u32 (o0.echo : Int)) := U0.cell 6 _ rfl
    clear X3 U0
    go_wp2_with fail
    refine HSM.out.mono ?_
    rintro e wS ⟨rfl, hb⟩
    have B4 := Lib.hid (st_call B3.out hb)
    clear hb
    go_wp2_with fail
    go_meet
    exact B4.out
  case rest =>
    have B3 := Lib.hid (st_call B2.out hcut)
    clear hcut
    have hSz2 : S.size ≤ 1024 := by omega
    have n2 := neg32_wrap sb2
    have n3 := neg32_wrap s3
    have n4 := neg32_wrap s4
    have l2 := neg32_le a2
    have l3 := neg32_le a3
    have l4 := neg32_le a4
    have HRD := Lib.hid (fun s => round_is (neg32_add sb2) (neg32_add s3) (neg32_add s4) s)
    generalize neg32 a2 = b2 at n2 l2 HRD
    generalize neg32 a3 = b3 at n3 l3 HRD
    generalize neg32 a4 = b4 at n4 l4 HRD
    go_wp2_with fail
    go_loopw [1, 15] (fun sv i wr => ∃ (k : Nat) (s1 : ByteArray), i = .int .i64 (k : Int) ∧ k ≤ 2 ∧ sv = .string s1 ∧ s1.size ≤ 1024 ∧ Below w.heap.size w wr) (fun _ i _ => 2 - (intOf i).toNat)
    case atStart => exact ⟨0, a1, rfl, by omega, rfl, by omega, B3.out⟩
    case round =>
      obtain ⟨k, s1, rfl, hk, rfl, hs1, hB⟩ := hrel
      have HB := Lib.hid hB
      clear hB
      by_cases hk2 : k = 2
      · subst hk2
        go_wp2_with fail
        refine (alive_any _).mono ?_
        rintro e w' ⟨rfl, hb⟩
        have HB2 := Lib.hid (st_call HB.out hb)
        clear hb
        go_wp2_with fail
        go_ret
        exact ⟨rfl, HB2.out⟩
      have hkl : (k : Int) < 2 := by omega
      go_upto_if 68 with (fail)
      go_cut [1] (fun sv wx => ∃ s2 : ByteArray, sv = .string s2 ∧ s2.size ≤ 1024 ∧ Below w.heap.size w wx)
      case first =>
        by_cases hk1 : k = 1
        · subst hk1
          go_wp2_with fail
          go_meet
          exact ⟨S, rfl, hSz2, HB.out⟩
        · have q1 : ((k : Int) == 1) = false := beq_eq_false_iff_ne.2 (by omega)
          go_wp2_with fail
          go_meet
          exact ⟨s1, rfl, hs1, HB.out⟩
      case rest =>
        obtain ⟨s2, rfl, hs2, hB⟩ := hcut
        have B4 := Lib.hid hB
        clear hB
        have C3 := fun W => decP7 s2 W (by omega)
        unfold DecOut at C3
        have C4 := fun W => turnP7 s2 a2 a3 a4 W (by omega) sb2 s3 s4
        rcases HRD.out s2 with ⟨q, hq0, hd, ht⟩ | ⟨U, op, hr⟩
        · rw [hd] at C3
          rw [ht] at C4
          generalize (dec7 (bz s2)).2 = op at C3
          have H3 := Lib.hid C3
          have H4 := Lib.hid C4
          have q0 : ((q : Int) == 0) = false := beq_eq_false_iff_ne.2 (by omega)
          have q1 : ((q : Int) != 0) = true := bne_iff_ne.2 (by omega)
          clear C3 C4 hd ht
          go_wp2_with fail
          refine (H3.out _).mono ?_
          rintro e wB ⟨⟨A4, c4, rfl, _⟩, hb⟩
          have B5 := Lib.hid (st_alloc (st_call B4.out hb) (.cells #[.int .u16 (op.mss : Int), .int .i64 op.scale, .bool op.sack, .slice A4 op.blocks.length c4, .bool op.time, .int .u32 (op.val : Int), .int .u32 (op.echo : Int)] 26))
          clear hb
          go_wp2_with fail
          refine (H4.out _).mono ?_
          rintro e wC ⟨rfl, hb⟩
          have B6 := Lib.hid (st_call B5.out hb)
          clear hb
          go_wp2_with fail
          go_roundw
          case rel => exact ⟨k + 1, s2, by go_num, by omega, rfl, hs2, B6.out⟩
          case measure => simp [intOf]; omega
        · have hfew := dec7_few (bz s2)
          rw [hr.first] at C3 hfew
          rw [hr.turn] at C4
          have hUs := hr.size
          have C5 := fun W => decP7 U W (by omega)
          unfold DecOut at C5
          have hfew2 := dec7_few (bz U)
          rw [hr.second] at C5 hfew2
          have C6 := fun W => turnP7 U b2 b3 b4 W (by omega) l2 l3 l4
          rw [hr.back] at C6
          have hok := dec7_ok (bz_le s2) hr.first
          have C7 := fun A c W (hR : BlkR W A op.blocks) => turnedL op A c a2 a3 a4 W hR hok (by simp only at hfew; omega) sb2 s3 s4
          obtain ⟨oT, hoT⟩ : ∃ o, turnedO a2 a3 a4 op = o := ⟨_, rfl⟩
          rw [hoT] at C5 C7 hfew2
          simp only at hfew hfew2
          have H3 := Lib.hid C3
          have H4 := Lib.hid C4
          have H5 := Lib.hid C5
          have H6 := Lib.hid C6
          have H7 := Lib.hid C7
          have HUS := Lib.hid hUs
          clear C3 C4 C5 C6 C7 hr hoT hok hUs
          go_wp2_with fail
          refine (H3.out _).mono ?_
          rintro e wB ⟨⟨A4, c4, rfl, hR4⟩, hb⟩
          have bl := (Below.refl _ wB).alloc (Nat.le_refl _) (.cells #[.int .u16 (op.mss : Int), .int .i64 op.scale, .bool op.sack, .slice A4 op.blocks.length c4, .bool op.time, .int .u32 (op.val : Int), .int .u32 (op.echo : Int)] 26)
          have B5 := Lib.hid (st_alloc (st_call B4.out hb) (.cells #[.int .u16 (op.mss : Int), .int .i64 op.scale, .bool op.sack, .slice A4 op.blocks.length c4, .bool op.time, .int .u32 (op.val : Int), .int .u32 (op.echo : Int)] 26))
          have P0 := Lib.hid (CellsAt.new wB #[.int .u16 (op.mss : Int), .int .i64 op.scale, .bool op.sack, .slice A4 op.blocks.length c4, .bool op.time, .int .u32 (op.val : Int), .int .u32 (op.echo : Int)] 26)
          have R4 := Lib.hid (hR4.blk.more bl)
          clear hb hR4 bl
          go_wp2_with fail
          refine (H4.out _).mono ?_
          rintro e wC ⟨rfl, hb⟩
          have B6 := Lib.hid (st_call B5.out hb)
          have P1 := Lib.hid (P0.out.later hb)
          have R41 := Lib.hid (R4.out.more hb)
          clear hb
          go_wp2_with fail
          refine (H5.out _).mono ?_
          rintro e wD ⟨⟨A5, c5, rfl, hR5⟩, hb⟩
          have bl := (Below.refl _ wD).alloc (Nat.le_refl _) (.cells #[.int .u16 (oT.mss : Int), .int .i64 oT.scale, .bool oT.sack, .slice A5 oT.blocks.length c5, .bool oT.time, .int .u32 (oT.val : Int), .int .u32 (oT.echo : Int)] 26)
          have B7 := Lib.hid (st_alloc (st_call B6.out hb) (.cells #[.int .u16 (oT.mss : Int), .int .i64 oT.scale, .bool oT.sack, .slice A5 oT.blocks.length c5, .bool oT.time, .int .u32 (oT.val : Int), .int .u32 (oT.echo : Int)] 26))
          have P2 := Lib.hid ((P1.out.later hb).later bl)
          have R42 := Lib.hid ((R41.out.more hb).more bl)
          have T0 := Lib.hid (CellsAt.new wD #[.int .u16 (oT.mss : Int), .int .i64 oT.scale, .bool oT.sack, .slice A5 oT.blocks.length c5, .bool oT.time, .int .u32 (oT.val : Int), .int .u32 (oT.echo : Int)] 26)
          have R5 := Lib.hid (hR5.blk.more bl)
          clear hb hR5 bl
          go_wp2_with fail
          refine (H6.out _).mono ?_
          rintro e wE ⟨rfl, hb⟩
          have B8 := Lib.hid (st_call B7.out hb)
          have HP4 := Lib.hid (P2.out.later hb)
          have HT5 := Lib.hid (T0.out.later hb)
          have R43 := R42.out.more hb
          have R51 := R5.out.more hb
          have HTL := Lib.hid (fun W (hb : Below wE.heap.size wE W) => H7.out A4 c4 W (R43.more hb))
          have HSM := Lib.hid (fun W A' c' (hb : Below wE.heap.size wE W) (hR : BlkR W A' oT.blocks) => (by
            have h := sameP oT oT A5 c5 A' c' W (R51.more hb) hR (by omega) (by omega)
            rw [decide_eq_true (rfl : oT = oT)] at h
            exact h : Calls Try.prog 15 #[ov oT A5 c5, ov oT A' c'] W fun e w' => e = .returned (.bool true) ∧ Below W.heap.size W w'))
          clear hb R43 R51
          go_wp2_with fail
          refine wp_region_seeG 141 [(2, false), (12, false), (17, false), (21, false)] (relB7 op oT A4 A5 c4 c5 a2 a3 a4 s2 U) rfl (by kernel_rfl) (by kernel_rfl) (by kernel_rfl) (by intro p hp v w h; simp only [List.mem_cons, List.not_mem_nil, or_false] at hp; rcases hp with rfl | rfl | rfl | rfl <;> exact h) (relB7_more op oT A4 A5 c4 c5 a2 a3 a4 s2 U) ?_ ?_
          · intro i hi
            have hi2 : i < 28 := by simpa using hi
            clear hi
            match i, hi2 with
            | 0, _ =>
              intro ρ W hb hc hg hf h0 hd
              have t21 := h0 21 (by kernel_rfl)
              clear hd h0
              go_simp
              exact ⟨rfl, Below.refl _ _⟩
            | 1, _ =>
              intro ρ W hb hc hg hf h0 hd
              have d0 : ρ (.tmp 112) = .int .i64 0 := hd 0 112 (by kernel_rfl) (by kernel_rfl)
              clear hd h0
              go_simp
              exact ⟨rfl, Below.refl _ _⟩
            | 2, _ =>
              intro ρ W hb hc hg hf h0 hd
              have d1 : ρ (.tmp 113) = .bool false := hd 1 113 (by kernel_rfl) (by kernel_rfl)
              clear hd h0
              go_simp
              exact ⟨rfl, Below.refl _ _⟩
            | 3, _ =>
              intro ρ W hb hc hg hf h0 hd
              have t20 := h0 20 (by kernel_rfl)
              have hcc := HT5.out.later hb
              have t0_ := hcc.cell 0 _ rfl
              have t1_ := hcc.cell 1 _ rfl
              have t2_ := hcc.cell 2 _ rfl
              have t3_ := hcc.cell 3 _ rfl
              have t4_ := hcc.cell 4 _ rfl
              have t5_ := hcc.cell 5 _ rfl
              have t6_ := hcc.cell 6 _ rfl
              clear hcc
              clear hd h0
              go_simp
              exact ⟨rfl, Below.refl _ _⟩
            | 4, _ =>
              intro ρ W hb hc hg hf h0 hd
              have t16 := h0 16 (by kernel_rfl)
              have hcc := HP4.out.later hb
              have t0_ := hcc.cell 0 _ rfl
              have t1_ := hcc.cell 1 _ rfl
              have t2_ := hcc.cell 2 _ rfl
              have t3_ := hcc.cell 3 _ rfl
              have t4_ := hcc.cell 4 _ rfl
              have t5_ := hcc.cell 5 _ rfl
              have t6_ := hcc.cell 6 _ rfl
              clear hcc
              clear hd h0
              go_simp
              exact ⟨rfl, Below.refl _ _⟩
            | 5, _ =>
              intro ρ W hb hc hg hf h0 hd
              have t2 := h0 2 (by kernel_rfl)
              clear hd h0
              go_simp
              exact ⟨rfl, Below.refl _ _⟩
            | 6, _ =>
              intro ρ W hb hc hg hf h0 hd
              have t3 := h0 3 (by kernel_rfl)
              clear hd h0
              go_simp
              exact ⟨rfl, Below.refl _ _⟩
            | 7, _ =>
              intro ρ W hb hc hg hf h0 hd
              have t4 := h0 4 (by kernel_rfl)
              clear hd h0
              go_simp
              exact ⟨rfl, Below.refl _ _⟩
            | 8, _ =>
              intro ρ W hb hc hg hf h0 hd
              have d4 : ρ (.tmp 116) = ov op A4 c4 := hd 4 116 (by kernel_rfl) (by kernel_rfl)
              have d5 : ρ (.tmp 117) = .int .u32 (a2 : Int) := hd 5 117 (by kernel_rfl) (by kernel_rfl)
              have d6 : ρ (.tmp 118) = .int .u32 (a3 : Int) := hd 6 118 (by kernel_rfl) (by kernel_rfl)
              have d7 : ρ (.tmp 119) = .int .u32 (a4 : Int) := hd 7 119 (by kernel_rfl) (by kernel_rfl)
              clear hd h0
              go_simp
              exact (HTL.out W hb).mono fun e w' h => by
                obtain ⟨⟨A', c', he, hR⟩, hw⟩ := h
                exact ⟨_, he, ⟨A', c', rfl, hR⟩, hw⟩
            | 9, _ =>
              intro ρ W hb hc hg hf h0 hd
              have d3 : ρ (.tmp 115) = ov oT A5 c5 := hd 3 115 (by kernel_rfl) (by kernel_rfl)
              have dp8 : ∃ A' c', (ρ (.tmp 120)) = ov oT A' c' ∧ BlkR W A' oT.blocks := hd 8 120 (by kernel_rfl) (by kernel_rfl)
              clear hd h0
              go_simp
              obtain ⟨A', c', he, hR⟩ := dp8
              rw [he]
              exact (HSM.out W A' c' hb hR).mono fun e w' ⟨he, hb⟩ => ⟨_, he, rfl, hb⟩
            | 10, _ =>
              intro ρ W hb hc hg hf h0 hd
              have d9 : ρ (.tmp 121) = .bool true := hd 9 121 (by kernel_rfl) (by kernel_rfl)
              clear hd h0
              go_simp
              exact ⟨rfl, Below.refl _ _⟩
            | 11, _ =>
              intro ρ W hb hc hg hf h0 hd
              have d2 : ρ (.tmp 114) = .bool false := hd 2 114 (by kernel_rfl) (by kernel_rfl)
              have d10 : ρ (.tmp 122) = .bool false := hd 10 122 (by kernel_rfl) (by kernel_rfl)
              clear hd h0
              go_simp
              exact ⟨rfl, Below.refl _ _⟩
            | 12, _ =>
              intro ρ W hb hc hg hf h0 hd
              have d11 : ρ (.tmp 123) = .bool false := hd 11 123 (by kernel_rfl) (by kernel_rfl)
              clear hd h0
              go_simp
              exact ⟨rfl, Below.refl _ _⟩
            | 13, _ =>
              intro ρ W hb hc hg hf h0 hd
              have t22 := h0 22 (by kernel_rfl)
              clear hd h0
              go_simp
              exact ⟨rfl, Below.refl _ _⟩
            | 14, _ =>
              intro ρ W hb hc hg hf h0 hd
              have t1 := h0 1 (by kernel_rfl)
              clear hd h0
              go_simp
              exact ⟨rfl, Below.refl _ _⟩
            | 15, _ =>
              intro ρ W hb hc hg hf h0 hd
              have d13 : ρ (.tmp 125) = .string s2 := hd 13 125 (by kernel_rfl) (by kernel_rfl)
              have d14 : ρ (.tmp 126) = .string s2 := hd 14 126 (by kernel_rfl) (by kernel_rfl)
              clear hd h0
              go_simp
              exact ⟨rfl, Below.refl _ _⟩
            | 16, _ =>
              intro ρ W hb hc hg hf h0 hd
              have d12 : ρ (.tmp 124) = .bool false := hd 12 124 (by kernel_rfl) (by kernel_rfl)
              have d15 : ρ (.tmp 127) = .bool false := hd 15 127 (by kernel_rfl) (by kernel_rfl)
              clear hd h0
              go_simp
              exact ⟨rfl, Below.refl _ _⟩
            | 17, _ =>
              intro ρ W hb hc hg hf h0 hd
              have d16 : ρ (.tmp 128) = .bool false := hd 16 128 (by kernel_rfl) (by kernel_rfl)
              clear hd h0
              go_simp
              exact ⟨rfl, Below.refl _ _⟩
            | 18, _ =>
              intro ρ W hb hc hg hf h0 hd
              have t23 := h0 23 (by kernel_rfl)
              clear hd h0
              go_simp
              exact ⟨rfl, Below.refl _ _⟩
            | 19, _ =>
              intro ρ W hb hc hg hf h0 hd
              have d18 : ρ (.tmp 130) = .int .i64 0 := hd 18 130 (by kernel_rfl) (by kernel_rfl)
              clear hd h0
              go_simp
              exact ⟨rfl, Below.refl _ _⟩
            | 20, _ =>
              intro ρ W hb hc hg hf h0 hd
              have d17 : ρ (.tmp 129) = .bool false := hd 17 129 (by kernel_rfl) (by kernel_rfl)
              have d19 : ρ (.tmp 131) = .bool false := hd 19 131 (by kernel_rfl) (by kernel_rfl)
              clear hd h0
              go_simp
              exact ⟨rfl, Below.refl _ _⟩
            | 21, _ =>
              intro ρ W hb hc hg hf h0 hd
              have d20 : ρ (.tmp 132) = .bool false := hd 20 132 (by kernel_rfl) (by kernel_rfl)
              clear hd h0
              go_simp
              exact ⟨rfl, Below.refl _ _⟩
            | 22, _ =>
              intro ρ W hb hc hg hf h0 hd
              have t18 := h0 18 (by kernel_rfl)
              clear hd h0
              go_simp
              exact ⟨rfl, Below.refl _ _⟩
            | 23, _ =>
              intro ρ W hb hc hg hf h0 hd
              have d22 : ρ (.tmp 134) = .string U := hd 22 134 (by kernel_rfl) (by kernel_rfl)
              clear hd h0
              go_simp
              exact ⟨rfl, Below.refl _ _⟩
            | 24, _ =>
              intro ρ W hb hc hg hf h0 hd
              have t1 := h0 1 (by kernel_rfl)
              clear hd h0
              go_simp
              exact ⟨rfl, Below.refl _ _⟩
            | 25, _ =>
              intro ρ W hb hc hg hf h0 hd
              have d24 : ρ (.tmp 136) = .string s2 := hd 24 136 (by kernel_rfl) (by kernel_rfl)
              clear hd h0
              go_simp
              exact ⟨rfl, Below.refl _ _⟩
            | 26, _ =>
              intro ρ W hb hc hg hf h0 hd
              have d23 : ρ (.tmp 135) = .int .i64 (U.size : Int) := hd 23 135 (by kernel_rfl) (by kernel_rfl)
              have d25 : ρ (.tmp 137) = .int .i64 (s2.size : Int) := hd 25 137 (by kernel_rfl) (by kernel_rfl)
              clear hd h0
              have hq := HUS.out
              go_simp
              exact ⟨rfl, Below.refl _ _⟩
            | 27, _ =>
              intro ρ W hb hc hg hf h0 hd
              have d21 : ρ (.tmp 133) = .bool false := hd 21 133 (by kernel_rfl) (by kernel_rfl)
              have d26 : ρ (.tmp 138) = .bool false := hd 26 138 (by kernel_rfl) (by kernel_rfl)
              clear hd h0
              go_simp
              exact ⟨rfl, Below.refl _ _⟩
            | i + 28, hlt => exact absurd hlt (by omega)
          · intro vs W hb hall
            have h27 : vs 27 = .bool false := hall 27 (of_decide_eq_true (by kernel_rfl))
            have B9 := Lib.hid (st_call B8.out hb)
            clear hall hb
            rw [lexA_slots vs _ [(some 112, 0), (some 113, 1), (some 114, 2), (some 115, 3), (some 116, 4), (some 117, 5), (some 118, 6), (some 119, 7), (some 120, 8), (some 121, 9), (some 122, 10), (some 123, 11), (some 124, 12), (some 125, 13), (some 126, 14), (some 127, 15), (some 128, 16), (some 129, 17), (some 130, 18), (some 131, 19), (some 132, 20), (some 133, 21), (some 134, 22), (some 135, 23), (some 136, 24), (some 137, 25), (some 138, 26), (some 139, 27)] (by kernel_rfl)]
            simp only [List.foldl_cons, List.foldl_nil, h27]
            simp only [Cells.put_lit, List.set_cons_succ, List.set_cons_zero]
            go_wp2_with fail
            go_roundw
            case rel => exact ⟨k + 1, s2, by go_num, by omega, rfl, hs2, B9.out⟩
            case measure => simp [intOf]; omega

/-! The row's step, after the guide's own way. -/
set_option maxRecDepth 100000 in
theorem lifted (os : Os) (started : os.Started) (H : Type) (enc : TypeId × Value → H) :
    ReturnsInHanded {} Try.checked os 5 .any (Rows.optBackSpec.pre6 enc Try.prog Try.f5 Rows.optBackRow.domain false) (Rows.optBackSpec.post enc Try.prog Try.f5 false true false false) := by
  refine returnsInHanded_of_change (C := Try.checked) own started (by kernel_rfl) Try.func5
    (ChangeSpec.witness6 (enc := enc) (C := Try.checked) false ⟨#[], #[.agg #[.int .u16 0, .int .i64 0, .bool false, .slice none 0 0, .bool false, .int .u32 0, .int .u32 0], .string ByteArray.empty, .int .u32 0, .int .u32 0, .int .u32 0], []⟩ 8 (by kernel_rfl) (by kernel_rfl) (by kernel_rfl) (by kernel_rfl)) ?_
  intro W base args ds gs before hval0 hW hcnd _
  have hval : ∀ (j : Nat) t v, Try.f5.params[j]? = some t → args[j]? = some v → Value.okWide Try.prog W .any base t v := hval0
  have hW' := hW
  obtain ⟨p, q, hA0, hV, rfl, hfz, hnd⟩ := hW
  have hA : DataW.TrodAll enc Try.prog W 0 (fun _ => true) true Try.f5.params.toList args.toList ds p := hA0
  rw [Try.params5] at hA hval
  obtain ⟨v0, vs0, d0, ds0, p0, q0, hargs, rfl, rfl, h0, r0⟩ := trodAll_cons hA
  obtain ⟨v1, vs1, d1, ds1, p1, q1, rfl, rfl, rfl, h1, r1⟩ := trodAll_cons r0
  obtain ⟨v2, vs2, d2, ds2, p2, q2, rfl, rfl, rfl, h2, r2⟩ := trodAll_cons r1
  obtain ⟨v3, vs3, d3, ds3, p3, q3, rfl, rfl, rfl, h3, r3⟩ := trodAll_cons r2
  obtain ⟨v4, vs4, d4, ds4, p4, q4, rfl, rfl, rfl, h4, r4⟩ := trodAll_cons r3
  obtain ⟨rfl, rfl, rfl⟩ := trodAll_nil r4
  obtain rfl : args = #[v0, v1, v2, v3, v4] := by cases args; simp_all
  obtain ⟨rfl, rfl⟩ := trodVars_none hV
  have k0 := h0
  have lt0 : ∀ x ∈ p0, x.block < W.heap.size := by obtain ⟨m, hm⟩ := k0; exact DataW.trod_lt m _ _ _ hm
  obtain ⟨o0, A0, c0, rfl, z0, g0⟩ := OptOpen.open_opts (hval 0 26 v0 rfl rfl) h0
  have k1 := h1
  have lt1 : ∀ x ∈ p1, x.block < W.heap.size := by obtain ⟨m, hm⟩ := k1; exact DataW.trod_lt m _ _ _ hm
  obtain ⟨a1, rfl, _, _, w1⟩ := open_string Try.underlying9 (hval 1 9 v1 rfl rfl) h1
  have k2 := h2
  have lt2 : ∀ x ∈ p2, x.block < W.heap.size := by obtain ⟨m, hm⟩ := k2; exact DataW.trod_lt m _ _ _ hm
  obtain ⟨a2, rfl, _, _, w2⟩ := open_int Try.underlying24 (hval 2 24 v2 rfl rfl) h2
  have k3 := h3
  have lt3 : ∀ x ∈ p3, x.block < W.heap.size := by obtain ⟨m, hm⟩ := k3; exact DataW.trod_lt m _ _ _ hm
  obtain ⟨a3, rfl, _, _, w3⟩ := open_int Try.underlying24 (hval 3 24 v3 rfl rfl) h3
  have k4 := h4
  have lt4 : ∀ x ∈ p4, x.block < W.heap.size := by obtain ⟨m, hm⟩ := k4; exact DataW.trod_lt m _ _ _ hm
  obtain ⟨a4, rfl, _, _, w4⟩ := open_int Try.underlying24 (hval 4 24 v4 rfl rfl) h4
  clear hA0 hval0
  refine (walk o0 A0 c0 a1 a2 a3 a4 W z0 g0 w1 w2 w3 w4).mono fun e W' ⟨he, bel⟩ => ?_
  subst he
  exact ⟨_, rfl, _, _, _, [], _, [], hW', trodAll_mk1 (shut_bool Try.underlying4 _), (trodAll_cons_mk (Below.trod laidOut (by kernel_rfl) (of_decide_eq_true (by kernel_rfl)) k0 bel lt0) (trodAll_cons_mk (Below.trod laidOut (by kernel_rfl) (of_decide_eq_true (by kernel_rfl)) k1 bel lt1) (trodAll_cons_mk (Below.trod laidOut (by kernel_rfl) (of_decide_eq_true (by kernel_rfl)) k2 bel lt2) (trodAll_cons_mk (Below.trod laidOut (by kernel_rfl) (of_decide_eq_true (by kernel_rfl)) k3 bel lt3) (trodAll_cons_mk (Below.trod laidOut (by kernel_rfl) (of_decide_eq_true (by kernel_rfl)) k4 bel lt4) trodAll_mk0))))), rfl, bel.frame _, fun h => by cases h⟩

theorem over : Rows.optBackRow.holds Try.pinned (OpenSpec.ofChange Rows.optBackSpec) :=
  OpenClaim.holds_of_wide 5 Try.f5 rfl rfl rfl rfl rfl rfl rfl ⟨rfl, rfl, rfl, rfl, rfl⟩ rfl rfl rfl rfl rfl (by kernel_rfl) Try.func5 (by kernel_rfl)
    (of_decide_eq_true (by kernel_rfl)) (by unfold Func.isWrapper; first | (rw [if_pos (by decide +kernel)]; kernel_rfl) | (rw [if_neg (by decide +kernel)]; exact ⟨rfl, rfl⟩))
    (fun os started H enc _ => lifted os started H enc)

/-- The statement. -/
theorem proved : Rows.OptBackSaid := over
#print axioms proved
end Go.Proofs.Ytgpkckaojcodmaa.optBack
