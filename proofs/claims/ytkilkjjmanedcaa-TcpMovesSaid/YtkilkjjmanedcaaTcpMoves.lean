/-
  Proved: the statement 'Rows.TcpMovesSaid': for every input the Go function transomlaw06.TcpMoves returns true, and each argument reads behind the call as it read before. Conditions: none of our own; those of the given row.
-/
import Derived.Test.YtkilkjjmanedcaaRows
import Derived.Test.YtkilkjjmanedcaaTcpOpen
import Derived.Test.YtkilkjjmanedcaaTcpAlive
import Derived.Deep.DeepCutAuto
import Derived.BigQuiet
import Derived.WalkKit
import Derived.ProofKit
import Derived.OpenShut
import Derived.ShutString
import Derived.ChangeOld
import Derived.Below
namespace Go.Proofs.Ytkilkjjmanedcaa.tcpMoves
open Go.ChangeShapes Go.WideShapes Go.ChangeAt Go.RowKit
open Go.ChangeMaps (open_string shut_string)
open TupMath SumMath IpMath Litb Calm Rel IpRef TcpMath TcpRef TcpEnc TcpP TcpDec TcpD TcpAlive
set_option linter.unusedVariables false

theorem own : ownKnob Try.prog.godebug = none := by kernel_rfl
theorem laidOut : laidOutB Try.prog = true := by kernel_rfl

theorem ba_ext {S T : ByteArray} (h : S.toList = T.toList) : S = T := by
  rw [ByteArray.toList_eq, ByteArray.toList_eq] at h
  exact ByteArray.ext (Array.ext' h)
theorem same_seg {src dst : Nat} {g h : Th} {a b : ByteArray} (kg : g.ok) (kh : h.ok) (mg : g.may) (mh : h.may) (e : ofB (seg src dst g (bz a)) = ofB (seg src dst h (bz b))) : g = h ∧ a = b := by
  have e2 := congrArg bz e
  rw [bz_seg src dst g a kg mg, bz_seg src dst h b kh mh] at e2
  obtain ⟨h1, h2⟩ := seg_inj kg kh mg mh (bz_le a) e2
  exact ⟨h1, bz_inj h2⟩
theorem encV6_form (src dst : Nat) (h : Th) (d : ByteArray) : ∃ (S : ByteArray) (n : Int), encV6 src dst h d = .tuple #[.string S, .int .i64 n] := by
  unfold encV6
  split
  · split
    · exact ⟨_, _, rfl⟩
    · exact ⟨_, _, rfl⟩
  · exact ⟨_, _, rfl⟩
/-- what is read, and what comes of it written again -/
structure Again (src dst : Nat) (s : ByteArray) (h : Th) (D S : ByteArray) : Prop where
  ok : h.ok
  may : h.may
  room : 20 + h.opts.size + D.size ≤ 65515
  is : S = ofB (seg src dst h (bz D))
  size : S.size = s.size
  front : S.extract 0 16 = s.extract 0 16
  back : S.extract 18 s.size = s.extract 18 s.size
  sum : S ≠ s → s.extract 16 18 = ⟨#[255, 255]⟩
  long : 20 ≤ s.size
theorem moves_form (src dst : Nat) (s : ByteArray) : ∃ (h : Th) (D S : ByteArray) (n : Nat), decV6 src dst s = .tuple #[tv h, .string D, .int .i64 (n : Int)] ∧ (0 < n ∨ n = 0 ∧ Again src dst s h D S) := by
  by_cases h0 : terr src dst (bz s) = 0
  · have hdv : decV6 src dst s = .tuple #[tv (trd s), .string (s.extract (hl (bz s)) s.size), .int .i64 0] := by rw [decV6, if_pos h0]
    obtain ⟨k, m, hraw, hs, hlen, h65, h20⟩ := trd_raw src dst s h0
    obtain ⟨m1, m2, m3, m4⟩ := moves src dst s h0
    generalize s.extract (hl (bz s)) s.size = D at hraw hlen m1 m2 m3 m4 hdv
    refine ⟨trd s, D, ofB (seg src dst (trd s) (bz D)), 0, ?_, .inr ⟨rfl, ?_⟩⟩
    · exact hdv
    have hb := bz_seg src dst (trd s) D k m
    rw [bz_len] at hlen
    have hz : (ofB (seg src dst (trd s) (bz D))).size = s.size := by rw [ofB_size]; exact m1
    refine ⟨k, m, by omega, rfl, hz, ?_, ?_, ?_, h20⟩
    · apply bz_inj
      rw [bz_extract _ _ _ (by omega), bz_extract _ _ _ (by omega), hb, m2]
    · apply bz_inj
      rw [bz_extract _ _ _ (by omega), bz_extract _ _ _ (by omega), hb, List.take_of_length_le (by rw [m1]; exact Nat.le_refl _), List.take_of_length_le (by rw [bz_len]; exact Nat.le_refl _), m3]
    · intro hne
      apply bz_inj
      rw [bz_extract _ _ _ (by omega), m4 (fun e => hne (bz_inj (by rw [hb]; exact e)))]
      rfl
  · exact ⟨zeroT, ⟨#[]⟩, ⟨#[]⟩, terr src dst (bz s), by rw [decV6, if_neg h0], .inl (Nat.pos_of_ne_zero h0)⟩

/-! The walk: the Go text returns true, and writes nothing that was there. -/
set_option maxRecDepth 100000 in
set_option maxHeartbeats 16000000 in
theorem walk (a0 : Int) (a1 : Int) (a2 : ByteArray) (ts3 td3 tq3 ta3 tf3 tw3 tu3 : Nat) (to3 : ByteArray) (ts4 td4 tq4 ta4 tf4 tw4 tu4 : Nat) (to4 : ByteArray) (w : World) (w0 : (Lit.int .u32 a0).wf = true) (w1 : (Lit.int .u32 a1).wf = true) (w2 : a2.size ≤ maxLen) (g3 : ts3 ≤ 65535 ∧ td3 ≤ 65535 ∧ tq3 ≤ 4294967295 ∧ ta3 ≤ 4294967295 ∧ tf3 ≤ 255 ∧ tw3 ≤ 65535 ∧ tu3 ≤ 65535 ∧ to3.size ≤ maxLen) (g4 : ts4 ≤ 65535 ∧ td4 ≤ 65535 ∧ tq4 ≤ 4294967295 ∧ ta4 ≤ 4294967295 ∧ tf4 ≤ 255 ∧ tw4 ≤ 65535 ∧ tu4 ≤ 65535 ∧ to4.size ≤ maxLen) :
    Calls Try.prog 6 #[.int .u32 a0, .int .u32 a1, .string a2, .agg #[.int .u16 (ts3 : Int), .int .u16 (td3 : Int), .int .u32 (tq3 : Int), .int .u32 (ta3 : Int), .int .u8 (tf3 : Int), .int .u16 (tw3 : Int), .int .u16 (tu3 : Int), .string to3], .agg #[.int .u16 (ts4 : Int), .int .u16 (td4 : Int), .int .u32 (tq4 : Int), .int .u32 (ta4 : Int), .int .u8 (tf4 : Int), .int .u16 (tw4 : Int), .int .u16 (tu4 : Int), .string to4]] w fun e w' => e = .returned (.bool true) ∧ Below w.heap.size w w' := by
  have ⟨b0, b0'⟩ := bounds_u32 w0
  obtain ⟨a0, rfl⟩ := Int.eq_ofNat_of_zero_le b0
  clear w0 b0
  have s0 : a0 ≤ 4294967295 := by omega
  clear b0'
  have ⟨b1, b1'⟩ := bounds_u32 w1
  obtain ⟨a1, rfl⟩ := Int.eq_ofNat_of_zero_le b1
  clear w1 b1
  have s1 : a1 ≤ 4294967295 := by omega
  clear b1'
  unfold maxLen at w2
  have k3 : (⟨ts3, td3, tq3, ta3, tf3, tw3, tu3, to3⟩ : Th).ok := ⟨g3.1, g3.2.1, g3.2.2.1, g3.2.2.2.1, g3.2.2.2.2.1, g3.2.2.2.2.2.1, g3.2.2.2.2.2.2.1⟩
  have o3 := g3.2.2.2.2.2.2.2
  have k4 : (⟨ts4, td4, tq4, ta4, tf4, tw4, tu4, to4⟩ : Th).ok := ⟨g4.1, g4.2.1, g4.2.2.1, g4.2.2.2.1, g4.2.2.2.2.1, g4.2.2.2.2.2.1, g4.2.2.2.2.2.2.1⟩
  have o4 := g4.2.2.2.2.2.2.2
  unfold maxLen at o3 o4
  clear g3 g4
  by_cases hx2214 : 2048 < a2.size
  · go_enter Try.func6, Try.ntmps6
    go_wp2_with fail
    refine (alive_any _).mono ?_
    rintro e w' ⟨rfl, hb⟩
    have HB := Lib.hid (st_call (st_alloc (st_alloc (Below.refl _ _) _) _) hb)
    clear hb
    go_wp2_with fail
    go_ret
    exact ⟨rfl, HB.out⟩
  by_cases hx1315 : 1024 < to3.size
  · go_enter Try.func6, Try.ntmps6
    go_wp2_with fail
    refine (alive_any _).mono ?_
    rintro e w' ⟨rfl, hb⟩
    have HB := Lib.hid (st_call (st_alloc (st_alloc (Below.refl _ _) _) _) hb)
    clear hb
    go_wp2_with fail
    go_ret
    exact ⟨rfl, HB.out⟩
  by_cases hx1415 : 1024 < to4.size
  · go_enter Try.func6, Try.ntmps6
    go_wp2_with fail
    refine (alive_any _).mono ?_
    rintro e w' ⟨rfl, hb⟩
    have HB := Lib.hid (st_call (st_alloc (st_alloc (Below.refl _ _) _) _) hb)
    clear hb
    go_wp2_with fail
    go_ret
    exact ⟨rfl, HB.out⟩
  have C0 := fun W => decP6 a0 a1 a2 W s0 s1 (by omega)
  obtain ⟨⟨src, dst, seq, ack, fl, win, urg, opts⟩, D, S, n, hV, hcase⟩ := moves_form a0 a1 a2
  rw [hV] at C0
  clear hV
  have H0 : Hid (∀ W, Calls Try.prog 10 #[.int .u32 (a0 : Int), .int .u32 (a1 : Int), .string a2] W fun e w' => e = .returned (.tuple #[.agg #[.int .u16 (src : Int), .int .u16 (dst : Int), .int .u32 (seq : Int), .int .u32 (ack : Int), .int .u8 (fl : Int), .int .u16 (win : Int), .int .u16 (urg : Int), .string opts], .string D, .int .i64 (n : Int)]) ∧ Below W.heap.size W w') := Lib.hid C0
  clear C0
  have HC := Lib.hid hcase
  clear hcase
  have X0 := Lib.hid ((Box.new w #[.int .u16 (ts3 : Int), .int .u16 (td3 : Int), .int .u32 (tq3 : Int), .int .u32 (ta3 : Int), .int .u8 (tf3 : Int), .int .u16 (tw3 : Int), .int .u16 (tu3 : Int), .string to3]).alloc (.cells #[.int .u16 (ts4 : Int), .int .u16 (td4 : Int), .int .u32 (tq4 : Int), .int .u32 (ta4 : Int), .int .u8 (tf4 : Int), .int .u16 (tw4 : Int), .int .u16 (tu4 : Int), .string to4] 25))
  have Y0 := Lib.hid (Box.new (w.alloc (.cells #[.int .u16 (ts3 : Int), .int .u16 (td3 : Int), .int .u32 (tq3 : Int), .int .u32 (ta3 : Int), .int .u8 (tf3 : Int), .int .u16 (tw3 : Int), .int .u16 (tu3 : Int), .string to3] 25)) #[.int .u16 (ts4 : Int), .int .u16 (td4 : Int), .int .u32 (tq4 : Int), .int .u32 (ta4 : Int), .int .u8 (tf4 : Int), .int .u16 (tw4 : Int), .int .u16 (tu4 : Int), .string to4])
  rw [World.size_alloc] at Y0
  have B0 := Lib.hid (st_alloc (st_alloc (Below.refl _ w) (.cells #[.int .u16 (ts3 : Int), .int .u16 (td3 : Int), .int .u32 (tq3 : Int), .int .u32 (ta3 : Int), .int .u8 (tf3 : Int), .int .u16 (tw3 : Int), .int .u16 (tu3 : Int), .string to3] 25)) (.cells #[.int .u16 (ts4 : Int), .int .u16 (td4 : Int), .int .u32 (tq4 : Int), .int .u32 (ta4 : Int), .int .u8 (tf4 : Int), .int .u16 (tw4 : Int), .int .u16 (tu4 : Int), .string to4] 25))
  go_enter Try.func6, Try.ntmps6
  go_wp2_with fail
  refine (H0.out _).mono ?_
  rintro e wA ⟨rfl, hb⟩
  have X1 := Lib.hid ((X0.out.more hb).alloc (.cells #[.int .u16 (src : Int), .int .u16 (dst : Int), .int .u32 (seq : Int), .int .u32 (ack : Int), .int .u8 (fl : Int), .int .u16 (win : Int), .int .u16 (urg : Int), .string opts] 25))
  have Y1 := Lib.hid ((Y0.out.more hb).alloc (.cells #[.int .u16 (src : Int), .int .u16 (dst : Int), .int .u32 (seq : Int), .int .u32 (ack : Int), .int .u8 (fl : Int), .int .u16 (win : Int), .int .u16 (urg : Int), .string opts] 25))
  have Z1 := Box.new wA #[.int .u16 (src : Int), .int .u16 (dst : Int), .int .u32 (seq : Int), .int .u32 (ack : Int), .int .u8 (fl : Int), .int .u16 (win : Int), .int .u16 (urg : Int), .string opts]
  have B1 := Lib.hid (st_alloc (st_call B0.out hb) (.cells #[.int .u16 (src : Int), .int .u16 (dst : Int), .int .u32 (seq : Int), .int .u32 (ack : Int), .int .u8 (fl : Int), .int .u16 (win : Int), .int .u16 (urg : Int), .string opts] 25))
  clear hb
  go_upto_if 44 with (fail)
  generalize wA.alloc (.cells #[.int .u16 (src : Int), .int .u16 (dst : Int), .int .u32 (seq : Int), .int .u32 (ack : Int), .int .u8 (fl : Int), .int .u16 (win : Int), .int .u16 (urg : Int), .string opts] 25) = w1 at X1 Y1 Z1 B1 ⊢
  have e0 : (w1).cell? ⟨wA.heap.size, 0, none⟩ = some (.int .u16 (src : Int)) := Z1.cell 0 _ rfl
  have e1 : (w1).cell? ⟨wA.heap.size, 1, none⟩ = some (.int .u16 (dst : Int)) := Z1.cell 1 _ rfl
  have e2 : (w1).cell? ⟨wA.heap.size, 2, none⟩ = some (.int .u32 (seq : Int)) := Z1.cell 2 _ rfl
  have e3 : (w1).cell? ⟨wA.heap.size, 3, none⟩ = some (.int .u32 (ack : Int)) := Z1.cell 3 _ rfl
  have e4 : (w1).cell? ⟨wA.heap.size, 4, none⟩ = some (.int .u8 (fl : Int)) := Z1.cell 4 _ rfl
  have e5 : (w1).cell? ⟨wA.heap.size, 5, none⟩ = some (.int .u16 (win : Int)) := Z1.cell 5 _ rfl
  have e6 : (w1).cell? ⟨wA.heap.size, 6, none⟩ = some (.int .u16 (urg : Int)) := Z1.cell 6 _ rfl
  have e7 : (w1).cell? ⟨wA.heap.size, 7, none⟩ = some (.string opts) := Z1.cell 7 _ rfl
  clear Z1
  go_cut [15] (fun _ wx => Below w1.heap.size w1 wx)
  case first =>
    rcases HC.out with hn0 | ⟨rfl, hA⟩
    · have q1 : ((n : Int) == 0) = false := beq_eq_false_iff_ne.2 (by omega)
      go_wp2_with fail
      go_meet
      exact Below.refl _ _
    have C4 := fun W => encP6 a0 a1 (⟨src, dst, seq, ack, fl, win, urg, opts⟩ : Th) D W s0 s1 hA.ok (by have := hA.may.most; show opts.size ≤ _; simp only at this; omega) (by have := hA.room; omega)
    rw [encV6_ok hA.may hA.room, ← hA.is] at C4
    have H4 : Hid (∀ W, Calls Try.prog 8 #[.int .u32 (a0 : Int), .int .u32 (a1 : Int), .agg #[.int .u16 (src : Int), .int .u16 (dst : Int), .int .u32 (seq : Int), .int .u32 (ack : Int), .int .u8 (fl : Int), .int .u16 (win : Int), .int .u16 (urg : Int), .string opts], .string D] W fun e w' => e = .returned (.tuple #[.string S, .int .i64 0]) ∧ Below W.heap.size W w') := Lib.hid C4
    have h20 := hA.long
    have i16 : (16 : Int) ≤ (a2.size : Int) := by omega
    have i18 : (18 : Int) ≤ (a2.size : Int) := by omega
    have esz := hA.size
    have e16 := hA.front
    have e18 := hA.back
    have esm := hA.sum
    clear C4 hA
    by_cases hST : S = a2
    · subst hST
      clear esz e16 e18 esm
      go_wp2_with fail
      refine (H4.out _).mono ?_
      rintro e wE ⟨rfl, hb⟩
      have HB := Lib.hid hb
      clear hb e0 e1 e2 e3 e4 e5 e6 e7
      go_wp2_with fail
      go_quiet (fail)
      go_wp2_with fail
      go_meet
      exact Num.below_drewN HB.out _
    · have eff := esm hST
      have hne : (S.toList == a2.toList) = false := beq_eq_false_iff_ne.2 (fun e => hST (ba_ext e))
      clear esm hST
      go_wp2_with fail
      refine (H4.out _).mono ?_
      rintro e wE ⟨rfl, hb⟩
      have HB := Lib.hid hb
      clear hb e0 e1 e2 e3 e4 e5 e6 e7
      go_wp2_with fail
      go_quiet (fail)
      go_wp2_with fail
      go_meet
      exact Num.below_drewN HB.out _
  case rest =>
    have X2 := Lib.hid (X1.out.more hcut)
    have Y2 := Lib.hid (Y1.out.more hcut)
    have B2 := Lib.hid (st_call B1.out hcut)
    clear hcut e0 e1 e2 e3 e4 e5 e6 e7
    have C1 := fun W => encP6 a0 a1 (⟨ts3, td3, tq3, ta3, tf3, tw3, tu3, to3⟩ : Th) ⟨#[100, 97, 116, 97]⟩ W s0 s1 k3 (by show to3.size ≤ _; omega) (by decide)
    have C2 := fun W => encP6 a0 a1 (⟨ts4, td4, tq4, ta4, tf4, tw4, tu4, to4⟩ : Th) ⟨#[100, 97, 116, 97]⟩ W s0 s1 k4 (by show to4.size ≤ _; omega) (by decide)
    have c0 : True := trivial
    clear c0
    by_cases m3 : ((⟨ts3, td3, tq3, ta3, tf3, tw3, tu3, to3⟩ : Th)).may
    rotate_left
    · rw [encV6_arg m3] at C1
      obtain ⟨T4, n4, hV4⟩ := encV6_form a0 a1 (⟨ts4, td4, tq4, ta4, tf4, tw4, tu4, to4⟩ : Th) ⟨#[100, 97, 116, 97]⟩
      rw [hV4] at C2
      clear hV4 m3
      have H1 : Hid (∀ W, Calls Try.prog 8 #[.int .u32 (a0 : Int), .int .u32 (a1 : Int), .agg #[.int .u16 (ts3 : Int), .int .u16 (td3 : Int), .int .u32 (tq3 : Int), .int .u32 (ta3 : Int), .int .u8 (tf3 : Int), .int .u16 (tw3 : Int), .int .u16 (tu3 : Int), .string to3], .string ⟨#[100, 97, 116, 97]⟩] W fun e w' => e = .returned (.tuple #[.string ⟨#[]⟩, .int .i64 2]) ∧ Below W.heap.size W w') := Lib.hid C1
      have H2 : Hid (∀ W, Calls Try.prog 8 #[.int .u32 (a0 : Int), .int .u32 (a1 : Int), .agg #[.int .u16 (ts4 : Int), .int .u16 (td4 : Int), .int .u32 (tq4 : Int), .int .u32 (ta4 : Int), .int .u8 (tf4 : Int), .int .u16 (tw4 : Int), .int .u16 (tu4 : Int), .string to4], .string ⟨#[100, 97, 116, 97]⟩] W fun e w' => e = .returned (.tuple #[.string T4, .int .i64 n4]) ∧ Below W.heap.size W w') := Lib.hid C2
      clear C1 C2
      have X3 := X2.out
      have c0 : (wc).cell? ⟨w.heap.size, 0, none⟩ = some (.int .u16 (ts3 : Int)) := X3.cell 0 _ rfl
      have c1 : (wc).cell? ⟨w.heap.size, 1, none⟩ = some (.int .u16 (td3 : Int)) := X3.cell 1 _ rfl
      have c2 : (wc).cell? ⟨w.heap.size, 2, none⟩ = some (.int .u32 (tq3 : Int)) := X3.cell 2 _ rfl
      have c3 : (wc).cell? ⟨w.heap.size, 3, none⟩ = some (.int .u32 (ta3 : Int)) := X3.cell 3 _ rfl
      have c4 : (wc).cell? ⟨w.heap.size, 4, none⟩ = some (.int .u8 (tf3 : Int)) := X3.cell 4 _ rfl
      have c5 : (wc).cell? ⟨w.heap.size, 5, none⟩ = some (.int .u16 (tw3 : Int)) := X3.cell 5 _ rfl
      have c6 : (wc).cell? ⟨w.heap.size, 6, none⟩ = some (.int .u16 (tu3 : Int)) := X3.cell 6 _ rfl
      have c7 : (wc).cell? ⟨w.heap.size, 7, none⟩ = some (.string to3) := X3.cell 7 _ rfl
      clear X3
      go_wp2_with fail
      clear c0 c1 c2 c3 c4 c5 c6 c7
      refine (H1.out _).mono ?_
      rintro e wA2 ⟨rfl, hb⟩
      have X3 := Lib.hid (X2.out.more hb)
      have Y3 := Y2.out.more hb
      have B3 := Lib.hid (st_call B2.out hb)
      clear hb
      have d0 : (wA2).cell? ⟨w.heap.size + 1, 0, none⟩ = some (.int .u16 (ts4 : Int)) := Y3.cell 0 _ rfl
      have d1 : (wA2).cell? ⟨w.heap.size + 1, 1, none⟩ = some (.int .u16 (td4 : Int)) := Y3.cell 1 _ rfl
      have d2 : (wA2).cell? ⟨w.heap.size + 1, 2, none⟩ = some (.int .u32 (tq4 : Int)) := Y3.cell 2 _ rfl
      have d3 : (wA2).cell? ⟨w.heap.size + 1, 3, none⟩ = some (.int .u32 (ta4 : Int)) := Y3.cell 3 _ rfl
      have d4 : (wA2).cell? ⟨w.heap.size + 1, 4, none⟩ = some (.int .u8 (tf4 : Int)) := Y3.cell 4 _ rfl
      have d5 : (wA2).cell? ⟨w.heap.size + 1, 5, none⟩ = some (.int .u16 (tw4 : Int)) := Y3.cell 5 _ rfl
      have d6 : (wA2).cell? ⟨w.heap.size + 1, 6, none⟩ = some (.int .u16 (tu4 : Int)) := Y3.cell 6 _ rfl
      have d7 : (wA2).cell? ⟨w.heap.size + 1, 7, none⟩ = some (.string to4) := Y3.cell 7 _ rfl
      have Y4 := Lib.hid Y3
      clear Y3
      go_wp2_with fail
      clear d0 d1 d2 d3 d4 d5 d6 d7
      refine (H2.out _).mono ?_
      rintro e wB2 ⟨rfl, hb⟩
      have X4 := X3.out.more hb
      have Y5 := Y4.out.more hb
      have B4 := Lib.hid (st_call B3.out hb)
      clear hb
      go_wp2_with fail
      refine (alive_any _).mono ?_
      rintro e wC ⟨rfl, hb3⟩
      have B5 := Lib.hid (st_call B4.out hb3)
      clear hb3
      go_wp2_with fail
      go_ret
      exact ⟨rfl, B5.out⟩
    have m3' : to3.size ≤ 40 := m3.most
    rw [encV6_ok m3 (show 20 + to3.size + 4 ≤ _ by omega)] at C1
    by_cases m4 : ((⟨ts4, td4, tq4, ta4, tf4, tw4, tu4, to4⟩ : Th)).may
    rotate_left
    · rw [encV6_arg m4] at C2
      generalize ofB (seg a0 a1 (⟨ts3, td3, tq3, ta3, tf3, tw3, tu3, to3⟩ : Th) (bz ⟨#[100, 97, 116, 97]⟩)) = T3 at C1
      clear m3 m4
      have H1 : Hid (∀ W, Calls Try.prog 8 #[.int .u32 (a0 : Int), .int .u32 (a1 : Int), .agg #[.int .u16 (ts3 : Int), .int .u16 (td3 : Int), .int .u32 (tq3 : Int), .int .u32 (ta3 : Int), .int .u8 (tf3 : Int), .int .u16 (tw3 : Int), .int .u16 (tu3 : Int), .string to3], .string ⟨#[100, 97, 116, 97]⟩] W fun e w' => e = .returned (.tuple #[.string T3, .int .i64 0]) ∧ Below W.heap.size W w') := Lib.hid C1
      have H2 : Hid (∀ W, Calls Try.prog 8 #[.int .u32 (a0 : Int), .int .u32 (a1 : Int), .agg #[.int .u16 (ts4 : Int), .int .u16 (td4 : Int), .int .u32 (tq4 : Int), .int .u32 (ta4 : Int), .int .u8 (tf4 : Int), .int .u16 (tw4 : Int), .int .u16 (tu4 : Int), .string to4], .string ⟨#[100, 97, 116, 97]⟩] W fun e w' => e = .returned (.tuple #[.string ⟨#[]⟩, .int .i64 2]) ∧ Below W.heap.size W w') := Lib.hid C2
      clear C1 C2
      have X3 := X2.out
      have c0 : (wc).cell? ⟨w.heap.size, 0, none⟩ = some (.int .u16 (ts3 : Int)) := X3.cell 0 _ rfl
      have c1 : (wc).cell? ⟨w.heap.size, 1, none⟩ = some (.int .u16 (td3 : Int)) := X3.cell 1 _ rfl
      have c2 : (wc).cell? ⟨w.heap.size, 2, none⟩ = some (.int .u32 (tq3 : Int)) := X3.cell 2 _ rfl
      have c3 : (wc).cell? ⟨w.heap.size, 3, none⟩ = some (.int .u32 (ta3 : Int)) := X3.cell 3 _ rfl
      have c4 : (wc).cell? ⟨w.heap.size, 4, none⟩ = some (.int .u8 (tf3 : Int)) := X3.cell 4 _ rfl
      have c5 : (wc).cell? ⟨w.heap.size, 5, none⟩ = some (.int .u16 (tw3 : Int)) := X3.cell 5 _ rfl
      have c6 : (wc).cell? ⟨w.heap.size, 6, none⟩ = some (.int .u16 (tu3 : Int)) := X3.cell 6 _ rfl
      have c7 : (wc).cell? ⟨w.heap.size, 7, none⟩ = some (.string to3) := X3.cell 7 _ rfl
      clear X3
      go_wp2_with fail
      clear c0 c1 c2 c3 c4 c5 c6 c7
      refine (H1.out _).mono ?_
      rintro e wA2 ⟨rfl, hb⟩
      have X3 := Lib.hid (X2.out.more hb)
      have Y3 := Y2.out.more hb
      have B3 := Lib.hid (st_call B2.out hb)
      clear hb
      have d0 : (wA2).cell? ⟨w.heap.size + 1, 0, none⟩ = some (.int .u16 (ts4 : Int)) := Y3.cell 0 _ rfl
      have d1 : (wA2).cell? ⟨w.heap.size + 1, 1, none⟩ = some (.int .u16 (td4 : Int)) := Y3.cell 1 _ rfl
      have d2 : (wA2).cell? ⟨w.heap.size + 1, 2, none⟩ = some (.int .u32 (tq4 : Int)) := Y3.cell 2 _ rfl
      have d3 : (wA2).cell? ⟨w.heap.size + 1, 3, none⟩ = some (.int .u32 (ta4 : Int)) := Y3.cell 3 _ rfl
      have d4 : (wA2).cell? ⟨w.heap.size + 1, 4, none⟩ = some (.int .u8 (tf4 : Int)) := Y3.cell 4 _ rfl
      have d5 : (wA2).cell? ⟨w.heap.size + 1, 5, none⟩ = some (.int .u16 (tw4 : Int)) := Y3.cell 5 _ rfl
      have d6 : (wA2).cell? ⟨w.heap.size + 1, 6, none⟩ = some (.int .u16 (tu4 : Int)) := Y3.cell 6 _ rfl
      have d7 : (wA2).cell? ⟨w.heap.size + 1, 7, none⟩ = some (.string to4) := Y3.cell 7 _ rfl
      have Y4 := Lib.hid Y3
      clear Y3
      go_wp2_with fail
      clear d0 d1 d2 d3 d4 d5 d6 d7
      refine (H2.out _).mono ?_
      rintro e wB2 ⟨rfl, hb⟩
      have X4 := X3.out.more hb
      have Y5 := Y4.out.more hb
      have B4 := Lib.hid (st_call B3.out hb)
      clear hb
      go_wp2_with fail
      refine (alive_any _).mono ?_
      rintro e wC ⟨rfl, hb3⟩
      have B5 := Lib.hid (st_call B4.out hb3)
      clear hb3
      go_wp2_with fail
      go_ret
      exact ⟨rfl, B5.out⟩
    have m4' : to4.size ≤ 40 := m4.most
    rw [encV6_ok m4 (show 20 + to4.size + 4 ≤ _ by omega)] at C2
    have HST := Lib.hid (show ofB (seg a0 a1 (⟨ts3, td3, tq3, ta3, tf3, tw3, tu3, to3⟩ : Th) (bz ⟨#[100, 97, 116, 97]⟩)) = ofB (seg a0 a1 (⟨ts4, td4, tq4, ta4, tf4, tw4, tu4, to4⟩ : Th) (bz ⟨#[100, 97, 116, 97]⟩)) → _ from same_seg k3 k4 m3 m4)
    obtain ⟨S3, hS3⟩ : ∃ S3, ofB (seg a0 a1 (⟨ts3, td3, tq3, ta3, tf3, tw3, tu3, to3⟩ : Th) (bz ⟨#[100, 97, 116, 97]⟩)) = S3 := ⟨_, rfl⟩
    obtain ⟨S4, hS4⟩ : ∃ S4, ofB (seg a0 a1 (⟨ts4, td4, tq4, ta4, tf4, tw4, tu4, to4⟩ : Th) (bz ⟨#[100, 97, 116, 97]⟩)) = S4 := ⟨_, rfl⟩
    rw [hS3] at C1 HST
    rw [hS4] at C2 HST
    have HH1 := Lib.hid hS3
    have HH2 := Lib.hid hS4
    clear hS3 hS4 m3 m4
    have H1 : Hid (∀ W, Calls Try.prog 8 #[.int .u32 (a0 : Int), .int .u32 (a1 : Int), .agg #[.int .u16 (ts3 : Int), .int .u16 (td3 : Int), .int .u32 (tq3 : Int), .int .u32 (ta3 : Int), .int .u8 (tf3 : Int), .int .u16 (tw3 : Int), .int .u16 (tu3 : Int), .string to3], .string ⟨#[100, 97, 116, 97]⟩] W fun e w' => e = .returned (.tuple #[.string S3, .int .i64 0]) ∧ Below W.heap.size W w') := Lib.hid C1
    have H2 : Hid (∀ W, Calls Try.prog 8 #[.int .u32 (a0 : Int), .int .u32 (a1 : Int), .agg #[.int .u16 (ts4 : Int), .int .u16 (td4 : Int), .int .u32 (tq4 : Int), .int .u32 (ta4 : Int), .int .u8 (tf4 : Int), .int .u16 (tw4 : Int), .int .u16 (tu4 : Int), .string to4], .string ⟨#[100, 97, 116, 97]⟩] W fun e w' => e = .returned (.tuple #[.string S4, .int .i64 0]) ∧ Below W.heap.size W w') := Lib.hid C2
    clear C1 C2
    have X3 := X2.out
    have c0 : (wc).cell? ⟨w.heap.size, 0, none⟩ = some (.int .u16 (ts3 : Int)) := X3.cell 0 _ rfl
    have c1 : (wc).cell? ⟨w.heap.size, 1, none⟩ = some (.int .u16 (td3 : Int)) := X3.cell 1 _ rfl
    have c2 : (wc).cell? ⟨w.heap.size, 2, none⟩ = some (.int .u32 (tq3 : Int)) := X3.cell 2 _ rfl
    have c3 : (wc).cell? ⟨w.heap.size, 3, none⟩ = some (.int .u32 (ta3 : Int)) := X3.cell 3 _ rfl
    have c4 : (wc).cell? ⟨w.heap.size, 4, none⟩ = some (.int .u8 (tf3 : Int)) := X3.cell 4 _ rfl
    have c5 : (wc).cell? ⟨w.heap.size, 5, none⟩ = some (.int .u16 (tw3 : Int)) := X3.cell 5 _ rfl
    have c6 : (wc).cell? ⟨w.heap.size, 6, none⟩ = some (.int .u16 (tu3 : Int)) := X3.cell 6 _ rfl
    have c7 : (wc).cell? ⟨w.heap.size, 7, none⟩ = some (.string to3) := X3.cell 7 _ rfl
    clear X3
    go_wp2_with fail
    clear c0 c1 c2 c3 c4 c5 c6 c7
    refine (H1.out _).mono ?_
    rintro e wA2 ⟨rfl, hb⟩
    have X3 := Lib.hid (X2.out.more hb)
    have Y3 := Y2.out.more hb
    have B3 := Lib.hid (st_call B2.out hb)
    clear hb
    have d0 : (wA2).cell? ⟨w.heap.size + 1, 0, none⟩ = some (.int .u16 (ts4 : Int)) := Y3.cell 0 _ rfl
    have d1 : (wA2).cell? ⟨w.heap.size + 1, 1, none⟩ = some (.int .u16 (td4 : Int)) := Y3.cell 1 _ rfl
    have d2 : (wA2).cell? ⟨w.heap.size + 1, 2, none⟩ = some (.int .u32 (tq4 : Int)) := Y3.cell 2 _ rfl
    have d3 : (wA2).cell? ⟨w.heap.size + 1, 3, none⟩ = some (.int .u32 (ta4 : Int)) := Y3.cell 3 _ rfl
    have d4 : (wA2).cell? ⟨w.heap.size + 1, 4, none⟩ = some (.int .u8 (tf4 : Int)) := Y3.cell 4 _ rfl
    have d5 : (wA2).cell? ⟨w.heap.size + 1, 5, none⟩ = some (.int .u16 (tw4 : Int)) := Y3.cell 5 _ rfl
    have d6 : (wA2).cell? ⟨w.heap.size + 1, 6, none⟩ = some (.int .u16 (tu4 : Int)) := Y3.cell 6 _ rfl
    have d7 : (wA2).cell? ⟨w.heap.size + 1, 7, none⟩ = some (.string to4) := Y3.cell 7 _ rfl
    have Y4 := Lib.hid Y3
    clear Y3
    go_wp2_with fail
    clear d0 d1 d2 d3 d4 d5 d6 d7
    refine (H2.out _).mono ?_
    rintro e wB2 ⟨rfl, hb⟩
    have X4 := X3.out.more hb
    have Y5 := Y4.out.more hb
    have B4 := Lib.hid (st_call B3.out hb)
    clear hb
    have c0 : (wB2).cell? ⟨w.heap.size, 0, none⟩ = some (.int .u16 (ts3 : Int)) := X4.cell 0 _ rfl
    have c1 : (wB2).cell? ⟨w.heap.size, 1, none⟩ = some (.int .u16 (td3 : Int)) := X4.cell 1 _ rfl
    have c2 : (wB2).cell? ⟨w.heap.size, 2, none⟩ = some (.int .u32 (tq3 : Int)) := X4.cell 2 _ rfl
    have c3 : (wB2).cell? ⟨w.heap.size, 3, none⟩ = some (.int .u32 (ta3 : Int)) := X4.cell 3 _ rfl
    have c4 : (wB2).cell? ⟨w.heap.size, 4, none⟩ = some (.int .u8 (tf3 : Int)) := X4.cell 4 _ rfl
    have c5 : (wB2).cell? ⟨w.heap.size, 5, none⟩ = some (.int .u16 (tw3 : Int)) := X4.cell 5 _ rfl
    have c6 : (wB2).cell? ⟨w.heap.size, 6, none⟩ = some (.int .u16 (tu3 : Int)) := X4.cell 6 _ rfl
    have c7 : (wB2).cell? ⟨w.heap.size, 7, none⟩ = some (.string to3) := X4.cell 7 _ rfl
    have d0 : (wB2).cell? ⟨w.heap.size + 1, 0, none⟩ = some (.int .u16 (ts4 : Int)) := Y5.cell 0 _ rfl
    have d1 : (wB2).cell? ⟨w.heap.size + 1, 1, none⟩ = some (.int .u16 (td4 : Int)) := Y5.cell 1 _ rfl
    have d2 : (wB2).cell? ⟨w.heap.size + 1, 2, none⟩ = some (.int .u32 (tq4 : Int)) := Y5.cell 2 _ rfl
    have d3 : (wB2).cell? ⟨w.heap.size + 1, 3, none⟩ = some (.int .u32 (ta4 : Int)) := Y5.cell 3 _ rfl
    have d4 : (wB2).cell? ⟨w.heap.size + 1, 4, none⟩ = some (.int .u8 (tf4 : Int)) := Y5.cell 4 _ rfl
    have d5 : (wB2).cell? ⟨w.heap.size + 1, 5, none⟩ = some (.int .u16 (tw4 : Int)) := Y5.cell 5 _ rfl
    have d6 : (wB2).cell? ⟨w.heap.size + 1, 6, none⟩ = some (.int .u16 (tu4 : Int)) := Y5.cell 6 _ rfl
    have d7 : (wB2).cell? ⟨w.heap.size + 1, 7, none⟩ = some (.string to4) := Y5.cell 7 _ rfl
    clear X4 Y5
    go_wp2_with fail
    all_goals first
      | (refine (alive_any _).mono ?_
         rintro e wC ⟨rfl, hb3⟩
         have B5 := Lib.hid (st_call B4.out hb3)
         clear hb3
         go_wp2_with fail
         go_ret
         first
           | exact ⟨rfl, B5.out⟩
           | (have hn : ¬ S3.toList = S4.toList := by assumption
              refine ⟨?_, B5.out⟩
              simp [hn]))
      | (exfalso
         have hST := ba_ext (show S3.toList = S4.toList by assumption)
         obtain ⟨h1, _⟩ := HST.out hST
         injection h1 with q1 q2 q3 q4 q5 q6 q7 q8
         first | omega | exact absurd (congrArg ByteArray.toList q8) (by assumption))
      | (exfalso
         have hne : ¬ S3.toList = S4.toList := by assumption
         have e2 := ba_ext (show to3.toList = to4.toList by assumption)
         obtain rfl : ts3 = ts4 := by omega
         obtain rfl : td3 = td4 := by omega
         obtain rfl : tq3 = tq4 := by omega
         obtain rfl : ta3 = ta4 := by omega
         obtain rfl : tf3 = tf4 := by omega
         obtain rfl : tw3 = tw4 := by omega
         obtain rfl : tu3 = tu4 := by omega
         apply hne
         rw [← HH1.out, ← HH2.out, e2])

/-! The row's step, after the guide's own way. -/
set_option maxRecDepth 100000 in
theorem lifted (os : Os) (started : os.Started) (H : Type) (enc : TypeId × Value → H) :
    ReturnsInHanded {} Try.checked os 6 .any (Rows.tcpMovesSpec.pre6 enc Try.prog Try.f6 Rows.tcpMovesRow.domain false) (Rows.tcpMovesSpec.post enc Try.prog Try.f6 false true false false) := by
  refine returnsInHanded_of_change (C := Try.checked) own started (by kernel_rfl) Try.func6
    (ChangeSpec.witness6 (enc := enc) (C := Try.checked) false ⟨#[], #[.int .u32 0, .int .u32 0, .string ByteArray.empty, .agg #[.int .u16 0, .int .u16 0, .int .u32 0, .int .u32 0, .int .u8 0, .int .u16 0, .int .u16 0, .string ByteArray.empty], .agg #[.int .u16 0, .int .u16 0, .int .u32 0, .int .u32 0, .int .u8 0, .int .u16 0, .int .u16 0, .string ByteArray.empty]], []⟩ 8 (by kernel_rfl) (by kernel_rfl) (by kernel_rfl) (by kernel_rfl)) ?_
  intro W base args ds gs before hval0 hW hcnd _
  have hval : ∀ (j : Nat) t v, Try.f6.params[j]? = some t → args[j]? = some v → Value.okWide Try.prog W .any base t v := hval0
  have hW' := hW
  obtain ⟨p, q, hA0, hV, rfl, hfz, hnd⟩ := hW
  have hA : DataW.TrodAll enc Try.prog W 0 (fun _ => true) true Try.f6.params.toList args.toList ds p := hA0
  rw [Try.params6] at hA hval
  obtain ⟨v0, vs0, d0, ds0, p0, q0, hargs, rfl, rfl, h0, r0⟩ := trodAll_cons hA
  obtain ⟨v1, vs1, d1, ds1, p1, q1, rfl, rfl, rfl, h1, r1⟩ := trodAll_cons r0
  obtain ⟨v2, vs2, d2, ds2, p2, q2, rfl, rfl, rfl, h2, r2⟩ := trodAll_cons r1
  obtain ⟨v3, vs3, d3, ds3, p3, q3, rfl, rfl, rfl, h3, r3⟩ := trodAll_cons r2
  obtain ⟨v4, vs4, d4, ds4, p4, q4, rfl, rfl, rfl, h4, r4⟩ := trodAll_cons r3
  obtain ⟨rfl, rfl, rfl⟩ := trodAll_nil r4
  obtain rfl : args = #[v0, v1, v2, v3, v4] := by cases args; simp_all
  obtain ⟨rfl, rfl⟩ := trodVars_none hV
  have k0 := h0
  have lt0 : ∀ x ∈ p0, x.block < W.heap.size := by obtain ⟨m, hm⟩ := k0; exact DataW.trod_lt m _ _ _ hm
  obtain ⟨a0, rfl, _, _, w0⟩ := open_int Try.underlying22 (hval 0 22 v0 rfl rfl) h0
  have k1 := h1
  have lt1 : ∀ x ∈ p1, x.block < W.heap.size := by obtain ⟨m, hm⟩ := k1; exact DataW.trod_lt m _ _ _ hm
  obtain ⟨a1, rfl, _, _, w1⟩ := open_int Try.underlying22 (hval 1 22 v1 rfl rfl) h1
  have k2 := h2
  have lt2 : ∀ x ∈ p2, x.block < W.heap.size := by obtain ⟨m, hm⟩ := k2; exact DataW.trod_lt m _ _ _ hm
  obtain ⟨a2, rfl, _, _, w2⟩ := open_string Try.underlying9 (hval 2 9 v2 rfl rfl) h2
  have k3 := h3
  have lt3 : ∀ x ∈ p3, x.block < W.heap.size := by obtain ⟨m, hm⟩ := k3; exact DataW.trod_lt m _ _ _ hm
  obtain ⟨ts3, td3, tq3, ta3, tf3, tw3, tu3, to3, rfl, g3⟩ := TcpOpen.open_tcp (hval 3 25 v3 rfl rfl) h3
  have k4 := h4
  have lt4 : ∀ x ∈ p4, x.block < W.heap.size := by obtain ⟨m, hm⟩ := k4; exact DataW.trod_lt m _ _ _ hm
  obtain ⟨ts4, td4, tq4, ta4, tf4, tw4, tu4, to4, rfl, g4⟩ := TcpOpen.open_tcp (hval 4 25 v4 rfl rfl) h4
  clear hA0 hval0
  refine (walk a0 a1 a2 ts3 td3 tq3 ta3 tf3 tw3 tu3 to3 ts4 td4 tq4 ta4 tf4 tw4 tu4 to4 W w0 w1 w2 g3 g4).mono fun e W' ⟨he, bel⟩ => ?_
  subst he
  exact ⟨_, rfl, _, _, _, [], _, [], hW', trodAll_mk1 (shut_bool Try.underlying4 _), (trodAll_cons_mk (Below.trod laidOut (by kernel_rfl) (of_decide_eq_true (by kernel_rfl)) k0 bel lt0) (trodAll_cons_mk (Below.trod laidOut (by kernel_rfl) (of_decide_eq_true (by kernel_rfl)) k1 bel lt1) (trodAll_cons_mk (Below.trod laidOut (by kernel_rfl) (of_decide_eq_true (by kernel_rfl)) k2 bel lt2) (trodAll_cons_mk (Below.trod laidOut (by kernel_rfl) (of_decide_eq_true (by kernel_rfl)) k3 bel lt3) (trodAll_cons_mk (Below.trod laidOut (by kernel_rfl) (of_decide_eq_true (by kernel_rfl)) k4 bel lt4) trodAll_mk0))))), rfl, bel.frame _, fun h => by cases h⟩

theorem over : Rows.tcpMovesRow.holds Try.pinned (OpenSpec.ofChange Rows.tcpMovesSpec) :=
  OpenClaim.holds_of_wide 6 Try.f6 rfl rfl rfl rfl rfl rfl rfl ⟨rfl, rfl, rfl, rfl, rfl⟩ rfl rfl rfl rfl rfl (by kernel_rfl) Try.func6 (by kernel_rfl)
    (of_decide_eq_true (by kernel_rfl)) (by unfold Func.isWrapper; first | (rw [if_pos (by decide +kernel)]; kernel_rfl) | (rw [if_neg (by decide +kernel)]; exact ⟨rfl, rfl⟩))
    (fun os started H enc _ => lifted os started H enc)

/-- The statement. -/
theorem proved : Rows.TcpMovesSaid := over
#print axioms proved
end Go.Proofs.Ytkilkjjmanedcaa.tcpMoves
