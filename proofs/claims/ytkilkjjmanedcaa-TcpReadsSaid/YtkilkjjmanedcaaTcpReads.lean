/-
  Proved: the statement 'Rows.TcpReadsSaid': for every input the Go function transomlaw06.TcpReads returns true, and each argument reads behind the call as it read before. Conditions: none of our own; those of the given row.
-/
import Derived.Test.YtkilkjjmanedcaaRows
import Derived.Test.YtkilkjjmanedcaaTcpOpen
import Derived.Test.YtkilkjjmanedcaaTcpAlive
import Derived.WalkKit
import Derived.ProofKit
import Derived.OpenShut
import Derived.ShutString
import Derived.ChangeOld
import Derived.Below
namespace Go.Proofs.Ytkilkjjmanedcaa.tcpReads
open Go.ChangeShapes Go.WideShapes Go.ChangeAt Go.RowKit
open Go.ChangeMaps (open_string shut_string)
open TupMath SumMath IpMath Litb Calm Rel IpRef TcpMath TcpRef TcpEnc TcpP TcpDec TcpD TcpAlive
set_option linter.unusedVariables false

theorem own : ownKnob Try.prog.godebug = none := by kernel_rfl
theorem laidOut : laidOutB Try.prog = true := by kernel_rfl

theorem decV6_form (src dst : Nat) (s : ByteArray) : ∃ (h : Th) (S : ByteArray) (n : Int), decV6 src dst s = .tuple #[tv h, .string S, .int .i64 n] := by
  unfold decV6
  split
  · exact ⟨_, _, _, rfl⟩
  · exact ⟨_, _, _, rfl⟩

/-! The walk: the Go text returns true, and writes nothing that was there. -/
set_option maxRecDepth 100000 in
set_option maxHeartbeats 8000000 in
theorem walk (a0 : Int) (a1 : Int) (a2 : ByteArray) (w : World) (w0 : (Lit.int .u32 a0).wf = true) (w1 : (Lit.int .u32 a1).wf = true) (w2 : a2.size ≤ maxLen) :
    Calls Try.prog 4 #[.int .u32 a0, .int .u32 a1, .string a2] w fun e w' => e = .returned (.bool true) ∧ Below w.heap.size w w' := by
  have ⟨b0, b0'⟩ := bounds_u32 w0
  obtain ⟨a0, rfl⟩ := Int.eq_ofNat_of_zero_le b0
  clear w0 b0
  have s0 : a0 ≤ 4294967295 := by omega
  clear b0'
  have ⟨b1, b1'⟩ := bounds_u32 w1
  obtain ⟨a1, rfl⟩ := Int.eq_ofNat_of_zero_le b1
  clear w1 b1
  have s1 : a1 ≤ 4294967295 := by omega
  clear b1'
  unfold maxLen at w2
  by_cases hx : 131072 < a2.size
  · go_enter Try.func4, Try.ntmps4
    go_wp2_with fail
    refine (alive_any _).mono ?_
    rintro e w' ⟨rfl, hb⟩
    have HB := Lib.hid (st_call (Below.refl _ _) hb)
    clear hb
    go_wp2_with fail
    go_ret
    exact ⟨rfl, HB.out⟩
  have C1 := fun W => decP6 a0 a1 a2 W s0 s1 (by omega)
  have C2 := fun W => decR6 a0 a1 a2 W s0 s1 (by omega)
  obtain ⟨⟨src, dst, seq, ack, fl, win, urg, opts⟩, S, n, hV⟩ := decV6_form a0 a1 a2
  rw [hV] at C1 C2
  clear hV
  have H1 : Hid (∀ W, Calls Try.prog 10 #[.int .u32 (a0 : Int), .int .u32 (a1 : Int), .string a2] W fun e w' => e = .returned (.tuple #[.agg #[.int .u16 (src : Int), .int .u16 (dst : Int), .int .u32 (seq : Int), .int .u32 (ack : Int), .int .u8 (fl : Int), .int .u16 (win : Int), .int .u16 (urg : Int), .string opts], .string S, .int .i64 n]) ∧ Below W.heap.size W w') := Lib.hid C1
  have H2 : Hid (∀ W, Calls Try.prog 11 #[.int .u32 (a0 : Int), .int .u32 (a1 : Int), .string a2] W fun e w' => e = .returned (.tuple #[.agg #[.int .u16 (src : Int), .int .u16 (dst : Int), .int .u32 (seq : Int), .int .u32 (ack : Int), .int .u8 (fl : Int), .int .u16 (win : Int), .int .u16 (urg : Int), .string opts], .string S, .int .i64 n]) ∧ Below W.heap.size W w') := Lib.hid C2
  clear C1 C2
  go_enter Try.func4, Try.ntmps4
  go_wp2_with fail
  refine (H1.out _).mono ?_
  rintro e wA ⟨rfl, hb⟩
  have X1 := Lib.hid (Box.new wA #[.int .u16 (src : Int), .int .u16 (dst : Int), .int .u32 (seq : Int), .int .u32 (ack : Int), .int .u8 (fl : Int), .int .u16 (win : Int), .int .u16 (urg : Int), .string opts])
  have B1 := Lib.hid (st_alloc hb (.cells #[.int .u16 (src : Int), .int .u16 (dst : Int), .int .u32 (seq : Int), .int .u32 (ack : Int), .int .u8 (fl : Int), .int .u16 (win : Int), .int .u16 (urg : Int), .string opts] 25))
  clear hb
  go_wp2_with fail
  refine (H2.out _).mono ?_
  rintro e wB ⟨rfl, hb⟩
  have X2 := (X1.out.more hb).alloc (.cells #[.int .u16 (src : Int), .int .u16 (dst : Int), .int .u32 (seq : Int), .int .u32 (ack : Int), .int .u8 (fl : Int), .int .u16 (win : Int), .int .u16 (urg : Int), .string opts] 25)
  have B2 := Lib.hid (st_alloc (st_call B1.out hb) (.cells #[.int .u16 (src : Int), .int .u16 (dst : Int), .int .u32 (seq : Int), .int .u32 (ack : Int), .int .u8 (fl : Int), .int .u16 (win : Int), .int .u16 (urg : Int), .string opts] 25))
  clear hb
  have c0 : (wB.alloc (.cells #[.int .u16 (src : Int), .int .u16 (dst : Int), .int .u32 (seq : Int), .int .u32 (ack : Int), .int .u8 (fl : Int), .int .u16 (win : Int), .int .u16 (urg : Int), .string opts] 25)).cell? ⟨wA.heap.size, 0, none⟩ = some (.int .u16 (src : Int)) := X2.cell 0 _ rfl
  have c1 : (wB.alloc (.cells #[.int .u16 (src : Int), .int .u16 (dst : Int), .int .u32 (seq : Int), .int .u32 (ack : Int), .int .u8 (fl : Int), .int .u16 (win : Int), .int .u16 (urg : Int), .string opts] 25)).cell? ⟨wA.heap.size, 1, none⟩ = some (.int .u16 (dst : Int)) := X2.cell 1 _ rfl
  have c2 : (wB.alloc (.cells #[.int .u16 (src : Int), .int .u16 (dst : Int), .int .u32 (seq : Int), .int .u32 (ack : Int), .int .u8 (fl : Int), .int .u16 (win : Int), .int .u16 (urg : Int), .string opts] 25)).cell? ⟨wA.heap.size, 2, none⟩ = some (.int .u32 (seq : Int)) := X2.cell 2 _ rfl
  have c3 : (wB.alloc (.cells #[.int .u16 (src : Int), .int .u16 (dst : Int), .int .u32 (seq : Int), .int .u32 (ack : Int), .int .u8 (fl : Int), .int .u16 (win : Int), .int .u16 (urg : Int), .string opts] 25)).cell? ⟨wA.heap.size, 3, none⟩ = some (.int .u32 (ack : Int)) := X2.cell 3 _ rfl
  have c4 : (wB.alloc (.cells #[.int .u16 (src : Int), .int .u16 (dst : Int), .int .u32 (seq : Int), .int .u32 (ack : Int), .int .u8 (fl : Int), .int .u16 (win : Int), .int .u16 (urg : Int), .string opts] 25)).cell? ⟨wA.heap.size, 4, none⟩ = some (.int .u8 (fl : Int)) := X2.cell 4 _ rfl
  have c5 : (wB.alloc (.cells #[.int .u16 (src : Int), .int .u16 (dst : Int), .int .u32 (seq : Int), .int .u32 (ack : Int), .int .u8 (fl : Int), .int .u16 (win : Int), .int .u16 (urg : Int), .string opts] 25)).cell? ⟨wA.heap.size, 5, none⟩ = some (.int .u16 (win : Int)) := X2.cell 5 _ rfl
  have c6 : (wB.alloc (.cells #[.int .u16 (src : Int), .int .u16 (dst : Int), .int .u32 (seq : Int), .int .u32 (ack : Int), .int .u8 (fl : Int), .int .u16 (win : Int), .int .u16 (urg : Int), .string opts] 25)).cell? ⟨wA.heap.size, 6, none⟩ = some (.int .u16 (urg : Int)) := X2.cell 6 _ rfl
  have c7 : (wB.alloc (.cells #[.int .u16 (src : Int), .int .u16 (dst : Int), .int .u32 (seq : Int), .int .u32 (ack : Int), .int .u8 (fl : Int), .int .u16 (win : Int), .int .u16 (urg : Int), .string opts] 25)).cell? ⟨wA.heap.size, 7, none⟩ = some (.string opts) := X2.cell 7 _ rfl
  clear X2
  go_wp2_with fail
  refine (alive_any _).mono ?_
  rintro e wC ⟨rfl, hb3⟩
  have B3 := Lib.hid (st_call B2.out hb3)
  clear hb3
  go_wp2_with fail
  go_ret
  exact ⟨rfl, B3.out⟩

/-! The row's step, after the guide's own way. -/
set_option maxRecDepth 100000 in
theorem lifted (os : Os) (started : os.Started) (H : Type) (enc : TypeId × Value → H) :
    ReturnsInHanded {} Try.checked os 4 .any (Rows.tcpReadsSpec.pre6 enc Try.prog Try.f4 Rows.tcpReadsRow.domain false) (Rows.tcpReadsSpec.post enc Try.prog Try.f4 false true false false) := by
  refine returnsInHanded_of_change (C := Try.checked) own started (by kernel_rfl) Try.func4
    (ChangeSpec.witness6 (enc := enc) (C := Try.checked) false ⟨#[], #[.int .u32 0, .int .u32 0, .string ByteArray.empty], []⟩ 8 (by kernel_rfl) (by kernel_rfl) (by kernel_rfl) (by kernel_rfl)) ?_
  intro W base args ds gs before hval0 hW hcnd _
  have hval : ∀ (j : Nat) t v, Try.f4.params[j]? = some t → args[j]? = some v → Value.okWide Try.prog W .any base t v := hval0
  have hW' := hW
  obtain ⟨p, q, hA0, hV, rfl, hfz, hnd⟩ := hW
  have hA : DataW.TrodAll enc Try.prog W 0 (fun _ => true) true Try.f4.params.toList args.toList ds p := hA0
  rw [Try.params4] at hA hval
  obtain ⟨v0, vs0, d0, ds0, p0, q0, hargs, rfl, rfl, h0, r0⟩ := trodAll_cons hA
  obtain ⟨v1, vs1, d1, ds1, p1, q1, rfl, rfl, rfl, h1, r1⟩ := trodAll_cons r0
  obtain ⟨v2, vs2, d2, ds2, p2, q2, rfl, rfl, rfl, h2, r2⟩ := trodAll_cons r1
  obtain ⟨rfl, rfl, rfl⟩ := trodAll_nil r2
  obtain rfl : args = #[v0, v1, v2] := by cases args; simp_all
  obtain ⟨rfl, rfl⟩ := trodVars_none hV
  have k0 := h0
  have lt0 : ∀ x ∈ p0, x.block < W.heap.size := by obtain ⟨m, hm⟩ := k0; exact DataW.trod_lt m _ _ _ hm
  obtain ⟨a0, rfl, _, _, w0⟩ := open_int Try.underlying22 (hval 0 22 v0 rfl rfl) h0
  have k1 := h1
  have lt1 : ∀ x ∈ p1, x.block < W.heap.size := by obtain ⟨m, hm⟩ := k1; exact DataW.trod_lt m _ _ _ hm
  obtain ⟨a1, rfl, _, _, w1⟩ := open_int Try.underlying22 (hval 1 22 v1 rfl rfl) h1
  have k2 := h2
  have lt2 : ∀ x ∈ p2, x.block < W.heap.size := by obtain ⟨m, hm⟩ := k2; exact DataW.trod_lt m _ _ _ hm
  obtain ⟨a2, rfl, _, _, w2⟩ := open_string Try.underlying9 (hval 2 9 v2 rfl rfl) h2
  clear hA0 hval0
  refine (walk a0 a1 a2 W w0 w1 w2).mono fun e W' ⟨he, bel⟩ => ?_
  subst he
  exact ⟨_, rfl, _, _, _, [], _, [], hW', trodAll_mk1 (shut_bool Try.underlying4 _), (trodAll_cons_mk (Below.trod laidOut (by kernel_rfl) (of_decide_eq_true (by kernel_rfl)) k0 bel lt0) (trodAll_cons_mk (Below.trod laidOut (by kernel_rfl) (of_decide_eq_true (by kernel_rfl)) k1 bel lt1) (trodAll_cons_mk (Below.trod laidOut (by kernel_rfl) (of_decide_eq_true (by kernel_rfl)) k2 bel lt2) trodAll_mk0))), rfl, bel.frame _, fun h => by cases h⟩

theorem over : Rows.tcpReadsRow.holds Try.pinned (OpenSpec.ofChange Rows.tcpReadsSpec) :=
  OpenClaim.holds_of_wide 4 Try.f4 rfl rfl rfl rfl rfl rfl rfl ⟨rfl, rfl, rfl, rfl, rfl⟩ rfl rfl rfl rfl rfl (by kernel_rfl) Try.func4 (by kernel_rfl)
    (of_decide_eq_true (by kernel_rfl)) (by unfold Func.isWrapper; first | (rw [if_pos (by decide +kernel)]; kernel_rfl) | (rw [if_neg (by decide +kernel)]; exact ⟨rfl, rfl⟩))
    (fun os started H enc _ => lifted os started H enc)

/-- The statement. -/
theorem proved : Rows.TcpReadsSaid := over
#print axioms proved
end Go.Proofs.Ytkilkjjmanedcaa.tcpReads
