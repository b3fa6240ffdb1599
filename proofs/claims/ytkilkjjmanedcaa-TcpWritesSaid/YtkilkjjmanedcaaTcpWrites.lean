/-
  Proved: the statement 'Rows.TcpWritesSaid': for every input the Go function transomlaw06.TcpWrites returns true, and each argument reads behind the call as it read before. Conditions: none of our own; those of the given row.
-/
import Derived.Test.YtkilkjjmanedcaaRows
import Derived.Test.YtkilkjjmanedcaaTcpOpen
import Derived.Test.YtkilkjjmanedcaaTcpAlive
import Derived.WalkKit
import Derived.ProofKit
import Derived.OpenShut
import Derived.ShutString
import Derived.ChangeOld
import Derived.Below
namespace Go.Proofs.Ytkilkjjmanedcaa.tcpWrites
open Go.ChangeShapes Go.WideShapes Go.ChangeAt Go.RowKit
open Go.ChangeMaps (open_string shut_string)
open TupMath SumMath IpMath Litb Calm Rel IpRef TcpMath TcpRef TcpEnc TcpP TcpDec TcpD TcpAlive
set_option linter.unusedVariables false

theorem own : ownKnob Try.prog.godebug = none := by kernel_rfl
theorem laidOut : laidOutB Try.prog = true := by kernel_rfl

theorem encV6_form (src dst : Nat) (h : Th) (d : ByteArray) : ∃ (S : ByteArray) (n : Int), encV6 src dst h d = .tuple #[.string S, .int .i64 n] := by
  unfold encV6
  split
  · split
    · exact ⟨_, _, rfl⟩
    · exact ⟨_, _, rfl⟩
  · exact ⟨_, _, rfl⟩

/-! The walk: the Go text returns true, and writes nothing that was there. -/
set_option maxRecDepth 100000 in
set_option maxHeartbeats 8000000 in
theorem walk (a0 : Int) (a1 : Int) (ts2 td2 tq2 ta2 tf2 tw2 tu2 : Nat) (to2 : ByteArray) (a3 : ByteArray) (w : World) (w0 : (Lit.int .u32 a0).wf = true) (w1 : (Lit.int .u32 a1).wf = true) (g2 : ts2 ≤ 65535 ∧ td2 ≤ 65535 ∧ tq2 ≤ 4294967295 ∧ ta2 ≤ 4294967295 ∧ tf2 ≤ 255 ∧ tw2 ≤ 65535 ∧ tu2 ≤ 65535 ∧ to2.size ≤ maxLen) (w3 : a3.size ≤ maxLen) :
    Calls Try.prog 3 #[.int .u32 a0, .int .u32 a1, .agg #[.int .u16 (ts2 : Int), .int .u16 (td2 : Int), .int .u32 (tq2 : Int), .int .u32 (ta2 : Int), .int .u8 (tf2 : Int), .int .u16 (tw2 : Int), .int .u16 (tu2 : Int), .string to2], .string a3] w fun e w' => e = .returned (.bool true) ∧ Below w.heap.size w w' := by
  have ⟨b0, b0'⟩ := bounds_u32 w0
  obtain ⟨a0, rfl⟩ := Int.eq_ofNat_of_zero_le b0
  clear w0 b0
  have s0 : a0 ≤ 4294967295 := by omega
  clear b0'
  have ⟨b1, b1'⟩ := bounds_u32 w1
  obtain ⟨a1, rfl⟩ := Int.eq_ofNat_of_zero_le b1
  clear w1 b1
  have s1 : a1 ≤ 4294967295 := by omega
  clear b1'
  unfold maxLen at w3
  have k2 : (⟨ts2, td2, tq2, ta2, tf2, tw2, tu2, to2⟩ : Th).ok := ⟨g2.1, g2.2.1, g2.2.2.1, g2.2.2.2.1, g2.2.2.2.2.1, g2.2.2.2.2.2.1, g2.2.2.2.2.2.2.1⟩
  have o2 := g2.2.2.2.2.2.2.2
  unfold maxLen at o2
  clear g2
  by_cases hx : 131072 < a3.size
  · go_enter Try.func3, Try.ntmps3
    go_wp2_with fail
    refine (alive_any _).mono ?_
    rintro e w' ⟨rfl, hb⟩
    have HB := Lib.hid (st_call (st_alloc (Below.refl _ _) _) hb)
    clear hb
    go_wp2_with fail
    go_ret
    exact ⟨rfl, HB.out⟩
  by_cases hy : 1024 < to2.size
  · go_enter Try.func3, Try.ntmps3
    go_wp2_with fail
    refine (alive_any _).mono ?_
    rintro e w' ⟨rfl, hb⟩
    have HB := Lib.hid (st_call (st_alloc (Below.refl _ _) _) hb)
    clear hb
    go_wp2_with fail
    go_ret
    exact ⟨rfl, HB.out⟩
  have C1 := fun W => encP6 a0 a1 (⟨ts2, td2, tq2, ta2, tf2, tw2, tu2, to2⟩ : Th) a3 W s0 s1 k2 (by show to2.size ≤ _; omega) (by omega)
  have C2 := fun W => encR6 a0 a1 (⟨ts2, td2, tq2, ta2, tf2, tw2, tu2, to2⟩ : Th) a3 W s0 s1 k2 (by show to2.size ≤ _; omega) (by omega)
  obtain ⟨S, n, hV⟩ := encV6_form a0 a1 (⟨ts2, td2, tq2, ta2, tf2, tw2, tu2, to2⟩ : Th) a3
  rw [hV] at C1 C2
  clear hV k2
  have H1 : Hid (∀ W, Calls Try.prog 8 #[.int .u32 (a0 : Int), .int .u32 (a1 : Int), .agg #[.int .u16 (ts2 : Int), .int .u16 (td2 : Int), .int .u32 (tq2 : Int), .int .u32 (ta2 : Int), .int .u8 (tf2 : Int), .int .u16 (tw2 : Int), .int .u16 (tu2 : Int), .string to2], .string a3] W fun e w' => e = .returned (.tuple #[.string S, .int .i64 n]) ∧ Below W.heap.size W w') := Lib.hid C1
  have H2 : Hid (∀ W, Calls Try.prog 9 #[.int .u32 (a0 : Int), .int .u32 (a1 : Int), .agg #[.int .u16 (ts2 : Int), .int .u16 (td2 : Int), .int .u32 (tq2 : Int), .int .u32 (ta2 : Int), .int .u8 (tf2 : Int), .int .u16 (tw2 : Int), .int .u16 (tu2 : Int), .string to2], .string a3] W fun e w' => e = .returned (.tuple #[.string S, .int .i64 n]) ∧ Below W.heap.size W w') := Lib.hid C2
  clear C1 C2
  have X0 := Lib.hid (Box.new w #[.int .u16 (ts2 : Int), .int .u16 (td2 : Int), .int .u32 (tq2 : Int), .int .u32 (ta2 : Int), .int .u8 (tf2 : Int), .int .u16 (tw2 : Int), .int .u16 (tu2 : Int), .string to2])
  have B0 := Lib.hid (st_alloc (Below.refl _ w) (.cells #[.int .u16 (ts2 : Int), .int .u16 (td2 : Int), .int .u32 (tq2 : Int), .int .u32 (ta2 : Int), .int .u8 (tf2 : Int), .int .u16 (tw2 : Int), .int .u16 (tu2 : Int), .string to2] 25))
  go_enter Try.func3, Try.ntmps3
  go_wp2_with fail
  refine (H1.out _).mono ?_
  rintro e wA ⟨rfl, hb⟩
  have X1 := X0.out.more hb
  have B1 := Lib.hid (st_call B0.out hb)
  clear hb
  have c0 : (wA).cell? ⟨w.heap.size, 0, none⟩ = some (.int .u16 (ts2 : Int)) := X1.cell 0 _ rfl
  have c1 : (wA).cell? ⟨w.heap.size, 1, none⟩ = some (.int .u16 (td2 : Int)) := X1.cell 1 _ rfl
  have c2 : (wA).cell? ⟨w.heap.size, 2, none⟩ = some (.int .u32 (tq2 : Int)) := X1.cell 2 _ rfl
  have c3 : (wA).cell? ⟨w.heap.size, 3, none⟩ = some (.int .u32 (ta2 : Int)) := X1.cell 3 _ rfl
  have c4 : (wA).cell? ⟨w.heap.size, 4, none⟩ = some (.int .u8 (tf2 : Int)) := X1.cell 4 _ rfl
  have c5 : (wA).cell? ⟨w.heap.size, 5, none⟩ = some (.int .u16 (tw2 : Int)) := X1.cell 5 _ rfl
  have c6 : (wA).cell? ⟨w.heap.size, 6, none⟩ = some (.int .u16 (tu2 : Int)) := X1.cell 6 _ rfl
  have c7 : (wA).cell? ⟨w.heap.size, 7, none⟩ = some (.string to2) := X1.cell 7 _ rfl
  clear X1
  go_wp2_with fail
  clear c0 c1 c2 c3 c4 c5 c6 c7
  refine (H2.out _).mono ?_
  rintro e wB ⟨rfl, hb⟩
  have B2 := Lib.hid (st_call B1.out hb)
  clear hb
  go_wp2_with fail
  refine (alive_any _).mono ?_
  rintro e wC ⟨rfl, hb3⟩
  have B3 := Lib.hid (st_call B2.out hb3)
  clear hb3
  go_wp2_with fail
  go_ret
  exact ⟨rfl, B3.out⟩

/-! The row's step, after the guide's own way. -/
set_option maxRecDepth 100000 in
theorem lifted (os : Os) (started : os.Started) (H : Type) (enc : TypeId × Value → H) :
    ReturnsInHanded {} Try.checked os 3 .any (Rows.tcpWritesSpec.pre6 enc Try.prog Try.f3 Rows.tcpWritesRow.domain false) (Rows.tcpWritesSpec.post enc Try.prog Try.f3 false true false false) := by
  refine returnsInHanded_of_change (C := Try.checked) own started (by kernel_rfl) Try.func3
    (ChangeSpec.witness6 (enc := enc) (C := Try.checked) false ⟨#[], #[.int .u32 0, .int .u32 0, .agg #[.int .u16 0, .int .u16 0, .int .u32 0, .int .u32 0, .int .u8 0, .int .u16 0, .int .u16 0, .string ByteArray.empty], .string ByteArray.empty], []⟩ 8 (by kernel_rfl) (by kernel_rfl) (by kernel_rfl) (by kernel_rfl)) ?_
  intro W base args ds gs before hval0 hW hcnd _
  have hval : ∀ (j : Nat) t v, Try.f3.params[j]? = some t → args[j]? = some v → Value.okWide Try.prog W .any base t v := hval0
  have hW' := hW
  obtain ⟨p, q, hA0, hV, rfl, hfz, hnd⟩ := hW
  have hA : DataW.TrodAll enc Try.prog W 0 (fun _ => true) true Try.f3.params.toList args.toList ds p := hA0
  rw [Try.params3] at hA hval
  obtain ⟨v0, vs0, d0, ds0, p0, q0, hargs, rfl, rfl, h0, r0⟩ := trodAll_cons hA
  obtain ⟨v1, vs1, d1, ds1, p1, q1, rfl, rfl, rfl, h1, r1⟩ := trodAll_cons r0
  obtain ⟨v2, vs2, d2, ds2, p2, q2, rfl, rfl, rfl, h2, r2⟩ := trodAll_cons r1
  obtain ⟨v3, vs3, d3, ds3, p3, q3, rfl, rfl, rfl, h3, r3⟩ := trodAll_cons r2
  obtain ⟨rfl, rfl, rfl⟩ := trodAll_nil r3
  obtain rfl : args = #[v0, v1, v2, v3] := by cases args; simp_all
  obtain ⟨rfl, rfl⟩ := trodVars_none hV
  have k0 := h0
  have lt0 : ∀ x ∈ p0, x.block < W.heap.size := by obtain ⟨m, hm⟩ := k0; exact DataW.trod_lt m _ _ _ hm
  obtain ⟨a0, rfl, _, _, w0⟩ := open_int Try.underlying22 (hval 0 22 v0 rfl rfl) h0
  have k1 := h1
  have lt1 : ∀ x ∈ p1, x.block < W.heap.size := by obtain ⟨m, hm⟩ := k1; exact DataW.trod_lt m _ _ _ hm
  obtain ⟨a1, rfl, _, _, w1⟩ := open_int Try.underlying22 (hval 1 22 v1 rfl rfl) h1
  have k2 := h2
  have lt2 : ∀ x ∈ p2, x.block < W.heap.size := by obtain ⟨m, hm⟩ := k2; exact DataW.trod_lt m _ _ _ hm
  obtain ⟨ts2, td2, tq2, ta2, tf2, tw2, tu2, to2, rfl, g2⟩ := TcpOpen.open_tcp (hval 2 25 v2 rfl rfl) h2
  have k3 := h3
  have lt3 : ∀ x ∈ p3, x.block < W.heap.size := by obtain ⟨m, hm⟩ := k3; exact DataW.trod_lt m _ _ _ hm
  obtain ⟨a3, rfl, _, _, w3⟩ := open_string Try.underlying9 (hval 3 9 v3 rfl rfl) h3
  clear hA0 hval0
  refine (walk a0 a1 ts2 td2 tq2 ta2 tf2 tw2 tu2 to2 a3 W w0 w1 g2 w3).mono fun e W' ⟨he, bel⟩ => ?_
  subst he
  exact ⟨_, rfl, _, _, _, [], _, [], hW', trodAll_mk1 (shut_bool Try.underlying4 _), (trodAll_cons_mk (Below.trod laidOut (by kernel_rfl) (of_decide_eq_true (by kernel_rfl)) k0 bel lt0) (trodAll_cons_mk (Below.trod laidOut (by kernel_rfl) (of_decide_eq_true (by kernel_rfl)) k1 bel lt1) (trodAll_cons_mk (Below.trod laidOut (by kernel_rfl) (of_decide_eq_true (by kernel_rfl)) k2 bel lt2) (trodAll_cons_mk (Below.trod laidOut (by kernel_rfl) (of_decide_eq_true (by kernel_rfl)) k3 bel lt3) trodAll_mk0)))), rfl, bel.frame _, fun h => by cases h⟩

theorem over : Rows.tcpWritesRow.holds Try.pinned (OpenSpec.ofChange Rows.tcpWritesSpec) :=
  OpenClaim.holds_of_wide 3 Try.f3 rfl rfl rfl rfl rfl rfl rfl ⟨rfl, rfl, rfl, rfl, rfl⟩ rfl rfl rfl rfl rfl (by kernel_rfl) Try.func3 (by kernel_rfl)
    (of_decide_eq_true (by kernel_rfl)) (by unfold Func.isWrapper; first | (rw [if_pos (by decide +kernel)]; kernel_rfl) | (rw [if_neg (by decide +kernel)]; exact ⟨rfl, rfl⟩))
    (fun os started H enc _ => lifted os started H enc)

/-- The statement. -/
theorem proved : Rows.TcpWritesSaid := over
#print axioms proved
end Go.Proofs.Ytkilkjjmanedcaa.tcpWrites
