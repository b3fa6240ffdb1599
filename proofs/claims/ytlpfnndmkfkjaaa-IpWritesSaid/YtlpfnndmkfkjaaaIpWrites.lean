/-
  Proved: the statement 'Rows.IpWritesSaid': for every input the Go function transomlaw05.IpWrites returns true, and each argument reads behind the call as it read before. Conditions: none of our own; those of the given row.
-/
import Derived.Test.YtlpfnndmkfkjaaaRows
import Derived.Test.YtlpfnndmkfkjaaaIpOpen
import Derived.Test.YtlpfnndmkfkjaaaIpAlive
import Derived.WalkKit
import Derived.ProofKit
import Derived.OpenShut
import Derived.ShutString
import Derived.ChangeOld
import Derived.Below
namespace Go.Proofs.Ytlpfnndmkfkjaaa.ipWrites
open Go.ChangeShapes Go.WideShapes Go.ChangeAt Go.RowKit
open Go.ChangeMaps (open_string shut_string)
open TupMath SumMath IpMath Litb Calm Rel IpRef IpHead IpEnc IpDec IpP IpD IpDD IpAlive
set_option linter.unusedVariables false

theorem own : ownKnob Try.prog.godebug = none := by kernel_rfl
theorem laidOut : laidOutB Try.prog = true := by kernel_rfl

theorem encV_form (h : Hd) (l : ByteArray) : ∃ (S : ByteArray) (n : Int), encV h l = .tuple #[.string S, .int .i64 n] := by
  unfold encV
  split
  · exact ⟨_, _, rfl⟩
  · exact ⟨_, _, rfl⟩

/-! The walk: the Go text returns true, and writes nothing that was there. -/
set_option maxRecDepth 100000 in
set_option maxHeartbeats 8000000 in
theorem walk (sr0 ds0 pr0 tt0 to0 id0 : Nat) (df0 : Bool) (a1 : ByteArray) (w : World) (g0 : sr0 ≤ 4294967295 ∧ ds0 ≤ 4294967295 ∧ pr0 ≤ 255 ∧ tt0 ≤ 255 ∧ to0 ≤ 255 ∧ id0 ≤ 65535) (w1 : a1.size ≤ maxLen) :
    Calls Try.prog 3 #[.agg #[.int .u32 (sr0 : Int), .int .u32 (ds0 : Int), .int .u8 (pr0 : Int), .int .u8 (tt0 : Int), .int .u8 (to0 : Int), .int .u16 (id0 : Int), .bool df0], .string a1] w fun e w' => e = .returned (.bool true) ∧ Below w.heap.size w w' := by
  unfold maxLen at w1
  have k0 : (⟨sr0, ds0, pr0, tt0, to0, id0, df0⟩ : Hd).ok := ⟨g0.1, g0.2.1, g0.2.2.1, g0.2.2.2.1, g0.2.2.2.2.1, g0.2.2.2.2.2⟩
  clear g0
  by_cases hx : 131072 < a1.size
  · go_enter Try.func3, Try.ntmps3
    go_wp2_with fail
    refine (alive_any _).mono ?_
    rintro e w' ⟨rfl, hb⟩
    have HB := Lib.hid (st_call (st_alloc (Below.refl _ _) _) hb)
    clear hb
    go_wp2_with fail
    go_ret
    exact ⟨rfl, HB.out⟩
  · have C1 := fun W => encP ⟨sr0, ds0, pr0, tt0, to0, id0, df0⟩ a1 W k0 (by omega)
    have C2 := fun W => encR ⟨sr0, ds0, pr0, tt0, to0, id0, df0⟩ a1 W k0 (by omega)
    obtain ⟨S, n, hV⟩ := encV_form ⟨sr0, ds0, pr0, tt0, to0, id0, df0⟩ a1
    rw [hV] at C1 C2
    clear hV k0
    have H1 : Hid (∀ W, Calls Try.prog 8 #[.agg #[.int .u32 (sr0 : Int), .int .u32 (ds0 : Int), .int .u8 (pr0 : Int), .int .u8 (tt0 : Int), .int .u8 (to0 : Int), .int .u16 (id0 : Int), .bool df0], .string a1] W fun e w' => e = .returned (.tuple #[.string S, .int .i64 n]) ∧ Below W.heap.size W w') := Lib.hid C1
    have H2 : Hid (∀ W, Calls Try.prog 9 #[.agg #[.int .u32 (sr0 : Int), .int .u32 (ds0 : Int), .int .u8 (pr0 : Int), .int .u8 (tt0 : Int), .int .u8 (to0 : Int), .int .u16 (id0 : Int), .bool df0], .string a1] W fun e w' => e = .returned (.tuple #[.string S, .int .i64 n]) ∧ Below W.heap.size W w') := Lib.hid C2
    clear C1 C2
    have X0 := Lib.hid (Box.new w #[.int .u32 (sr0 : Int), .int .u32 (ds0 : Int), .int .u8 (pr0 : Int), .int .u8 (tt0 : Int), .int .u8 (to0 : Int), .int .u16 (id0 : Int), .bool df0])
    have B0 := Lib.hid (st_alloc (Below.refl _ w) (.cells #[.int .u32 (sr0 : Int), .int .u32 (ds0 : Int), .int .u8 (pr0 : Int), .int .u8 (tt0 : Int), .int .u8 (to0 : Int), .int .u16 (id0 : Int), .bool df0] 25))
    go_enter Try.func3, Try.ntmps3
    go_wp2_with fail
    refine (H1.out _).mono ?_
    rintro e wA ⟨rfl, hb1⟩
    have X1 := X0.out.more hb1
    have B1 := Lib.hid (st_call B0.out hb1)
    clear hb1
    have c0 : (wA).cell? ⟨w.heap.size, 0, none⟩ = some (.int .u32 (sr0 : Int)) := X1.cell 0 _ rfl
    have c1 : (wA).cell? ⟨w.heap.size, 1, none⟩ = some (.int .u32 (ds0 : Int)) := X1.cell 1 _ rfl
    have c2 : (wA).cell? ⟨w.heap.size, 2, none⟩ = some (.int .u8 (pr0 : Int)) := X1.cell 2 _ rfl
    have c3 : (wA).cell? ⟨w.heap.size, 3, none⟩ = some (.int .u8 (tt0 : Int)) := X1.cell 3 _ rfl
    have c4 : (wA).cell? ⟨w.heap.size, 4, none⟩ = some (.int .u8 (to0 : Int)) := X1.cell 4 _ rfl
    have c5 : (wA).cell? ⟨w.heap.size, 5, none⟩ = some (.int .u16 (id0 : Int)) := X1.cell 5 _ rfl
    have c6 : (wA).cell? ⟨w.heap.size, 6, none⟩ = some (.bool df0) := X1.cell 6 _ rfl
    clear X1
    go_wp2_with fail
    clear c0 c1 c2 c3 c4 c5 c6
    refine (H2.out _).mono ?_
    rintro e wB ⟨rfl, hb2⟩
    have B2 := Lib.hid (st_call B1.out hb2)
    clear hb2
    go_wp2_with fail
    refine (alive_any _).mono ?_
    rintro e wC ⟨rfl, hb3⟩
    have B3 := Lib.hid (st_call B2.out hb3)
    clear hb3
    go_wp2_with fail
    go_ret
    exact ⟨rfl, B3.out⟩

/-! The row's step, after the guide's own way. -/
set_option maxRecDepth 100000 in
theorem lifted (os : Os) (started : os.Started) (H : Type) (enc : TypeId × Value → H) :
    ReturnsInHanded {} Try.checked os 3 .any (Rows.ipWritesSpec.pre6 enc Try.prog Try.f3 Rows.ipWritesRow.domain false) (Rows.ipWritesSpec.post enc Try.prog Try.f3 false true false false) := by
  refine returnsInHanded_of_change (C := Try.checked) own started (by kernel_rfl) Try.func3
    (ChangeSpec.witness6 (enc := enc) (C := Try.checked) false ⟨#[], #[.agg #[.int .u32 0, .int .u32 0, .int .u8 0, .int .u8 0, .int .u8 0, .int .u16 0, .bool false], .string ByteArray.empty], []⟩ 8 (by kernel_rfl) (by kernel_rfl) (by kernel_rfl) (by kernel_rfl)) ?_
  intro W base args ds gs before hval0 hW hcnd _
  have hval : ∀ (j : Nat) t v, Try.f3.params[j]? = some t → args[j]? = some v → Value.okWide Try.prog W .any base t v := hval0
  have hW' := hW
  obtain ⟨p, q, hA0, hV, rfl, hfz, hnd⟩ := hW
  have hA : DataW.TrodAll enc Try.prog W 0 (fun _ => true) true Try.f3.params.toList args.toList ds p := hA0
  rw [Try.params3] at hA hval
  obtain ⟨v0, vs0, d0, ds0, p0, q0, hargs, rfl, rfl, h0, r0⟩ := trodAll_cons hA
  obtain ⟨v1, vs1, d1, ds1, p1, q1, rfl, rfl, rfl, h1, r1⟩ := trodAll_cons r0
  obtain ⟨rfl, rfl, rfl⟩ := trodAll_nil r1
  obtain rfl : args = #[v0, v1] := by cases args; simp_all
  obtain ⟨rfl, rfl⟩ := trodVars_none hV
  have k0 := h0
  have lt0 : ∀ x ∈ p0, x.block < W.heap.size := by obtain ⟨m, hm⟩ := k0; exact DataW.trod_lt m _ _ _ hm
  obtain ⟨sr0, ds0, pr0, tt0, to0, id0, df0, rfl, g0⟩ := IpOpen.open_ip (hval 0 25 v0 rfl rfl) h0
  have k1 := h1
  have lt1 : ∀ x ∈ p1, x.block < W.heap.size := by obtain ⟨m, hm⟩ := k1; exact DataW.trod_lt m _ _ _ hm
  obtain ⟨a1, rfl, _, _, w1⟩ := open_string Try.underlying9 (hval 1 9 v1 rfl rfl) h1
  clear hA0 hval0
  refine (walk sr0 ds0 pr0 tt0 to0 id0 df0 a1 W g0 w1).mono fun e W' ⟨he, bel⟩ => ?_
  subst he
  exact ⟨_, rfl, _, _, _, [], _, [], hW', trodAll_mk1 (shut_bool Try.underlying4 _), (trodAll_cons_mk (Below.trod laidOut (by kernel_rfl) (of_decide_eq_true (by kernel_rfl)) k0 bel lt0) (trodAll_cons_mk (Below.trod laidOut (by kernel_rfl) (of_decide_eq_true (by kernel_rfl)) k1 bel lt1) trodAll_mk0)), rfl, bel.frame _, fun h => by cases h⟩

theorem over : Rows.ipWritesRow.holds Try.pinned (OpenSpec.ofChange Rows.ipWritesSpec) :=
  OpenClaim.holds_of_wide 3 Try.f3 rfl rfl rfl rfl rfl rfl rfl ⟨rfl, rfl, rfl, rfl, rfl⟩ rfl rfl rfl rfl rfl (by kernel_rfl) Try.func3 (by kernel_rfl)
    (of_decide_eq_true (by kernel_rfl)) (by unfold Func.isWrapper; first | (rw [if_pos (by decide +kernel)]; kernel_rfl) | (rw [if_neg (by decide +kernel)]; exact ⟨rfl, rfl⟩))
    (fun os started H enc _ => lifted os started H enc)

/-- The statement. -/
theorem proved : Rows.IpWritesSaid := over
#print axioms proved
end Go.Proofs.Ytlpfnndmkfkjaaa.ipWrites
