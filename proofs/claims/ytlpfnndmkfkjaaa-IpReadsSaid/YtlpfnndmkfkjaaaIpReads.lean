/-
  Proved: the statement 'Rows.IpReadsSaid': for every input the Go function transomlaw05.IpReads returns true, and each argument reads behind the call as it read before. Conditions: none of our own; those of the given row.
-/
import Derived.Test.YtlpfnndmkfkjaaaRows
import Derived.Test.YtlpfnndmkfkjaaaIpOpen
import Derived.Test.YtlpfnndmkfkjaaaIpAlive
import Derived.WalkKit
import Derived.ProofKit
import Derived.OpenShut
import Derived.ShutString
import Derived.ChangeOld
import Derived.Below
namespace Go.Proofs.Ytlpfnndmkfkjaaa.ipReads
open Go.ChangeShapes Go.WideShapes Go.ChangeAt Go.RowKit
open Go.ChangeMaps (open_string shut_string)
open TupMath SumMath IpMath Litb Calm Rel IpRef IpHead IpEnc IpDec IpP IpD IpDD IpAlive
set_option linter.unusedVariables false

theorem own : ownKnob Try.prog.godebug = none := by kernel_rfl
theorem laidOut : laidOutB Try.prog = true := by kernel_rfl

theorem decV_form (s : ByteArray) : ∃ (h : Hd) (S : ByteArray) (n : Int), decV s = .tuple #[hv h, .string S, .int .i64 n] := by
  unfold decV
  split
  · exact ⟨_, _, _, rfl⟩
  · exact ⟨_, _, _, rfl⟩

/-! The walk: the Go text returns true, and writes nothing that was there. -/
set_option maxRecDepth 100000 in
set_option maxHeartbeats 8000000 in
theorem walk (a0 : ByteArray) (w : World) (w0 : a0.size ≤ maxLen) :
    Calls Try.prog 4 #[.string a0] w fun e w' => e = .returned (.bool true) ∧ Below w.heap.size w w' := by
  unfold maxLen at w0
  by_cases hx : 131072 < a0.size
  · go_enter Try.func4, Try.ntmps4
    go_wp2_with fail
    refine (alive_any _).mono ?_
    rintro e w' ⟨rfl, hb⟩
    have HB := Lib.hid (st_call (Below.refl _ _) hb)
    clear hb
    go_wp2_with fail
    go_ret
    exact ⟨rfl, HB.out⟩
  · have C1 := fun W => decP a0 W (by omega)
    have C2 := fun W => decR a0 W (by omega)
    obtain ⟨⟨src, dst, proto, ttl, tos, idn, df⟩, S, n, hV⟩ := decV_form a0
    rw [hV] at C1 C2
    clear hV
    have H1 : Hid (∀ W, Calls Try.prog 10 #[.string a0] W fun e w' => e = .returned (.tuple #[.agg #[.int .u32 (src : Int), .int .u32 (dst : Int), .int .u8 (proto : Int), .int .u8 (ttl : Int), .int .u8 (tos : Int), .int .u16 (idn : Int), .bool df], .string S, .int .i64 n]) ∧ Below W.heap.size W w') := Lib.hid C1
    have H2 : Hid (∀ W, Calls Try.prog 11 #[.string a0] W fun e w' => e = .returned (.tuple #[.agg #[.int .u32 (src : Int), .int .u32 (dst : Int), .int .u8 (proto : Int), .int .u8 (ttl : Int), .int .u8 (tos : Int), .int .u16 (idn : Int), .bool df], .string S, .int .i64 n]) ∧ Below W.heap.size W w') := Lib.hid C2
    clear C1 C2
    go_enter Try.func4, Try.ntmps4
    go_wp2_with fail
    refine (H1.out _).mono ?_
    rintro e wA ⟨rfl, hb1⟩
    have X1 := Lib.hid (Box.new wA #[.int .u32 (src : Int), .int .u32 (dst : Int), .int .u8 (proto : Int), .int .u8 (ttl : Int), .int .u8 (tos : Int), .int .u16 (idn : Int), .bool df])
    have B1 := Lib.hid (st_alloc hb1 (.cells #[.int .u32 (src : Int), .int .u32 (dst : Int), .int .u8 (proto : Int), .int .u8 (ttl : Int), .int .u8 (tos : Int), .int .u16 (idn : Int), .bool df] 25))
    clear hb1
    go_wp2_with fail
    refine (H2.out _).mono ?_
    rintro e wB ⟨rfl, hb2⟩
    have X2 := (X1.out.more hb2).alloc (.cells #[.int .u32 (src : Int), .int .u32 (dst : Int), .int .u8 (proto : Int), .int .u8 (ttl : Int), .int .u8 (tos : Int), .int .u16 (idn : Int), .bool df] 25)
    have Y2 := Box.new wB #[.int .u32 (src : Int), .int .u32 (dst : Int), .int .u8 (proto : Int), .int .u8 (ttl : Int), .int .u8 (tos : Int), .int .u16 (idn : Int), .bool df]
    have B2 := Lib.hid (st_alloc (st_call B1.out hb2) (.cells #[.int .u32 (src : Int), .int .u32 (dst : Int), .int .u8 (proto : Int), .int .u8 (ttl : Int), .int .u8 (tos : Int), .int .u16 (idn : Int), .bool df] 25))
    clear hb2
    have c0 : (wB.alloc (.cells #[.int .u32 (src : Int), .int .u32 (dst : Int), .int .u8 (proto : Int), .int .u8 (ttl : Int), .int .u8 (tos : Int), .int .u16 (idn : Int), .bool df] 25)).cell? ⟨wA.heap.size, 0, none⟩ = some (.int .u32 (src : Int)) := X2.cell 0 _ rfl
    have c1 : (wB.alloc (.cells #[.int .u32 (src : Int), .int .u32 (dst : Int), .int .u8 (proto : Int), .int .u8 (ttl : Int), .int .u8 (tos : Int), .int .u16 (idn : Int), .bool df] 25)).cell? ⟨wA.heap.size, 1, none⟩ = some (.int .u32 (dst : Int)) := X2.cell 1 _ rfl
    have c2 : (wB.alloc (.cells #[.int .u32 (src : Int), .int .u32 (dst : Int), .int .u8 (proto : Int), .int .u8 (ttl : Int), .int .u8 (tos : Int), .int .u16 (idn : Int), .bool df] 25)).cell? ⟨wA.heap.size, 2, none⟩ = some (.int .u8 (proto : Int)) := X2.cell 2 _ rfl
    have c3 : (wB.alloc (.cells #[.int .u32 (src : Int), .int .u32 (dst : Int), .int .u8 (proto : Int), .int .u8 (ttl : Int), .int .u8 (tos : Int), .int .u16 (idn : Int), .bool df] 25)).cell? ⟨wA.heap.size, 3, none⟩ = some (.int .u8 (ttl : Int)) := X2.cell 3 _ rfl
    have c4 : (wB.alloc (.cells #[.int .u32 (src : Int), .int .u32 (dst : Int), .int .u8 (proto : Int), .int .u8 (ttl : Int), .int .u8 (tos : Int), .int .u16 (idn : Int), .bool df] 25)).cell? ⟨wA.heap.size, 4, none⟩ = some (.int .u8 (tos : Int)) := X2.cell 4 _ rfl
    have c5 : (wB.alloc (.cells #[.int .u32 (src : Int), .int .u32 (dst : Int), .int .u8 (proto : Int), .int .u8 (ttl : Int), .int .u8 (tos : Int), .int .u16 (idn : Int), .bool df] 25)).cell? ⟨wA.heap.size, 5, none⟩ = some (.int .u16 (idn : Int)) := X2.cell 5 _ rfl
    have c6 : (wB.alloc (.cells #[.int .u32 (src : Int), .int .u32 (dst : Int), .int .u8 (proto : Int), .int .u8 (ttl : Int), .int .u8 (tos : Int), .int .u16 (idn : Int), .bool df] 25)).cell? ⟨wA.heap.size, 6, none⟩ = some (.bool df) := X2.cell 6 _ rfl
    clear X2 Y2
    go_wp2_with fail
    refine (alive_any _).mono ?_
    rintro e wC ⟨rfl, hb3⟩
    have B3 := Lib.hid (st_call B2.out hb3)
    clear hb3
    go_wp2_with fail
    go_ret
    exact ⟨rfl, B3.out⟩

/-! The row's step, after the guide's own way. -/
set_option maxRecDepth 100000 in
theorem lifted (os : Os) (started : os.Started) (H : Type) (enc : TypeId × Value → H) :
    ReturnsInHanded {} Try.checked os 4 .any (Rows.ipReadsSpec.pre6 enc Try.prog Try.f4 Rows.ipReadsRow.domain false) (Rows.ipReadsSpec.post enc Try.prog Try.f4 false true false false) := by
  refine returnsInHanded_of_change (C := Try.checked) own started (by kernel_rfl) Try.func4
    (ChangeSpec.witness6 (enc := enc) (C := Try.checked) false ⟨#[], #[.string ByteArray.empty], []⟩ 8 (by kernel_rfl) (by kernel_rfl) (by kernel_rfl) (by kernel_rfl)) ?_
  intro W base args ds gs before hval0 hW hcnd _
  have hval : ∀ (j : Nat) t v, Try.f4.params[j]? = some t → args[j]? = some v → Value.okWide Try.prog W .any base t v := hval0
  have hW' := hW
  obtain ⟨p, q, hA0, hV, rfl, hfz, hnd⟩ := hW
  have hA : DataW.TrodAll enc Try.prog W 0 (fun _ => true) true Try.f4.params.toList args.toList ds p := hA0
  rw [Try.params4] at hA hval
  obtain ⟨v0, vs0, d0, ds0, p0, q0, hargs, rfl, rfl, h0, r0⟩ := trodAll_cons hA
  obtain ⟨rfl, rfl, rfl⟩ := trodAll_nil r0
  obtain rfl : args = #[v0] := by cases args; simp_all
  obtain ⟨rfl, rfl⟩ := trodVars_none hV
  have k0 := h0
  have lt0 : ∀ x ∈ p0, x.block < W.heap.size := by obtain ⟨m, hm⟩ := k0; exact DataW.trod_lt m _ _ _ hm
  obtain ⟨a0, rfl, _, _, w0⟩ := open_string Try.underlying9 (hval 0 9 v0 rfl rfl) h0
  clear hA0 hval0
  refine (walk a0 W w0).mono fun e W' ⟨he, bel⟩ => ?_
  subst he
  exact ⟨_, rfl, _, _, _, [], _, [], hW', trodAll_mk1 (shut_bool Try.underlying4 _), (trodAll_cons_mk (Below.trod laidOut (by kernel_rfl) (of_decide_eq_true (by kernel_rfl)) k0 bel lt0) trodAll_mk0), rfl, bel.frame _, fun h => by cases h⟩

theorem over : Rows.ipReadsRow.holds Try.pinned (OpenSpec.ofChange Rows.ipReadsSpec) :=
  OpenClaim.holds_of_wide 4 Try.f4 rfl rfl rfl rfl rfl rfl rfl ⟨rfl, rfl, rfl, rfl, rfl⟩ rfl rfl rfl rfl rfl (by kernel_rfl) Try.func4 (by kernel_rfl)
    (of_decide_eq_true (by kernel_rfl)) (by unfold Func.isWrapper; first | (rw [if_pos (by decide +kernel)]; kernel_rfl) | (rw [if_neg (by decide +kernel)]; exact ⟨rfl, rfl⟩))
    (fun os started H enc _ => lifted os started H enc)

/-- The statement. -/
theorem proved : Rows.IpReadsSaid := over
#print axioms proved
end Go.Proofs.Ytlpfnndmkfkjaaa.ipReads
