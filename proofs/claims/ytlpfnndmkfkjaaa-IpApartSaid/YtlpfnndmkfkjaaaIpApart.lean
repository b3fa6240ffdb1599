/-
  Proved: the statement 'Rows.IpApartSaid': for every input the Go function transomlaw05.IpApart returns true, and each argument reads behind the call as it read before. Conditions: none of our own; those of the given row.
-/
import Derived.Test.YtlpfnndmkfkjaaaRows
import Derived.Test.YtlpfnndmkfkjaaaIpOpen
import Derived.Test.YtlpfnndmkfkjaaaIpAlive
import Derived.WalkKit
import Derived.ProofKit
import Derived.OpenShut
import Derived.ShutString
import Derived.ChangeOld
import Derived.Below
namespace Go.Proofs.Ytlpfnndmkfkjaaa.ipApart
open Go.ChangeShapes Go.WideShapes Go.ChangeAt Go.RowKit
open Go.ChangeMaps (open_string shut_string)
open TupMath SumMath IpMath Litb Calm Rel IpRef IpHead IpEnc IpDec IpP IpD IpDD IpAlive
set_option linter.unusedVariables false

theorem own : ownKnob Try.prog.godebug = none := by kernel_rfl
theorem laidOut : laidOutB Try.prog = true := by kernel_rfl

theorem ba_ext {S T : ByteArray} (h : S.toList = T.toList) : S = T := by
  rw [ByteArray.toList_eq, ByteArray.toList_eq] at h
  exact ByteArray.ext (Array.ext' h)
theorem same_pkt {g h : Hd} {a b : ByteArray} (kg : g.ok) (kh : h.ok) (ha : 20 + a.size ≤ 65535) (hb : 20 + b.size ≤ 65535) (e : ofB (pkt g (bz a)) = ofB (pkt h (bz b))) : g = h ∧ a = b := by
  have e2 := congrArg bz e
  rw [bz_pkt g a kg ha, bz_pkt h b kh hb] at e2
  obtain ⟨h1, h2⟩ := pkt_inj kg kh e2
  exact ⟨h1, bz_inj h2⟩

/-! The walk: the Go text returns true, and writes nothing that was there. -/
set_option maxRecDepth 100000 in
set_option maxHeartbeats 8000000 in
theorem walk (sr0 ds0 pr0 tt0 to0 id0 : Nat) (df0 : Bool) (sr1 ds1 pr1 tt1 to1 id1 : Nat) (df1 : Bool) (a2 : ByteArray) (a3 : ByteArray) (w : World) (g0 : sr0 ≤ 4294967295 ∧ ds0 ≤ 4294967295 ∧ pr0 ≤ 255 ∧ tt0 ≤ 255 ∧ to0 ≤ 255 ∧ id0 ≤ 65535) (g1 : sr1 ≤ 4294967295 ∧ ds1 ≤ 4294967295 ∧ pr1 ≤ 255 ∧ tt1 ≤ 255 ∧ to1 ≤ 255 ∧ id1 ≤ 65535) (w2 : a2.size ≤ maxLen) (w3 : a3.size ≤ maxLen) :
    Calls Try.prog 6 #[.agg #[.int .u32 (sr0 : Int), .int .u32 (ds0 : Int), .int .u8 (pr0 : Int), .int .u8 (tt0 : Int), .int .u8 (to0 : Int), .int .u16 (id0 : Int), .bool df0], .agg #[.int .u32 (sr1 : Int), .int .u32 (ds1 : Int), .int .u8 (pr1 : Int), .int .u8 (tt1 : Int), .int .u8 (to1 : Int), .int .u16 (id1 : Int), .bool df1], .string a2, .string a3] w fun e w' => e = .returned (.bool true) ∧ Below w.heap.size w w' := by
  unfold maxLen at w2 w3
  have k0 : (⟨sr0, ds0, pr0, tt0, to0, id0, df0⟩ : Hd).ok := ⟨g0.1, g0.2.1, g0.2.2.1, g0.2.2.2.1, g0.2.2.2.2.1, g0.2.2.2.2.2⟩
  have k1 : (⟨sr1, ds1, pr1, tt1, to1, id1, df1⟩ : Hd).ok := ⟨g1.1, g1.2.1, g1.2.2.1, g1.2.2.2.1, g1.2.2.2.2.1, g1.2.2.2.2.2⟩
  clear g0 g1
  by_cases hx : 2048 < a2.size
  · go_enter Try.func6, Try.ntmps6
    go_wp2_with fail
    refine (alive_any _).mono ?_
    rintro e w' ⟨rfl, hb⟩
    have HB := Lib.hid (st_call (st_alloc (st_alloc (Below.refl _ _) _) _) hb)
    clear hb
    go_wp2_with fail
    go_ret
    exact ⟨rfl, HB.out⟩
  by_cases hy : 2048 < a3.size
  · go_enter Try.func6, Try.ntmps6
    go_wp2_with fail
    refine (alive_any _).mono ?_
    rintro e w' ⟨rfl, hb⟩
    have HB := Lib.hid (st_call (st_alloc (st_alloc (Below.refl _ _) _) _) hb)
    clear hb
    go_wp2_with fail
    go_ret
    exact ⟨rfl, HB.out⟩
  have C1 := fun W => encP ⟨sr0, ds0, pr0, tt0, to0, id0, df0⟩ a2 W k0 (by omega)
  have C2 := fun W => encP ⟨sr1, ds1, pr1, tt1, to1, id1, df1⟩ a3 W k1 (by omega)
  rw [encV_ok _ _ (by omega)] at C1 C2
  have z1 := size_pkt ⟨sr0, ds0, pr0, tt0, to0, id0, df0⟩ a2
  have HST := Lib.hid (show ofB (pkt ⟨sr0, ds0, pr0, tt0, to0, id0, df0⟩ (bz a2)) = ofB (pkt ⟨sr1, ds1, pr1, tt1, to1, id1, df1⟩ (bz a3)) → _ from same_pkt k0 k1 (by omega) (by omega))
  obtain ⟨S, hS⟩ : ∃ S, ofB (pkt ⟨sr0, ds0, pr0, tt0, to0, id0, df0⟩ (bz a2)) = S := ⟨_, rfl⟩
  obtain ⟨T, hT⟩ : ∃ T, ofB (pkt ⟨sr1, ds1, pr1, tt1, to1, id1, df1⟩ (bz a3)) = T := ⟨_, rfl⟩
  rw [hS] at C1 z1 HST
  rw [hT] at C2 HST
  have HH1 := Lib.hid hS
  have HH2 := Lib.hid hT
  clear hS hT k0 k1
  have H1 : Hid (∀ W, Calls Try.prog 8 #[.agg #[.int .u32 (sr0 : Int), .int .u32 (ds0 : Int), .int .u8 (pr0 : Int), .int .u8 (tt0 : Int), .int .u8 (to0 : Int), .int .u16 (id0 : Int), .bool df0], .string a2] W fun e w' => e = .returned (.tuple #[.string S, .int .i64 0]) ∧ Below W.heap.size W w') := Lib.hid C1
  have H2 : Hid (∀ W, Calls Try.prog 8 #[.agg #[.int .u32 (sr1 : Int), .int .u32 (ds1 : Int), .int .u8 (pr1 : Int), .int .u8 (tt1 : Int), .int .u8 (to1 : Int), .int .u16 (id1 : Int), .bool df1], .string a3] W fun e w' => e = .returned (.tuple #[.string T, .int .i64 0]) ∧ Below W.heap.size W w') := Lib.hid C2
  clear C1 C2
  have X0 := Lib.hid ((Box.new w #[.int .u32 (sr0 : Int), .int .u32 (ds0 : Int), .int .u8 (pr0 : Int), .int .u8 (tt0 : Int), .int .u8 (to0 : Int), .int .u16 (id0 : Int), .bool df0]).alloc (.cells #[.int .u32 (sr1 : Int), .int .u32 (ds1 : Int), .int .u8 (pr1 : Int), .int .u8 (tt1 : Int), .int .u8 (to1 : Int), .int .u16 (id1 : Int), .bool df1] 25))
  have Y0 := Lib.hid (Box.new (w.alloc (.cells #[.int .u32 (sr0 : Int), .int .u32 (ds0 : Int), .int .u8 (pr0 : Int), .int .u8 (tt0 : Int), .int .u8 (to0 : Int), .int .u16 (id0 : Int), .bool df0] 25)) #[.int .u32 (sr1 : Int), .int .u32 (ds1 : Int), .int .u8 (pr1 : Int), .int .u8 (tt1 : Int), .int .u8 (to1 : Int), .int .u16 (id1 : Int), .bool df1])
  rw [World.size_alloc] at Y0
  have B0 := Lib.hid (st_alloc (st_alloc (Below.refl _ w) (.cells #[.int .u32 (sr0 : Int), .int .u32 (ds0 : Int), .int .u8 (pr0 : Int), .int .u8 (tt0 : Int), .int .u8 (to0 : Int), .int .u16 (id0 : Int), .bool df0] 25)) (.cells #[.int .u32 (sr1 : Int), .int .u32 (ds1 : Int), .int .u8 (pr1 : Int), .int .u8 (tt1 : Int), .int .u8 (to1 : Int), .int .u16 (id1 : Int), .bool df1] 25))
  have c0 : (((w.alloc (.cells #[.int .u32 (sr0 : Int), .int .u32 (ds0 : Int), .int .u8 (pr0 : Int), .int .u8 (tt0 : Int), .int .u8 (to0 : Int), .int .u16 (id0 : Int), .bool df0] 25)).alloc (.cells #[.int .u32 (sr1 : Int), .int .u32 (ds1 : Int), .int .u8 (pr1 : Int), .int .u8 (tt1 : Int), .int .u8 (to1 : Int), .int .u16 (id1 : Int), .bool df1] 25))).cell? ⟨w.heap.size, 0, none⟩ = some (.int .u32 (sr0 : Int)) := X0.out.cell 0 _ rfl
  have c1 : (((w.alloc (.cells #[.int .u32 (sr0 : Int), .int .u32 (ds0 : Int), .int .u8 (pr0 : Int), .int .u8 (tt0 : Int), .int .u8 (to0 : Int), .int .u16 (id0 : Int), .bool df0] 25)).alloc (.cells #[.int .u32 (sr1 : Int), .int .u32 (ds1 : Int), .int .u8 (pr1 : Int), .int .u8 (tt1 : Int), .int .u8 (to1 : Int), .int .u16 (id1 : Int), .bool df1] 25))).cell? ⟨w.heap.size, 1, none⟩ = some (.int .u32 (ds0 : Int)) := X0.out.cell 1 _ rfl
  have c2 : (((w.alloc (.cells #[.int .u32 (sr0 : Int), .int .u32 (ds0 : Int), .int .u8 (pr0 : Int), .int .u8 (tt0 : Int), .int .u8 (to0 : Int), .int .u16 (id0 : Int), .bool df0] 25)).alloc (.cells #[.int .u32 (sr1 : Int), .int .u32 (ds1 : Int), .int .u8 (pr1 : Int), .int .u8 (tt1 : Int), .int .u8 (to1 : Int), .int .u16 (id1 : Int), .bool df1] 25))).cell? ⟨w.heap.size, 2, none⟩ = some (.int .u8 (pr0 : Int)) := X0.out.cell 2 _ rfl
  have c3 : (((w.alloc (.cells #[.int .u32 (sr0 : Int), .int .u32 (ds0 : Int), .int .u8 (pr0 : Int), .int .u8 (tt0 : Int), .int .u8 (to0 : Int), .int .u16 (id0 : Int), .bool df0] 25)).alloc (.cells #[.int .u32 (sr1 : Int), .int .u32 (ds1 : Int), .int .u8 (pr1 : Int), .int .u8 (tt1 : Int), .int .u8 (to1 : Int), .int .u16 (id1 : Int), .bool df1] 25))).cell? ⟨w.heap.size, 3, none⟩ = some (.int .u8 (tt0 : Int)) := X0.out.cell 3 _ rfl
  have c4 : (((w.alloc (.cells #[.int .u32 (sr0 : Int), .int .u32 (ds0 : Int), .int .u8 (pr0 : Int), .int .u8 (tt0 : Int), .int .u8 (to0 : Int), .int .u16 (id0 : Int), .bool df0] 25)).alloc (.cells #[.int .u32 (sr1 : Int), .int .u32 (ds1 : Int), .int .u8 (pr1 : Int), .int .u8 (tt1 : Int), .int .u8 (to1 : Int), .int .u16 (id1 : Int), .bool df1] 25))).cell? ⟨w.heap.size, 4, none⟩ = some (.int .u8 (to0 : Int)) := X0.out.cell 4 _ rfl
  have c5 : (((w.alloc (.cells #[.int .u32 (sr0 : Int), .int .u32 (ds0 : Int), .int .u8 (pr0 : Int), .int .u8 (tt0 : Int), .int .u8 (to0 : Int), .int .u16 (id0 : Int), .bool df0] 25)).alloc (.cells #[.int .u32 (sr1 : Int), .int .u32 (ds1 : Int), .int .u8 (pr1 : Int), .int .u8 (tt1 : Int), .int .u8 (to1 : Int), .int .u16 (id1 : Int), .bool df1] 25))).cell? ⟨w.heap.size, 5, none⟩ = some (.int .u16 (id0 : Int)) := X0.out.cell 5 _ rfl
  have c6 : (((w.alloc (.cells #[.int .u32 (sr0 : Int), .int .u32 (ds0 : Int), .int .u8 (pr0 : Int), .int .u8 (tt0 : Int), .int .u8 (to0 : Int), .int .u16 (id0 : Int), .bool df0] 25)).alloc (.cells #[.int .u32 (sr1 : Int), .int .u32 (ds1 : Int), .int .u8 (pr1 : Int), .int .u8 (tt1 : Int), .int .u8 (to1 : Int), .int .u16 (id1 : Int), .bool df1] 25))).cell? ⟨w.heap.size, 6, none⟩ = some (.bool df0) := X0.out.cell 6 _ rfl
  go_enter Try.func6, Try.ntmps6
  go_wp2_with fail
  clear c0 c1 c2 c3 c4 c5 c6
  refine (H1.out _).mono ?_
  rintro e wA ⟨rfl, hb1⟩
  have X1 := Lib.hid (X0.out.more hb1)
  have Y1 := Y0.out.more hb1
  have B1 := Lib.hid (st_call B0.out hb1)
  clear hb1
  have d0 : (wA).cell? ⟨w.heap.size + 1, 0, none⟩ = some (.int .u32 (sr1 : Int)) := Y1.cell 0 _ rfl
  have d1 : (wA).cell? ⟨w.heap.size + 1, 1, none⟩ = some (.int .u32 (ds1 : Int)) := Y1.cell 1 _ rfl
  have d2 : (wA).cell? ⟨w.heap.size + 1, 2, none⟩ = some (.int .u8 (pr1 : Int)) := Y1.cell 2 _ rfl
  have d3 : (wA).cell? ⟨w.heap.size + 1, 3, none⟩ = some (.int .u8 (tt1 : Int)) := Y1.cell 3 _ rfl
  have d4 : (wA).cell? ⟨w.heap.size + 1, 4, none⟩ = some (.int .u8 (to1 : Int)) := Y1.cell 4 _ rfl
  have d5 : (wA).cell? ⟨w.heap.size + 1, 5, none⟩ = some (.int .u16 (id1 : Int)) := Y1.cell 5 _ rfl
  have d6 : (wA).cell? ⟨w.heap.size + 1, 6, none⟩ = some (.bool df1) := Y1.cell 6 _ rfl
  have Y2 := Lib.hid Y1
  clear Y1
  go_wp2_with fail
  clear d0 d1 d2 d3 d4 d5 d6
  refine (H2.out _).mono ?_
  rintro e wB ⟨rfl, hb2⟩
  have X2 := X1.out.more hb2
  have Y3 := Y2.out.more hb2
  have B2 := Lib.hid (st_call B1.out hb2)
  clear hb2
  have c0 : (wB).cell? ⟨w.heap.size, 0, none⟩ = some (.int .u32 (sr0 : Int)) := X2.cell 0 _ rfl
  have c1 : (wB).cell? ⟨w.heap.size, 1, none⟩ = some (.int .u32 (ds0 : Int)) := X2.cell 1 _ rfl
  have c2 : (wB).cell? ⟨w.heap.size, 2, none⟩ = some (.int .u8 (pr0 : Int)) := X2.cell 2 _ rfl
  have c3 : (wB).cell? ⟨w.heap.size, 3, none⟩ = some (.int .u8 (tt0 : Int)) := X2.cell 3 _ rfl
  have c4 : (wB).cell? ⟨w.heap.size, 4, none⟩ = some (.int .u8 (to0 : Int)) := X2.cell 4 _ rfl
  have c5 : (wB).cell? ⟨w.heap.size, 5, none⟩ = some (.int .u16 (id0 : Int)) := X2.cell 5 _ rfl
  have c6 : (wB).cell? ⟨w.heap.size, 6, none⟩ = some (.bool df0) := X2.cell 6 _ rfl
  have d0 : (wB).cell? ⟨w.heap.size + 1, 0, none⟩ = some (.int .u32 (sr1 : Int)) := Y3.cell 0 _ rfl
  have d1 : (wB).cell? ⟨w.heap.size + 1, 1, none⟩ = some (.int .u32 (ds1 : Int)) := Y3.cell 1 _ rfl
  have d2 : (wB).cell? ⟨w.heap.size + 1, 2, none⟩ = some (.int .u8 (pr1 : Int)) := Y3.cell 2 _ rfl
  have d3 : (wB).cell? ⟨w.heap.size + 1, 3, none⟩ = some (.int .u8 (tt1 : Int)) := Y3.cell 3 _ rfl
  have d4 : (wB).cell? ⟨w.heap.size + 1, 4, none⟩ = some (.int .u8 (to1 : Int)) := Y3.cell 4 _ rfl
  have d5 : (wB).cell? ⟨w.heap.size + 1, 5, none⟩ = some (.int .u16 (id1 : Int)) := Y3.cell 5 _ rfl
  have d6 : (wB).cell? ⟨w.heap.size + 1, 6, none⟩ = some (.bool df1) := Y3.cell 6 _ rfl
  clear X2 Y3
  go_wp2_with fail
  all_goals first
    | (refine (alive_any _).mono ?_
       rintro e wC ⟨rfl, hb3⟩
       have B3 := Lib.hid (st_call B2.out hb3)
       clear hb3
       go_wp2_with fail
       go_ret
       first
         | exact ⟨rfl, B3.out⟩
         | (have hn : ¬ S.toList = T.toList := by assumption
            refine ⟨?_, B3.out⟩
            simp [hn]))
    | (exfalso
       have hST := ba_ext (show S.toList = T.toList by assumption)
       obtain ⟨h1, h2⟩ := HST.out hST
       injection h1 with q1 q2 q3 q4 q5 q6 q7
       first | omega | exact absurd q7 (by assumption))
    | (exfalso
       have hne : ¬(S.toList == T.toList) = (a2.toList == a3.toList) := by assumption
       apply hne
       rw [Bool.eq_iff_iff, beq_iff_eq, beq_iff_eq]
       constructor
       · intro h
         rw [(HST.out (ba_ext h)).2]
       · intro h
         have e2 := ba_ext h
         have q7 : df0 = df1 := by assumption
         obtain rfl : sr0 = sr1 := by omega
         obtain rfl : ds0 = ds1 := by omega
         obtain rfl : pr0 = pr1 := by omega
         obtain rfl : tt0 = tt1 := by omega
         obtain rfl : to0 = to1 := by omega
         obtain rfl : id0 = id1 := by omega
         rw [← HH1.out, ← HH2.out, e2, q7])

/-! The row's step, after the guide's own way. -/
set_option maxRecDepth 100000 in
theorem lifted (os : Os) (started : os.Started) (H : Type) (enc : TypeId × Value → H) :
    ReturnsInHanded {} Try.checked os 6 .any (Rows.ipApartSpec.pre6 enc Try.prog Try.f6 Rows.ipApartRow.domain false) (Rows.ipApartSpec.post enc Try.prog Try.f6 false true false false) := by
  refine returnsInHanded_of_change (C := Try.checked) own started (by kernel_rfl) Try.func6
    (ChangeSpec.witness6 (enc := enc) (C := Try.checked) false ⟨#[], #[.agg #[.int .u32 0, .int .u32 0, .int .u8 0, .int .u8 0, .int .u8 0, .int .u16 0, .bool false], .agg #[.int .u32 0, .int .u32 0, .int .u8 0, .int .u8 0, .int .u8 0, .int .u16 0, .bool false], .string ByteArray.empty, .string ByteArray.empty], []⟩ 8 (by kernel_rfl) (by kernel_rfl) (by kernel_rfl) (by kernel_rfl)) ?_
  intro W base args ds gs before hval0 hW hcnd _
  have hval : ∀ (j : Nat) t v, Try.f6.params[j]? = some t → args[j]? = some v → Value.okWide Try.prog W .any base t v := hval0
  have hW' := hW
  obtain ⟨p, q, hA0, hV, rfl, hfz, hnd⟩ := hW
  have hA : DataW.TrodAll enc Try.prog W 0 (fun _ => true) true Try.f6.params.toList args.toList ds p := hA0
  rw [Try.params6] at hA hval
  obtain ⟨v0, vs0, d0, ds0, p0, q0, hargs, rfl, rfl, h0, r0⟩ := trodAll_cons hA
  obtain ⟨v1, vs1, d1, ds1, p1, q1, rfl, rfl, rfl, h1, r1⟩ := trodAll_cons r0
  obtain ⟨v2, vs2, d2, ds2, p2, q2, rfl, rfl, rfl, h2, r2⟩ := trodAll_cons r1
  obtain ⟨v3, vs3, d3, ds3, p3, q3, rfl, rfl, rfl, h3, r3⟩ := trodAll_cons r2
  obtain ⟨rfl, rfl, rfl⟩ := trodAll_nil r3
  obtain rfl : args = #[v0, v1, v2, v3] := by cases args; simp_all
  obtain ⟨rfl, rfl⟩ := trodVars_none hV
  have k0 := h0
  have lt0 : ∀ x ∈ p0, x.block < W.heap.size := by obtain ⟨m, hm⟩ := k0; exact DataW.trod_lt m _ _ _ hm
  obtain ⟨sr0, ds0, pr0, tt0, to0, id0, df0, rfl, g0⟩ := IpOpen.open_ip (hval 0 25 v0 rfl rfl) h0
  have k1 := h1
  have lt1 : ∀ x ∈ p1, x.block < W.heap.size := by obtain ⟨m, hm⟩ := k1; exact DataW.trod_lt m _ _ _ hm
  obtain ⟨sr1, ds1, pr1, tt1, to1, id1, df1, rfl, g1⟩ := IpOpen.open_ip (hval 1 25 v1 rfl rfl) h1
  have k2 := h2
  have lt2 : ∀ x ∈ p2, x.block < W.heap.size := by obtain ⟨m, hm⟩ := k2; exact DataW.trod_lt m _ _ _ hm
  obtain ⟨a2, rfl, _, _, w2⟩ := open_string Try.underlying9 (hval 2 9 v2 rfl rfl) h2
  have k3 := h3
  have lt3 : ∀ x ∈ p3, x.block < W.heap.size := by obtain ⟨m, hm⟩ := k3; exact DataW.trod_lt m _ _ _ hm
  obtain ⟨a3, rfl, _, _, w3⟩ := open_string Try.underlying9 (hval 3 9 v3 rfl rfl) h3
  clear hA0 hval0
  refine (walk sr0 ds0 pr0 tt0 to0 id0 df0 sr1 ds1 pr1 tt1 to1 id1 df1 a2 a3 W g0 g1 w2 w3).mono fun e W' ⟨he, bel⟩ => ?_
  subst he
  exact ⟨_, rfl, _, _, _, [], _, [], hW', trodAll_mk1 (shut_bool Try.underlying4 _), (trodAll_cons_mk (Below.trod laidOut (by kernel_rfl) (of_decide_eq_true (by kernel_rfl)) k0 bel lt0) (trodAll_cons_mk (Below.trod laidOut (by kernel_rfl) (of_decide_eq_true (by kernel_rfl)) k1 bel lt1) (trodAll_cons_mk (Below.trod laidOut (by kernel_rfl) (of_decide_eq_true (by kernel_rfl)) k2 bel lt2) (trodAll_cons_mk (Below.trod laidOut (by kernel_rfl) (of_decide_eq_true (by kernel_rfl)) k3 bel lt3) trodAll_mk0)))), rfl, bel.frame _, fun h => by cases h⟩

theorem over : Rows.ipApartRow.holds Try.pinned (OpenSpec.ofChange Rows.ipApartSpec) :=
  OpenClaim.holds_of_wide 6 Try.f6 rfl rfl rfl rfl rfl rfl rfl ⟨rfl, rfl, rfl, rfl, rfl⟩ rfl rfl rfl rfl rfl (by kernel_rfl) Try.func6 (by kernel_rfl)
    (of_decide_eq_true (by kernel_rfl)) (by unfold Func.isWrapper; first | (rw [if_pos (by decide +kernel)]; kernel_rfl) | (rw [if_neg (by decide +kernel)]; exact ⟨rfl, rfl⟩))
    (fun os started H enc _ => lifted os started H enc)

/-- The statement. -/
theorem proved : Rows.IpApartSaid := over
#print axioms proved
end Go.Proofs.Ytlpfnndmkfkjaaa.ipApart
