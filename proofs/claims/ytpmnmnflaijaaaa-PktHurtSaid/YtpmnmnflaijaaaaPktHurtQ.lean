/-
  Proved: the statement 'Rows.PktHurtSaid': for every input the Go function transomlaw08.PktHurt returns true, and each argument reads behind the call as it read before. Conditions: none of our own; those of the given row.
-/
import Derived.Test.YtpmnmnflaijaaaaQPktAlive1
import Derived.Test.YtpmnmnflaijaaaaQPktOpen3
import Derived.Test.YtpmnmnflaijaaaaQPktLay26
import Derived.Test.YtpmnmnflaijaaaaQCalm1
import Derived.Test.YtpmnmnflaijaaaaRows
import Derived.WalkKit
import Derived.ProofKit
import Derived.OpenShut
import Derived.ShutString
import Derived.ChangeOld
import Derived.Below
namespace Go.Proofs.Ytpmnmnflaijaaaa.pktHurt
open Go.ChangeShapes Go.WideShapes Go.ChangeAt Go.RowKit
open Go.ChangeMaps (open_string shut_string)
open TupMath SumMath IpMath Litb Calm Rel IpRef OptMath OptSame OptTake5 OptTk OptPU PktMath PktVal PktCom PktDecC PktBox PktAlive
open Cells (CellsAt)
set_option linter.unusedVariables false

theorem own : ownKnob Try.prog.godebug = none := by kernel_rfl
theorem laidOut : laidOutB Try.prog = true := by kernel_rfl

theorem set_le {l : List Nat} (hl : ∀ x ∈ l, x ≤ 255) (i y : Nat) (hy : y ≤ 255) : ∀ x ∈ l.set i y, x ≤ 255 := fun x hx => (List.mem_or_eq_of_mem_set hx).elim (hl x) (fun e => by rw [e]; exact hy)
theorem ne_emp {s : ByteArray} (h : 0 < s.size) : s.toList.isEmpty = false := by
  rw [ByteArray.toList_eq]
  cases hs : s.data.toList with
  | nil =>
    have : s.data.toList.length = s.size := rfl
    rw [hs] at this
    simp only [List.length_nil] at this
    omega
  | cons a l => rfl
theorem hurt {s : Sg} (k : s.ok) (m : s.may) (i j y : Nat) (hj : j < 8) (hy : (pk s)[i]? = some y) : ∃ (R : ByteArray) (n : Nat) (z : Sg), R = ofB ((pk s).set i (y ^^^ 2 ^ j)) ∧ R.size = (pk s).length ∧ dec8 R = (n, z) ∧ 0 < n ∧ (∀ q ∈ (pk s).set i (y ^^^ 2 ^ j), q ≤ 255) :=
  ⟨_, (dec8 (ofB ((pk s).set i (y ^^^ 2 ^ j)))).1, (dec8 (ofB ((pk s).set i (y ^^^ 2 ^ j)))).2, rfl, by rw [ofB_size, List.length_set], rfl, Nat.pos_of_ne_zero (pk_hurt k m i j y hj hy),
    set_le (pk_le k m) i _ (by have := pk_le k m y (List.mem_of_getElem? hy); exact (xor_bit ⟨y, by omega⟩ ⟨j, hj⟩).2)⟩

/-! The walk: the Go text returns true, and writes nothing that was there. -/
set_option maxRecDepth 100000 in
set_option maxHeartbeats 16000000 in
theorem walk (s0 : PktMath.Sg) (A0 : Option Addr) (c0 : Nat) (a1 : Int) (w : World) (z0 : OptSame.BlkR w A0 s0.opts.blocks) (g0 : s0.ok ∧ s0.opts.blocks.length ≤ maxLen ∧ -9223372036854775808 ≤ s0.opts.scale ∧ s0.opts.scale ≤ 9223372036854775807 ∧ s0.data.size ≤ maxLen) (w1 : (Lit.int .u16 a1).wf = true) :
    Calls Try.prog 6 #[PktVal.sv s0 A0 c0, .int .u16 a1] w fun e w' => e = .returned (.bool true) ∧ Below w.heap.size w w' := by
  have ⟨b2, b2'⟩ := bounds_u16 w1
  obtain ⟨bit, rfl⟩ := Int.eq_ofNat_of_zero_le b2
  clear w1 b2
  have X0 := Lib.hid (CellsAt.new w (sc s0 A0 c0) 30)
  have B0 := Lib.hid (st_alloc (Below.refl _ w) (.cells (sc s0 A0 c0) 30))
  have HH := Lib.hid (fun W => heavyL s0 A0 c0 W g0.2.2.2.2)
  by_cases hh : heavy s0 = true
  · rw [hh] at HH
    go_enter Try.func6, Try.ntmps6
    have X1 := X0.out
    go_upto_region 1 with fail
    refine wp_region_lit ?_
    refine step_seg rfl _ rfl _ rfl _ _ _ X1 ?_
    go_wp2_with fail
    refine (HH.out _).mono ?_
    rintro e wL ⟨rfl, hb⟩
    have B1 := Lib.hid (st_call B0.out hb)
    clear hb
    go_wp2_with fail
    refine (alive_any _).mono ?_
    rintro e w' ⟨rfl, hb⟩
    have HB := Lib.hid (st_call (B1.out) hb)
    clear hb
    go_wp2_with fail
    go_ret
    exact ⟨rfl, HB.out⟩
  have hh2 : heavy s0 = false := by cases h : heavy s0; rfl; exact absurd h hh
  rw [hh2] at HH
  clear hh
  have HE := Lib.hid (fun W (hb : Below (w.alloc (.cells (sc s0 A0 c0) 30)).heap.size (w.alloc (.cells (sc s0 A0 c0) 30)) W) => PktEncP.encP8 s0 A0 c0 W ((z0.more (st_alloc (Below.refl _ w) (.cells (sc s0 A0 c0) 30))).more hb) g0.1 g0.2.2.2.2)
  by_cases hm : mayS s0 = true
  rotate_left
  · have hv : encV8 s0 = .tuple #[.string ⟨#[]⟩, .int .i64 2] := if_neg hm
    rw [hv] at HE
    go_enter Try.func6, Try.ntmps6
    have X1 := X0.out
    go_upto_region 1 with fail
    refine wp_region_lit ?_
    refine step_seg rfl _ rfl _ rfl _ _ _ X1 ?_
    go_wp2_with fail
    refine (HH.out _).mono ?_
    rintro e wL ⟨rfl, hb⟩
    have B1 := Lib.hid (st_call B0.out hb)
    have HA := Lib.hid hb
    have X2 := X0.out.later hb
    clear hb X1
    go_upto_region 3 with fail
    refine wp_region_lit ?_
    refine step_seg rfl _ rfl _ rfl _ _ _ X2 ?_
    go_wp2_with fail
    refine (HE.out _ HA.out).mono ?_
    rintro e wM ⟨rfl, hb⟩
    have B2 := Lib.hid (st_call B1.out hb)
    clear hb X2
    go_wp2_with fail
    refine (alive_any _).mono ?_
    rintro e w' ⟨rfl, hb⟩
    have HB := Lib.hid (st_call (B2.out) hb)
    clear hb
    go_wp2_with fail
    go_ret
    exact ⟨rfl, HB.out⟩
  have m := of_mayS hm
  have hv : encV8 s0 = .tuple #[.string (ofB (pk s0)), .int .i64 0] := if_pos hm
  rw [hv] at HE
  obtain ⟨K, hK⟩ : ∃ K, bit % (8 * (pk s0).length) = K := ⟨_, rfl⟩
  have hlen : 40 ≤ (pk s0).length ∧ (pk s0).length ≤ 1540 := by
    have h1 := m.few
    have h2 := m.opts.most
    rw [pk_len]
    omega
  have hKlt : K < 8 * (pk s0).length := by rw [← hK]; exact Nat.mod_lt _ (by omega)
  obtain ⟨i, hi⟩ : ∃ i, K / 8 = i := ⟨_, rfl⟩
  have hil : i < (pk s0).length := by omega
  obtain ⟨y, hy⟩ : ∃ y, (pk s0)[i]? = some y := ⟨_, List.getElem?_eq_getElem hil⟩
  have hy8 : y ≤ 255 := pk_le g0.1 m y (List.mem_of_getElem? hy)
  obtain ⟨R, n, zz, hR, hRs, hdR, hn, hTle⟩ := hurt g0.1 m i (K % 8) y (Nat.mod_lt _ (by decide)) hy
  have HD := Lib.hid (fun W => decX R n zz W (by rw [hRs]; omega) hdR)
  have hPl := pk_le g0.1 m
  obtain ⟨P, hP⟩ : ∃ P, pk s0 = P := ⟨_, rfl⟩
  rw [hP] at HE hK hlen hKlt hil hy hR hRs hTle hPl
  obtain ⟨S, hS⟩ : ∃ S, ofB P = S := ⟨_, rfl⟩
  have hbS : bz S = P := by rw [← hS]; exact bz_ofB hPl
  have hsz : S.size = P.length := by rw [← hbS, bz_len]
  rw [hS] at HE
  have e1 : IntKind.i64.wrap (8 * (S.size : Int)) = 8 * (S.size : Int) := by rw [IntKind.wrap_i64]; omega
  have e2 : (bit : Int) % (8 * (S.size : Int)) = (K : Int) := by rw [hsz, ← hK]; push_cast; rfl
  have e2b : Int.tmod (bit : Int) (8 * (S.size : Int)) = (K : Int) := by rw [Int.tmod_eq_emod_of_nonneg (by omega)]; exact e2
  have e3 : (8 * (S.size : Int)) ≠ 0 := by omega
  have e4 : ¬ 8 * (S.size : Int) = 0 := e3
  have e5 : Int.tdiv (K : Int) 8 = (i : Int) := by rw [Int.tdiv_eq_ediv_of_nonneg (by omega)]; omega
  have e6 : (K : Int) / 8 = (i : Int) := by omega
  have e7 : (i : Int) < (S.size : Int) := by omega
  have e8 : IntKind.i64.wrap (K : Int) = (K : Int) := by rw [IntKind.wrap_i64]; omega
  have e9 : (0 : Int) < 8 * (S.size : Int) := by omega
  have hse : S.toList.isEmpty = false := ne_emp (by omega)
  have hS9 : S.size ≤ 9223372036854775807 := by omega
  have qn : ((n : Int) != 0) = true := bne_iff_ne.2 (by omega)
  have HRR := Lib.hid hR
  have HTL := Lib.hid hTle
  have HBS := Lib.hid hbS
  have HSZ := Lib.hid hsz
  have HY := Lib.hid hy
  have HK := Lib.hid (And.intro hK (And.intro hKlt hi))
  have hz40 : 40 ≤ S.size ∧ S.size ≤ 1540 := by omega
  have e7b : i < S.size := by omega
  clear hsz hKlt hP hS hbS hR hTle hPl hy hm hlen hK hdR hRs hv hi hil hh2
  go_enter Try.func6, Try.ntmps6
  have X1 := X0.out
  go_upto_region 1 with fail
  refine wp_region_lit ?_
  refine step_seg rfl _ rfl _ rfl _ _ _ X1 ?_
  go_wp2_with fail
  refine (HH.out _).mono ?_
  rintro e wL ⟨rfl, hb⟩
  have B1 := Lib.hid (st_call B0.out hb)
  have HA := Lib.hid hb
  have X2 := X0.out.later hb
  clear hb X1
  go_upto_region 3 with fail
  refine wp_region_lit ?_
  refine step_seg rfl _ rfl _ rfl _ _ _ X2 ?_
  go_wp2_with fail
  refine (HE.out _ HA.out).mono ?_
  rintro e wM ⟨rfl, hb⟩
  have B2 := Lib.hid (st_call B1.out hb)
  clear hb X2
  obtain ⟨B, hB⟩ : ∃ B, wM.heap.size = B := ⟨_, rfl⟩
  obtain ⟨cap, w1, hconv, hH1, hz1, hb1, hcap⟩ := bytes_held S wM B hB
  have HH1 := Lib.hid hH1
  have B3 := Lib.hid (st_call B2.out hb1)
  have hBle : w.heap.size ≤ B := by rw [← hB]; exact B2.out.size
  have k0 := (hH1.2 i y (by rw [HBS.out]; exact HY.out)).1
  have f0 := (hH1.2 i y (by rw [HBS.out]; exact HY.out)).2
  clear hH1 hb1 hz1 hB
  go_upto_region 8 with fail
  clear hconv
  go_cut [45] (fun _ wx => Held8 wx B (P.set i (y ^^^ 2 ^ (K % 8))) ∧ Below w.heap.size w wx)
  case first =>
    obtain e8 | e8 | e8 | e8 | e8 | e8 | e8 | e8 : (K : Int) % 8 = 0 ∨ (K : Int) % 8 = 1 ∨ (K : Int) % 8 = 2 ∨ (K : Int) % 8 = 3 ∨ (K : Int) % 8 = 4 ∨ (K : Int) % 8 = 5 ∨ (K : Int) % 8 = 6 ∨ (K : Int) % 8 = 7 := by omega
    · have hxor : bits .xor .u8 (y : Int) 1 = ((y ^^^ 1 : Nat) : Int) := by have h := u8_xor_nat y 1 (by omega) (by omega); simpa using h
      have e2 : P.set i (y ^^^ 2 ^ (K % 8)) = P.set i (y ^^^ 1) := by rw [show K % 8 = 0 by omega]
      have E2 := Lib.hid e2
      clear e2
      go_wp2_with fail
      go_meet
      rw [E2.out]
      exact ⟨by have h := held_set HH1.out i (y ^^^ 1) (by rw [bz_len]; omega); rw [HBS.out] at h; exact h, B3.out.setCell hBle _⟩
    · have hxor : bits .xor .u8 (y : Int) 2 = ((y ^^^ 2 : Nat) : Int) := by have h := u8_xor_nat y 2 (by omega) (by omega); simpa using h
      have e2 : P.set i (y ^^^ 2 ^ (K % 8)) = P.set i (y ^^^ 2) := by rw [show K % 8 = 1 by omega]
      have E2 := Lib.hid e2
      clear e2
      go_wp2_with fail
      go_meet
      rw [E2.out]
      exact ⟨by have h := held_set HH1.out i (y ^^^ 2) (by rw [bz_len]; omega); rw [HBS.out] at h; exact h, B3.out.setCell hBle _⟩
    · have hxor : bits .xor .u8 (y : Int) 4 = ((y ^^^ 4 : Nat) : Int) := by have h := u8_xor_nat y 4 (by omega) (by omega); simpa using h
      have e2 : P.set i (y ^^^ 2 ^ (K % 8)) = P.set i (y ^^^ 4) := by rw [show K % 8 = 2 by omega]
      have E2 := Lib.hid e2
      clear e2
      go_wp2_with fail
      go_meet
      rw [E2.out]
      exact ⟨by have h := held_set HH1.out i (y ^^^ 4) (by rw [bz_len]; omega); rw [HBS.out] at h; exact h, B3.out.setCell hBle _⟩
    · have hxor : bits .xor .u8 (y : Int) 8 = ((y ^^^ 8 : Nat) : Int) := by have h := u8_xor_nat y 8 (by omega) (by omega); simpa using h
      have e2 : P.set i (y ^^^ 2 ^ (K % 8)) = P.set i (y ^^^ 8) := by rw [show K % 8 = 3 by omega]
      have E2 := Lib.hid e2
      clear e2
      go_wp2_with fail
      go_meet
      rw [E2.out]
      exact ⟨by have h := held_set HH1.out i (y ^^^ 8) (by rw [bz_len]; omega); rw [HBS.out] at h; exact h, B3.out.setCell hBle _⟩
    · have hxor : bits .xor .u8 (y : Int) 16 = ((y ^^^ 16 : Nat) : Int) := by have h := u8_xor_nat y 16 (by omega) (by omega); simpa using h
      have e2 : P.set i (y ^^^ 2 ^ (K % 8)) = P.set i (y ^^^ 16) := by rw [show K % 8 = 4 by omega]
      have E2 := Lib.hid e2
      clear e2
      go_wp2_with fail
      go_meet
      rw [E2.out]
      exact ⟨by have h := held_set HH1.out i (y ^^^ 16) (by rw [bz_len]; omega); rw [HBS.out] at h; exact h, B3.out.setCell hBle _⟩
    · have hxor : bits .xor .u8 (y : Int) 32 = ((y ^^^ 32 : Nat) : Int) := by have h := u8_xor_nat y 32 (by omega) (by omega); simpa using h
      have e2 : P.set i (y ^^^ 2 ^ (K % 8)) = P.set i (y ^^^ 32) := by rw [show K % 8 = 5 by omega]
      have E2 := Lib.hid e2
      clear e2
      go_wp2_with fail
      go_meet
      rw [E2.out]
      exact ⟨by have h := held_set HH1.out i (y ^^^ 32) (by rw [bz_len]; omega); rw [HBS.out] at h; exact h, B3.out.setCell hBle _⟩
    · have hxor : bits .xor .u8 (y : Int) 64 = ((y ^^^ 64 : Nat) : Int) := by have h := u8_xor_nat y 64 (by omega) (by omega); simpa using h
      have e2 : P.set i (y ^^^ 2 ^ (K % 8)) = P.set i (y ^^^ 64) := by rw [show K % 8 = 6 by omega]
      have E2 := Lib.hid e2
      clear e2
      go_wp2_with fail
      go_meet
      rw [E2.out]
      exact ⟨by have h := held_set HH1.out i (y ^^^ 64) (by rw [bz_len]; omega); rw [HBS.out] at h; exact h, B3.out.setCell hBle _⟩
    · have hxor : bits .xor .u8 (y : Int) 128 = ((y ^^^ 128 : Nat) : Int) := by have h := u8_xor_nat y 128 (by omega) (by omega); simpa using h
      have e2 : P.set i (y ^^^ 2 ^ (K % 8)) = P.set i (y ^^^ 128) := by rw [show K % 8 = 7 by omega]
      have E2 := Lib.hid e2
      clear e2
      go_wp2_with fail
      go_meet
      rw [E2.out]
      exact ⟨by have h := held_set HH1.out i (y ^^^ 128) (by rw [bz_len]; omega); rw [HBS.out] at h; exact h, B3.out.setCell hBle _⟩
  case rest =>
    have hbz := held_string (b := B) hcut.1 HTL.out cap S.size (by rw [List.length_set]; exact HSZ.out)
    rw [← HRR.out] at hbz
    have B4 := Lib.hid hcut.2
    clear hcut
    go_wp2_with fail
    refine (HD.out _).mono ?_
    rintro e wC ⟨⟨A9, c9, rfl, -⟩, hb⟩
    have B5 := Lib.hid (st_alloc (st_call B4.out hb) (.cells (sc zz A9 c9) 30))
    clear hb hbz
    go_wp2_with fail
    refine (alive_any _).mono ?_
    rintro e w' ⟨rfl, hb⟩
    have HB := Lib.hid (st_call (B5.out) hb)
    clear hb
    go_wp2_with fail
    go_ret
    exact ⟨rfl, HB.out⟩

/-! The row's step, after the guide's own way. -/
set_option maxRecDepth 100000 in
theorem lifted (os : Os) (started : os.Started) (H : Type) (enc : TypeId × Value → H) :
    ReturnsInHanded {} Try.checked os 6 .any (Rows.pktHurtSpec.pre6 enc Try.prog Try.f6 Rows.pktHurtRow.domain false) (Rows.pktHurtSpec.post enc Try.prog Try.f6 false true false false) := by
  refine returnsInHanded_of_change (C := Try.checked) own started (by kernel_rfl) Try.func6
    (ChangeSpec.witness6 (enc := enc) (C := Try.checked) false ⟨#[], #[.agg #[.int .u32 0, .int .u16 0, .int .u32 0, .int .u16 0, .int .u32 0, .int .u32 0, .int .u8 0, .int .u16 0, .int .u16 0, .int .i64 0, .bool false, .slice none 0 0, .bool false, .int .u32 0, .int .u32 0, .string ByteArray.empty], .int .u16 0], []⟩ 8 (by kernel_rfl) (by kernel_rfl) (by kernel_rfl) (by kernel_rfl)) ?_
  intro W base args ds gs before hval0 hW hcnd _
  have hval : ∀ (j : Nat) t v, Try.f6.params[j]? = some t → args[j]? = some v → Value.okWide Try.prog W .any base t v := hval0
  have hW' := hW
  obtain ⟨p, q, hA0, hV, rfl, hfz, hnd⟩ := hW
  have hA : DataW.TrodAll enc Try.prog W 0 (fun _ => true) true Try.f6.params.toList args.toList ds p := hA0
  rw [Try.params6] at hA hval
  obtain ⟨v0, vs0, d0, ds0, p0, q0, hargs, rfl, rfl, h0, r0⟩ := trodAll_cons hA
  obtain ⟨v1, vs1, d1, ds1, p1, q1, rfl, rfl, rfl, h1, r1⟩ := trodAll_cons r0
  obtain ⟨rfl, rfl, rfl⟩ := trodAll_nil r1
  obtain rfl : args = #[v0, v1] := by cases args; simp_all
  obtain ⟨rfl, rfl⟩ := trodVars_none hV
  have k0 := h0
  have lt0 : ∀ x ∈ p0, x.block < W.heap.size := by obtain ⟨m, hm⟩ := k0; exact DataW.trod_lt m _ _ _ hm
  obtain ⟨s0, A0, c0, rfl, z0, g0⟩ := PktOpen.open_seg (hval 0 30 v0 rfl rfl) h0
  have k1 := h1
  have lt1 : ∀ x ∈ p1, x.block < W.heap.size := by obtain ⟨m, hm⟩ := k1; exact DataW.trod_lt m _ _ _ hm
  obtain ⟨a1, rfl, _, _, w1⟩ := open_int Try.underlying23 (hval 1 23 v1 rfl rfl) h1
  clear hA0 hval0
  refine (walk s0 A0 c0 a1 W z0 g0 w1).mono fun e W' ⟨he, bel⟩ => ?_
  subst he
  exact ⟨_, rfl, _, _, _, [], _, [], hW', trodAll_mk1 (shut_bool Try.underlying4 _), (trodAll_cons_mk (Below.trod laidOut (by kernel_rfl) (of_decide_eq_true (by kernel_rfl)) k0 bel lt0) (trodAll_cons_mk (Below.trod laidOut (by kernel_rfl) (of_decide_eq_true (by kernel_rfl)) k1 bel lt1) trodAll_mk0)), rfl, bel.frame _, fun h => by cases h⟩

theorem over : Rows.pktHurtRow.holds Try.pinned (OpenSpec.ofChange Rows.pktHurtSpec) :=
  OpenClaim.holds_of_wide 6 Try.f6 rfl rfl rfl rfl rfl rfl rfl ⟨rfl, rfl, rfl, rfl, rfl⟩ rfl rfl rfl rfl rfl (by kernel_rfl) Try.func6 (by kernel_rfl)
    (of_decide_eq_true (by kernel_rfl)) (by unfold Func.isWrapper; first | (rw [if_pos (by decide +kernel)]; kernel_rfl) | (rw [if_neg (by decide +kernel)]; exact ⟨rfl, rfl⟩))
    (fun os started H enc _ => lifted os started H enc)

/-- The statement. -/
theorem proved : Rows.PktHurtSaid := over
#print axioms proved
end Go.Proofs.Ytpmnmnflaijaaaa.pktHurt
