/-
  Proved: the statement 'Rows.SumTellsSaid': for every input the Go function transomlaw03.SumTells returns true, and each argument reads behind the call as it read before. Conditions: none of our own; those of the given row.
-/
import Derived.Test.YteahkhpkogcfoaaRows
import Derived.Test.YteahkhpkogcfoaaSumOpen
import Derived.Test.YteahkhpkogcfoaaSumAlive
import Derived.Test.YteahkhpkogcfoaaSumMath2
import Derived.Deep.LoopGhost
import Derived.WalkKit
import Derived.ProofKit
import Derived.OpenShut
import Derived.ShutString
import Derived.ChangeOld
import Derived.Below
namespace Go.Proofs.Yteahkhpkogcfoaa.sumTells
open Go.ChangeShapes Go.WideShapes Go.ChangeAt Go.RowKit
open Go.ChangeMaps (open_string shut_string)
open SumMath SumPlain SumWords SumOf SumTurnsC SumAlive SumMath2
set_option linter.unusedVariables false

theorem own : ownKnob Try.prog.godebug = none := by kernel_rfl
theorem laidOut : laidOutB Try.prog = true := by kernel_rfl

theorem below_dr2 {n : Nat} {A W : World} (h : Below n A W) (q : Nat) : Below n A (W.drewN q) := h.trans ⟨rfl, rfl, rfl, Nat.le_refl _, fun _ _ => rfl⟩
theorem bz_append (s t : ByteArray) : bz (s ++ t) = bz s ++ bz t := by
  unfold bz
  rw [ByteArray.data_append, Array.toList_append, List.map_append]

/-! The walk: the Go text returns true, and writes nothing that was there. -/
set_option maxRecDepth 100000 in
set_option maxHeartbeats 8000000 in
theorem walk (A0 : Option Addr) (n0 : Nat) (c0 : Nat) (L0 : List ByteArray) (a1 : Int) (a2 : Int) (a3 : Int) (a4 : ByteArray) (a5 : ByteArray) (w : World) (s0 : SumWords.StrR w w.heap.size A0 n0 L0) (m0 : n0 ≤ maxLen) (g0 : ∀ s ∈ L0, s.size ≤ maxLen) (w1 : (Lit.int .u16 a1).wf = true) (w2 : (Lit.int .u16 a2).wf = true) (w3 : (Lit.int .u16 a3).wf = true) (w4 : a4.size ≤ maxLen) (w5 : a5.size ≤ maxLen) :
    Calls Try.prog 3 #[.slice A0 n0 c0, .int .u16 a1, .int .u16 a2, .int .u16 a3, .string a4, .string a5] w fun e w' => e = .returned (.bool true) ∧ Below w.heap.size w w' := by
  unfold maxLen at m0 g0 w4 w5
  have ⟨b1, b1'⟩ := bounds_u16 w1
  have ⟨b2, b2'⟩ := bounds_u16 w2
  have ⟨b3, b3'⟩ := bounds_u16 w3
  obtain ⟨a, rfl⟩ := Int.eq_ofNat_of_zero_le b1
  obtain ⟨was, rfl⟩ := Int.eq_ofNat_of_zero_le b2
  obtain ⟨now, rfl⟩ := Int.eq_ofNat_of_zero_le b3
  clear w1 w2 w3 b1 b2 b3
  have S0 := Lib.hid s0
  clear s0
  by_cases h60 : 60 < n0
  · go_enter Try.func3, Try.ntmps3
    go_wp2_with fail
    refine (alive_any _).mono ?_
    rintro e w' ⟨rfl, hb⟩
    have HB := Lib.hid hb
    clear hb
    go_wp2_with fail
    go_ret
    exact ⟨rfl, HB.out⟩
  · by_cases hx : 2048 < a4.size
    · go_enter Try.func3, Try.ntmps3
      go_wp2_with fail
      refine (alive_any _).mono ?_
      rintro e w' ⟨rfl, hb⟩
      have HB := Lib.hid hb
      clear hb
      go_wp2_with fail
      go_ret
      exact ⟨rfl, HB.out⟩
    · by_cases hy : 2048 < a5.size
      · go_enter Try.func3, Try.ntmps3
        go_wp2_with fail
        refine (alive_any _).mono ?_
        rintro e w' ⟨rfl, hb⟩
        have HB := Lib.hid hb
        clear hb
        go_wp2_with fail
        go_ret
        exact ⟨rfl, HB.out⟩
      · go_enter Try.func3, Try.ntmps3
        go_wp2_with fail
        go_loopg [13, 14] n0 (fun g s i wr => ∃ (k : Nat) (S : ByteArray), k ≤ n0 ∧ g = n0 - k ∧ i = .int .i64 (k : Int) ∧ s = .string S ∧ bz S = cat (L0.take k) ∧ S.size ≤ 512 * k ∧ (∀ z ∈ L0.take k, z.size ≤ 512) ∧ w = wr)
        case atStart => exact ⟨0, ByteArray.empty, Nat.zero_le _, rfl, rfl, rfl, rfl, by simp, by simp, rfl⟩
        case round =>
          obtain ⟨k, S, hk, hg, rfl, rfl, hS, hSz, hall, rfl⟩ := hrel
          have HG := Lib.hid hg
          have HS := Lib.hid hS
          have HA := Lib.hid hall
          clear hg hS hall
          by_cases hlt : k < n0
          · obtain ⟨b, off, rfl, hb, hc⟩ := S0.out.at_ hlt
            have hkl : k < L0.length := by have := S0.out.len; omega
            have hcx := hc k hkl
            have e1 := cat_take L0 k hkl
            have e2 : L0.take (k + 1) = L0.take k ++ [L0[k]] := List.take_succ_eq_append_getElem hkl
            obtain ⟨t, ht⟩ : ∃ t, L0[k] = t := ⟨_, rfl⟩
            rw [ht] at hcx e1 e2
            have E1 := Lib.hid e1
            have E2 := Lib.hid e2
            clear hc ht e1 e2
            by_cases h512 : 512 < t.size
            · go_wp2_with fail
              refine (alive_any _).mono ?_
              rintro e w' ⟨rfl, hb⟩
              have HB := Lib.hid hb
              clear hb
              go_wp2_with fail
              go_ret
              exact ⟨rfl, HB.out⟩
            · have hsum : S.size + t.size ≤ 9223372036854775807 := by omega
              go_wp2_with fail
              go_roundg (n0 - (k + 1))
              case measure => have := HG.out; omega
              case rel => exact ⟨k + 1, S ++ t, by omega, rfl, by go_num, rfl, by rw [bz_append, HS.out, E1.out], by rw [ByteArray.size_append]; omega, by
                rw [E2.out]
                intro z hz
                rcases List.mem_append.1 hz with hz | hz
                · exact HA.out z hz
                · simp at hz
                  rw [hz]
                  omega, rfl⟩
          · have hkn : k = n0 := by omega
            have hL : L0.take k = L0 := List.take_of_length_le (by have := S0.out.len; omega)
            have hcS : bz S = cat L0 := by rw [HS.out, hL]
            have hsz : ∀ z ∈ L0, z.size ≤ 100000000 := by
              intro z hz
              have := HA.out z (by rw [hL]; exact hz)
              omega
            have hof := fun W (h : StrR W W.heap.size A0 n0 L0) => of_any A0 n0 c0 L0 W h (by omega) hsz
            have hri := fun W (h : StrR W W.heap.size A0 n0 L0) => right_any A0 n0 c0 L0 W h (by omega) hsz
            have hre := fun W => ofR_any S W (by omega)
            rw [hcS] at hre
            obtain ⟨c, hc⟩ : ∃ c, cs (cat L0) = c := ⟨_, rfl⟩
            rw [hc] at hof hri hre
            have hzz := zero16 c
            obtain ⟨bb, hbb⟩ : ∃ bb, decide (c = 0) = bb := ⟨_, rfl⟩
            rw [hbb] at hri hzz
            have HOF := Lib.hid hof
            have HRI := Lib.hid hri
            have HRE := Lib.hid hre
            have hjo := fun W => join_any a was W (by omega) (by omega)
            have hjr := fun W => joinR_any a was W (by omega) (by omega)
            obtain ⟨j, hj⟩ : ∃ j, jo a was = j := ⟨_, rfl⟩
            rw [hj] at hjo hjr
            have HJO := Lib.hid hjo
            have HJR := Lib.hid hjr
            have htu := fun W => turn_any a was now W (by omega) (by omega) (by omega)
            have htr := fun W => turnR_any a was now W (by omega) (by omega) (by omega)
            obtain ⟨t, ht⟩ : ∃ t, tu a was now = t := ⟨_, rfl⟩
            rw [ht] at htu htr
            have HTU := Lib.hid htu
            have HTR := Lib.hid htr
            have hts := fun W => turns_any a a4 a5 W (by omega) (by omega) (by omega)
            have htsr := fun W => turnsR_any a a4 a5 W (by omega) (by omega) (by omega)
            obtain ⟨u, hu⟩ : ∃ u, tus a ((bz a4).take (min a4.size a5.size)) ((bz a5).take (min a4.size a5.size)) ((min a4.size a5.size + 1) / 2) = u := ⟨_, rfl⟩
            rw [hu] at hts htsr
            have HTS := Lib.hid hts
            have HTSR := Lib.hid htsr
            clear hof hri hre hjo hjr htu htr hts htsr hcS hL hsz hc hbb hj ht hu
            go_wp2_with fail
            refine (HOF.out _ (by exact S0.out)).mono ?_
            rintro e wa ⟨rfl, hb⟩
            have HB1 := Lib.hid hb
            clear hb
            go_wp2_with fail
            refine (HRE.out _).mono ?_
            rintro e w' ⟨rfl, rfl⟩
            go_wp2_with fail
            refine (HRI.out _ (by exact strs_more S0.out HB1.out)).mono ?_
            rintro e wb ⟨rfl, hb⟩
            have HB2 := Lib.hid (st_call HB1.out hb)
            clear hb
            go_wp2_with fail
            refine (HRE.out _).mono ?_
            rintro e w' ⟨rfl, rfl⟩
            go_wp2_with fail
            refine (HJO.out _).mono ?_
            rintro e w' ⟨rfl, rfl⟩
            go_wp2_with fail
            refine (HJR.out _).mono ?_
            rintro e w' ⟨rfl, rfl⟩
            go_wp2_with fail
            refine (HTU.out _).mono ?_
            rintro e w' ⟨rfl, rfl⟩
            go_wp2_with fail
            refine (HTR.out _).mono ?_
            rintro e w' ⟨rfl, rfl⟩
            go_wp2_with fail
            refine (HTS.out _).mono ?_
            rintro e wd ⟨rfl, hb⟩
            have HB3 := Lib.hid (st_call HB2.out hb)
            clear hb
            go_wp2_with fail
            refine (HTSR.out _).mono ?_
            rintro e w' ⟨rfl, q, rfl⟩
            have HB4 := Lib.hid (below_dr2 HB3.out q)
            go_wp2_with fail
            refine (alive_any _).mono ?_
            rintro e we ⟨rfl, hb⟩
            have HB5 := Lib.hid (st_call HB4.out hb)
            clear hb
            go_wp2_with fail
            go_ret
            exact ⟨rfl, HB5.out⟩

/-! The row's step, after the guide's own way. -/
set_option maxRecDepth 100000 in
theorem lifted (os : Os) (started : os.Started) (H : Type) (enc : TypeId × Value → H) :
    ReturnsInHanded {} Try.checked os 3 .any (Rows.sumTellsSpec.pre6 enc Try.prog Try.f3 Rows.sumTellsRow.domain false) (Rows.sumTellsSpec.post enc Try.prog Try.f3 false true false false) := by
  refine returnsInHanded_of_change (C := Try.checked) own started (by kernel_rfl) Try.func3
    (ChangeSpec.witness6 (enc := enc) (C := Try.checked) false ⟨#[], #[.slice none 0 0, .int .u16 0, .int .u16 0, .int .u16 0, .string ByteArray.empty, .string ByteArray.empty], []⟩ 8 (by kernel_rfl) (by kernel_rfl) (by kernel_rfl) (by kernel_rfl)) ?_
  intro W base args ds gs before hval0 hW hcnd _
  have hval : ∀ (j : Nat) t v, Try.f3.params[j]? = some t → args[j]? = some v → Value.okWide Try.prog W .any base t v := hval0
  have hW' := hW
  obtain ⟨p, q, hA0, hV, rfl, hfz, hnd⟩ := hW
  have hA : DataW.TrodAll enc Try.prog W 0 (fun _ => true) true Try.f3.params.toList args.toList ds p := hA0
  rw [Try.params3] at hA hval
  obtain ⟨v0, vs0, d0, ds0, p0, q0, hargs, rfl, rfl, h0, r0⟩ := trodAll_cons hA
  obtain ⟨v1, vs1, d1, ds1, p1, q1, rfl, rfl, rfl, h1, r1⟩ := trodAll_cons r0
  obtain ⟨v2, vs2, d2, ds2, p2, q2, rfl, rfl, rfl, h2, r2⟩ := trodAll_cons r1
  obtain ⟨v3, vs3, d3, ds3, p3, q3, rfl, rfl, rfl, h3, r3⟩ := trodAll_cons r2
  obtain ⟨v4, vs4, d4, ds4, p4, q4, rfl, rfl, rfl, h4, r4⟩ := trodAll_cons r3
  obtain ⟨v5, vs5, d5, ds5, p5, q5, rfl, rfl, rfl, h5, r5⟩ := trodAll_cons r4
  obtain ⟨rfl, rfl, rfl⟩ := trodAll_nil r5
  obtain rfl : args = #[v0, v1, v2, v3, v4, v5] := by cases args; simp_all
  obtain ⟨rfl, rfl⟩ := trodVars_none hV
  have k0 := h0
  have lt0 : ∀ x ∈ p0, x.block < W.heap.size := by obtain ⟨m, hm⟩ := k0; exact DataW.trod_lt m _ _ _ hm
  obtain ⟨A0, n0, c0, rfl⟩ := okWide_slice Try.underlying22 (hval 0 22 v0 rfl rfl)
  obtain ⟨L0, s0, m0, g0⟩ : ∃ L, SumWords.StrR W W.heap.size A0 n0 L ∧ n0 ≤ maxLen ∧ ∀ s ∈ L, s.size ≤ maxLen := by obtain ⟨fuel, hf⟩ := h0; exact SumOpen.open_strs (by simpa [Value.cells] using hf)
  have k1 := h1
  have lt1 : ∀ x ∈ p1, x.block < W.heap.size := by obtain ⟨m, hm⟩ := k1; exact DataW.trod_lt m _ _ _ hm
  obtain ⟨a1, rfl, _, _, w1⟩ := open_int Try.underlying23 (hval 1 23 v1 rfl rfl) h1
  have k2 := h2
  have lt2 : ∀ x ∈ p2, x.block < W.heap.size := by obtain ⟨m, hm⟩ := k2; exact DataW.trod_lt m _ _ _ hm
  obtain ⟨a2, rfl, _, _, w2⟩ := open_int Try.underlying23 (hval 2 23 v2 rfl rfl) h2
  have k3 := h3
  have lt3 : ∀ x ∈ p3, x.block < W.heap.size := by obtain ⟨m, hm⟩ := k3; exact DataW.trod_lt m _ _ _ hm
  obtain ⟨a3, rfl, _, _, w3⟩ := open_int Try.underlying23 (hval 3 23 v3 rfl rfl) h3
  have k4 := h4
  have lt4 : ∀ x ∈ p4, x.block < W.heap.size := by obtain ⟨m, hm⟩ := k4; exact DataW.trod_lt m _ _ _ hm
  obtain ⟨a4, rfl, _, _, w4⟩ := open_string Try.underlying9 (hval 4 9 v4 rfl rfl) h4
  have k5 := h5
  have lt5 : ∀ x ∈ p5, x.block < W.heap.size := by obtain ⟨m, hm⟩ := k5; exact DataW.trod_lt m _ _ _ hm
  obtain ⟨a5, rfl, _, _, w5⟩ := open_string Try.underlying9 (hval 5 9 v5 rfl rfl) h5
  clear hA0 hval0
  refine (walk A0 n0 c0 L0 a1 a2 a3 a4 a5 W s0 m0 g0 w1 w2 w3 w4 w5).mono fun e W' ⟨he, bel⟩ => ?_
  subst he
  exact ⟨_, rfl, _, _, _, [], _, [], hW', trodAll_mk1 (shut_bool Try.underlying4 _), (trodAll_cons_mk (Below.trod laidOut (by kernel_rfl) (of_decide_eq_true (by kernel_rfl)) k0 bel lt0) (trodAll_cons_mk (Below.trod laidOut (by kernel_rfl) (of_decide_eq_true (by kernel_rfl)) k1 bel lt1) (trodAll_cons_mk (Below.trod laidOut (by kernel_rfl) (of_decide_eq_true (by kernel_rfl)) k2 bel lt2) (trodAll_cons_mk (Below.trod laidOut (by kernel_rfl) (of_decide_eq_true (by kernel_rfl)) k3 bel lt3) (trodAll_cons_mk (Below.trod laidOut (by kernel_rfl) (of_decide_eq_true (by kernel_rfl)) k4 bel lt4) (trodAll_cons_mk (Below.trod laidOut (by kernel_rfl) (of_decide_eq_true (by kernel_rfl)) k5 bel lt5) trodAll_mk0)))))), rfl, bel.frame _, fun h => by cases h⟩

theorem over : Rows.sumTellsRow.holds Try.pinned (OpenSpec.ofChange Rows.sumTellsSpec) :=
  OpenClaim.holds_of_wide 3 Try.f3 rfl rfl rfl rfl rfl rfl rfl ⟨rfl, rfl, rfl, rfl, rfl⟩ rfl rfl rfl rfl rfl (by kernel_rfl) Try.func3 (by kernel_rfl)
    (of_decide_eq_true (by kernel_rfl)) (by unfold Func.isWrapper; first | (rw [if_pos (by decide +kernel)]; kernel_rfl) | (rw [if_neg (by decide +kernel)]; exact ⟨rfl, rfl⟩))
    (fun os started H enc _ => lifted os started H enc)

/-- The statement. -/
theorem proved : Rows.SumTellsSaid := over
#print axioms proved
end Go.Proofs.Yteahkhpkogcfoaa.sumTells
