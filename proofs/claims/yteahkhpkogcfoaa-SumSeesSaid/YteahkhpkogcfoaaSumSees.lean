/-
  Proved: the statement 'Rows.SumSeesSaid': for every input the Go function transomlaw03.SumSees returns true, and each argument reads behind the call as it read before. Conditions: none of our own; those of the given row.
-/
import Derived.Test.YteahkhpkogcfoaaRows
import Derived.Test.YteahkhpkogcfoaaSumAlive
import Derived.Test.YteahkhpkogcfoaaSumMath2
import Derived.Deep.DeepCutAuto
import Derived.Laws.IdiomStrings
import Derived.BigQuiet
import Derived.Deep.QuietTactic
import Derived.WalkKit
import Derived.ProofKit
import Derived.OpenShut
import Derived.ShutString
import Derived.ChangeOld
import Derived.Below
namespace Go.Proofs.Yteahkhpkogcfoaa.sumSees
open Go.ChangeShapes Go.WideShapes Go.ChangeAt Go.RowKit
open Go.ChangeMaps (open_string shut_string)
open SumMath SumPlain SumWords SumOf SumAlive SumMath2
set_option linter.unusedVariables false

theorem own : ownKnob Try.prog.godebug = none := by kernel_rfl
theorem laidOut : laidOutB Try.prog = true := by kernel_rfl

/-- What '[]byte(s)' lays, and two bytes of it written. -/
theorem row_cells (w : World) (s : ByteArray) (cap : Nat) (T : TypeId) (m : Nat) (hm : s.size ≤ m) (j : Nat) (h : j < s.size) :
    (w.drew.alloc (.cells (bytesRow s cap) T (m, m + 1))).cell? ⟨w.heap.size, j, none⟩ = some (.int .u8 ((s[j].toNat : Nat) : Int)) ∧ (w.drew.alloc (.cells (bytesRow s cap) T (m, m + 1))).frozen? ⟨w.heap.size, j, none⟩ = false := by
  refine ⟨?_, ?_⟩
  · have h1 := World.cell?_alloc_mark w.drew (bytesRow s cap) T (m, m + 1) j
    have h2 := bytesRow_at s cap j h
    exact h1.trans h2
  · have h1 := World.frozen?_alloc_mark w.drew (bytesRow s cap) T m (m + 1) j
    refine Eq.trans h1 ?_
    have : ¬ m ≤ j := by omega
    simp [this]
/-- '[]byte(s)', its row behind a name. -/
theorem bytes_of (P : Program) (src dst e : TypeId) (hs : P.underlying src = some .string) (hd : P.underlying dst = some (.slice e)) (he : P.underlying e = some (.int .u8)) (S : ByteArray) (w : World) :
    ∃ cap w1, (convert src dst (.string S)).run P w = .ok (.slice (some ⟨w.heap.size, 0, none⟩) S.size cap) w1 ∧ (∀ j (h : j < S.size), w1.cell? ⟨w.heap.size, j, none⟩ = some (.int .u8 ((S[j].toNat : Nat) : Int)) ∧ w1.frozen? ⟨w.heap.size, j, none⟩ = false) ∧ Below w.heap.size w w1 := by
  refine ⟨_, _, run_bytes_of_string w src dst e S hs hd he, fun j h => ?_, ?_⟩
  · refine row_cells w S _ e _ ?_ j h
    unfold bytesRow
    simp only [Array.size_append, Array.size_map]
    show S.data.size ≤ _
    omega
  · exact ((Below.refl _ w).drew).alloc (Nat.le_refl _) _
/-- the row with two bytes written, as a string again -/
theorem back_of (P : Program) (src dst e : TypeId) (hs : P.underlying src = some (.slice e)) (he : P.underlying e = some (.int .u8)) (hd : P.underlying dst = some .string) (S : ByteArray) (k x y : Nat) (hk : k + 1 < S.size) (hx : x ≤ 255) (hy : y ≤ 255) :
    ∃ R : ByteArray, bz R = put2 (bz S) k x y ∧ R.size = S.size ∧ ∀ (B cap : Nat) (W : World), (∀ j (h : j < S.size), j ≠ k → j ≠ k + 1 → W.cell? ⟨B, j, none⟩ = some (.int .u8 ((S[j].toNat : Nat) : Int))) → W.cell? ⟨B, k, none⟩ = some (.int .u8 (x : Int)) → W.cell? ⟨B, k + 1, none⟩ = some (.int .u8 (y : Int)) →
      (convert src dst (.slice (some ⟨B, 0, none⟩) S.size cap)).run P W = .ok (.string R) W := by
  obtain ⟨l, hl⟩ : ∃ l, ((S.data.toList.set k (UInt8.ofNat x)).set (k + 1) (UInt8.ofNat y)) = l := ⟨_, rfl⟩
  have hlen : l.length = S.size := by rw [← hl, List.length_set, List.length_set, Array.length_toList]; rfl
  have hux : (UInt8.ofNat x).toNat = x := by simp; omega
  have huy : (UInt8.ofNat y).toNat = y := by simp; omega
  refine ⟨⟨l.toArray⟩, ?_, ?_, fun B cap W hc hcx hcy => ?_⟩
  · show l.toArray.toList.map UInt8.toNat = _
    rw [← hl]
    unfold put2 bz
    simp only [List.map_set, hux, huy]
  · show l.toArray.size = _
    simpa using hlen
  · have h := run_convert_bytes_back (P := P) W src dst e ⟨B, 0, none⟩ cap l hs he hd (fun j hj => by
      rw [Go.WideShapes.add_plain, Nat.zero_add]
      have hjs : j < S.size := by omega
      by_cases h1 : j = k
      · subst h1
        rw [hcx]
        have : l[j] = UInt8.ofNat x := by
          subst hl
          rw [List.getElem_set_ne (by omega), List.getElem_set_self]
        rw [this, hux]
      · by_cases h2 : j = k + 1
        · subst h2
          rw [hcy]
          have : l[k + 1] = UInt8.ofNat y := by
            subst hl
            rw [List.getElem_set_self]
          rw [this, huy]
        · rw [hc j hjs h1 h2]
          have : l[j] = S[j] := by
            subst hl
            rw [List.getElem_set_ne (by omega), List.getElem_set_ne (by omega)]
            rfl
          rw [this])
    rw [hlen] at h
    exact h
theorem below_dr2 {n : Nat} {A W : World} (h : Below n A W) (q : Nat) : Below n A (W.drewN q) := h.trans ⟨rfl, rfl, rfl, Nat.le_refl _, fun _ _ => rfl⟩
theorem beq_nat (a b : Nat) : (((a : Nat) : Int) == ((b : Nat) : Int)) = decide (a = b) := by
  by_cases h : a = b
  · subst h; simp
  · rw [decide_eq_false h]; simp; omega
theorem mod_dec (a b : Nat) : (((a : Int) % 65535) == ((b : Int) % 65535)) = decide (a % 65535 = b % 65535) := by
  have h1 : ((a : Int) % 65535) = ((a % 65535 : Nat) : Int) := by omega
  have h2 : ((b : Int) % 65535) = ((b % 65535 : Nat) : Int) := by omega
  rw [h1, h2, beq_nat]

/-! The walk: the Go text returns true, and writes nothing that was there. -/
set_option maxRecDepth 100000 in
set_option maxHeartbeats 8000000 in
theorem walk (a0 : ByteArray) (a1 : Int) (a2 : Int) (a3 : Int) (w : World) (w0 : a0.size ≤ maxLen) (w1 : (Lit.int .u16 a1).wf = true) (w2 : (Lit.int .u8 a2).wf = true) (w3 : (Lit.int .u8 a3).wf = true) :
    Calls Try.prog 6 #[.string a0, .int .u16 a1, .int .u8 a2, .int .u8 a3] w fun e w' => e = .returned (.bool true) ∧ Below w.heap.size w w' := by
  unfold maxLen at w0
  have ⟨b1, b1'⟩ := bounds_u16 w1
  have ⟨b2, b2'⟩ := bounds_u8 w2
  have ⟨b3, b3'⟩ := bounds_u8 w3
  obtain ⟨at_, rfl⟩ := Int.eq_ofNat_of_zero_le b1
  obtain ⟨x, rfl⟩ := Int.eq_ofNat_of_zero_le b2
  obtain ⟨y, rfl⟩ := Int.eq_ofNat_of_zero_le b3
  clear w1 w2 w3 b1 b2 b3
  by_cases hbig : 2048 < a0.size
  · go_enter Try.func6, Try.ntmps6
    go_wp2_with fail
    refine (alive_any _).mono ?_
    rintro e w' ⟨rfl, hb⟩
    have HB := Lib.hid hb
    clear hb
    go_wp2_with fail
    go_ret
    exact ⟨rfl, HB.out⟩
  · have hsz : a0.size ≤ 2048 := by omega
    go_enter Try.func6, Try.ntmps6
    go_upto_region 3 with (fail)
    go_cut [0] (fun s wx => ∃ (S : ByteArray) (h : Nat), s = .string S ∧ S.size = 2 * h ∧ h ≤ 1024 ∧ w = wx)
    case first =>
      go_wp2_with fail
      go_meet
      exact ⟨_, a0.size / 2, rfl, by rw [ByteArray.size_extract]; omega, by omega, rfl⟩
    case rest =>
      obtain ⟨S, h, rfl, hS, hh, rfl⟩ := hcut
      have HS := Lib.hid hS
      by_cases h0 : h = 0
      · have hz : S.size = 0 := by omega
        clear hS
        go_wp2_with fail
        refine (alive_any _).mono ?_
        rintro e w' ⟨rfl, hb⟩
        have HB := Lib.hid hb
        clear hb
        go_wp2_with fail
        go_ret
        exact ⟨rfl, HB.out⟩
      · have hne : (S.size : Int) ≠ 0 := by omega
        have hneb : ((S.size : Int) == 0) = false := beq_eq_false_iff_ne.2 (by omega)
        clear hS
        go_upto_region 6 with (fail)
        go_cut [9] (fun v wx => ∃ k : Nat, v = .int .i64 (2 * (k : Int)) ∧ k < h ∧ w = wx)
        case first =>
          have e1 : ((S.size : Int) / 2) = (h : Int) := by have := HS.out; omega
          go_wp2_with fail
          go_meet
          have e2 := Nat.mod_lt at_ (show 0 < h by omega)
          refine ⟨at_ % h, ?_, e2, rfl⟩
          rw [← Int.natCast_emod]
          generalize at_ % h = r at e2 ⊢
          congr 1
          unfold wrap64
          omega
        case rest =>
          obtain ⟨k, rfl, hk, rfl⟩ := hcut
          have i01 : 2 * k < S.size := by have := HS.out; omega
          have i02 : 2 * k + 1 < S.size := by have := HS.out; omega
          obtain ⟨cap, w1, hconv, hcells, hbel⟩ := bytes_of Try.prog 9 33 5 Try.underlying9 Try.underlying33 Try.underlying5 S w
          obtain ⟨R, hR, hRs, hback⟩ := back_of Try.prog 33 9 5 Try.underlying33 Try.underlying5 Try.underlying9 S (2 * k) x y (by omega) (by omega) (by omega)
          obtain ⟨B, hB⟩ : ∃ B, w.heap.size = B := ⟨_, rfl⟩
          rw [hB] at hconv hcells hbel
          obtain ⟨c0, f0⟩ := hcells (2 * k) (by omega)
          obtain ⟨c1, f1⟩ := hcells (2 * k + 1) (by omega)
          have HCL := Lib.hid hcells
          have HBL := Lib.hid hbel
          have HR := Lib.hid hR
          have HBK := Lib.hid hback
          have HBB := Lib.hid hB
          clear hcells hbel hR hback hB
          have i1 : (2 * (k : Int)) < (S.size : Int) := by omega
          have i2 : (2 * (k : Int)) + 1 < (S.size : Int) := by omega
          have hxs := byte_le S[2 * k]
          have hys := byte_le S[2 * k + 1]
          have hwat := wAt_two S (2 * k) (by omega)
          obtain ⟨p, hp⟩ : ∃ p, S[2 * k].toNat = p := ⟨_, rfl⟩
          obtain ⟨q, hq⟩ : ∃ q, S[2 * k + 1].toNat = q := ⟨_, rfl⟩
          rw [hp] at hxs hwat
          rw [hq] at hys hwat
          have HWAT := Lib.hid hwat
          clear hwat
          have i3 : (0 : Int) ≤ 2 * (k : Int) := by omega
          have i4 : (0 : Int) ≤ 2 * (k : Int) + 1 := by omega
          have i5 : (2 * (k : Int)).toNat = 2 * k := by omega
          have i6 : (2 * (k : Int) + 1).toNat = 2 * k + 1 := by omega
          go_upto_region 10 with (fail)
          obtain ⟨W2, hW2⟩ : ∃ W2, ((w1.setCell ⟨B, 2 * k, none⟩ (.int .u8 (x : Int))).setCell ⟨B, 2 * k + 1, none⟩ (.int .u8 (y : Int))) = W2 := ⟨_, rfl⟩
          rw [hW2]
          have HW2 : Hid ((∀ j (h : j < S.size), j ≠ 2 * k → j ≠ 2 * k + 1 → W2.cell? ⟨B, j, none⟩ = some (.int .u8 ((S[j].toNat : Nat) : Int))) ∧ W2.cell? ⟨B, 2 * k, none⟩ = some (.int .u8 (x : Int)) ∧ W2.cell? ⟨B, 2 * k + 1, none⟩ = some (.int .u8 (y : Int)) ∧ Below B w W2) := by
            subst hW2
            refine ⟨fun j hj h1 h2 => ?_, ?_, ?_, ?_⟩
            · rw [World.cell?_setCell_other _ _ _ _ (fun e => by injection e with _ e; omega), World.cell?_setCell_other _ _ _ _ (fun e => by injection e with _ e; omega)]
              exact (HCL.out j hj).1
            · rw [World.cell?_setCell_other _ _ _ _ (fun e => by injection e with _ e; omega)]
              exact World.cell?_setCell_same' _ _ _ (by rw [c0]; rfl)
            · exact World.cell?_setCell_same' _ _ _ (by rw [World.cell?_setCell_other _ _ _ _ (fun e => by injection e with _ e; omega), c1]; rfl)
            · exact (HBL.out.setCell (p := ⟨B, 2 * k, none⟩) (Nat.le_refl _) _).setCell (p := ⟨B, 2 * k + 1, none⟩) (Nat.le_refl _) _
          clear hW2 c0 f0 c1 f1 hconv
          go_cut [11] (fun u wx => u = .int .i64 ((p * 256 + q : Nat) : Int) ∧ ∃ d, wx = W2.drewN d)
          case first =>
            go_quiet (fail)
            go_wp2
            go_meet
            exact ⟨rfl, _, rfl⟩
          case rest =>
            obtain ⟨rfl, d, rfl⟩ := hcut
            obtain ⟨wa, hwa⟩ : ∃ wa, p * 256 + q = wa := ⟨_, rfl⟩
            obtain ⟨wb, hwb⟩ : ∃ wb, x * 256 + y = wb := ⟨_, rfl⟩
            have hwa2 : wa ≤ 65535 := by omega
            have hwb2 : wb ≤ 65535 := by omega
            have hxy : (x : Int) * 256 + (y : Int) = (wb : Int) := by omega
            rw [hwa]
            have HWA := Lib.hid hwa
            have HWB := Lib.hid hwb
            clear hwa hwb
            have hbz : (convert 33 9 (.slice (some ⟨B, 0, none⟩) S.size cap)).run Try.prog (W2.drewN d) = .ok (.string R) (W2.drewN d) := HBK.out B cap (W2.drewN d) HW2.out.1 HW2.out.2.1 HW2.out.2.2.1
            have HBW : Hid (Below w.heap.size w W2) := by rw [HBB.out]; exact HW2.out.2.2.2
            obtain ⟨c1, hc1⟩ : ∃ c1, cs (cat [R]) = c1 := ⟨_, rfl⟩
            obtain ⟨c2, hc2⟩ : ∃ c2, cs (cat [S]) = c2 := ⟨_, rfl⟩
            have HCMP : Hid (¬ (wa % 65535 = wb % 65535 ∧ wa ≠ wb) → (((c1 : Nat) : Int) == ((c2 : Nat) : Int)) = decide (wa % 65535 = wb % 65535)) := by
              intro hno
              have e1 : cat [R] = put2 (bz S) (2 * k) x y := by rw [← HR.out]; simp [cat]
              have e2 : cat [S] = bz S := by simp [cat]
              have h1 := sees (l := bz S) (k := 2 * k) (a := x) (b := y) (by omega) (by rw [bz_len]; omega) (by rw [HWAT.out, HWA.out, HWB.out]; exact hno)
              rw [HWAT.out, HWA.out, HWB.out, ← e1, hc1] at h1
              rw [e2] at hc2
              rw [hc2] at h1
              rw [beq_nat]
              exact h1
            have HCR := Lib.hid hc1
            have HCS := Lib.hid hc2
            clear hc1 hc2
            have hmd := mod_dec wa wb
            have hbn := beq_nat wa wb
            by_cases hsame : wa % 65535 = wb % 65535
            · rw [decide_eq_true hsame] at hmd
              by_cases heq : wa = wb
              · rw [decide_eq_true heq] at hbn
                have hcmp := HCMP.out (fun h => h.2 heq)
                rw [decide_eq_true hsame] at hcmp
                go_wp2_with fail
                refine (of_any _ _ _ _ _ (strs1 _ R _) (by omega) (by intro z hz; simp at hz; rw [hz]; have := HS.out; omega)).mono ?_
                rintro e w3 ⟨rfl, hb3⟩
                rw [HCR.out]
                have HB3 := Lib.hid (Below.trans (below_dr2 HBW.out d) ((((Below.refl _ (W2.drewN d)).alloc (Nat.le_refl _) _).trans (hb3.mono (by simp))).mono (below_dr2 HBW.out d).size))
                clear hb3
                go_wp2_with fail
                refine (of_any _ _ _ _ _ (strs1 _ S _) (by omega) (by intro z hz; simp at hz; rw [hz]; have := HS.out; omega)).mono ?_
                rintro e w4 ⟨rfl, hb4⟩
                rw [HCS.out]
                have HB4 := Lib.hid (st_call (st_alloc HB3.out _) hb4)
                clear hb4
                go_wp2_with fail
                refine (alive_any _).mono ?_
                rintro e w5 ⟨rfl, hb5⟩
                have HB5 := Lib.hid (st_call HB4.out hb5)
                clear hb5
                go_wp2_with fail
                go_ret
                exact ⟨rfl, HB5.out⟩
              · rw [decide_eq_false heq] at hbn
                go_wp2_with fail
                refine (alive_any _).mono ?_
                rintro e w5 ⟨rfl, hb5⟩
                have HB5 := Lib.hid (st_call (below_dr2 HBW.out d) hb5)
                clear hb5
                go_wp2_with fail
                go_ret
                exact ⟨rfl, HB5.out⟩
            · rw [decide_eq_false hsame] at hmd
              have hcmp := HCMP.out (fun h => hsame h.1)
              rw [decide_eq_false hsame] at hcmp
              go_wp2_with fail
              refine (of_any _ _ _ _ _ (strs1 _ R _) (by omega) (by intro z hz; simp at hz; rw [hz]; have := HS.out; omega)).mono ?_
              rintro e w3 ⟨rfl, hb3⟩
              rw [HCR.out]
              have HB3 := Lib.hid (Below.trans (below_dr2 HBW.out d) ((((Below.refl _ (W2.drewN d)).alloc (Nat.le_refl _) _).trans (hb3.mono (by simp))).mono (below_dr2 HBW.out d).size))
              clear hb3
              go_wp2_with fail
              refine (of_any _ _ _ _ _ (strs1 _ S _) (by omega) (by intro z hz; simp at hz; rw [hz]; have := HS.out; omega)).mono ?_
              rintro e w4 ⟨rfl, hb4⟩
              rw [HCS.out]
              have HB4 := Lib.hid (st_call (st_alloc HB3.out _) hb4)
              clear hb4
              go_wp2_with fail
              refine (alive_any _).mono ?_
              rintro e w5 ⟨rfl, hb5⟩
              have HB5 := Lib.hid (st_call HB4.out hb5)
              clear hb5
              go_wp2_with fail
              go_ret
              exact ⟨rfl, HB5.out⟩

/-! The row's step, after the guide's own way. -/
set_option maxRecDepth 100000 in
theorem lifted (os : Os) (started : os.Started) (H : Type) (enc : TypeId × Value → H) :
    ReturnsInHanded {} Try.checked os 6 .any (Rows.sumSeesSpec.pre6 enc Try.prog Try.f6 Rows.sumSeesRow.domain false) (Rows.sumSeesSpec.post enc Try.prog Try.f6 false true false false) := by
  refine returnsInHanded_of_change (C := Try.checked) own started (by kernel_rfl) Try.func6
    (ChangeSpec.witness6 (enc := enc) (C := Try.checked) false ⟨#[], #[.string ByteArray.empty, .int .u16 0, .int .u8 0, .int .u8 0], []⟩ 8 (by kernel_rfl) (by kernel_rfl) (by kernel_rfl) (by kernel_rfl)) ?_
  intro W base args ds gs before hval0 hW hcnd _
  have hval : ∀ (j : Nat) t v, Try.f6.params[j]? = some t → args[j]? = some v → Value.okWide Try.prog W .any base t v := hval0
  have hW' := hW
  obtain ⟨p, q, hA0, hV, rfl, hfz, hnd⟩ := hW
  have hA : DataW.TrodAll enc Try.prog W 0 (fun _ => true) true Try.f6.params.toList args.toList ds p := hA0
  rw [Try.params6] at hA hval
  obtain ⟨v0, vs0, d0, ds0, p0, q0, hargs, rfl, rfl, h0, r0⟩ := trodAll_cons hA
  obtain ⟨v1, vs1, d1, ds1, p1, q1, rfl, rfl, rfl, h1, r1⟩ := trodAll_cons r0
  obtain ⟨v2, vs2, d2, ds2, p2, q2, rfl, rfl, rfl, h2, r2⟩ := trodAll_cons r1
  obtain ⟨v3, vs3, d3, ds3, p3, q3, rfl, rfl, rfl, h3, r3⟩ := trodAll_cons r2
  obtain ⟨rfl, rfl, rfl⟩ := trodAll_nil r3
  obtain rfl : args = #[v0, v1, v2, v3] := by cases args; simp_all
  obtain ⟨rfl, rfl⟩ := trodVars_none hV
  have k0 := h0
  have lt0 : ∀ x ∈ p0, x.block < W.heap.size := by obtain ⟨m, hm⟩ := k0; exact DataW.trod_lt m _ _ _ hm
  obtain ⟨a0, rfl, _, _, w0⟩ := open_string Try.underlying9 (hval 0 9 v0 rfl rfl) h0
  have k1 := h1
  have lt1 : ∀ x ∈ p1, x.block < W.heap.size := by obtain ⟨m, hm⟩ := k1; exact DataW.trod_lt m _ _ _ hm
  obtain ⟨a1, rfl, _, _, w1⟩ := open_int Try.underlying23 (hval 1 23 v1 rfl rfl) h1
  have k2 := h2
  have lt2 : ∀ x ∈ p2, x.block < W.heap.size := by obtain ⟨m, hm⟩ := k2; exact DataW.trod_lt m _ _ _ hm
  obtain ⟨a2, rfl, _, _, w2⟩ := open_int Try.underlying5 (hval 2 5 v2 rfl rfl) h2
  have k3 := h3
  have lt3 : ∀ x ∈ p3, x.block < W.heap.size := by obtain ⟨m, hm⟩ := k3; exact DataW.trod_lt m _ _ _ hm
  obtain ⟨a3, rfl, _, _, w3⟩ := open_int Try.underlying5 (hval 3 5 v3 rfl rfl) h3
  clear hA0 hval0
  refine (walk a0 a1 a2 a3 W w0 w1 w2 w3).mono fun e W' ⟨he, bel⟩ => ?_
  subst he
  exact ⟨_, rfl, _, _, _, [], _, [], hW', trodAll_mk1 (shut_bool Try.underlying4 _), (trodAll_cons_mk (Below.trod laidOut (by kernel_rfl) (of_decide_eq_true (by kernel_rfl)) k0 bel lt0) (trodAll_cons_mk (Below.trod laidOut (by kernel_rfl) (of_decide_eq_true (by kernel_rfl)) k1 bel lt1) (trodAll_cons_mk (Below.trod laidOut (by kernel_rfl) (of_decide_eq_true (by kernel_rfl)) k2 bel lt2) (trodAll_cons_mk (Below.trod laidOut (by kernel_rfl) (of_decide_eq_true (by kernel_rfl)) k3 bel lt3) trodAll_mk0)))), rfl, bel.frame _, fun h => by cases h⟩

theorem over : Rows.sumSeesRow.holds Try.pinned (OpenSpec.ofChange Rows.sumSeesSpec) :=
  OpenClaim.holds_of_wide 6 Try.f6 rfl rfl rfl rfl rfl rfl rfl ⟨rfl, rfl, rfl, rfl, rfl⟩ rfl rfl rfl rfl rfl (by kernel_rfl) Try.func6 (by kernel_rfl)
    (of_decide_eq_true (by kernel_rfl)) (by unfold Func.isWrapper; first | (rw [if_pos (by decide +kernel)]; kernel_rfl) | (rw [if_neg (by decide +kernel)]; exact ⟨rfl, rfl⟩))
    (fun os started H enc _ => lifted os started H enc)

/-- The statement. -/
theorem proved : Rows.SumSeesSaid := over
#print axioms proved
end Go.Proofs.Yteahkhpkogcfoaa.sumSees
