/-
  Proved: the statement 'Rows.SumPartsSaid': for every input the Go function transomlaw03.SumParts returns true, and each argument reads behind the call as it read before. Conditions: none of our own; those of the given row.
-/
import Derived.Test.YteahkhpkogcfoaaRows
import Derived.Test.YteahkhpkogcfoaaSumAlive
import Derived.Test.YteahkhpkogcfoaaSumMath2
import Derived.Deep.DeepCutAuto
import Derived.Deep.RegionHeld3
import Derived.Laws.IdiomStrings
import Derived.WalkKit
import Derived.ProofKit
import Derived.OpenShut
import Derived.ShutString
import Derived.ChangeOld
import Derived.Below
namespace Go.Proofs.Yteahkhpkogcfoaa.sumParts
open Go.ChangeShapes Go.WideShapes Go.ChangeAt Go.RowKit
open Go.ChangeMaps (open_string shut_string)
open SumMath SumPlain SumWords SumOf SumTurnsC SumAlive SumMath2
set_option linter.unusedVariables false

theorem own : ownKnob Try.prog.godebug = none := by kernel_rfl
theorem laidOut : laidOutB Try.prog = true := by kernel_rfl

theorem below_dr2 {n : Nat} {A W : World} (h : Below n A W) (q : Nat) : Below n A (W.drewN q) := h.trans ⟨rfl, rfl, rfl, Nat.le_refl _, fun _ _ => rfl⟩
theorem bz_append (s t : ByteArray) : bz (s ++ t) = bz s ++ bz t := by
  unfold bz
  rw [ByteArray.data_append, Array.toList_append, List.map_append]
theorem bz_cut (s : ByteArray) (k : Nat) (h : k ≤ s.size) : bz (s.extract 0 k) ++ bz (s.extract k s.size) = bz s := by
  rw [bz_extract s 0 k h, bz_extract s k s.size (Nat.le_refl _), List.drop_zero, List.take_of_length_le (l := bz s) (i := s.size) (by rw [bz_len]; exact Nat.le_refl _), List.take_append_drop]
theorem bne_nat (a : Nat) : (((a : Nat) : Int) != ((a : Nat) : Int)) = false := by simp
theorem strs2e (W : World) (s t : ByteArray) (T : TypeId) (B : Nat) (hB : W.heap.size = B) : StrR (W.alloc (.cells #[.string s, .string t] T)) (W.alloc (.cells #[.string s, .string t] T)).heap.size (some ⟨B, 0, none⟩) 2 [s, t] := by
  subst hB
  exact strs2 W s t T
theorem strs3e (W : World) (s t u : ByteArray) (T : TypeId) (B : Nat) (hB : W.heap.size = B) : StrR (W.alloc (.cells #[.string s, .string t, .string u] T)) (W.alloc (.cells #[.string s, .string t, .string u] T)).heap.size (some ⟨B, 0, none⟩) 3 [s, t, u] := by
  subst hB
  exact strs3 W s t u T
theorem sz1 {s : ByteArray} (h : s.size ≤ 100000000) : ∀ z ∈ [s], z.size ≤ 100000000 := by
  intro z hz; simp at hz; rw [hz]; exact h
theorem sz2 {s t : ByteArray} (h : s.size ≤ 100000000) (h' : t.size ≤ 100000000) : ∀ z ∈ [s, t], z.size ≤ 100000000 := by
  intro z hz
  rcases List.mem_cons.1 hz with hz | hz
  · rw [hz]; exact h
  · exact sz1 h' z hz
theorem sz3 {s t u : ByteArray} (h : s.size ≤ 100000000) (h' : t.size ≤ 100000000) (h'' : u.size ≤ 100000000) : ∀ z ∈ [s, t, u], z.size ≤ 100000000 := by
  intro z hz
  rcases List.mem_cons.1 hz with hz | hz
  · rw [hz]; exact h
  · exact sz2 h' h'' z hz
theorem two_back (P : Program) (src dst e : TypeId) (hs : P.underlying src = some (.slice e)) (he : P.underlying e = some (.int .u8)) (hd : P.underlying dst = some .string) (c : Nat) (hc : c / 256 ≤ 255) (w : World) (T : TypeId) :
    ∃ R : ByteArray, bz R = [c / 256, c % 256] ∧ R.size = 2 ∧ (convert src dst (.slice (some ⟨w.heap.size, 0, none⟩) 2 2)).run P (w.alloc (.cells #[.int .u8 ((c : Int) / 256), .int .u8 ((c : Int) % 256)] T)) = .ok (.string R) (w.alloc (.cells #[.int .u8 ((c : Int) / 256), .int .u8 ((c : Int) % 256)] T)) := by
  have h1 : (UInt8.ofNat (c / 256)).toNat = c / 256 := by simp; omega
  have h2 : (UInt8.ofNat (c % 256)).toNat = c % 256 := by simp
  refine ⟨⟨[UInt8.ofNat (c / 256), UInt8.ofNat (c % 256)].toArray⟩, ?_, rfl, ?_⟩
  · show [(UInt8.ofNat (c / 256)).toNat, (UInt8.ofNat (c % 256)).toNat] = _
    rw [h1, h2]
  · exact run_convert_bytes_back (P := P) (w.alloc (.cells #[.int .u8 ((c : Int) / 256), .int .u8 ((c : Int) % 256)] T)) src dst e ⟨w.heap.size, 0, none⟩ 2 [UInt8.ofNat (c / 256), UInt8.ofNat (c % 256)] hs he hd (fun j hj => by
      rw [Go.WideShapes.add_plain, Nat.zero_add]
      match j, hj with
      | 0, _ =>
        show _ = some (Value.int .u8 (((UInt8.ofNat (c / 256)).toNat : Nat) : Int))
        rw [h1]
        simp
      | 1, _ =>
        show _ = some (Value.int .u8 (((UInt8.ofNat (c % 256)).toNat : Nat) : Int))
        rw [h2]
        simp)

/-! The walk: the Go text returns true, and writes nothing that was there. -/
set_option maxRecDepth 100000 in
set_option maxHeartbeats 8000000 in
theorem walk (a0 : ByteArray) (a1 : Int) (w : World) (w0 : a0.size ≤ maxLen) (w1 : (Lit.int .u16 a1).wf = true) :
    Calls Try.prog 4 #[.string a0, .int .u16 a1] w fun e w' => e = .returned (.bool true) ∧ Below w.heap.size w w' := by
  unfold maxLen at w0
  have ⟨b1, b1'⟩ := bounds_u16 w1
  obtain ⟨at_, rfl⟩ := Int.eq_ofNat_of_zero_le b1
  clear w1 b1
  by_cases hbig : 4096 < a0.size
  · go_enter Try.func4, Try.ntmps4
    go_wp2_with fail
    refine (alive_any _).mono ?_
    rintro e w' ⟨rfl, hb⟩
    have HB := Lib.hid hb
    clear hb
    go_wp2_with fail
    go_ret
    exact ⟨rfl, HB.out⟩
  · have hsz : a0.size ≤ 4096 := by omega
    obtain ⟨c, hc⟩ : ∃ c, cs (bz a0) = c := ⟨_, rfl⟩
    have hcle : c ≤ 65535 := by rw [← hc]; exact cs_le _
    have HC := Lib.hid hc
    clear hc
    go_enter Try.func4, Try.ntmps4
    have hne : (a0.size : Int) + 1 ≠ 0 := by omega
    go_upto_region 3 with (fail)
    go_cut [5] (fun v wx => ∃ k : Nat, v = .int .i64 (k : Int) ∧ k ≤ a0.size ∧ w = wx)
    case first =>
      go_wp2_with fail
      go_meet
      have e2 := Nat.mod_lt at_ (show 0 < a0.size + 1 by omega)
      refine ⟨at_ % (a0.size + 1), ?_, by omega, rfl⟩
      rw [Int.natCast_emod]
      rfl
    case rest =>
      obtain ⟨k, rfl, hk, rfl⟩ := hcut
      have V1 := Lib.hid (show cs (cat [a0]) = c by rw [← HC.out]; simp [cat])
      have V2 := Lib.hid (show cs (cat [a0.extract 0 k, a0.extract k a0.size]) = c by rw [← HC.out, ← bz_cut a0 k hk]; simp [cat])
      have V3 := Lib.hid (show cs (cat [⟨#[]⟩, a0, ⟨#[]⟩]) = c by rw [← HC.out]; simp [cat, bz])
      have hz1 : (a0.extract 0 k).size ≤ 100000000 := by rw [ByteArray.size_extract]; omega
      have hz2 : (a0.extract k a0.size).size ≤ 100000000 := by rw [ByteArray.size_extract]; omega
      have HZE := Lib.hid (show (ByteArray.size ⟨#[]⟩) ≤ 100000000 by decide)
      have HZ0 := Lib.hid (show a0.size ≤ 100000000 by omega)
      have HZ1 := Lib.hid hz1
      have HZ2 := Lib.hid hz2
      clear hz1 hz2
      go_upto_region 4 with (fail)
      go_cut [38] (fun v wx => v = .bool false ∧ Below w.heap.size w wx)
      case first =>
        go_region_held3 (fun W => Below w.heap.size w W) (first | assumption | exact st_drew _ | exact st_alloc (by assumption) _ | exact st_call (by assumption) hb) (first
          | (go_at_call 8; refine (of_any _ _ _ _ _ (by first | exact strs1 _ _ _ | exact strs2 _ _ _ _ | exact strs3 _ _ _ _ _ | exact strs1e _ _ _ _ (World.size_alloc _ _) | exact strs2e _ _ _ _ _ (World.size_alloc _ _) | exact strs3e _ _ _ _ _ _ (World.size_alloc _ _) | exact strs_alloc (strs2 _ _ _ _) _ | exact strs_alloc (strs3 _ _ _ _ _) _ | exact strs_more (strs1 _ _ _) hb | exact strs_more (strs1e _ _ _ _ (World.size_alloc _ _)) hb | exact strs_more (strs_drew (strs1e _ _ _ _ (World.size_alloc _ _))) hb | exact strs_more (strs_drew (strs_alloc (strs1 _ _ _) _)) hb | exact strs_more (strs_alloc (strs1 _ _ _) _) hb) (by omega) (by first | exact sz1 HZ0.out | exact sz2 HZ1.out HZ2.out | exact sz3 HZE.out HZ0.out HZE.out)).mono ?_; rintro e w' ⟨rfl, hb⟩; first | rw [V1.out] | rw [V2.out] | rw [V3.out]))
        all_goals
          go_wp2
          go_meet
          exact ⟨rfl, by assumption⟩
      case rest =>
        obtain ⟨rfl, hbw⟩ := hcut
        have HB1 := Lib.hid hbw
        clear hbw V2 V3 HZ1 HZ2
        have hi0 : (0 : Int) ≤ (k : Int) := by omega
        go_upto_region 6 with (fail)
        go_cut [5] (fun v wx => ∃ h : Nat, v = .int .i64 (2 * (h : Int)) ∧ 2 * h ≤ a0.size ∧ wc = wx)
        case first =>
          go_wp2_with fail
          go_meet
          refine ⟨k / 2, ?_, by omega, rfl⟩
          congr 1
          omega
        case rest =>
          obtain ⟨h, rfl, hh, hwc⟩ := hcut
          subst hwc
          clear hi0
          go_upto_region 7 with (fail)
          go_wp2_with fail
          refine (of_any _ _ _ _ _ (strs1 _ a0 _) (by omega) (sz1 HZ0.out)).mono ?_
          rintro e w2 ⟨rfl, hb2⟩
          rw [V1.out]
          have HB2 := Lib.hid (st_call (st_alloc HB1.out _) hb2)
          clear hb2
          obtain ⟨c1, hc1⟩ : ∃ c1, cs (cat [a0.extract 0 (2 * h)]) = c1 := ⟨_, rfl⟩
          obtain ⟨c2, hc2⟩ : ∃ c2, cs (cat [a0.extract (2 * h) a0.size]) = c2 := ⟨_, rfl⟩
          have hj : jo c1 c2 = c := by
            rw [← hc1, ← hc2, ← HC.out, ← bz_cut a0 (2 * h) hh]
            have e1 : cat [a0.extract 0 (2 * h)] = bz (a0.extract 0 (2 * h)) := by simp [cat]
            have e2 : cat [a0.extract (2 * h) a0.size] = bz (a0.extract (2 * h) a0.size) := by simp [cat]
            rw [e1, e2]
            exact join_own (by rw [bz_len, ByteArray.size_extract]; omega)
          have JO := Lib.hid (fun W => join_any c1 c2 W (by rw [← hc1]; exact cs_le _) (by rw [← hc2]; exact cs_le _))
          rw [hj] at JO
          have V4 := Lib.hid hc1
          have V5 := Lib.hid hc2
          clear hj hc1 hc2
          have HZ3 := Lib.hid (show (a0.extract 0 (2 * h)).size ≤ 100000000 by rw [ByteArray.size_extract]; omega)
          have HZ4 := Lib.hid (show (a0.extract (2 * h) a0.size).size ≤ 100000000 by rw [ByteArray.size_extract]; omega)
          have hi1 : (0 : Int) ≤ 2 * (h : Int) := by omega
          have hi2 : 2 * (h : Int) ≤ (a0.size : Int) := by omega
          have hi5 : (2 * (h : Int)).toNat = 2 * h := by omega
          go_upto_region 8 with (fail)
          go_cut [57] (fun v wx => v = .bool false ∧ Below w.heap.size w wx)
          case first =>
            have hSt := HB2.out
            go_region_held3 (fun W => Below w.heap.size w W) (first | assumption | exact (HB2.out).drew | exact st_alloc (by assumption) _ | exact st_call (by assumption) hb) (first
              | (go_at_call 8; refine (of_any _ _ _ _ _ (by first | exact strs1 _ _ _ | exact strs1e _ _ _ _ (World.size_alloc _ _) | exact strs_alloc (strs1 _ _ _) _ | exact strs_more (strs1 _ _ _) hb | exact strs_more (strs1e _ _ _ _ (World.size_alloc _ _)) hb | exact strs_more (strs_drew (strs1e _ _ _ _ (World.size_alloc _ _))) hb | exact strs_more (strs_drew (strs_alloc (strs1 _ _ _) _)) hb | exact strs_more (strs_alloc (strs1 _ _ _) _) hb) (by omega) (by first | exact sz1 HZ3.out | exact sz1 HZ4.out)).mono ?_; rintro e w' ⟨rfl, hb⟩; first | rw [V4.out] | rw [V5.out])
              | (go_at_call 11; refine (JO.out _).mono ?_; rintro e w' ⟨rfl, rfl⟩))
            all_goals
              go_wp2
              go_meet
              exact ⟨rfl, by assumption⟩
          case rest =>
            obtain ⟨rfl, hbw⟩ := hcut
            have HB3 := Lib.hid hbw
            clear hbw V4 V5 HZ3 HZ4 JO hi1 hi2 hi5
            have hsum : a0.size + 1 ≤ 9223372036854775807 := by omega
            go_upto_if 62 with (fail)
            go_cut [7] (fun v wx => ∃ E : ByteArray, v = .string E ∧ (bz E).length % 2 = 0 ∧ cs (bz E) = c ∧ E.size ≤ 4097 ∧ wc = wx)
            case first =>
              by_cases hp : a0.size % 2 = 1
              · have hpi : ((a0.size : Int) % 2) = 1 := by omega
                go_wp2_with fail
                go_meet
                refine ⟨a0 ++ ⟨#[0]⟩, rfl, ?_, ?_, ?_, rfl⟩
                · rw [bz_append, List.length_append, bz_len]
                  show (a0.size + 1) % 2 = 0
                  omega
                · rw [bz_append, ← HC.out]
                  show cs (bz a0 ++ [0]) = cs (bz a0)
                  unfold cs
                  rw [wsum_zero _ (by rw [bz_len]; exact hp)]
                · rw [ByteArray.size_append]
                  show a0.size + 1 ≤ 4097
                  omega
              · have hpi : ((a0.size : Int) % 2) = 0 := by omega
                go_wp2_with fail
                go_meet
                exact ⟨a0, rfl, by rw [bz_len]; omega, HC.out, by omega, rfl⟩
            case rest =>
              obtain ⟨E, rfl, hE1, hE2, hE3, hwc⟩ := hcut
              subst hwc
              have HE1 := Lib.hid hE1
              have HE2 := Lib.hid hE2
              clear hE1 hE2
              have hhi : c / 256 ≤ 255 := by omega
              have hlo : c % 256 ≤ 255 := by omega
              obtain ⟨R, hR, hRs, hcv⟩ := two_back Try.prog 33 9 5 Try.underlying33 Try.underlying5 Try.underlying9 c hhi wc 5
              have VR := Lib.hid (show decide (cs (cat [E, R]) = 0) = true from decide_eq_true (by
                have e1 : cat [E, R] = bz E ++ [c / 256, c % 256] := by rw [← hR]; simp [cat]
                rw [e1]
                exact right_own HE1.out _ _ (by rw [HE2.out]; omega)))
              have HZR := Lib.hid (sz2 (show E.size ≤ 100000000 by omega) (show R.size ≤ 100000000 by omega))
              clear hR hRs
              go_wp2_with fail
              refine (right_any _ _ _ _ _ (by exact strs2e _ E R _ _ (World.size_alloc _ _)) (by omega) (by exact HZR.out)).mono ?_
              rintro e w3 ⟨rfl, hb3⟩
              rw [VR.out]
              have HB4 := Lib.hid (st_call (st_alloc (st_alloc HB3.out _) _) hb3)
              clear hb3 hcv
              go_wp2_with fail
              refine (alive_any _).mono ?_
              rintro e w4 ⟨rfl, hb4⟩
              have HB5 := Lib.hid (st_call HB4.out hb4)
              clear hb4
              go_wp2_with fail
              go_ret
              exact ⟨rfl, HB5.out⟩

/-! The row's step, after the guide's own way. -/
set_option maxRecDepth 100000 in
theorem lifted (os : Os) (started : os.Started) (H : Type) (enc : TypeId × Value → H) :
    ReturnsInHanded {} Try.checked os 4 .any (Rows.sumPartsSpec.pre6 enc Try.prog Try.f4 Rows.sumPartsRow.domain false) (Rows.sumPartsSpec.post enc Try.prog Try.f4 false true false false) := by
  refine returnsInHanded_of_change (C := Try.checked) own started (by kernel_rfl) Try.func4
    (ChangeSpec.witness6 (enc := enc) (C := Try.checked) false ⟨#[], #[.string ByteArray.empty, .int .u16 0], []⟩ 8 (by kernel_rfl) (by kernel_rfl) (by kernel_rfl) (by kernel_rfl)) ?_
  intro W base args ds gs before hval0 hW hcnd _
  have hval : ∀ (j : Nat) t v, Try.f4.params[j]? = some t → args[j]? = some v → Value.okWide Try.prog W .any base t v := hval0
  have hW' := hW
  obtain ⟨p, q, hA0, hV, rfl, hfz, hnd⟩ := hW
  have hA : DataW.TrodAll enc Try.prog W 0 (fun _ => true) true Try.f4.params.toList args.toList ds p := hA0
  rw [Try.params4] at hA hval
  obtain ⟨v0, vs0, d0, ds0, p0, q0, hargs, rfl, rfl, h0, r0⟩ := trodAll_cons hA
  obtain ⟨v1, vs1, d1, ds1, p1, q1, rfl, rfl, rfl, h1, r1⟩ := trodAll_cons r0
  obtain ⟨rfl, rfl, rfl⟩ := trodAll_nil r1
  obtain rfl : args = #[v0, v1] := by cases args; simp_all
  obtain ⟨rfl, rfl⟩ := trodVars_none hV
  have k0 := h0
  have lt0 : ∀ x ∈ p0, x.block < W.heap.size := by obtain ⟨m, hm⟩ := k0; exact DataW.trod_lt m _ _ _ hm
  obtain ⟨a0, rfl, _, _, w0⟩ := open_string Try.underlying9 (hval 0 9 v0 rfl rfl) h0
  have k1 := h1
  have lt1 : ∀ x ∈ p1, x.block < W.heap.size := by obtain ⟨m, hm⟩ := k1; exact DataW.trod_lt m _ _ _ hm
  obtain ⟨a1, rfl, _, _, w1⟩ := open_int Try.underlying23 (hval 1 23 v1 rfl rfl) h1
  clear hA0 hval0
  refine (walk a0 a1 W w0 w1).mono fun e W' ⟨he, bel⟩ => ?_
  subst he
  exact ⟨_, rfl, _, _, _, [], _, [], hW', trodAll_mk1 (shut_bool Try.underlying4 _), (trodAll_cons_mk (Below.trod laidOut (by kernel_rfl) (of_decide_eq_true (by kernel_rfl)) k0 bel lt0) (trodAll_cons_mk (Below.trod laidOut (by kernel_rfl) (of_decide_eq_true (by kernel_rfl)) k1 bel lt1) trodAll_mk0)), rfl, bel.frame _, fun h => by cases h⟩

theorem over : Rows.sumPartsRow.holds Try.pinned (OpenSpec.ofChange Rows.sumPartsSpec) :=
  OpenClaim.holds_of_wide 4 Try.f4 rfl rfl rfl rfl rfl rfl rfl ⟨rfl, rfl, rfl, rfl, rfl⟩ rfl rfl rfl rfl rfl (by kernel_rfl) Try.func4 (by kernel_rfl)
    (of_decide_eq_true (by kernel_rfl)) (by unfold Func.isWrapper; first | (rw [if_pos (by decide +kernel)]; kernel_rfl) | (rw [if_neg (by decide +kernel)]; exact ⟨rfl, rfl⟩))
    (fun os started H enc _ => lifted os started H enc)

/-- The statement. -/
theorem proved : Rows.SumPartsSaid := over
#print axioms proved
end Go.Proofs.Yteahkhpkogcfoaa.sumParts
