/-
  The document's own answers of layer 7: Turn.
-/
import Derived.Test.YtgpkckaojcodmaaOptTurnM
import Derived.Test.YtgpkckaojcodmaaOptDec
namespace Go.Proofs.Ytgpkckaojcodmaa.OptTurn
open Go.RowKit Own TupMath SumMath Litb Calm Rel IpMath IpRef OptMath OptRef OptPlc OptSame Boxes OptTk OptDec OptTurnM
set_option linter.unusedVariables false
set_option maxRecDepth 100000

/-- what Turn answers -/
def turnV (b v e : Nat) (l : List Nat) : Value := if (dec7 l).1 = 0 then .tuple #[.string (ofB (turnS b v e l)), .int .i64 0] else .tuple #[.string ⟨#[]⟩, .int .i64 ((dec7 l).1 : Int)]
theorem dec7_zero {l : List Nat} (h : (dec7 l).1 = 0) : ¬ 40 < l.length ∧ ∃ ps o, plc l 0 [] = some ps ∧ decO l = some o ∧ (dec7 l).2 = o := by
  by_cases h40 : 40 < l.length
  · rw [dec7_long h40] at h; cases h
  refine ⟨h40, ?_⟩
  cases hd : decO l with
  | none => rw [dec7_none h40 hd] at h; cases h
  | some o =>
    cases hp : plc l 0 [] with
    | none => rw [dec_no hp] at hd; cases hd
    | some ps => exact ⟨ps, o, rfl, rfl, by rw [dec7_some h40 hd]⟩
theorem ofB_bzq {l : List Nat} {S : ByteArray} (h : bz S = l) : ofB l = S := by rw [← h]; exact bz_inj (bz_ofB (bz_le S))

theorem c1_at {c c1 : List Nat} {p k v e n i : Nat} (h : (if k = 8 then addA (addA c (p + 2) v) (p + 6) e else c) = c1) (hk : k = 8 → p + 10 ≤ c.length) (hi : i < p + 2) : at0 c1 i = at0 c i := by
  rw [← h]
  by_cases c8 : k = 8
  · have := hk c8
    rw [if_pos c8, addA_at _ _ _ _ (by omega) (by rw [addA_len _ _ _ (by omega)]; omega), addA_at _ _ _ _ hi (by omega)]
  · rw [if_neg c8]

set_option maxHeartbeats 16000000 in
theorem turnR7 (s : ByteArray) (bl v e : Nat) (w : World) (hs : s.size ≤ 1000000) (hb : bl ≤ 4294967295) (hv : v ≤ 4294967295) (he : e ≤ 4294967295) :
    Calls Try.prog 20 #[.string s, .int .u32 (bl : Int), .int .u32 (v : Int), .int .u32 (e : Int)] w fun r w' => r = .returned (turnV bl v e (bz s)) ∧ Below w.heap.size w w' := by
  have HD := Lib.hid (fun W => decR7 s W hs)
  by_cases h0 : (dec7 (bz s)).1 = 0
  rotate_left
  · have HV := Lib.hid (show turnV bl v e (bz s) = .tuple #[.string ⟨#[]⟩, .int .i64 ((dec7 (bz s)).1 : Int)] from if_neg h0)
    unfold DecOut at HD
    generalize (dec7 (bz s)).1 = n at HD HV h0
    generalize (dec7 (bz s)).2 = o2 at HD
    have q1 : ((n : Int) == 0) = false := beq_eq_false_iff_ne.2 (by omega)
    have q2 : ((n : Int) != 0) = true := bne_iff_ne.2 (by omega)
    go_enter Try.func20, Try.ntmps20
    go_wp2_with fail
    refine (HD.out _).mono ?_
    rintro r wA ⟨⟨A, c, rfl, _⟩, hb1⟩
    have HB := Lib.hid (st_alloc hb1 (.cells (oc o2 A c) 26))
    clear hb1
    go_wp2_with fail
    go_ret2
    exact ⟨by rw [HV.out]; rfl, HB.out⟩
  obtain ⟨h40, ps, o2, hplc, hdec, ho2⟩ := dec7_zero h0
  have HV := Lib.hid (show turnV bl v e (bz s) = .tuple #[.string (ofB (turnS bl v e (bz s))), .int .i64 0] from if_pos h0)
  unfold DecOut at HD
  rw [h0, ho2] at HD
  have hs40 : s.size ≤ 40 := by rw [bz_len] at h40; omega
  have hp40 : ps.length ≤ 40 := by have := plc_few (bz s) (bz s).length 0 [] ps (by omega) hplc; omega
  have HPL := Lib.hid (fun W => placesR s W hs)
  have HIN := Lib.hid (plc_in (bz s) (bz s).length 0 [] ps (by omega) hplc)
  have HKEEP := Lib.hid (fun j p => turnTo_keep bl v e (j := j) (p := p) hplc)
  have HALL := Lib.hid (turnTo_all bl v e hplc)
  have HPLC := Lib.hid hplc
  clear h0 hdec ho2 hplc h40
  go_enter Try.func20, Try.ntmps20
  go_wp2_with fail
  refine (HD.out _).mono ?_
  rintro r wA ⟨⟨A, c, rfl, _⟩, hb1⟩
  have B1 := Lib.hid (st_alloc hb1 (.cells (oc o2 A c) 26))
  clear hb1
  go_wp2_with fail
  refine (HPL.out _).mono ?_
  rintro r wP ⟨hP, hb2⟩
  rw [HPLC.out] at hP
  obtain ⟨pv, rfl, A0, c0, rfl, hI⟩ := hP
  have HI := Lib.hid hI
  have B2 := Lib.hid (st_call B1.out hb2)
  clear hI hb2
  go_wp2_with fail
  go_loopw [0, 14] (fun sv i wr => ∃ (j : Nat) (S : ByteArray), i = .int .i64 (j : Int) ∧ j ≤ ps.length ∧ sv = .string S ∧ bz S = turnTo bl v e (bz s) ps j ∧ S.size = s.size ∧ Below wP.heap.size wP wr) (fun _ i _ => ps.length - (intOf i).toNat)
  case atStart => exact ⟨0, s, rfl, by omega, rfl, rfl, rfl, Below.refl _ _⟩
  case round =>
    obtain ⟨j, S, rfl, hj, rfl, hS, hSs, hB⟩ := hrel
    have HS := Lib.hid hS
    have HB := Lib.hid hB
    clear hS hB
    by_cases hlt : j < ps.length
    · obtain ⟨p, hpj⟩ : ∃ p, ps[j]? = some p := ⟨_, List.getElem?_eq_getElem hlt⟩
      have hli : (j : Int) < (ps.length : Int) := by omega
      have HLT := Lib.hid hlt
      obtain ⟨_, h1, h2, h3, h4, h6⟩ := HIN.out p (List.mem_of_getElem? hpj)
      rw [bz_len] at h1 h2
      obtain ⟨g, hg0, hgl, hgc⟩ := HI.out (by omega)
      subst hg0
      have cg : wr.cell? ⟨g, j, none⟩ = some (.int .i64 (p : Int)) := (HB.out.cell (p := ⟨g, j, none⟩) hgl).trans (hgc j p hpj)
      have hkp := HKEEP.out j p hpj
      have hsu := turnTo_succ bl v e (l := bz s) hpj
      rw [← HS.out] at hkp hsu
      have a0 := at_drop hkp (Nat.le_refl p)
      have a1 := at_drop hkp (show p ≤ p + 1 by omega)
      have HSU := Lib.hid hsu
      clear hkp hsu hgc
      rw [← a0, ← a1] at h3
      rw [← a1] at h2
      clear a0 a1 h4 h6
      have zk := at_byte S p (by omega)
      have qk := at_le S p
      have qm := at_le S (p + 1)
      obtain ⟨k, hk⟩ : ∃ k, at0 (bz S) p = k := ⟨_, rfl⟩
      obtain ⟨n, hn⟩ : ∃ n, at0 (bz S) (p + 1) = n := ⟨_, rfl⟩
      rw [hk] at zk qk h3
      rw [hn] at qm h2 h3
      have hn2 := right_ge h3
      obtain ⟨M, hM⟩ : ∃ M, (if k = 5 then (n - 2) / 4 else 0) = M := ⟨_, rfl⟩
      obtain ⟨c1, hc1⟩ : ∃ c1, (if k = 8 then addA (addA (bz S) (p + 2) v) (p + 6) e else bz S) = c1 := ⟨_, rfl⟩
      have hup : updP bl v e (bz S) p = addN bl c1 (p + 2) M := by
        unfold updP
        rw [hk, hn, ← hM, ← hc1]
        by_cases c8 : k = 8
        · rw [if_pos c8, if_pos c8, if_neg (by omega)]; rfl
        · rw [if_neg c8, if_neg c8]
          by_cases c5 : k = 5
          · rw [if_pos c5, if_pos c5]
          · rw [if_neg c5, if_neg c5]; rfl
      have hM5 : k = 5 → 4 * M + 2 = n := fun c5 => by rw [← hM, if_pos c5]; subst c5; simp [right] at h3; omega
      have hM0 : k ≠ 5 → M = 0 := fun c5 => by rw [← hM, if_neg c5]
      have h8 : k = 8 → n = 10 := fun c8 => by subst c8; simpa [right] using h3
      have HUP := Lib.hid hup
      have HK := Lib.hid hk
      have HN := Lib.hid hn
      have HC1 := Lib.hid hc1
      have HM5 := Lib.hid hM5
      have HM0 := Lib.hid hM0
      have H8 := Lib.hid h8
      have HSs := Lib.hid hSs
      clear hup hk hn hc1 hM hM5 hM0 h8 h3
      have i0 : (p : Int) < (S.size : Int) := by omega
      have i1 : (p : Int) + 1 < (S.size : Int) := by omega
      have i2 : (p : Int) + (n : Int) ≤ (S.size : Int) := by omega
      go_upto_if 44 with (fail)
      go_cut [0] (fun sv wx => ∃ S1, sv = .string S1 ∧ bz S1 = c1 ∧ S1.size = s.size ∧ Below wr.heap.size wr wx)
      case first =>
        by_cases c8 : k = 8
        · have hn10 := H8.out c8
          obtain ⟨S1, e1, z1, C1⟩ : ∃ S1, bz S1 = addA (bz S) (p + 2) v ∧ S1.size = S.size ∧ ∀ W, Calls Try.prog 32 #[.string S, .int .i64 ((p + 2 : Nat) : Int), .int .u32 (v : Int)] W fun e w' => e = .returned (.string S1) ∧ Below W.heap.size W w' :=
            ⟨ofB (addA (bz S) (p + 2) v), bz_ofB (addA_le _ _ (bz_le S)), by rw [ofB_size, addA_len _ _ _ (by rw [bz_len]; omega), bz_len], fun W => addR S (p + 2) v W (by omega) (by omega) hv⟩
          obtain ⟨S2, e2, z2, C2⟩ : ∃ S2, bz S2 = addA (bz S1) (p + 6) e ∧ S2.size = S1.size ∧ ∀ W, Calls Try.prog 32 #[.string S1, .int .i64 ((p + 6 : Nat) : Int), .int .u32 (e : Int)] W fun e w' => e = .returned (.string S2) ∧ Below W.heap.size W w' :=
            ⟨ofB (addA (bz S1) (p + 6) e), bz_ofB (addA_le _ _ (bz_le S1)), by rw [ofB_size, addA_len _ _ _ (by rw [bz_len]; omega), bz_len], fun W => addR S1 (p + 6) e W (by omega) (by omega) he⟩
          rw [show ((p + 2 : Nat) : Int) = (p : Int) + 2 by omega] at C1
          rw [show ((p + 6 : Nat) : Int) = (p : Int) + 6 by omega] at C2
          have HE1 := Lib.hid e1
          have HE2 := Lib.hid e2
          have HCA := Lib.hid C1
          have HCB := Lib.hid C2
          have HZ1 := Lib.hid z1
          have HZ2 := Lib.hid z2
          have q8 : ((k : Int) == 8) = true := beq_iff_eq.2 (by omega)
          have HK8 := Lib.hid c8
          clear e1 e2 C1 C2 z1 z2
          go_wp2_with fail
          refine (HCA.out _).mono ?_
          rintro r w1 ⟨rfl, hb3⟩
          have B3 := Lib.hid hb3
          clear hb3
          go_wp2_with fail
          refine (HCB.out _).mono ?_
          rintro r w2 ⟨rfl, hb4⟩
          have B4 := Lib.hid (st_call B3.out hb4)
          clear hb4
          go_wp2_with fail
          go_meet
          exact ⟨S2, rfl, by rw [HE2.out, HE1.out, ← HC1.out, if_pos HK8.out], by rw [HZ2.out, HZ1.out, HSs.out], B4.out⟩
        · have q8 : ((k : Int) == 8) = false := beq_eq_false_iff_ne.2 (by omega)
          have HK8 := Lib.hid c8
          go_wp2_with fail
          go_meet
          exact ⟨S, rfl, by rw [← HC1.out, if_neg HK8.out], HSs.out, Below.refl _ _⟩
      case rest =>
        obtain ⟨S1, rfl, hS1, hS1s, hb3⟩ := hcut
        have HS1 := Lib.hid hS1
        have B3 := Lib.hid (HB.out.trans (hb3.mono HB.out.size))
        have ek : at0 (bz S1) p = k := by rw [hS1, c1_at (n := n) HC1.out (fun c8 => by have := H8.out c8; rw [bz_len]; omega) (by omega)]; exact HK.out
        have en : at0 (bz S1) (p + 1) = n := by rw [hS1, c1_at (n := n) HC1.out (fun c8 => by have := H8.out c8; rw [bz_len]; omega) (by omega)]; exact HN.out
        have zn := at_byte S1 (p + 1) (by omega)
        rw [en] at zn
        have hcl : c1.length = s.size := by rw [← hS1, bz_len, hS1s]
        have hMb : 4 * M ≤ 255 := by
          by_cases c5 : k = 5
          · have := HM5.out c5; omega
          · rw [HM0.out c5]; omega
        have hMn : p + 2 + 4 * M ≤ s.size := by
          by_cases c5 : k = 5
          · have := HM5.out c5; omega
          · rw [HM0.out c5]; omega
        have HEK := Lib.hid ek
        have HCL := Lib.hid hcl
        have j1 : (p : Int) + 1 < (S1.size : Int) := by omega
        have w1 : IntKind.i64.wrap (n : Int) = (n : Int) := by rw [IntKind.wrap_i64]; omega
        clear hb3 hS1 ek en hcl
        go_wp2_with fail
        go_loopw [0, 17] (fun sv kv wq => ∃ (t : Nat) (S2 : ByteArray), kv = .int .i64 ((p : Int) + 2 + 4 * (t : Int)) ∧ t ≤ M ∧ sv = .string S2 ∧ bz S2 = addN bl c1 (p + 2) t ∧ S2.size = s.size ∧ Below wP.heap.size wP wq) (fun _ kv _ => p + 2 + 4 * M - (intOf kv).toNat)
        case atStart => exact ⟨0, S1, by simp, by omega, rfl, HS1.out, hS1s, B3.out⟩
        case round =>
          obtain ⟨t, S2, rfl, ht, rfl, hS2, hS2s, hBq⟩ := hrel
          have HS2 := Lib.hid hS2
          have HBq := Lib.hid hBq
          have ek2 : at0 (bz S2) p = k := by rw [hS2, addN_at bl c1 (p + 2) p (by omega) t (by rw [HCL.out]; omega), ← HS1.out]; exact HEK.out
          have zk2 := at_byte S2 p (by omega)
          rw [ek2] at zk2
          have j0 : (p : Int) < (S2.size : Int) := by omega
          clear hS2 hBq ek2
          by_cases htM : t < M
          · have c5 : k = 5 := Classical.byContradiction fun h => by have := HM0.out h; omega
            have hn5 := HM5.out c5
            have q5 : ((k : Int) == 5) = true := beq_iff_eq.2 (by omega)
            have q6 : (p : Int) + 2 + 4 * (t : Int) < (p : Int) + (n : Int) := by omega
            obtain ⟨S3, e3, z3, C3⟩ : ∃ S3, bz S3 = addA (bz S2) (p + 2 + 4 * t) bl ∧ S3.size = S2.size ∧ ∀ W, Calls Try.prog 32 #[.string S2, .int .i64 ((p + 2 + 4 * t : Nat) : Int), .int .u32 (bl : Int)] W fun e w' => e = .returned (.string S3) ∧ Below W.heap.size W w' :=
              ⟨ofB (addA (bz S2) (p + 2 + 4 * t) bl), bz_ofB (addA_le _ _ (bz_le S2)), by rw [ofB_size, addA_len _ _ _ (by rw [bz_len]; omega), bz_len], fun W => addR S2 (p + 2 + 4 * t) bl W (by omega) (by omega) hb⟩
            rw [show ((p + 2 + 4 * t : Nat) : Int) = (p : Int) + 2 + 4 * (t : Int) by omega] at C3
            have HE3 := Lib.hid e3
            have HC3 := Lib.hid C3
            have HZ3 := Lib.hid (z3.trans hS2s)
            have HTM := Lib.hid htM
            clear e3 C3 z3 c5
            go_wp2_with fail
            refine (HC3.out _).mono ?_
            rintro r w3 ⟨rfl, hb4⟩
            have B4 := Lib.hid (HBq.out.trans (hb4.mono HBq.out.size))
            clear hb4
            go_wp2_with fail
            go_roundw
            case rel => exact ⟨t + 1, S3, by go_num, HTM.out, rfl, by rw [HE3.out, HS2.out]; rfl, HZ3.out, B4.out⟩
            case measure => have := HTM.out; simp [intOf]; omega
          · obtain rfl : t = M := by omega
            have HTO := Lib.hid (show bz S2 = turnTo bl v e (bz s) ps (j + 1) by rw [HS2.out, HSU.out, HUP.out])
            have HZ := Lib.hid hS2s
            by_cases c5 : k = 5
            · have hn5 := HM5.out c5
              have q5 : ((k : Int) == 5) = true := beq_iff_eq.2 (by omega)
              have q6 : ¬ (p : Int) + 2 + 4 * (t : Int) < (p : Int) + (n : Int) := by omega
              clear c5
              go_wp2_with fail
              go_roundw
              case rel => exact ⟨j + 1, S2, by go_num, HLT.out, rfl, HTO.out, HZ.out, HBq.out⟩
              case measure => have := HLT.out; simp [intOf]; omega
            · have q5 : ((k : Int) == 5) = false := beq_eq_false_iff_ne.2 (by omega)
              go_wp2_with fail
              go_roundw
              case rel => exact ⟨j + 1, S2, by go_num, HLT.out, rfl, HTO.out, HZ.out, HBq.out⟩
              case measure => have := HLT.out; simp [intOf]; omega
    · obtain rfl : j = ps.length := by omega
      have hli : ¬ ((ps.length : Nat) : Int) < (ps.length : Int) := by omega
      have HRES := Lib.hid (show ofB (turnS bl v e (bz s)) = S from ofB_bzq (by rw [HS.out, HALL.out]))
      go_wp2_with fail
      go_ret2
      exact ⟨by rw [HV.out, HRES.out]; rfl, B2.out.trans (HB.out.mono B2.out.size)⟩
end Go.Proofs.Ytgpkckaojcodmaa.OptTurn
