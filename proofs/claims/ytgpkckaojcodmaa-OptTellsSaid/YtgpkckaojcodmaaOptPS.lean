/-
  The program's own call of layer 7: Same; slices.Equal of blocks.
-/
import Derived.Test.YtgpkckaojcodmaaOptPE
namespace Go.Proofs.Ytgpkckaojcodmaa.OptPS
open Cells (CellsAt)
open Go.RowKit Own TupMath SumMath Litb Calm IpMath IpRef Rel Num OptMath OptRef OptPlc OptSame OptMay OptTk OptQ OptPT
set_option linter.unusedVariables false
set_option maxRecDepth 100000

set_option maxHeartbeats 16000000 in
theorem equalP (L M : List (Nat × Nat)) (Ao : Option Addr) (co : Nat) (Ap : Option Addr) (cp : Nat) (w : World) (ho : BlkR w Ao L) (hp : BlkR w Ap M) (lo : L.length ≤ 1000000) (lp : M.length ≤ 1000000) :
    Calls Try.prog 30 #[.slice Ao L.length co, .slice Ap M.length cp] w fun e w' => e = .returned (.bool (decide (L = M))) ∧ Below w.heap.size w w' := by
  have HO := Lib.hid ho
  have HP := Lib.hid hp
  clear ho hp
  by_cases cl : L.length = M.length
  rotate_left
  · rw [decide_eq_false (fun e => cl (by rw [e]))]
    have q7 : ((L.length : Int) == (M.length : Int)) = false := beq_eq_false_iff_ne.2 (by omega)
    have r7 : ((L.length : Int) != (M.length : Int)) = true := bne_iff_ne.2 (by omega)
    clear cl
    go_enter Try.func30, Try.ntmps30
    go_wp2_with fail
    go_ret
    exact ⟨rfl, Below.refl _ _⟩
  have q7 : ((L.length : Int) == (M.length : Int)) = true := beq_iff_eq.2 (by omega)
  have r7 : ((L.length : Int) != (M.length : Int)) = false := by rw [bne, q7]; rfl
  have HCL := Lib.hid cl
  clear cl
  go_enter Try.func30, Try.ntmps30
  go_wp2_with fail
  clear q7 r7
  go_loopw [13] (fun i wr => ∃ k : Nat, i = .int .i64 (k : Int) ∧ k ≤ L.length ∧ L.take k = M.take k ∧ Below w.heap.size w wr) (fun i _ => L.length - (intOf i).toNat)
  case atStart => exact ⟨0, rfl, by omega, rfl, Below.refl _ _⟩
  case round =>
    obtain ⟨k, rfl, hk, htk, hB⟩ := hrel
    have HTK := Lib.hid htk
    have HB := Lib.hid hB
    clear htk hB
    by_cases hlt : k < L.length
    · have hlti : (k : Int) < (L.length : Int) := by omega
      have hlt2 : k < M.length := by have := HCL.out; omega
      have hlti2 : (k : Int) < (M.length : Int) := by omega
      obtain ⟨b, off, e1, hb1, hc1⟩ := HO.out (by omega)
      obtain ⟨b2, off2, e2, hb2, hc2⟩ := HP.out (by omega)
      obtain ⟨u, hu⟩ : ∃ u, L[k]? = some u := ⟨_, List.getElem?_eq_getElem hlt⟩
      obtain ⟨v, hv⟩ : ∃ u, M[k]? = some u := ⟨_, List.getElem?_eq_getElem hlt2⟩
      have d0 := (HB.out.cell (p := ⟨b, off + k * 2, none⟩) hb1).trans (hc1 k u hu).1
      have d1 := (HB.out.cell (p := ⟨b, off + k * 2 + 1, none⟩) hb1).trans (hc1 k u hu).2
      have g0 := (HB.out.cell (p := ⟨b2, off2 + k * 2, none⟩) hb2).trans (hc2 k v hv).1
      have g1 := (HB.out.cell (p := ⟨b2, off2 + k * 2 + 1, none⟩) hb2).trans (hc2 k v hv).2
      have HTS : Hid (u = v → L.take (k + 1) = M.take (k + 1)) := Lib.hid fun e => by
        rw [take_snocG hu, take_snocG hv, HTK.out, e]
      have HNE : Hid (u ≠ v → L ≠ M) := Lib.hid fun e h => by
        rw [h, hv] at hu
        exact e (Option.some.inj hu).symm
      subst e1 e2
      clear hc1 hc2 hu hv
      obtain ⟨u1, u2⟩ := u
      obtain ⟨v1, v2⟩ := v
      simp only at d0 d1 g0 g1
      by_cases h1 : u1 = v1
      · by_cases h2 : u2 = v2
        · subst h1 h2
          have hts := Lib.hid (HTS.out rfl)
          go_wp2_with fail
          go_quiet (fail)
          go_wp2
          go_roundw
          case rel => exact ⟨k + 1, by go_num, by omega, hts.out, HB.out.trans (below_q _ _ _)⟩
          case measure => simp only [intOf]; omega
        · have q8 : ((u2 : Int) == (v2 : Int)) = false := beq_eq_false_iff_ne.2 (by omega)
          subst h1
          have HF := Lib.hid (decide_eq_false (HNE.out (fun e => h2 (congrArg Prod.snd e))))
          clear h2
          go_wp2_with fail
          go_quiet (fail)
          go_wp2
          go_ret
          exact ⟨by rw [HF.out]; rfl, HB.out.trans (below_q _ _ _)⟩
      · have q8 : ((u1 : Int) == (v1 : Int)) = false := beq_eq_false_iff_ne.2 (by omega)
        have HF := Lib.hid (decide_eq_false (HNE.out (fun e => h1 (congrArg Prod.fst e))))
        clear h1
        go_wp2_with fail
        go_quiet (fail)
        go_wp2
        go_ret
        exact ⟨by rw [HF.out]; rfl, HB.out.trans (below_q _ _ _)⟩
    · have hlti : ¬ (k : Int) < (L.length : Int) := by omega
      have HT : Hid (decide (L = M) = true) := Lib.hid (decide_eq_true (by
        have h := HTK.out
        rw [List.take_of_length_le (by omega), List.take_of_length_le (by have := HCL.out; omega)] at h
        exact h))
      go_wp2_with fail
      go_ret
      exact ⟨by rw [HT.out]; rfl, HB.out⟩
set_option maxHeartbeats 16000000 in
theorem sameP (o p : Opn) (Ao : Option Addr) (co : Nat) (Ap : Option Addr) (cp : Nat) (w : World) (ho : BlkR w Ao o.blocks) (hp : BlkR w Ap p.blocks) (lo : o.blocks.length ≤ 1000000) (lp : p.blocks.length ≤ 1000000) :
    Calls Try.prog 15 #[ov o Ao co, ov p Ap cp] w fun e w' => e = .returned (.bool (decide (o = p))) ∧ Below w.heap.size w w' := by
  have HB := Lib.hid (st_alloc (st_alloc (Below.refl _ w) (.cells (oc o Ao co) 26)) (.cells (oc p Ap cp) 26))
  have HO := Lib.hid (ho.more HB.out)
  have HP := Lib.hid (hp.more HB.out)
  clear ho hp
  by_cases c0 : o.mss = p.mss
  rotate_left
  · have q0 : ((o.mss : Int) == (p.mss : Int)) = false := beq_eq_false_iff_ne.2 (by omega)
    have HV := Lib.hid (show decide (o = p) = false from decide_eq_false (fun e => c0 (by rw [e])))
    clear c0
    go_enter Try.func15, Try.ntmps15
    go_wp2_with fail
    go_ret
    exact ⟨by rw [HV.out]; rfl, HB.out⟩
  have q0 : ((o.mss : Int) == (p.mss : Int)) = true := beq_iff_eq.2 (by omega)
  by_cases c1 : o.scale = p.scale
  rotate_left
  · have q1 : (o.scale == p.scale) = false := beq_eq_false_iff_ne.2 c1
    have HV := Lib.hid (show decide (o = p) = false from decide_eq_false (fun e => c1 (by rw [e])))
    clear c0 c1
    go_enter Try.func15, Try.ntmps15
    go_wp2_with fail
    go_ret
    exact ⟨by rw [HV.out]; rfl, HB.out⟩
  have q1 : (o.scale == p.scale) = true := beq_iff_eq.2 c1
  by_cases c2 : o.sack = p.sack
  rotate_left
  · have q2 : (o.sack == p.sack) = false := beq_eq_false_iff_ne.2 c2
    have HV := Lib.hid (show decide (o = p) = false from decide_eq_false (fun e => c2 (by rw [e])))
    clear c0 c1 c2
    go_enter Try.func15, Try.ntmps15
    go_wp2_with fail
    go_ret
    exact ⟨by rw [HV.out]; rfl, HB.out⟩
  have q2 : (o.sack == p.sack) = true := beq_iff_eq.2 c2
  by_cases c3 : o.time = p.time
  rotate_left
  · have q3 : (o.time == p.time) = false := beq_eq_false_iff_ne.2 c3
    have HV := Lib.hid (show decide (o = p) = false from decide_eq_false (fun e => c3 (by rw [e])))
    clear c0 c1 c2 c3
    go_enter Try.func15, Try.ntmps15
    go_wp2_with fail
    go_ret
    exact ⟨by rw [HV.out]; rfl, HB.out⟩
  have q3 : (o.time == p.time) = true := beq_iff_eq.2 c3
  by_cases c4 : o.val = p.val
  rotate_left
  · have q4 : ((o.val : Int) == (p.val : Int)) = false := beq_eq_false_iff_ne.2 (by omega)
    have HV := Lib.hid (show decide (o = p) = false from decide_eq_false (fun e => c4 (by rw [e])))
    clear c0 c1 c2 c3 c4
    go_enter Try.func15, Try.ntmps15
    go_wp2_with fail
    go_ret
    exact ⟨by rw [HV.out]; rfl, HB.out⟩
  have q4 : ((o.val : Int) == (p.val : Int)) = true := beq_iff_eq.2 (by omega)
  by_cases c5 : o.echo = p.echo
  rotate_left
  · have q5 : ((o.echo : Int) == (p.echo : Int)) = false := beq_eq_false_iff_ne.2 (by omega)
    have HV := Lib.hid (show decide (o = p) = false from decide_eq_false (fun e => c5 (by rw [e])))
    clear c0 c1 c2 c3 c4 c5
    go_enter Try.func15, Try.ntmps15
    go_wp2_with fail
    go_ret
    exact ⟨by rw [HV.out]; rfl, HB.out⟩
  have q5 : ((o.echo : Int) == (p.echo : Int)) = true := beq_iff_eq.2 (by omega)
  have HV := Lib.hid (show decide (o = p) = decide (o.blocks = p.blocks) from decide_eq_decide.2 (by
    obtain ⟨a1, a2, a3, a4, a5, a6, a7⟩ := o
    obtain ⟨b1, b2, b3, b4, b5, b6, b7⟩ := p
    simp only at c0 c1 c2 c3 c4 c5 ⊢
    subst c0 c1 c2 c3 c4 c5
    simp))
  clear c0 c1 c2 c3 c4 c5
  go_enter Try.func15, Try.ntmps15
  go_wp2_with fail
  refine (equalP o.blocks p.blocks Ao co Ap cp _ HO.out HP.out lo lp).mono ?_
  rintro e w' ⟨rfl, hb⟩
  have HB2 := Lib.hid (st_call HB.out hb)
  clear hb
  go_wp2_with fail
  go_ret
  exact ⟨by rw [HV.out]; rfl, HB2.out⟩
end Go.Proofs.Ytgpkckaojcodmaa.OptPS
