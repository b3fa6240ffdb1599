/-
  Laws for a proof of package pkt: 3 texts in one.
-/
import Derived.Test.YtpmnmnflaijaaaaGreatQPktTP4
import Derived.Test.YtpmnmnflaijaaaaGreatQOptDec1
import Derived.RangeFuncNested
import Derived.RangeFuncBound
import Derived.RangeFuncCalls
import Derived.RangeFuncLeaves
import Derived.RangeFuncFrom
import Derived.RangeFuncBox
import Derived.Shelf.Abstract
import Derived.Shelf.RegionOpen
import Derived.WalkKit
import Derived.OwnWalkIn
import Derived.TacticsInMore
import Derived.LoopNIn
import Derived.LoopIn
namespace Go.Proofs.YtpmnmnflaijaaaaGreat.OptPI
open Go.RowKit Go.Shelf TupMath SumMath Litb Calm IpMath IpRef Rel Num OptMath OptRef OptPlc OptSame OptMay OptTk OptQ OptPT
set_option linter.unusedVariables false
set_option maxRecDepth 100000
theorem ext_all (s : ByteArray) (a : Nat) (h : a ≤ s.size) : bz (s.extract a s.size) = (bz s).drop a := by
 rw [bz_extract s a s.size (Nat.le_refl _), List.take_of_length_le (by rw [bz_len]; exact Nat.le_refl _)]
def cutS (s : ByteArray) (a : Nat) : ByteArray := s.extract a (a + lenAt (bz s) a)
theorem cutS_bz (s : ByteArray) (a : Nat) (h : a < s.size) : bz (cutS s a) = cutX (bz s) a := by
 have hl := lenAt_le (l := bz s) (a := a) (by rw [bz_len]; exact h)
 rw [bz_len] at hl
 unfold cutS cutX
 rw [bz_extract s a _ hl, List.drop_take]
 congr 1
 omega
theorem cutS_size (s : ByteArray) (a : Nat) (h : a < s.size) : (cutS s a).size = lenAt (bz s) a := by
 have hl := lenAt_le (l := bz s) (a := a) (by rw [bz_len]; exact h)
 rw [bz_len] at hl
 unfold cutS
 rw [ByteArray.size_extract]
 omega
set_option maxHeartbeats 4000000 in
theorem firstP (s : ByteArray) (w : World) (h : 0 < s.size) (hs : s.size ≤ 1000000) : Calls Tryz.prog 79 #[.string s] w fun e w' => e = .returned (.string (s.extract 0 (min (max 2 (at0 (bz s) 1)) s.size))) ∧ Below w.heap.size w w' := by
 have hk := at_le s 1
 have HA := Lib.hid (at8 s 1 w (by omega) hs)
 generalize at0 (bz s) 1 = k at hk HA
 obtain ⟨m, hm⟩ : ∃ m, max 2 k = m := ⟨_, rfl⟩
 obtain ⟨q, hq⟩ : ∃ q, min m s.size = q := ⟨_, rfl⟩
 rw [hm, hq]
 have m1 : max (2 : Int) (k : Int) = (m : Int) := by omega
 have q1 : min (m : Int) (s.size : Int) = (q : Int) := by omega
 have q2 : q ≤ s.size := by omega
 have q3 : (q : Int) ≤ (s.size : Int) := by omega
 clear hm hq
 go_enter Tryz.func79, Tryz.ntmps79
 go_wp2_with fail
 refine HA.out.mono ?_
 rintro e w' ⟨rfl, hb⟩
 have HB := Lib.hid hb
 clear hb
 go_wp2_with fail
 go_ret
 exact ⟨rfl, HB.out⟩
theorem firstAt (s : ByteArray) (a : Nat) (w : World) (h : a < s.size) (hs : s.size ≤ 1000000) : Calls Tryz.prog 79 #[.string (s.extract a s.size)] w fun e w' => e = .returned (.string (cutS s a)) ∧ Below w.heap.size w w' := by
 have hz : (s.extract a s.size).size = s.size - a := by rw [ByteArray.size_extract]; omega
 refine (firstP (s.extract a s.size) w (by omega) (by omega)).mono ?_
 rintro e w' ⟨rfl, hb⟩
 refine ⟨ret_str (bz_inj ?_), hb⟩
 rw [cutS_bz s a h, bz_extract _ _ _ (by omega), List.drop_zero, ext_all s a (by omega), hz]
 unfold cutX lenAt
 congr 1
 rw [bz_len]
 congr 2
 unfold at0
 rw [List.getElem?_drop]
set_option maxHeartbeats 16000000 in
theorem rightP (s : ByteArray) (w : World) (h : 0 < s.size) (hs : s.size ≤ 1000000) : Calls Tryz.prog 73 #[.string s] w fun e w' => e = .returned (.bool (rightX (bz s))) ∧ Below w.heap.size w w' := by
 have HA := Lib.hid (at8 s 1 w (by omega) hs)
 have hk := at_le s 1
 unfold rightX
 rw [bz_len]
 have HT := Lib.hid (fun W (h4 : s.size = 4) => at16 s 2 _ _ W (by omega) hs (show (bz s)[2 + 0]? = some (at0 (bz s) 2) by unfold at0; rw [List.getElem?_eq_getElem (by rw [bz_len]; omega)]; rfl) (show (bz s)[2 + 1]? = some (at0 (bz s) 3) by unfold at0; rw [List.getElem?_eq_getElem (by rw [bz_len]; omega)]; rfl))
 have z0 := at_byte s 0 h
 have k0 := at_le s 0
 have HV : Hid (s.size = 4 → v256 ((bz s).drop 2) = at0 (bz s) 2 * 256 + at0 (bz s) 3) := Lib.hid (fun h4 => by
   have e : (bz s).drop 2 = [at0 (bz s) 2, at0 (bz s) 3] := by
     rw [drop_cons (show 2 < (bz s).length by rw [bz_len]; omega), drop_cons (show 3 < (bz s).length by rw [bz_len]; omega), List.drop_eq_nil_of_le (by rw [bz_len]; omega)]
   rw [e]
   simp only [v256, List.foldl_cons, List.foldl_nil]
   omega)
 have H1 : Hid (s.size = 1 → at0 (bz s) 1 = 0) := Lib.hid (fun h1 => by unfold at0; rw [List.getElem?_eq_none (by rw [bz_len]; omega)]; rfl)
 generalize at0 (bz s) 1 = n at HA hk H1
 generalize at0 (bz s) 2 * 256 + at0 (bz s) 3 = y at HT HV
 generalize at0 (bz s) 0 = k at z0 k0
 by_cases c1 : s.size = n
 rotate_left
 · rw [decide_eq_false c1]
   have q1 : ((s.size : Int) == (n : Int)) = false := beq_eq_false_iff_ne.2 (by omega)
   have q2 : ((s.size : Int) != (n : Int)) = true := bne_iff_ne.2 (by omega)
   clear c1
   go_enter Tryz.func73, Tryz.ntmps73
   go_wp2_with fail
   refine HA.out.mono ?_
   rintro e w' ⟨rfl, hb⟩
   have HB := Lib.hid hb
   clear hb
   go_wp2_with fail
   go_ret
   exact ⟨rfl, HB.out⟩
 rw [decide_eq_true c1]
 have h2 : 2 ≤ s.size := by
   have := H1.out
   omega
 have q1 : ((s.size : Int) == (n : Int)) = true := beq_iff_eq.2 (by omega)
 have q2 : ((s.size : Int) != (n : Int)) = false := by rw [bne, q1]; rfl
 clear c1 H1
 by_cases c2 : k = 2
 · subst c2
   by_cases c4 : s.size = 4
   · have e : (true && right 2 s.size && tkB 2 ((bz s).drop 2)) = ((y : Int) != 0) := by
       unfold tkB
       rw [HV.out c4, c4]
       by_cases hy : y = 0
       · rw [hy]; rfl
       · rw [decide_eq_false hy]
         exact (bne_iff_ne.2 (by omega)).symm
     rw [e]
     have HT4 := Lib.hid (fun W => HT.out W c4)
     have q4 : ((s.size : Int) == 4) = true := beq_iff_eq.2 (by omega)
     clear e c4 HT HV
     go_enter Tryz.func73, Tryz.ntmps73
     go_wp2_with fail
     refine HA.out.mono ?_
     rintro e w' ⟨rfl, hb⟩
     have HB := Lib.hid hb
     clear hb
     go_wp2_with fail
     refine (HT4.out _).mono ?_
     rintro e w2 ⟨rfl, hb⟩
     have HB2 := Lib.hid (st_call HB.out hb)
     clear hb
     go_wp2_with fail
     go_ret
     exact ⟨rfl, HB2.out⟩
   · have e : (true && right 2 s.size && tkB 2 ((bz s).drop 2)) = false := by
       have : right 2 s.size = false := by simp [right, c4]
       rw [this]
       rfl
     rw [e]
     have q4 : ((s.size : Int) == 4) = false := beq_eq_false_iff_ne.2 (by omega)
     clear e c4 HT HV
     go_enter Tryz.func73, Tryz.ntmps73
     go_wp2_with fail
     refine HA.out.mono ?_
     rintro e w' ⟨rfl, hb⟩
     have HB := Lib.hid hb
     clear hb
     go_wp2_with fail
     go_ret
     exact ⟨rfl, HB.out⟩
 have et : tkB k ((bz s).drop 2) = true := by unfold tkB; rw [decide_eq_false c2]; rfl
 rw [et, Bool.and_true, Bool.true_and]
 clear et HT HV
 by_cases c3 : k = 3
 · subst c3
   have e : right 3 s.size = ((s.size : Int) == 3) := (beq_nat s.size 3).symm
   rw [e]
   clear e
   go_enter Tryz.func73, Tryz.ntmps73
   go_wp2_with fail
   refine HA.out.mono ?_
   rintro e w' ⟨rfl, hb⟩
   have HB := Lib.hid hb
   clear hb
   go_wp2_with fail
   go_ret
   exact ⟨rfl, HB.out⟩
 by_cases c4 : k = 4
 · subst c4
   have e : right 4 s.size = ((s.size : Int) == 2) := (beq_nat s.size 2).symm
   rw [e]
   clear e
   go_enter Tryz.func73, Tryz.ntmps73
   go_wp2_with fail
   refine HA.out.mono ?_
   rintro e w' ⟨rfl, hb⟩
   have HB := Lib.hid hb
   clear hb
   go_wp2_with fail
   go_ret
   exact ⟨rfl, HB.out⟩
 by_cases c8 : k = 8
 · subst c8
   have e : right 8 s.size = ((s.size : Int) == 10) := (beq_nat s.size 10).symm
   rw [e]
   clear e
   go_enter Tryz.func73, Tryz.ntmps73
   go_wp2_with fail
   refine HA.out.mono ?_
   rintro e w' ⟨rfl, hb⟩
   have HB := Lib.hid hb
   clear hb
   go_wp2_with fail
   go_ret
   exact ⟨rfl, HB.out⟩
 by_cases c5 : k = 5
 · subst c5
   by_cases a1 : (2 : Int) < (s.size : Int)
   · by_cases a2 : (s.size : Int) ≤ 34
     · have m1 : IntKind.i64.wrap ((s.size : Int) - 2) = (s.size : Int) - 2 := by rw [IntKind.wrap_i64]; omega
       have m2 : ((s.size : Int) - 2).tmod 8 = (((s.size - 2) % 8 : Nat) : Int) := by rw [Int.tmod_eq_emod_of_nonneg (by omega)]; omega
       have m3 : ((s.size : Int) - 2) % 8 = (((s.size - 2) % 8 : Nat) : Int) := by omega
       have e : right 5 s.size = ((((s.size - 2) % 8 : Nat) : Int) == 0) := by
         unfold right
         simp only [show (5 : Nat) = 2 ↔ False by decide, show (5 : Nat) = 3 ↔ False by decide, show (5 : Nat) = 4 ↔ False by decide, if_false, if_true]
         rw [Bool.eq_iff_iff]
         simp only [Bool.or_eq_true, beq_iff_eq]
         omega
       rw [e]
       generalize (s.size - 2) % 8 = z at m2 m3
       clear e
       go_enter Tryz.func73, Tryz.ntmps73
       go_wp2_with fail
       refine HA.out.mono ?_
       rintro e w' ⟨rfl, hb⟩
       have HB := Lib.hid hb
       clear hb
       go_wp2_with fail
       go_ret
       exact ⟨rfl, HB.out⟩
     · have e : right 5 s.size = false := by
         unfold right
         simp only [show (5 : Nat) = 2 ↔ False by decide, show (5 : Nat) = 3 ↔ False by decide, show (5 : Nat) = 4 ↔ False by decide, if_false, if_true]
         simp
         omega
       rw [e]
       clear e
       go_enter Tryz.func73, Tryz.ntmps73
       go_wp2_with fail
       refine HA.out.mono ?_
       rintro e w' ⟨rfl, hb⟩
       have HB := Lib.hid hb
       clear hb
       go_wp2_with fail
       go_ret
       exact ⟨rfl, HB.out⟩
   · have e : right 5 s.size = false := by
       unfold right
       simp only [show (5 : Nat) = 2 ↔ False by decide, show (5 : Nat) = 3 ↔ False by decide, show (5 : Nat) = 4 ↔ False by decide, if_false, if_true]
       simp
       omega
     rw [e]
     clear e
     go_enter Tryz.func73, Tryz.ntmps73
     go_wp2_with fail
     refine HA.out.mono ?_
     rintro e w' ⟨rfl, hb⟩
     have HB := Lib.hid hb
     clear hb
     go_wp2_with fail
     go_ret
     exact ⟨rfl, HB.out⟩
 have e : right k s.size = true := by
   unfold right
   rw [if_neg c2, if_neg c3, if_neg c4, if_neg c5, if_neg c8]
   exact decide_eq_true h2
 rw [e]
 have r2 : ((k : Int) == 2) = false := beq_eq_false_iff_ne.2 (by omega)
 have r3 : ((k : Int) == 3) = false := beq_eq_false_iff_ne.2 (by omega)
 have r4 : ((k : Int) == 4) = false := beq_eq_false_iff_ne.2 (by omega)
 have r5 : ((k : Int) == 5) = false := beq_eq_false_iff_ne.2 (by omega)
 have r8 : ((k : Int) == 8) = false := beq_eq_false_iff_ne.2 (by omega)
 clear e c2 c3 c4 c5 c8
 go_enter Tryz.func73, Tryz.ntmps73
 go_wp2_with fail
 refine HA.out.mono ?_
 rintro e w' ⟨rfl, hb⟩
 have HB := Lib.hid hb
 clear hb
 go_wp2_with fail
 go_ret
 exact ⟨rfl, HB.out⟩
end Go.Proofs.YtpmnmnflaijaaaaGreat.OptPI
namespace Go.Proofs.YtpmnmnflaijaaaaGreat.OptPO
open Go.RowKit Go.Shelf TupMath SumMath Litb Calm IpMath IpRef Rel Num OptMath OptRef OptPlc OptSame OptMay OptTk OptQ OptPT OptPI
set_option linter.unusedVariables false
set_option maxRecDepth 100000
attribute [local go_sem] Oper.semAt_some
def KeepR (B1 B2 : Nat) (A W : World) : Prop := ∀ b, B1 ≤ b → b < B2 → W.cell? ⟨b, 0, none⟩ = A.cell? ⟨b, 0, none⟩
theorem KeepR.refl {B1 B2 : Nat} (W : World) : KeepR B1 B2 W W := fun _ _ _ => rfl
theorem KeepR.trans {B1 B2 : Nat} {A B C : World} (h : KeepR B1 B2 A B) (h' : KeepR B1 B2 B C) : KeepR B1 B2 A C := fun b h1 h2 => (h' b h1 h2).trans (h b h1 h2)
theorem KeepR.of_below {B1 B2 : Nat} {A W : World} (h : Below B2 A W) : KeepR B1 B2 A W := fun b _ h2 => h.cell (p := ⟨b, 0, none⟩) h2
theorem lt_of_cell {w : World} {p : Addr} {v : Value} (h : w.cell? p = some v) : p.block < w.heap.size := by
 obtain ⟨o, ho, _⟩ := cells_of_cell h
 exact (Array.getElem?_eq_some_iff.1 ho).1
theorem grown_of_below {W W' : World} (h : Below W.heap.size W W') : W.grownBy W' none := ⟨h.os, h.tape, h.output, h.size, fun k hk _ => h.block k hk⟩
theorem keeps_of_below {W W' : World} (h : Below W.heap.size W W') : KeepsOthers W W' := ⟨h.size, fun k o hk _ => (h.block k (Array.getElem?_eq_some_iff.1 hk).1).trans hk⟩
set_option maxHeartbeats 4000000 in
theorem options1_in (m : Nat) (hm : 2 ≤ m) (l Bs : Nat) (s : ByteArray) (hs : s.size ≤ 1000000) (J Jx : List Nat → World → Prop)
   (hY : ∀ pre a W, a ∈ opts (bz s) 0 → pre ++ [a] <+: opts (bz s) 0 → J pre W → pre.length < (bz s).length + 1 → YieldAt Fence.wide (m - 1) Tryz.prog l #[.int .i64 (a : Int), .string (cutS s a)] W fun e W' =>
     (e = .returned (.bool true) ∧ J (pre ++ [a]) W' ∧ KeepR Bs (Bs + 1) W W') ∨ (e = .returned (.bool false) ∧ Jx (pre ++ [a]) W'))
   (hJ : ∀ pre W W', J pre W → Below W.heap.size W W' → J pre W')
   (W : World) (hBs : W.cell? ⟨Bs, 0, none⟩ = some (.string s)) (h0 : J [] W) :
   CallsIn Fence.wide m Tryz.prog 78 #[.func (.yield l) #[] #[], .pointer (some ⟨Bs, 0, none⟩)] W fun e W' => (∃ v, e = .returned v) ∧
     ((∃ ys, ys = opts (bz s) 0 ∧ J ys W') ∨ (∃ pre, pre <+: opts (bz s) 0 ∧ Jx pre W')) := by
 have HY := Lib.hid hY
 have HJ := Lib.hid hJ
 clear hY hJ
 refine callsIn_of_wp Tryz.func78 rfl trivial ?_ rfl
 simp only [Tryz.ntmps78, List.size_toArray, List.length_cons, List.length_nil, Nat.reduceAdd, Nat.reduceSub, Array.replicate_succ, Array.replicate_zero, List.push_toArray, List.append_toArray, List.nil_append, List.cons_append]
 gi_wp2
 gi_loopw [3] (fun i wr => ∃ (a : Nat) (pre : List Nat), i = .int .i64 (a : Int) ∧ a ≤ s.size ∧ opts (bz s) 0 = pre ++ opts (bz s) a ∧ J pre wr ∧ KeepR Bs (Bs + 1) W wr)
   (fun i _ => s.size - (intOf i).toNat)
 case atStart => exact ⟨0, [], rfl, by omega, rfl, h0, KeepR.refl _⟩
 case round =>
   obtain ⟨a, pre, rfl, ha, hp, hj, hK⟩ := hrel
   have hc := (hK Bs (Nat.le_refl _) (Nat.lt_succ_self _)).trans hBs
   have HP := Lib.hid hp
   have HK := Lib.hid hK
   have HJ0 := Lib.hid hj
   clear hp hK hj
   by_cases hlt : a < s.size
   · have hltb : a < (bz s).length := by rw [bz_len]; exact hlt
     have z := at_byte s a hlt
     have hk := at_le s a
     have hlti : (a : Int) < (s.size : Int) := by omega
     obtain ⟨k, hkk⟩ : ∃ k, at0 (bz s) a = k := ⟨_, rfl⟩
     rw [hkk] at z hk
     by_cases c0 : k = 0
     · subst c0
       have HE := Lib.hid (show pre = opts (bz s) 0 by rw [HP.out, opts_zero hltb hkk, List.append_nil])
       clear hkk
       gi_wp2
       go_end0
       exact ⟨⟨_, rfl⟩, .inl ⟨pre, HE.out, HJ0.out⟩⟩
     by_cases c1 : k = 1
     · subst c1
       have HE := Lib.hid (show opts (bz s) 0 = pre ++ opts (bz s) (a + 1) by rw [HP.out, opts_one hltb hkk])
       clear hkk c0
       gi_wp2
       go_roundw
       case rel => exact ⟨a + 1, pre, by go_num, by omega, HE.out, HJ0.out, HK.out⟩
       case measure => simp only [intOf]; omega
     have HE := Lib.hid (show opts (bz s) 0 = (pre ++ [a]) ++ opts (bz s) (a + lenAt (bz s) a) by rw [HP.out, opts_some hltb (by rw [hkk]; exact c0) (by rw [hkk]; exact c1)]; simp)
     have q0 : ((k : Int) == 0) = false := beq_eq_false_iff_ne.2 (by omega)
     have r0 : ((k : Int) != 0) = true := by rw [bne, q0]; rfl
     have q1 : ((k : Int) == 1) = false := beq_eq_false_iff_ne.2 (by omega)
     have hsz := cutS_size s a hlt
     have hl1 := lenAt_pos hltb
     have hl2 := lenAt_le hltb
     rw [bz_len] at hl2
     have HF := Lib.hid (fun W => firstAt s a W hlt hs)
     have hmem : a ∈ opts (bz s) 0 := by rw [HE.out]; simp
     have hpl : pre.length < (bz s).length + 1 := by
       have h1 := opts_few (bz s) (bz s).length 0 (by omega)
       have h2 := congrArg List.length HE.out
       simp only [List.length_append, List.length_cons, List.length_nil] at h2
       omega
     have HYY := Lib.hid (fun W hj => HY.out pre a W hmem ⟨_, HE.out.symm⟩ hj hpl)
     clear hkk c0 c1 hmem hpl
     generalize cutS s a = x at hsz HF HYY
     generalize lenAt (bz s) a = n at hsz hl1 hl2 HE
     gi_wp2
     refine ⟨trivial, fun _ => by omega, ?_⟩
     refine (callsIn_wide.2 (HF.out _)).mono ?_
     rintro e w1 ⟨rfl, hb⟩
     have HB := Lib.hid hb
     have hc1 := (hb.cell (p := ⟨Bs, 0, none⟩) (lt_of_cell hc)).trans hc
     obtain ⟨fn, tmps, assign, body, hyy, hR⟩ := HYY.out w1 (HJ.out pre _ w1 HJ0.out hb)
     clear hb
     gi_wp2
     refine ⟨fun _ => by omega, hR.mono ?_⟩
     rintro e W3 (⟨rfl, hJ3, hk3⟩ | ⟨rfl, hJx3⟩)
     · have hc3 := (hk3 Bs (Nat.le_refl _) (Nat.lt_succ_self _)).trans hc1
       have HK3 := Lib.hid (HK.out.trans ((KeepR.of_below (HB.out.mono (lt_of_cell hc))).trans hk3))
       have HJ3 := Lib.hid hJ3
       clear hyy hk3 hJ3
       gi_wp2
       go_roundw
       case rel => exact ⟨a + n, pre ++ [a], by go_num, by omega, HE.out, HJ3.out, HK3.out⟩
       case measure => simp only [intOf]; omega
     · clear hyy
       gi_wp2
       refine bodyPost_ret (results_none rfl _ _ _) rfl ?_
       exact ⟨⟨_, rfl⟩, .inr ⟨_, ⟨_, HE.out.symm⟩, hJx3⟩⟩
   · obtain rfl : a = s.size := by omega
     have HE := Lib.hid (show pre = opts (bz s) 0 by rw [HP.out, opts_end (by rw [bz_len]; omega), List.append_nil])
     gi_wp2
     go_end0
     exact ⟨⟨_, rfl⟩, .inl ⟨pre, HE.out, HJ0.out⟩⟩
abbrev Plc (s : ByteArray) := { a : Nat // a ∈ opts (bz s) 0 }
def vals {s : ByteArray} (l : List (Plc s)) : List Nat := l.map (·.1)
theorem vals_snoc {s : ByteArray} (l : List (Plc s)) (x : Plc s) : vals (l ++ [x]) = vals l ++ [x.1] := by simp [vals]
theorem vals_len {s : ByteArray} (l : List (Plc s)) : (vals l).length = l.length := by simp [vals]
theorem place_lt {s : ByteArray} (x : Plc s) : x.1 < s.size ∧ at0 (bz s) x.1 ≠ 0 ∧ at0 (bz s) x.1 ≠ 1 := by
 have h := opts_in (bz s) (bz s).length 0 (by omega) x.1 x.2
 rw [bz_len] at h
 exact h.2
theorem options_stops (m : Nat) (hm : 2 ≤ m) (Bs : Nat) (s : ByteArray) (hs : s.size ≤ 1000000) (w : World) (hB : Bs < w.heap.size) (hc : w.cell? ⟨Bs, 0, none⟩ = some (.string s)) :
   SeqStopsK Fence.wide m Tryz.prog 78 #[.pointer (some ⟨Bs, 0, none⟩)] (fun x : Plc s => #[Value.int .i64 (x.1 : Int), Value.string (cutS s x.1)]) (KeepR Bs (Bs + 1))
     (fun ys => vals ys = opts (bz s) 0) (fun pre => vals pre <+: opts (bz s) 0) ((bz s).length + 1) w := fun l J Jx W hW hJ _ hY h0 => by
 refine (options1_in m hm l Bs s hs (fun pre W' => ∃ xs : List (Plc s), vals xs = pre ∧ J xs W') (fun pre W' => ∃ xs : List (Plc s), vals xs = pre ∧ Jx xs W') ?_ ?_ W ((hW.cell (p := ⟨Bs, 0, none⟩) hB).trans hc) ⟨[], rfl, h0⟩).mono ?_
 · rintro pre a W1 ha hpre ⟨xs, rfl, hj⟩ hl
   obtain ⟨fn, tmps, assign, body, hyy, hR⟩ := hY xs ⟨a, ha⟩ W1 hj (by rw [vals_len] at hl; exact hl)
   refine ⟨fn, tmps, assign, body, hyy, hR.mono ?_⟩
   rintro e W' (⟨he, hj, hk⟩ | ⟨he, hj⟩)
   · exact .inl ⟨he, ⟨_, vals_snoc _ _, hj⟩, hk⟩
   · exact .inr ⟨he, ⟨_, vals_snoc _ _, hj⟩⟩
 · rintro pre W1 W2 ⟨xs, e, hj⟩ hb
   exact ⟨xs, e, hJ xs W1 W2 none hj (grown_of_below hb) (fun r e => by cases e)⟩
 · rintro e W' ⟨he, ⟨ys, rfl, xs, hx, hj⟩ | ⟨pre, hpre, xs, hx, hj⟩⟩
   · exact ⟨he, .inl ⟨xs, hx, hj⟩⟩
   · exact ⟨he, .inr ⟨xs, by subst hx; exact hpre, hj⟩⟩
set_option maxHeartbeats 1000000 in
theorem options_in (m : Nat) (s : ByteArray) (w : World) :
   CallsIn Fence.wide m Tryz.prog 45 #[.string s] w fun e w' => e = .returned (.func (.func 78) #[] #[.pointer (some ⟨w.heap.size, 0, none⟩)]) ∧ w' = w.alloc (.cells #[.string s] 9) := by
 refine callsIn_of_wp Tryz.func45 rfl trivial ?_ rfl
 simp only [Tryz.ntmps45, List.size_toArray, List.length_cons, List.length_nil, Nat.reduceAdd, Nat.reduceSub, Array.replicate_succ, Array.replicate_zero, List.push_toArray, List.append_toArray, List.nil_append, List.cons_append]
 gi_wp2
 go_ret
 exact ⟨rfl, rfl⟩
end Go.Proofs.YtpmnmnflaijaaaaGreat.OptPO
namespace Go.Proofs.YtpmnmnflaijaaaaGreat.OptPW
open Go.Proofs.YtpmnmnflaijaaaaGreat.Own
open Go.RowKit TupMath SumMath Litb Calm Rel RelT RelK IpMath IpRef Num OptMath OptRef OptPlc OptSame Boxes OptRaw OptMay OptTake OptTake5 OptTk OptDec OptQ
open Cells (CellsAt set7 put_lit)
set_option linter.unusedVariables false
set_option maxRecDepth 100000
theorem at0_some {l : List Nat} {i : Nat} (h : i < l.length) : l[i]? = some (at0 l i) := by unfold at0; rw [List.getElem?_eq_getElem h]; rfl
theorem at16v (s : ByteArray) (i : Nat) (w : World) (h : i + 2 ≤ s.size) (hs : s.size ≤ 1000000) : Calls Tryz.prog 48 #[.string s, .int .i64 (i : Int)] w fun e w' => e = .returned (.int .u16 ((v256 (((bz s).drop i).take 2) : Nat) : Int)) ∧ Below w.heap.size w w' := by
 have e : v256 (((bz s).drop i).take 2) = at0 (bz s) i * 256 + at0 (bz s) (i + 1) := by
   rw [drop_cons (show i < (bz s).length by rw [bz_len]; omega), drop_cons (show i + 1 < (bz s).length by rw [bz_len]; omega)]
   simp only [List.take_succ_cons, List.take_zero, v256, List.foldl_cons, List.foldl_nil]
   omega
 rw [e]
 exact at16 s i _ _ w h hs (at0_some (by rw [bz_len]; omega)) (at0_some (by rw [bz_len]; omega))
theorem at32v (s : ByteArray) (i : Nat) (w : World) (h : i + 4 ≤ s.size) (hs : s.size ≤ 1000000) : Calls Tryz.prog 80 #[.string s, .int .i64 (i : Int)] w fun e w' => e = .returned (.int .u32 ((v256 (((bz s).drop i).take 4) : Nat) : Int)) ∧ Below w.heap.size w w' := by
 have e : v256 (((bz s).drop i).take 4) = at0 (bz s) i * 16777216 + at0 (bz s) (i + 1) * 65536 + at0 (bz s) (i + 2) * 256 + at0 (bz s) (i + 3) := by
   rw [drop_cons (show i < (bz s).length by rw [bz_len]; omega), drop_cons (show i + 1 < (bz s).length by rw [bz_len]; omega), drop_cons (show i + 1 + 1 < (bz s).length by rw [bz_len]; omega), drop_cons (show i + 1 + 1 + 1 < (bz s).length by rw [bz_len]; omega)]
   simp only [Nat.add_assoc, Nat.reduceAdd, List.take_succ_cons, List.take_zero, v256, List.foldl_cons, List.foldl_nil]
   omega
 rw [e]
 exact at32 s i _ _ _ _ w h hs (at0_some (by rw [bz_len]; omega)) (at0_some (by rw [bz_len]; omega)) (at0_some (by rw [bz_len]; omega)) (at0_some (by rw [bz_len]; omega))
set_option maxHeartbeats 16000000 in
theorem withO (o : Opn) (A : Option Addr) (c k : Nat) (s : ByteArray) (w : World) (hs : 0 < s.size) (hk : at0 (bz s) 0 = k) (h2 : k ≠ 2) (h3 : k ≠ 3) (h4 : k ≠ 4) (h5 : k ≠ 5) (h8 : k ≠ 8) :
   Calls Tryz.prog 75 #[ov o A c, .string s] w fun e w' => e = .returned (ov o A c) ∧ Below w.heap.size w w' := by
 have z := at_byte s 0 hs
 have z1 := at_le s 0
 rw [hk] at z z1
 have q2 : ((k : Int) == 2) = false := beq_eq_false_iff_ne.2 (by omega)
 have q3 : ((k : Int) == 3) = false := beq_eq_false_iff_ne.2 (by omega)
 have q4 : ((k : Int) == 4) = false := beq_eq_false_iff_ne.2 (by omega)
 have q5 : ((k : Int) == 5) = false := beq_eq_false_iff_ne.2 (by omega)
 have q8 : ((k : Int) == 8) = false := beq_eq_false_iff_ne.2 (by omega)
 clear hk
 go_enter Tryz.func75, Tryz.ntmps75
 go_wp2_with fail
 refine bodyPost_ret (v := ov o A c) ?_ rfl ⟨rfl, st_alloc (st_alloc (Below.refl _ _) _) _⟩
 simp [results, Tryz.f75, go_sem]
set_option maxHeartbeats 16000000 in
theorem with4 (o : Opn) (A : Option Addr) (c : Nat) (s : ByteArray) (w : World) (hs : 0 < s.size) (hk : at0 (bz s) 0 = 4) :
   Calls Tryz.prog 75 #[ov o A c, .string s] w fun e w' => e = .returned (ov { o with sack := true } A c) ∧ Below w.heap.size w w' := by
 have z := at_byte s 0 hs
 rw [hk] at z
 clear hk
 go_enter Tryz.func75, Tryz.ntmps75
 go_wp2_with fail
 refine bodyPost_ret (v := ov { o with sack := true } A c) ?_ rfl ⟨rfl, st_alloc (st_alloc (Below.refl _ _) _) _⟩
 simp [results, Tryz.f75, go_sem]
set_option maxHeartbeats 16000000 in
theorem with3 (o : Opn) (A : Option Addr) (c : Nat) (s : ByteArray) (w : World) (hs : s.size = 3) (hk : at0 (bz s) 0 = 3) :
   Calls Tryz.prog 75 #[ov o A c, .string s] w fun e w' => e = .returned (ov { o with scale := min (at0 (bz s) 2 : Int) 14 } A c) ∧ Below w.heap.size w w' := by
 have h0 : 0 < s.size := by omega
 have h2 : 2 < s.size := by omega
 have z := at_byte s 0 h0
 rw [hk] at z
 have y := at_byte s 2 h2
 have y1 := at_le s 2
 obtain ⟨x, hx⟩ : ∃ x, at0 (bz s) 2 = x := ⟨_, rfl⟩
 rw [hx] at y y1 ⊢
 clear hk hx
 obtain ⟨m, hm⟩ : ∃ m : Int, min (x : Int) 14 = m := ⟨_, rfl⟩
 rw [hm]
 go_enter Tryz.func75, Tryz.ntmps75
 go_wp2_with fail
 refine bodyPost_ret (v := ov { o with scale := m } A c) ?_ rfl ⟨rfl, st_alloc (st_alloc (Below.refl _ _) _) _⟩
 simp [results, Tryz.f75, go_sem]
set_option maxHeartbeats 16000000 in
theorem with2 (o : Opn) (A : Option Addr) (c : Nat) (s : ByteArray) (w : World) (hs : s.size = 4) (hk : at0 (bz s) 0 = 2) :
   Calls Tryz.prog 75 #[ov o A c, .string s] w fun e w' => e = .returned (ov { o with mss := v256 ((bz s).drop 2) } A c) ∧ Below w.heap.size w w' := by
 have h0 : 0 < s.size := by omega
 have z := at_byte s 0 h0
 rw [hk] at z
 have HN := Lib.hid (fun W => at16v s 2 W (by omega) (by omega))
 have e2 : ((bz s).drop 2).take 2 = (bz s).drop 2 := List.take_of_length_le (by rw [List.length_drop, bz_len]; omega)
 rw [e2] at HN
 generalize v256 ((bz s).drop 2) = x at HN ⊢
 have B0 := Lib.hid (st_alloc (st_alloc (Below.refl _ w) (.cells (oc o A c) 28)) (.cells #[.int .u16 0, .int .i64 0, .bool false, .slice none 0 0, .bool false, .int .u32 0, .int .u32 0] 28))
 have hsz : ((w.alloc (.cells (oc o A c) 28)).alloc (.cells #[.int .u16 0, .int .i64 0, .bool false, .slice none 0 0, .bool false, .int .u32 0, .int .u32 0] 28)).heap.size = w.heap.size + 2 := by simp
 have HC0 := Lib.hid ((CellsAt.new w (oc o A c) 28).later ((Below.refl _ _).alloc (Nat.le_refl _) (.cells #[.int .u16 0, .int .i64 0, .bool false, .slice none 0 0, .bool false, .int .u32 0, .int .u32 0] 28)))
 have HD0 : Hid (CellsAt ((w.alloc (.cells (oc o A c) 28)).alloc (.cells #[.int .u16 0, .int .i64 0, .bool false, .slice none 0 0, .bool false, .int .u32 0, .int .u32 0] 28)) (w.heap.size + 1) #[.int .u16 0, .int .i64 0, .bool false, .slice none 0 0, .bool false, .int .u32 0, .int .u32 0]) := Lib.hid (by
   have h := CellsAt.new (w.alloc (.cells (oc o A c) 28)) #[.int .u16 0, .int .i64 0, .bool false, .slice none 0 0, .bool false, .int .u32 0, .int .u32 0] 28
   rw [World.size_alloc] at h
   exact h)
 clear hk e2
 go_enter Tryz.func75, Tryz.ntmps75
 go_wp2_with fail
 refine (HN.out _).mono ?_
 rintro e wA ⟨rfl, hb⟩
 have HC := Lib.hid (HC0.out.later hb)
 have HD := Lib.hid (HD0.out.later hb)
 have HB := Lib.hid (st_call B0.out hb)
 clear hb
 have c0 := HC.out.cell 0 _ rfl
 have f0 := HC.out.free 0 (show 0 < 7 by decide)
 have c1 := HC.out.cell 1 _ rfl
 have f1 := HC.out.free 1 (show 1 < 7 by decide)
 have c2 := HC.out.cell 2 _ rfl
 have f2 := HC.out.free 2 (show 2 < 7 by decide)
 have c3 := HC.out.cell 3 _ rfl
 have f3 := HC.out.free 3 (show 3 < 7 by decide)
 have c4 := HC.out.cell 4 _ rfl
 have f4 := HC.out.free 4 (show 4 < 7 by decide)
 have c5 := HC.out.cell 5 _ rfl
 have f5 := HC.out.free 5 (show 5 < 7 by decide)
 have c6 := HC.out.cell 6 _ rfl
 have f6 := HC.out.free 6 (show 6 < 7 by decide)
 have d0 := HD.out.cell 0 _ rfl
 have g0 := HD.out.free 0 (show 0 < 7 by decide)
 have d1 := HD.out.cell 1 _ rfl
 have g1 := HD.out.free 1 (show 1 < 7 by decide)
 have d2 := HD.out.cell 2 _ rfl
 have g2 := HD.out.free 2 (show 2 < 7 by decide)
 have d3 := HD.out.cell 3 _ rfl
 have g3 := HD.out.free 3 (show 3 < 7 by decide)
 have d4 := HD.out.cell 4 _ rfl
 have g4 := HD.out.free 4 (show 4 < 7 by decide)
 have d5 := HD.out.cell 5 _ rfl
 have g5 := HD.out.free 5 (show 5 < 7 by decide)
 have d6 := HD.out.cell 6 _ rfl
 have g6 := HD.out.free 6 (show 6 < 7 by decide)
 go_wp2_with fail
 obtain ⟨W9, hW9, hC9, _, hb9⟩ := (HD.out.other w.heap.size 0 (.int .u16 (x : Int)) (by omega)).anew rfl (.int .u16 (x : Int)) (.int .i64 o.scale) (.bool o.sack) (.slice A o.blocks.length c) (.bool o.time) (.int .u32 (o.val : Int)) (.int .u32 (o.echo : Int))
 rw [hW9]
 have e0 := hC9.cell 0 _ rfl
 have h0 := hC9.free 0 (show 0 < 7 by decide)
 have e1 := hC9.cell 1 _ rfl
 have h1 := hC9.free 1 (show 1 < 7 by decide)
 have e2 := hC9.cell 2 _ rfl
 have h2 := hC9.free 2 (show 2 < 7 by decide)
 have e3 := hC9.cell 3 _ rfl
 have h3 := hC9.free 3 (show 3 < 7 by decide)
 have e4 := hC9.cell 4 _ rfl
 have h4 := hC9.free 4 (show 4 < 7 by decide)
 have e5 := hC9.cell 5 _ rfl
 have h5 := hC9.free 5 (show 5 < 7 by decide)
 have e6 := hC9.cell 6 _ rfl
 have h6 := hC9.free 6 (show 6 < 7 by decide)
 have B9 := Lib.hid ((HB.out.setCell (p := ⟨w.heap.size, 0, none⟩) (Nat.le_refl _) (.int .u16 (x : Int))).trans (hb9.mono (by omega)))
 refine bodyPost_ret (v := ov { o with mss := x } A c) ?_ rfl ⟨rfl, B9.out⟩
 simp [results, Tryz.f75, go_sem, e0, e1, e2, e3, e4, e5, e6]
set_option maxHeartbeats 16000000 in
theorem with8 (o : Opn) (A : Option Addr) (c : Nat) (s : ByteArray) (w : World) (hs : s.size = 10) (hk : at0 (bz s) 0 = 8) :
   Calls Tryz.prog 75 #[ov o A c, .string s] w fun e w' => e = .returned (ov { o with time := true, val := v256 (((bz s).drop 2).take 4), echo := v256 (((bz s).drop 2).drop 4) } A c) ∧ Below w.heap.size w w' := by
 have h0 : 0 < s.size := by omega
 have z := at_byte s 0 h0
 rw [hk] at z
 have HN := Lib.hid (fun W => at32v s 2 W (by omega) (by omega))
 have HM := Lib.hid (fun W => at32v s 6 W (by omega) (by omega))
 have e2 : ((bz s).drop 6).take 4 = ((bz s).drop 2).drop 4 := by rw [List.drop_drop, List.take_of_length_le (by rw [List.length_drop, bz_len]; omega)]
 rw [e2] at HM
 generalize v256 (((bz s).drop 2).drop 4) = y at HM ⊢
 generalize v256 (((bz s).drop 2).take 4) = x at HN ⊢
 have B0 := Lib.hid (st_alloc (st_alloc (Below.refl _ w) (.cells (oc o A c) 28)) (.cells #[.int .u16 0, .int .i64 0, .bool false, .slice none 0 0, .bool false, .int .u32 0, .int .u32 0] 28))
 have hsz : ((w.alloc (.cells (oc o A c) 28)).alloc (.cells #[.int .u16 0, .int .i64 0, .bool false, .slice none 0 0, .bool false, .int .u32 0, .int .u32 0] 28)).heap.size = w.heap.size + 2 := by simp
 have HC0 := Lib.hid ((CellsAt.new w (oc o A c) 28).later ((Below.refl _ _).alloc (Nat.le_refl _) (.cells #[.int .u16 0, .int .i64 0, .bool false, .slice none 0 0, .bool false, .int .u32 0, .int .u32 0] 28)))
 have HD0 : Hid (CellsAt ((w.alloc (.cells (oc o A c) 28)).alloc (.cells #[.int .u16 0, .int .i64 0, .bool false, .slice none 0 0, .bool false, .int .u32 0, .int .u32 0] 28)) (w.heap.size + 1) #[.int .u16 0, .int .i64 0, .bool false, .slice none 0 0, .bool false, .int .u32 0, .int .u32 0]) := Lib.hid (by
   have h := CellsAt.new (w.alloc (.cells (oc o A c) 28)) #[.int .u16 0, .int .i64 0, .bool false, .slice none 0 0, .bool false, .int .u32 0, .int .u32 0] 28
   rw [World.size_alloc] at h
   exact h)
 clear hk e2
 go_enter Tryz.func75, Tryz.ntmps75
 go_wp2_with fail
 refine (HN.out _).mono ?_
 rintro e wA ⟨rfl, hb⟩
 have HC := Lib.hid (HC0.out.later hb)
 have HD := Lib.hid (HD0.out.later hb)
 have HB := Lib.hid (st_call B0.out hb)
 clear hb
 go_wp2_with fail
 refine (HM.out _).mono ?_
 rintro e wB ⟨rfl, hb⟩
 have HC2 := Lib.hid (HC.out.later hb)
 have HD2 := Lib.hid (HD.out.later hb)
 have HB2 := Lib.hid (st_call HB.out hb)
 clear hb
 have c0 := HC2.out.cell 0 _ rfl
 have f0 := HC2.out.free 0 (show 0 < 7 by decide)
 have c1 := HC2.out.cell 1 _ rfl
 have f1 := HC2.out.free 1 (show 1 < 7 by decide)
 have c2 := HC2.out.cell 2 _ rfl
 have f2 := HC2.out.free 2 (show 2 < 7 by decide)
 have c3 := HC2.out.cell 3 _ rfl
 have f3 := HC2.out.free 3 (show 3 < 7 by decide)
 have c4 := HC2.out.cell 4 _ rfl
 have f4 := HC2.out.free 4 (show 4 < 7 by decide)
 have c5 := HC2.out.cell 5 _ rfl
 have f5 := HC2.out.free 5 (show 5 < 7 by decide)
 have c6 := HC2.out.cell 6 _ rfl
 have f6 := HC2.out.free 6 (show 6 < 7 by decide)
 have d0 := HD2.out.cell 0 _ rfl
 have g0 := HD2.out.free 0 (show 0 < 7 by decide)
 have d1 := HD2.out.cell 1 _ rfl
 have g1 := HD2.out.free 1 (show 1 < 7 by decide)
 have d2 := HD2.out.cell 2 _ rfl
 have g2 := HD2.out.free 2 (show 2 < 7 by decide)
 have d3 := HD2.out.cell 3 _ rfl
 have g3 := HD2.out.free 3 (show 3 < 7 by decide)
 have d4 := HD2.out.cell 4 _ rfl
 have g4 := HD2.out.free 4 (show 4 < 7 by decide)
 have d5 := HD2.out.cell 5 _ rfl
 have g5 := HD2.out.free 5 (show 5 < 7 by decide)
 have d6 := HD2.out.cell 6 _ rfl
 have g6 := HD2.out.free 6 (show 6 < 7 by decide)
 go_wp2_with fail
 obtain ⟨W9, hW9, hC9, _, hb9⟩ := (((HD2.out.other w.heap.size 4 (.bool true) (by omega)).other w.heap.size 5 (.int .u32 (x : Int)) (by omega)).other w.heap.size 6 (.int .u32 (y : Int)) (by omega)).anew rfl (.int .u16 (o.mss : Int)) (.int .i64 o.scale) (.bool o.sack) (.slice A o.blocks.length c) (.bool true) (.int .u32 (x : Int)) (.int .u32 (y : Int))
 rw [hW9]
 have e0 := hC9.cell 0 _ rfl
 have h0 := hC9.free 0 (show 0 < 7 by decide)
 have e1 := hC9.cell 1 _ rfl
 have h1 := hC9.free 1 (show 1 < 7 by decide)
 have e2 := hC9.cell 2 _ rfl
 have h2 := hC9.free 2 (show 2 < 7 by decide)
 have e3 := hC9.cell 3 _ rfl
 have h3 := hC9.free 3 (show 3 < 7 by decide)
 have e4 := hC9.cell 4 _ rfl
 have h4 := hC9.free 4 (show 4 < 7 by decide)
 have e5 := hC9.cell 5 _ rfl
 have h5 := hC9.free 5 (show 5 < 7 by decide)
 have e6 := hC9.cell 6 _ rfl
 have h6 := hC9.free 6 (show 6 < 7 by decide)
 have B9 := Lib.hid ((((HB2.out.setCell (p := ⟨w.heap.size, 4, none⟩) (Nat.le_refl _) (.bool true)).setCell (p := ⟨w.heap.size, 5, none⟩) (Nat.le_refl _) (.int .u32 (x : Int))).setCell (p := ⟨w.heap.size, 6, none⟩) (Nat.le_refl _) (.int .u32 (y : Int))).trans (hb9.mono (by omega)))
 refine bodyPost_ret (v := ov { o with time := true, val := x, echo := y } A c) ?_ rfl ⟨rfl, B9.out⟩
 simp [results, Tryz.f75, go_sem, e0, e1, e2, e3, e4, e5, e6]
def relW5 (s : ByteArray) (A : Option Addr) (n c a p q b0 : Nat) : Nat → Value → World → Prop
 | 0 => fun v _ => v = .pointer (some ⟨b0, 3, none⟩)
 | 1 => fun v _ => v = .slice A n c
 | 2 => fun v _ => v = .string s
 | 3 => fun v _ => v = .int .i64 (a : Int)
 | 4 => fun v _ => v = .int .i64 (a : Int)
 | 5 => fun v _ => v = .int .u32 (p : Int)
 | 6 => fun v _ => v = .string s
 | 7 => fun v _ => v = .int .i64 (a : Int)
 | 8 => fun v _ => v = .int .i64 ((a : Int) + 4)
 | 9 => fun v _ => v = .int .u32 (q : Int)
 | 10 => fun v _ => v = .agg #[.int .u32 (p : Int), .int .u32 (q : Int)]
 | 11 => fun v W => ∃ B, v = .slice (some ⟨B, 0, none⟩) 1 1 ∧ W.heap[B]? = some (.cells #[.int .u32 (p : Int), .int .u32 (q : Int)] 74 (0, 0))
 | _ => fun _ _ => True
theorem relW5_more (s : ByteArray) (A : Option Addr) (n c a p q b0 : Nat) (i : Nat) (v : Value) (w w' : World) (hr : relW5 s A n c a p q b0 i v w) (hb : Below w.heap.size w w') : relW5 s A n c a p q b0 i v w' := by
 unfold relW5 at hr ⊢
 split at hr <;> first
   | exact hr
   | (obtain ⟨B, e, h⟩ := hr
      exact ⟨B, e, box_more h hb⟩)
attribute [local go_sem] relUpon
set_option maxHeartbeats 16000000 in
theorem with5 (o : Opn) (s : ByteArray) (w : World) (hbl : o.blocks = []) (h8 : (s.size - 2) % 8 = 0) (hs : s.size ≤ 34) (h2 : 2 ≤ s.size) (hk : at0 (bz s) 0 = 5) :
   Calls Tryz.prog 75 #[ov o none 0, .string s] w fun e w' => ∃ A' c', e = .returned (ov { o with blocks := prs ((bz s).drop 2) } A' c') ∧ Row (fun b => w.heap.size ≤ b) w' A' (prs ((bz s).drop 2)) ∧ Below w.heap.size w w' := by
 have h0 : 0 < s.size := by omega
 have z := at_byte s 0 h0
 rw [hk] at z
 clear hk
 have hdl : ((bz s).drop 2).length = s.size - 2 := by rw [List.length_drop, bz_len]
 obtain ⟨M, hM⟩ : ∃ M, prs ((bz s).drop 2) = M := ⟨_, rfl⟩
 have hMl : M.length = (s.size - 2) / 8 := by rw [← hM]; exact prs_len _ _ (by rw [hdl]; omega)
 have HA : Hid (∀ k, 8 * k + 10 ≤ s.size → M[k]? = some (v256 (((bz s).drop (2 + 8 * k)).take 4), v256 (((bz s).drop (2 + 8 * k + 4)).take 4))) := Lib.hid (fun k hk => by
   rw [← hM]
   have h := prs_at k ((bz s).drop 2) (by rw [hdl]; omega)
   rw [List.drop_drop, List.drop_drop, show 2 + (8 * k + 4) = 2 + 8 * k + 4 by omega] at h
   exact h)
 rw [hM]
 clear hM hdl
 obtain ⟨mss, scale, sack, blocks, time, val, echo⟩ := o
 simp only at hbl
 subst hbl
 have C0 : CellsAt ((w.alloc (.cells (oc ⟨mss, scale, sack, [], time, val, echo⟩ none 0) 28)).alloc (.cells #[.int .u16 0, .int .i64 0, .bool false, .slice none 0 0, .bool false, .int .u32 0, .int .u32 0] 28)) w.heap.size (oc ⟨mss, scale, sack, [], time, val, echo⟩ none 0) :=
   (CellsAt.new w (oc ⟨mss, scale, sack, [], time, val, echo⟩ none 0) 28).later ((Below.refl _ _).alloc (Nat.le_refl _) _)
 have D0 := CellsAt.new (w.alloc (.cells (oc ⟨mss, scale, sack, [], time, val, echo⟩ none 0) 28)) #[.int .u16 0, .int .i64 0, .bool false, .slice none 0 0, .bool false, .int .u32 0, .int .u32 0] 28
 rw [World.size_alloc] at D0
 have B0 := st_alloc (st_alloc (Below.refl _ w) (.cells (oc ⟨mss, scale, sack, [], time, val, echo⟩ none 0) 28)) (.cells #[.int .u16 0, .int .i64 0, .bool false, .slice none 0 0, .bool false, .int .u32 0, .int .u32 0] 28)
 have HC0 := Lib.hid C0
 have HD0 := Lib.hid D0
 have HB0 := Lib.hid B0
 have HL := Lib.hid hMl
 clear C0 D0 B0 hMl
 go_enter Tryz.func75, Tryz.ntmps75
 go_wp2_with fail
 go_loopw [5] (fun i wr => ∃ (k a : Nat) (A : Option Addr) (c : Nat) (L : List (Nat × Nat)), i = .int .i64 (a : Int) ∧ a = 2 + 8 * k ∧ a ≤ s.size ∧ L = M.take k ∧ CellsAt wr w.heap.size (oc ⟨mss, scale, sack, L, time, val, echo⟩ A c) ∧ CellsAt wr (w.heap.size + 1) #[.int .u16 0, .int .i64 0, .bool false, .slice none 0 0, .bool false, .int .u32 0, .int .u32 0] ∧ OwnB wr (w.heap.size + 2) (.slice A L.length c) L ∧ Below w.heap.size w wr) (fun i _ => s.size - (intOf i).toNat)
 case atStart => exact ⟨0, 2, none, 0, [], rfl, rfl, by omega, rfl, HC0.out, HD0.out, ownB_nil _ _, HB0.out⟩
 case round =>
   obtain ⟨k, a, A, c, L, rfl, hak, hk, hL, hC, hD, hO, hB⟩ := hrel
   have HLk := Lib.hid hL
   have hLl : L.length = min k M.length := by rw [hL, List.length_take]
   have HC := Lib.hid hC
   have HD := Lib.hid hD
   have HO := Lib.hid hO
   have HB := Lib.hid hB
   have HAK := Lib.hid hak
   have hd1 := hD.lt
   clear hL hC hD hO hB
   by_cases hlt : a < s.size
   · have hli : (a : Int) < (s.size : Int) := by omega
     have hk8 : 8 * k + 10 ≤ s.size := by omega
     have hMk := HA.out k hk8
     have hk4 : L.length ≤ 4 := by have := HL.out; omega
     have np := fun W => at32v s a W (by omega) (by omega)
     have nq := fun W => at32v s (a + 4) W (by omega) (by omega)
     rw [← hak] at hMk
     generalize v256 (((bz s).drop a).take 4) = p at np hMk
     generalize v256 (((bz s).drop (a + 4)).take 4) = q at nq hMk
     have ea : ((a + 4 : Nat) : Int) = (a : Int) + 4 := by omega
     rw [ea] at nq
     have HP := Lib.hid np
     have HQ := Lib.hid nq
     have HMK := Lib.hid hMk
     have i0 : IntKind.i64.wrap (a : Int) = (a : Int) := by rw [IntKind.wrap_i64]; omega
     have w4 : IntKind.i64.wrap ((a : Int) + 4) = (a : Int) + 4 := by rw [IntKind.wrap_i64]; omega
     have w8 : IntKind.i64.wrap ((a : Int) + 8) = (a : Int) + 8 := by rw [IntKind.wrap_i64]; omega
     have HLL := Lib.hid hLl
     have HK8 := Lib.hid hk8
     clear np nq hMk hLl hak hk8 ea
     go_wp2_with fail
     refine wp_region_see_tail 12 55 (relW5 s A L.length c a p q w.heap.size) rfl (by kernel_rfl) (by kernel_rfl) (by kernel_rfl) (by kernel_rfl) (relW5_more s A L.length c a p q w.heap.size) ?_ ?_
     · intro i hi
       have hi2 : i < 12 := by simpa using hi
       clear hi
       match i, hi2 with
       | 0, _ =>
         intro ρ W hb hc hg hf h0 hd
         have t2 := h0 2 (by kernel_rfl)
         clear hd h0
         go_simp
         exact ⟨rfl, Below.refl _ _⟩
       | 1, _ =>
         intro ρ W hb hc hg hf h0 hd
         have d0 : ρ (.tmp 40) = .pointer (some ⟨w.heap.size, 3, none⟩) := hd 0 40 (by kernel_rfl) (by kernel_rfl)
         have c3 := (HC.out.later hb).cell 3 _ rfl
         clear hd h0
         go_simp
         exact ⟨rfl, Below.refl _ _⟩
       | 2, _ =>
         intro ρ W hb hc hg hf h0 hd
         have t1 := h0 1 (by kernel_rfl)
         clear hd h0
         go_simp
         exact ⟨rfl, Below.refl _ _⟩
       | 3, _ =>
         intro ρ W hb hc hg hf h0 hd
         have t5 := h0 5 (by kernel_rfl)
         clear hd h0
         go_simp
         exact ⟨rfl, Below.refl _ _⟩
       | 4, _ =>
         intro ρ W hb hc hg hf h0 hd
         have d3 : ρ (.tmp 43) = .int .i64 (a : Int) := hd 3 43 (by kernel_rfl) (by kernel_rfl)
         clear hd h0
         go_simp
         exact ⟨rfl, Below.refl _ _⟩
       | 5, _ =>
         intro ρ W hb hc hg hf h0 hd
         have d2 : ρ (.tmp 42) = .string s := hd 2 42 (by kernel_rfl) (by kernel_rfl)
         have d4 : ρ (.tmp 44) = .int .i64 (a : Int) := hd 4 44 (by kernel_rfl) (by kernel_rfl)
         clear hd h0
         go_simp
         exact (HP.out W).mono fun e w' ⟨he, hb⟩ => ⟨_, he, rfl, hb⟩
       | 6, _ =>
         intro ρ W hb hc hg hf h0 hd
         have t1 := h0 1 (by kernel_rfl)
         clear hd h0
         go_simp
         exact ⟨rfl, Below.refl _ _⟩
       | 7, _ =>
         intro ρ W hb hc hg hf h0 hd
         have t5 := h0 5 (by kernel_rfl)
         clear hd h0
         go_simp
         exact ⟨rfl, Below.refl _ _⟩
       | 8, _ =>
         intro ρ W hb hc hg hf h0 hd
         have d7 : ρ (.tmp 47) = .int .i64 (a : Int) := hd 7 47 (by kernel_rfl) (by kernel_rfl)
         clear hd h0
         go_simp
         exact ⟨rfl, Below.refl _ _⟩
       | 9, _ =>
         intro ρ W hb hc hg hf h0 hd
         have d6 : ρ (.tmp 46) = .string s := hd 6 46 (by kernel_rfl) (by kernel_rfl)
         have d8 : ρ (.tmp 48) = .int .i64 ((a : Int) + 4) := hd 8 48 (by kernel_rfl) (by kernel_rfl)
         clear hd h0
         go_simp
         exact (HQ.out W).mono fun e w' ⟨he, hb⟩ => ⟨_, he, rfl, hb⟩
       | 10, _ =>
         intro ρ W hb hc hg hf h0 hd
         have d5 : ρ (.tmp 45) = .int .u32 (p : Int) := hd 5 45 (by kernel_rfl) (by kernel_rfl)
         have d9 : ρ (.tmp 49) = .int .u32 (q : Int) := hd 9 49 (by kernel_rfl) (by kernel_rfl)
         clear hd h0
         go_simp
         exact ⟨rfl, Below.refl _ _⟩
       | 11, _ =>
         intro ρ W hb hc hg hf h0 hd
         have d10 : ρ (.tmp 50) = .agg #[.int .u32 (p : Int), .int .u32 (q : Int)] := hd 10 50 (by kernel_rfl) (by kernel_rfl)
         clear hd h0
         go_simp
         exact ⟨⟨_, rfl, box_new _ _⟩, st_alloc (Below.refl _ _) _⟩
       | i + 12, hlt => exact absurd hlt (by omega)
     · intro vs W hb hall
       have h1 : vs 1 = .slice A L.length c := hall 1 (by omega)
       obtain ⟨B, h16, hblk⟩ : ∃ B, vs 11 = .slice (some ⟨B, 0, none⟩) 1 1 ∧ W.heap[B]? = some (.cells #[.int .u32 (p : Int), .int .u32 (q : Int)] 74 (0, 0)) := hall 11 (by omega)
       clear hall
       rw [lexA_slots vs 12 [(some 40, 0), (some 41, 1), (some 42, 2), (some 43, 3), (some 44, 4), (some 45, 5), (some 46, 6), (some 47, 7), (some 48, 8), (some 49, 9), (some 50, 10), (some 51, 11)] (by kernel_rfl)]
       simp only [List.foldl_cons, List.foldl_nil, h1, h16]
       show wpList _ _ _ [_, _, _] _ _
       simp only [put_lit, List.set_cons_succ, List.set_cons_zero]
       have C1 := HC.out.later hb
       have D1 := HD.out.later hb
       have O1 := HO.out.stays hb
       have B1 := st_call HB.out hb
       have hsz := D1.lt
       refine app_blk W rfl _ _ rfl (w.heap.size + 2) _ L rfl O1 p q B rfl hblk (by omega) (by omega) ?_
       intro A' c' w' hO' hB'
       have C2 := Lib.hid (C1.more (by omega) hB')
       have D2 := Lib.hid (D1.more (by omega) hB')
       have O2 := Lib.hid hO'
       have B2 := Lib.hid (B1.trans (hB'.mono (by omega)))
       have c3 := C2.out.cell 3 _ rfl
       have f3 := C2.out.free 3 (show 3 < 7 by decide)
       clear C1 D1 O1 B1 hO' hB' hblk h1 h16 hb
       have C3 : CellsAt (w'.setCell ⟨w.heap.size, 3, none⟩ (.slice A' (L.length + 1) c')) w.heap.size (oc ⟨mss, scale, sack, L ++ [(p, q)], time, val, echo⟩ A' c') := by
         have h := C2.out.put 3 (.slice A' (L.length + 1) c') (show 3 < 7 by decide)
         have e : (L ++ [(p, q)]).length = L.length + 1 := by simp
         show CellsAt _ _ #[_, _, _, .slice A' (L ++ [(p, q)]).length c', _, _, _]
         rw [e]
         exact h
       have HC3 := Lib.hid C3
       clear C3
       go_wp2_with fail
       have hL2 : L ++ [(p, q)] = M.take (k + 1) := by rw [take_snocG HMK.out, HLk.out]
       go_roundw
       case rel => exact ⟨k + 1, a + 8, A', c', L ++ [(p, q)], by go_num, by have := HAK.out; omega, by have := HK8.out; have := HAK.out; omega, hL2, HC3.out, D2.out.other _ _ _ (by omega), by rw [List.length_append]; exact O2.out.put _ _ _ (by omega), B2.out.setCell (Nat.le_refl _) _⟩
       case measure => simp [intOf]; omega
   · obtain rfl : L = M := by rw [HLk.out, List.take_of_length_le (by have := HL.out; omega)]
     have hli : ¬ (a : Int) < (s.size : Int) := by omega
     have c0 := HC.out.cell 0 _ rfl
     have f0 := HC.out.free 0 (show 0 < 7 by decide)
     have c1 := HC.out.cell 1 _ rfl
     have f1 := HC.out.free 1 (show 1 < 7 by decide)
     have c2 := HC.out.cell 2 _ rfl
     have f2 := HC.out.free 2 (show 2 < 7 by decide)
     have c3 := HC.out.cell 3 _ rfl
     have f3 := HC.out.free 3 (show 3 < 7 by decide)
     have c4 := HC.out.cell 4 _ rfl
     have f4 := HC.out.free 4 (show 4 < 7 by decide)
     have c5 := HC.out.cell 5 _ rfl
     have f5 := HC.out.free 5 (show 5 < 7 by decide)
     have c6 := HC.out.cell 6 _ rfl
     have f6 := HC.out.free 6 (show 6 < 7 by decide)
     have d0 := HD.out.cell 0 _ rfl
     have g0 := HD.out.free 0 (show 0 < 7 by decide)
     have d1 := HD.out.cell 1 _ rfl
     have g1 := HD.out.free 1 (show 1 < 7 by decide)
     have d2 := HD.out.cell 2 _ rfl
     have g2 := HD.out.free 2 (show 2 < 7 by decide)
     have d3 := HD.out.cell 3 _ rfl
     have g3 := HD.out.free 3 (show 3 < 7 by decide)
     have d4 := HD.out.cell 4 _ rfl
     have g4 := HD.out.free 4 (show 4 < 7 by decide)
     have d5 := HD.out.cell 5 _ rfl
     have g5 := HD.out.free 5 (show 5 < 7 by decide)
     have d6 := HD.out.cell 6 _ rfl
     have g6 := HD.out.free 6 (show 6 < 7 by decide)
     clear hLl
     go_wp2_with fail
     obtain ⟨W9, hW9, ez, hb9⟩ := set7 wr (w.heap.size + 1) (.int .u16 (mss : Int)) (.int .i64 scale) (.bool sack) (.slice A L.length c) (.bool time) (.int .u32 (val : Int)) (.int .u32 (echo : Int)) (fun j hj => HD.out.some_ j hj)
     rw [hW9]
     have e0 := ez 0 _ rfl
     have e1 := ez 1 _ rfl
     have e2 := ez 2 _ rfl
     have e3 := ez 3 _ rfl
     have e4 := ez 4 _ rfl
     have e5 := ez 5 _ rfl
     have e6 := ez 6 _ rfl
     have B9 := Lib.hid (HB.out.trans (hb9.mono (by omega)))
     have R9 : Row (fun b => w.heap.size ≤ b) W9 A L := by
       rw [← hW9]
       refine Row.imp (OwnB.row (base := w.heap.size + 2) ((((((((HO.out.put (w.heap.size + 1) 0 _ (by omega)).put (w.heap.size + 1) 1 _ (by omega)).put (w.heap.size + 1) 2 _ (by omega)).put (w.heap.size + 1) 3 _ (by omega)).put (w.heap.size + 1) 4 _ (by omega)).put (w.heap.size + 1) 5 _ (by omega)).put (w.heap.size + 1) 6 _ (by omega))) rfl) (fun b hb => by omega)
     refine bodyPost_ret (v := ov ⟨mss, scale, sack, L, time, val, echo⟩ A c) ?_ rfl ⟨A, ⟨c, rfl⟩, R9, B9.out⟩
     simp [results, Tryz.f75, go_sem, e0, e1, e2, e3, e4, e5, e6]
theorem withP (P : Nat → Prop) (o : Opn) (A : Option Addr) (c : Nat) (s : ByteArray) (w : World) (h0 : 0 < s.size) (hr : rightX (bz s) = true) (h5 : at0 (bz s) 0 = 5 → o.blocks = [] ∧ A = none ∧ c = 0) (hrow : Row P w A o.blocks) (hP : ∀ b, w.heap.size ≤ b → P b) :
   Calls Tryz.prog 75 #[ov o A c, .string s] w fun e w' => (∃ A' c', e = .returned (ov (tkO o (at0 (bz s) 0) ((bz s).drop 2)) A' c') ∧ Row P w' A' (tkO o (at0 (bz s) 0) ((bz s).drop 2)).blocks ∧ (at0 (bz s) 0 ≠ 5 → A' = A ∧ c' = c)) ∧ Below w.heap.size w w' := by
 unfold rightX at hr
 rw [bz_len] at hr
 simp only [Bool.and_eq_true, decide_eq_true_eq] at hr
 obtain ⟨⟨hn, hr⟩, _⟩ := hr
 obtain ⟨k, hk⟩ : ∃ k, at0 (bz s) 0 = k := ⟨_, rfl⟩
 rw [hk] at hr h5 ⊢
 by_cases c2 : k = 2
 · subst c2
   have hs : s.size = 4 := by simpa [right] using hr
   refine (with2 o A c s w hs hk).mono ?_
   rintro e w' ⟨rfl, hb⟩
   exact ⟨⟨A, c, rfl, hrow.more hb, fun _ => ⟨rfl, rfl⟩⟩, hb⟩
 by_cases c3 : k = 3
 · subst c3
   have hs : s.size = 3 := by simpa [right] using hr
   refine (with3 o A c s w hs hk).mono ?_
   rintro e w' ⟨rfl, hb⟩
   have e1 : at0 ((bz s).drop 2) 0 = at0 (bz s) 2 := by unfold at0; rw [List.getElem?_drop]
   have e2 : tkO o 3 ((bz s).drop 2) = { o with scale := min (at0 (bz s) 2 : Int) 14 } := by
     show { o with scale := min (at0 ((bz s).drop 2) 0 : Int) 14 } = _
     rw [e1]
   rw [e2]
   exact ⟨⟨A, c, rfl, hrow.more hb, fun _ => ⟨rfl, rfl⟩⟩, hb⟩
 by_cases c4 : k = 4
 · subst c4
   refine (with4 o A c s w h0 hk).mono ?_
   rintro e w' ⟨rfl, hb⟩
   exact ⟨⟨A, c, rfl, hrow.more hb, fun _ => ⟨rfl, rfl⟩⟩, hb⟩
 by_cases c5 : k = 5
 · subst c5
   obtain ⟨hb0, rfl, rfl⟩ := h5 rfl
   have hs : (s.size - 2) % 8 = 0 ∧ s.size ≤ 34 ∧ 2 ≤ s.size := by simp [right] at hr; omega
   refine (with5 o s w hb0 hs.1 hs.2.1 hs.2.2 hk).mono ?_
   rintro e w' ⟨A', c', rfl, hR, hb⟩
   have e1 : tkO o 5 ((bz s).drop 2) = { o with blocks := prs ((bz s).drop 2) } := by unfold tkO; rw [hb0]; rfl
   rw [e1]
   exact ⟨⟨A', c', rfl, hR.imp hP, fun h => absurd rfl h⟩, hb⟩
 by_cases c8 : k = 8
 · subst c8
   have hs : s.size = 10 := by simpa [right] using hr
   refine (with8 o A c s w hs hk).mono ?_
   rintro e w' ⟨rfl, hb⟩
   exact ⟨⟨A, c, rfl, hrow.more hb, fun _ => ⟨rfl, rfl⟩⟩, hb⟩
 · have e1 : tkO o k ((bz s).drop 2) = o := by unfold tkO; rw [if_neg c2, if_neg c3, if_neg c4, if_neg c5, if_neg c8]
   rw [e1]
   refine (withO o A c k s w h0 hk c2 c3 c4 c5 c8).mono ?_
   rintro e w' ⟨rfl, hb⟩
   exact ⟨⟨A, c, rfl, hrow.more hb, fun _ => ⟨rfl, rfl⟩⟩, hb⟩
end Go.Proofs.YtpmnmnflaijaaaaGreat.OptPW
