/-
  Laws for a proof of package pkt: 9 texts in one.
-/
import Derived.Test.YtpmnmnflaijaaaaGreatQOptPlc1
import Derived.Test.YtpmnmnflaijaaaaGreatQPkt163
import Derived.Test.YtpmnmnflaijaaaaGreatQRelL3
import Derived.BigGuardPart
import Derived.Deep.DeepCutAuto
namespace Go.Proofs.YtpmnmnflaijaaaaGreat.OptSame
open Go.RowKit Own TupMath SumMath Litb Calm Rel IpMath IpRef OptMath OptRef OptPlc Boxes
set_option linter.unusedVariables false
set_option maxRecDepth 100000
def BlkR (w : World) (A : Option Addr) (L : List (Nat × Nat)) : Prop := 0 < L.length → ∃ b off, A = some ⟨b, off, none⟩ ∧ b < w.heap.size ∧ ∀ (j : Nat) (p : Nat × Nat), L[j]? = some p → w.cell? ⟨b, off + j * 2, none⟩ = some (.int .u32 (p.1 : Int)) ∧ w.cell? ⟨b, off + j * 2 + 1, none⟩ = some (.int .u32 (p.2 : Int))
theorem BlkR.nil (w : World) (A : Option Addr) : BlkR w A [] := fun h => absurd h (by simp)
theorem BlkR.more {w w' : World} {A : Option Addr} {L : List (Nat × Nat)} (h : BlkR w A L) (hb : Below w.heap.size w w') : BlkR w' A L := fun hn => by
 obtain ⟨b, off, e, hlt, hc⟩ := h hn
 exact ⟨b, off, e, Nat.lt_of_lt_of_le hlt hb.size, fun j p hp => ⟨(hb.cell (p := ⟨b, off + j * 2, none⟩) hlt).trans (hc j p hp).1, (hb.cell (p := ⟨b, off + j * 2 + 1, none⟩) hlt).trans (hc j p hp).2⟩⟩
theorem take_snocG {α : Type} {l : List α} {k : Nat} {x : α} (h : l[k]? = some x) : l.take (k + 1) = l.take k ++ [x] := by
 obtain ⟨hk, hx⟩ := List.getElem?_eq_some_iff.1 h
 rw [List.take_succ_eq_append_getElem hk, hx]
theorem below_q (n : Nat) (w : World) (q : Nat) : Below n w (w.drewN q) := ⟨rfl, rfl, rfl, Nat.le_refl _, fun _ _ => rfl⟩
abbrev oc (o : Opn) (A : Option Addr) (c : Nat) : Array Value := #[.int .u16 (o.mss : Int), .int .i64 o.scale, .bool o.sack, .slice A o.blocks.length c, .bool o.time, .int .u32 (o.val : Int), .int .u32 (o.echo : Int)]
abbrev ov (o : Opn) (A : Option Addr) (c : Nat) : Value := .agg #[.int .u16 (o.mss : Int), .int .i64 o.scale, .bool o.sack, .slice A o.blocks.length c, .bool o.time, .int .u32 (o.val : Int), .int .u32 (o.echo : Int)]
set_option maxHeartbeats 4000000 in
theorem noneR (w : World) : Calls Tryz.prog 89 #[] w fun e w' => e = .returned (ov none0 none 0) ∧ Below w.heap.size w w' := by
 go_enter Tryz.func89, Tryz.ntmps89
 go_wp2_with fail
 refine bodyPost_ret (v := ov none0 none 0) ?_ rfl ⟨rfl, st_alloc (Below.refl _ _) _⟩
 simp [results, Tryz.f89, go_sem, none0]
set_option maxHeartbeats 16000000 in
theorem sameR (o p : Opn) (Ao : Option Addr) (co : Nat) (Ap : Option Addr) (cp : Nat) (w : World) (ho : BlkR w Ao o.blocks) (hp : BlkR w Ap p.blocks) (lo : o.blocks.length ≤ 1000000) (lp : p.blocks.length ≤ 1000000) :
   Calls Tryz.prog 31 #[ov o Ao co, ov p Ap cp] w fun e w' => e = .returned (.bool (decide (o = p))) ∧ Below w.heap.size w w' := by
 have HO := Lib.hid ho
 have HP := Lib.hid hp
 clear ho hp
 by_cases c0 : o.mss = p.mss
 rotate_left
 · rw [decide_eq_false (fun e => c0 (by rw [e]))]
   have q0 : ((o.mss : Int) == (p.mss : Int)) = false := beq_eq_false_iff_ne.2 (by omega)
   have r0 : ((o.mss : Int) != (p.mss : Int)) = true := bne_iff_ne.2 (by omega)
   clear c0
   go_enter Tryz.func31, Tryz.ntmps31
   go_wp2_with fail
   go_ret
   exact ⟨rfl, st_alloc (st_alloc (Below.refl _ _) _) _⟩
 have q0 : ((o.mss : Int) == (p.mss : Int)) = true := beq_iff_eq.2 (by omega)
 have r0 : ((o.mss : Int) != (p.mss : Int)) = false := by rw [bne, q0]; rfl
 by_cases c1 : o.scale = p.scale
 rotate_left
 · rw [decide_eq_false (fun e => c1 (by rw [e]))]
   have q1 : (o.scale == p.scale) = false := beq_eq_false_iff_ne.2 c1
   have r1 : (o.scale != p.scale) = true := bne_iff_ne.2 c1
   clear c1
   go_enter Tryz.func31, Tryz.ntmps31
   go_wp2_with fail
   go_ret
   exact ⟨rfl, st_alloc (st_alloc (Below.refl _ _) _) _⟩
 have q1 : (o.scale == p.scale) = true := beq_iff_eq.2 c1
 have r1 : (o.scale != p.scale) = false := by rw [bne, q1]; rfl
 by_cases c2 : o.sack = p.sack
 rotate_left
 · rw [decide_eq_false (fun e => c2 (by rw [e]))]
   have q2 : (o.sack == p.sack) = false := beq_eq_false_iff_ne.2 c2
   have r2 : (o.sack != p.sack) = true := bne_iff_ne.2 c2
   clear c2
   go_enter Tryz.func31, Tryz.ntmps31
   go_wp2_with fail
   go_ret
   exact ⟨rfl, st_alloc (st_alloc (Below.refl _ _) _) _⟩
 have q2 : (o.sack == p.sack) = true := beq_iff_eq.2 c2
 have r2 : (o.sack != p.sack) = false := by rw [bne, q2]; rfl
 by_cases c3 : o.time = p.time
 rotate_left
 · rw [decide_eq_false (fun e => c3 (by rw [e]))]
   have q3 : (o.time == p.time) = false := beq_eq_false_iff_ne.2 c3
   have r3 : (o.time != p.time) = true := bne_iff_ne.2 c3
   clear c3
   go_enter Tryz.func31, Tryz.ntmps31
   go_wp2_with fail
   go_ret
   exact ⟨rfl, st_alloc (st_alloc (Below.refl _ _) _) _⟩
 have q3 : (o.time == p.time) = true := beq_iff_eq.2 c3
 have r3 : (o.time != p.time) = false := by rw [bne, q3]; rfl
 by_cases c4 : o.val = p.val
 rotate_left
 · rw [decide_eq_false (fun e => c4 (by rw [e]))]
   have q4 : ((o.val : Int) == (p.val : Int)) = false := beq_eq_false_iff_ne.2 (by omega)
   have r4 : ((o.val : Int) != (p.val : Int)) = true := bne_iff_ne.2 (by omega)
   clear c4
   go_enter Tryz.func31, Tryz.ntmps31
   go_wp2_with fail
   go_ret
   exact ⟨rfl, st_alloc (st_alloc (Below.refl _ _) _) _⟩
 have q4 : ((o.val : Int) == (p.val : Int)) = true := beq_iff_eq.2 (by omega)
 have r4 : ((o.val : Int) != (p.val : Int)) = false := by rw [bne, q4]; rfl
 by_cases c5 : o.echo = p.echo
 rotate_left
 · rw [decide_eq_false (fun e => c5 (by rw [e]))]
   have q5 : ((o.echo : Int) == (p.echo : Int)) = false := beq_eq_false_iff_ne.2 (by omega)
   have r5 : ((o.echo : Int) != (p.echo : Int)) = true := bne_iff_ne.2 (by omega)
   clear c5
   go_enter Tryz.func31, Tryz.ntmps31
   go_wp2_with fail
   go_ret
   exact ⟨rfl, st_alloc (st_alloc (Below.refl _ _) _) _⟩
 have q5 : ((o.echo : Int) == (p.echo : Int)) = true := beq_iff_eq.2 (by omega)
 have r5 : ((o.echo : Int) != (p.echo : Int)) = false := by rw [bne, q5]; rfl
 by_cases cl : o.blocks.length = p.blocks.length
 rotate_left
 · rw [decide_eq_false (fun e => cl (by rw [e]))]
   have q7 : ((o.blocks.length : Int) == (p.blocks.length : Int)) = false := beq_eq_false_iff_ne.2 (by omega)
   have r7 : ((o.blocks.length : Int) != (p.blocks.length : Int)) = true := bne_iff_ne.2 (by omega)
   clear c0 c1 c2 c3 c4 c5 cl
   go_enter Tryz.func31, Tryz.ntmps31
   go_wp2_with fail
   go_ret
   exact ⟨rfl, st_alloc (st_alloc (Below.refl _ _) _) _⟩
 have hm : ∀ (bo : o.blocks = p.blocks), o = p := by
   obtain ⟨a1, a2, a3, a4, a5, a6, a7⟩ := o
   obtain ⟨b1, b2, b3, b4, b5, b6, b7⟩ := p
   simp only at c0 c1 c2 c3 c4 c5 ⊢
   intro bo
   rw [c0, c1, c2, c3, c4, c5, bo]
 have HM := Lib.hid hm
 clear hm
 have x3 := World.cell?_alloc_mark w (oc o Ao co) 28 (0, 0) 3
 have y3 := World.cell?_alloc_mark (w.alloc (.cells (oc o Ao co) 28)) (oc p Ap cp) 28 (0, 0) 3
 have hx : ((w.alloc (.cells (oc o Ao co) 28)).alloc (.cells (oc p Ap cp) 28)).cell? ⟨w.heap.size, 3, none⟩ = some (.slice Ao o.blocks.length co) := (((Below.refl _ _).alloc (Nat.le_refl _) _).cell (p := ⟨w.heap.size, 3, none⟩) (by simp)).trans x3
 have hy : ((w.alloc (.cells (oc o Ao co) 28)).alloc (.cells (oc p Ap cp) 28)).cell? ⟨w.heap.size + 1, 3, none⟩ = some (.slice Ap p.blocks.length cp) := by rw [World.size_alloc] at y3; exact y3
 have hbel := st_alloc (st_alloc (Below.refl _ w) (.cells (oc o Ao co) 28)) (.cells (oc p Ap cp) 28)
 have hsz : ((w.alloc (.cells (oc o Ao co) 28)).alloc (.cells (oc p Ap cp) 28)).heap.size = w.heap.size + 2 := by simp
 have HX := Lib.hid hx
 have HY := Lib.hid hy
 have HSZ := Lib.hid hsz
 have HBL := Lib.hid hbel
 have HO2 := Lib.hid (HO.out.more hbel)
 have HP2 := Lib.hid (HP.out.more hbel)
 clear x3 y3 hx hy hbel hsz c0 c1 c2 c3 c4 c5
 have q7 : ((o.blocks.length : Int) == (p.blocks.length : Int)) = true := beq_iff_eq.2 (by omega)
 have r7 : ((o.blocks.length : Int) != (p.blocks.length : Int)) = false := by rw [bne, q7]; rfl
 have HCL := Lib.hid cl
 clear cl
 go_enter Tryz.func31, Tryz.ntmps31
 go_wp2_with fail
 generalize (w.alloc (.cells (oc o Ao co) 28)).alloc (.cells (oc p Ap cp) 28) = w1 at HX HY HSZ HBL HO2 HP2 ⊢
 clear q0 q1 q2 q3 q4 q5 r0 r1 r2 r3 r4 r5 q7 r7
 go_loopw [5] (fun i wr => ∃ k : Nat, i = .int .i64 (k : Int) ∧ k ≤ o.blocks.length ∧ o.blocks.take k = p.blocks.take k ∧ Below w1.heap.size w1 wr) (fun i _ => o.blocks.length - (intOf i).toNat)
 case atStart => exact ⟨0, rfl, by omega, rfl, Below.refl _ _⟩
 case round =>
   obtain ⟨k, rfl, hk, htk, hB⟩ := hrel
   have HTK := Lib.hid htk
   have HB := Lib.hid hB
   have x3 := (hB.cell (p := ⟨w.heap.size, 3, none⟩) (by rw [HSZ.out]; show w.heap.size < _; omega)).trans HX.out
   have y3 := (hB.cell (p := ⟨w.heap.size + 1, 3, none⟩) (by rw [HSZ.out]; show w.heap.size + 1 < _; omega)).trans HY.out
   clear htk hB
   by_cases hlt : k < o.blocks.length
   · have hlti : (k : Int) < (o.blocks.length : Int) := by omega
     have hlt2 : k < p.blocks.length := by have := HCL.out; omega
     have hlti2 : (k : Int) < (p.blocks.length : Int) := by omega
     obtain ⟨b, off, e1, hb1, hc1⟩ := HO2.out (by omega)
     obtain ⟨b2, off2, e2, hb2, hc2⟩ := HP2.out (by omega)
     obtain ⟨u, hu⟩ : ∃ u, o.blocks[k]? = some u := ⟨_, List.getElem?_eq_getElem hlt⟩
     obtain ⟨v, hv⟩ : ∃ u, p.blocks[k]? = some u := ⟨_, List.getElem?_eq_getElem hlt2⟩
     have d0 := (HB.out.cell (p := ⟨b, off + k * 2, none⟩) hb1).trans (hc1 k u hu).1
     have d1 := (HB.out.cell (p := ⟨b, off + k * 2 + 1, none⟩) hb1).trans (hc1 k u hu).2
     have g0 := (HB.out.cell (p := ⟨b2, off2 + k * 2, none⟩) hb2).trans (hc2 k v hv).1
     have g1 := (HB.out.cell (p := ⟨b2, off2 + k * 2 + 1, none⟩) hb2).trans (hc2 k v hv).2
     have HTS : Hid (u = v → o.blocks.take (k + 1) = p.blocks.take (k + 1)) := Lib.hid fun e => by
       rw [take_snocG hu, take_snocG hv, HTK.out, e]
     have HNE : Hid (u ≠ v → o ≠ p) := Lib.hid fun e h => by
       rw [h, hv] at hu
       exact e (Option.some.inj hu).symm
     rw [e1] at x3
     rw [e2] at y3
     clear e1 e2 hc1 hc2 hu hv
     obtain ⟨u1, u2⟩ := u
     obtain ⟨v1, v2⟩ := v
     simp only at d0 d1 g0 g1
     by_cases h1 : u1 = v1
     · by_cases h2 : u2 = v2
       · subst h1 h2
         have hts := Lib.hid (HTS.out rfl)
         go_wp2_with fail
         go_quiet (fail)
         go_wp2
         go_roundw
         case rel => exact ⟨k + 1, by go_num, by omega, hts.out, HB.out.trans (below_q _ _ _)⟩
         case measure => simp only [intOf]; omega
       · have q8 : ((u2 : Int) == (v2 : Int)) = false := beq_eq_false_iff_ne.2 (by omega)
         subst h1
         have HF := Lib.hid (decide_eq_false (HNE.out (fun e => h2 (congrArg Prod.snd e))))
         clear h2
         go_wp2_with fail
         go_quiet (fail)
         go_wp2
         go_ret
         exact ⟨by rw [HF.out]; rfl, st_call HBL.out (HB.out.trans (below_q _ _ _))⟩
     · have q8 : ((u1 : Int) == (v1 : Int)) = false := beq_eq_false_iff_ne.2 (by omega)
       have HF := Lib.hid (decide_eq_false (HNE.out (fun e => h1 (congrArg Prod.fst e))))
       clear h1
       go_wp2_with fail
       go_quiet (fail)
       go_wp2
       go_ret
       exact ⟨by rw [HF.out]; rfl, st_call HBL.out (HB.out.trans (below_q _ _ _))⟩
   · have hlti : ¬ (k : Int) < (o.blocks.length : Int) := by omega
     have HT : Hid (decide (o = p) = true) := Lib.hid (decide_eq_true (HM.out (by
       have h := HTK.out
       rw [List.take_of_length_le (by omega), List.take_of_length_le (by have := HCL.out; omega)] at h
       exact h)))
     go_wp2_with fail
     go_ret
     exact ⟨by rw [HT.out]; rfl, st_call HBL.out HB.out⟩
end Go.Proofs.YtpmnmnflaijaaaaGreat.OptSame
namespace Go.Proofs.YtpmnmnflaijaaaaGreat.OptRaw
open Go.RowKit Own TupMath SumMath Litb Calm Rel RelT RelK IpMath IpRef OptMath OptRef OptPlc OptSame Boxes
set_option linter.unusedVariables false
set_option maxRecDepth 100000
attribute [local go_sem] relUpon
end Go.Proofs.YtpmnmnflaijaaaaGreat.OptRaw
namespace Go.Proofs.YtpmnmnflaijaaaaGreat.OptMay
open Go.RowKit Own TupMath SumMath Litb Calm Rel RelT RelK IpMath IpRef OptMath OptRef OptPlc OptSame Boxes OptRaw
set_option linter.unusedVariables false
set_option maxRecDepth 100000
theorem ov_time {o : Opn} {b : Bool} (h : o.time = b) (A : Option Addr) (c : Nat) : ov o A c = .agg #[.int .u16 (o.mss : Int), .int .i64 o.scale, .bool o.sack, .slice A o.blocks.length c, .bool b, .int .u32 (o.val : Int), .int .u32 (o.echo : Int)] := by unfold ov; rw [h]
theorem oc_time {o : Opn} {b : Bool} (h : o.time = b) (A : Option Addr) (c : Nat) : oc o A c = #[.int .u16 (o.mss : Int), .int .i64 o.scale, .bool o.sack, .slice A o.blocks.length c, .bool b, .int .u32 (o.val : Int), .int .u32 (o.echo : Int)] := by unfold oc; rw [h]
theorem may_not {o : Opn} (h : ¬ OptMath.May o) : mayO o = false := by
 cases e : mayO o
 · rfl
 · exact absurd (may_of e) h
theorem may_len {o : Opn} (h1 : -1 ≤ o.scale) (h2 : o.scale ≤ 14) (h3 : o.blocks.length ≤ 4) (h4 : o.time = false → o.val = 0 ∧ o.echo = 0) : mayO o = decide ((ofB (rawO o)).size ≤ 40) := by
 rw [ofB_size]
 by_cases h : (rawO o).length ≤ 40
 · rw [decide_eq_true h]; exact of_may ⟨h1, h2, h3, h4, h⟩
 · rw [decide_eq_false h]; exact may_not fun m => h m.most
def encV7 (o : Opn) : Value := if mayO o = true then .tuple #[.string (ofB (rawO o)), .int .i64 0] else .tuple #[.string ⟨#[]⟩, .int .i64 2]
end Go.Proofs.YtpmnmnflaijaaaaGreat.OptMay
namespace Go.Proofs.YtpmnmnflaijaaaaGreat.OptTake
open Go.RowKit Own TupMath SumMath Litb Calm Rel RelT RelK IpMath IpRef OptMath OptRef OptPlc OptSame Boxes OptRaw OptMay
set_option linter.unusedVariables false
set_option maxRecDepth 100000
set_option maxHeartbeats 16000000 in
theorem takeO (o : Opn) (A : Option Addr) (c k : Nat) (s : ByteArray) (w : World) (h2 : k ≠ 2) (h3 : k ≠ 3) (h4 : k ≠ 4) (h5 : k ≠ 5) (h8 : k ≠ 8) :
   Calls Tryz.prog 90 #[ov o A c, .int .i64 (k : Int), .string s] w fun e w' => e = .returned (.tuple #[ov o A c, .bool true]) ∧ Below w.heap.size w w' := by
 have q2 : ((k : Int) == 2) = false := beq_eq_false_iff_ne.2 (by omega)
 have q3 : ((k : Int) == 3) = false := beq_eq_false_iff_ne.2 (by omega)
 have q4 : ((k : Int) == 4) = false := beq_eq_false_iff_ne.2 (by omega)
 have q5 : ((k : Int) == 5) = false := beq_eq_false_iff_ne.2 (by omega)
 have q8 : ((k : Int) == 8) = false := beq_eq_false_iff_ne.2 (by omega)
 go_enter Tryz.func90, Tryz.ntmps90
 go_wp2_with fail
 refine bodyPost_ret (v := .tuple #[ov o A c, .bool true]) ?_ rfl ⟨rfl, st_alloc (st_alloc (Below.refl _ _) _) _⟩
 simp [results, Tryz.f90, go_sem]
set_option maxHeartbeats 16000000 in
theorem take4 (o : Opn) (A : Option Addr) (c : Nat) (s : ByteArray) (w : World) :
   Calls Tryz.prog 90 #[ov o A c, .int .i64 4, .string s] w fun e w' => e = .returned (.tuple #[ov { o with sack := true } A c, .bool true]) ∧ Below w.heap.size w w' := by
 go_enter Tryz.func90, Tryz.ntmps90
 go_wp2_with fail
 refine bodyPost_ret (v := .tuple #[ov { o with sack := true } A c, .bool true]) ?_ rfl ⟨rfl, st_alloc (st_alloc (Below.refl _ _) _) _⟩
 simp [results, Tryz.f90, go_sem]
set_option maxHeartbeats 16000000 in
theorem take3 (o : Opn) (A : Option Addr) (c : Nat) (s : ByteArray) (w : World) (hs : s.size = 1) :
   Calls Tryz.prog 90 #[ov o A c, .int .i64 3, .string s] w fun e w' => e = .returned (.tuple #[ov { o with scale := min (at0 (bz s) 0 : Int) 14 } A c, .bool true]) ∧ Below w.heap.size w w' := by
 have h0 : 0 < s.size := by omega
 have hl := at_le s 0
 have hw : wrap64 ((s[0].toNat : Nat) : Int) = (at0 (bz s) 0 : Int) := by
   rw [at_byte s 0 h0]
   unfold wrap64
   omega
 obtain ⟨x, hx⟩ : ∃ x, at0 (bz s) 0 = x := ⟨_, rfl⟩
 rw [hx] at hw hl ⊢
 clear hx
 by_cases i14 : (x : Int) ≤ 14
 · have hm : min (x : Int) 14 = x := by omega
   rw [hm]
   clear hm
   go_enter Tryz.func90, Tryz.ntmps90
   go_wp2_with fail
   refine bodyPost_ret (v := .tuple #[ov { o with scale := (x : Int) } A c, .bool true]) ?_ rfl ⟨rfl, st_alloc (st_alloc (Below.refl _ _) _) _⟩
   simp [results, Tryz.f90, go_sem]
 · have hm : min (x : Int) 14 = 14 := by omega
   rw [hm]
   clear hm
   go_enter Tryz.func90, Tryz.ntmps90
   go_wp2_with fail
   refine bodyPost_ret (v := .tuple #[ov { o with scale := 14 } A c, .bool true]) ?_ rfl ⟨rfl, st_alloc (st_alloc (Below.refl _ _) _) _⟩
   simp [results, Tryz.f90, go_sem]
set_option maxHeartbeats 16000000 in
theorem take8 (o : Opn) (A : Option Addr) (c : Nat) (s : ByteArray) (w : World) (hs : s.size = 8) :
   Calls Tryz.prog 90 #[ov o A c, .int .i64 8, .string s] w fun e w' => e = .returned (.tuple #[ov { o with time := true, val := v256 ((bz s).take 4), echo := v256 ((bz s).drop 4) } A c, .bool true]) ∧ Below w.heap.size w w' := by
 have e1 : bz (s.extract 0 4) = (bz s).take 4 := by rw [bz_extract s 0 4 (by omega), List.drop_zero]
 have e2 : bz (s.extract 4 8) = (bz s).drop 4 := by rw [bz_extract s 4 8 (by omega), List.take_of_length_le (by rw [bz_len]; omega)]
 go_enter Tryz.func90, Tryz.ntmps90
 go_wp2_with fail
 refine (numR _ _ (by rw [ByteArray.size_extract]; omega)).mono ?_
 rintro e wA ⟨rfl, rfl⟩
 rw [e1]
 go_wp2_with fail
 refine (numR _ _ (by rw [ByteArray.size_extract]; omega)).mono ?_
 rintro e wA ⟨rfl, rfl⟩
 rw [e2]
 go_wp2_with fail
 refine bodyPost_ret (v := .tuple #[ov { o with time := true, val := v256 ((bz s).take 4), echo := v256 ((bz s).drop 4) } A c, .bool true]) ?_ rfl ⟨rfl, st_alloc (st_alloc (Below.refl _ _) _) _⟩
 simp [results, Tryz.f90, go_sem]
set_option maxHeartbeats 16000000 in
theorem take2 (o : Opn) (A : Option Addr) (c : Nat) (s : ByteArray) (w : World) (hs : s.size = 2) :
   Calls Tryz.prog 90 #[ov o A c, .int .i64 2, .string s] w fun e w' => e = .returned (.tuple #[ov { o with mss := v256 (bz s) } A c, .bool (decide (v256 (bz s) ≠ 0))]) ∧ Below w.heap.size w w' := by
 have hv : v256 (bz s) < 256 ^ (bz s).length := v256_lt _ (bz_le s)
 rw [bz_len, hs] at hv
 obtain ⟨x, hx⟩ : ∃ x, v256 (bz s) = x := ⟨_, rfl⟩
 have hn := fun W => numR s W (by omega)
 rw [hx] at hv hn ⊢
 clear hx
 have hq : ((x : Int) != 0) = decide (x ≠ 0) := by
   by_cases c : x = 0
   · subst c; rfl
   · rw [decide_eq_true c]; exact bne_iff_ne.2 (by omega)
 have hw : IntKind.u16.wrap (x : Int) = (x : Int) := by
   show (x : Int) % 65536 = x
   omega
 go_enter Tryz.func90, Tryz.ntmps90
 go_wp2_with fail
 refine (hn _).mono ?_
 rintro e wA ⟨rfl, rfl⟩
 go_wp2_with fail
 go_region
 all_goals go_wp2_with fail
 refine bodyPost_ret (v := .tuple #[ov { o with mss := x } A c, .bool (decide (x ≠ 0))]) ?_ rfl ⟨rfl, (st_alloc (st_alloc (Below.refl _ _) _) _).drew⟩
 simp [results, Tryz.f90, go_sem]
end Go.Proofs.YtpmnmnflaijaaaaGreat.OptTake
namespace Go.Proofs.YtpmnmnflaijaaaaGreat.OptTake5
open Go.RowKit Own TupMath SumMath Litb Calm Rel RelT IpMath IpRef OptMath OptRef OptPlc OptSame Boxes OptRaw OptMay OptTake
open Cells (CellsAt set7 put_lit)
set_option linter.unusedVariables false
set_option maxRecDepth 100000
theorem info_blk : (Tryz.prog.info? 74).map (fun i => (i.zero, i.size, i.bytes)) = some (some (.agg #[.int .u32 0, .int .u32 0]), 2, 8) := by kernel_rfl
def encB (L : List (Nat × Nat)) : List Value := L.flatMap fun p => [Value.int .u32 (p.1 : Int), Value.int .u32 (p.2 : Int)]
theorem encB_snoc (L : List (Nat × Nat)) (p q : Nat) : encB (L ++ [(p, q)]) = encB L ++ [Value.int .u32 (p : Int), Value.int .u32 (q : Int)] := by unfold encB; rw [List.flatMap_append]; rfl
theorem encB_at : ∀ (L : List (Nat × Nat)) (j : Nat) (p : Nat × Nat), L[j]? = some p → (encB L)[j * 2]? = some (.int .u32 (p.1 : Int)) ∧ (encB L)[j * 2 + 1]? = some (.int .u32 (p.2 : Int))
 | [], j, p, h => by simp at h
 | x :: L, 0, p, h => by
   simp at h
   subst h
   exact ⟨rfl, rfl⟩
 | x :: L, j + 1, p, h => by
   have ih := encB_at L j p (by simpa using h)
   have e : (j + 1) * 2 = j * 2 + 2 := by omega
   rw [e]
   exact ih
def OwnB (w : World) (base : Nat) (v : Value) (L : List (Nat × Nat)) : Prop := w.ownsRow base 74 2 v L.length (encB L)
theorem ownB_nil (w : World) (base : Nat) : OwnB w base (.slice none 0 0) [] := World.ownsRow_nil _ _ _ _
theorem OwnB.stays {w w' base v L} (h : OwnB w base v L) (hb : Below w.heap.size w w') : OwnB w' base v L := own_stays h hb
theorem OwnB.put {w base v L} (h : OwnB w base v L) (g k : Nat) (u : Value) (hg : g < base) : OwnB (w.setCell ⟨g, k, none⟩ u) base v L := own_set h g k u hg
def Row (P : Nat → Prop) (w : World) (A : Option Addr) (L : List (Nat × Nat)) : Prop := 0 < L.length → ∃ b, A = some ⟨b, 0, none⟩ ∧ P b ∧ b < w.heap.size ∧ ∀ (j : Nat) (p : Nat × Nat), L[j]? = some p → w.cell? ⟨b, j * 2, none⟩ = some (.int .u32 (p.1 : Int)) ∧ w.cell? ⟨b, j * 2 + 1, none⟩ = some (.int .u32 (p.2 : Int))
theorem Row.nil (P : Nat → Prop) (w : World) (A : Option Addr) : Row P w A [] := fun h => absurd h (by simp)
theorem Row.blk {P : Nat → Prop} {w : World} {A : Option Addr} {L : List (Nat × Nat)} (h : Row P w A L) : BlkR w A L := fun h0 => by
 obtain ⟨b, e, _, hb, hc⟩ := h h0
 exact ⟨b, 0, e, hb, fun j p hp => by rw [Nat.zero_add]; exact hc j p hp⟩
theorem Row.more {P : Nat → Prop} {w w' : World} {A : Option Addr} {L : List (Nat × Nat)} (h : Row P w A L) (hb : Below w.heap.size w w') : Row P w' A L := fun h0 => by
 obtain ⟨b, e, hp, hlt, hc⟩ := h h0
 exact ⟨b, e, hp, Nat.lt_of_lt_of_le hlt hb.size, fun j p hp => ⟨(hb.cell (p := ⟨b, j * 2, none⟩) hlt).trans (hc j p hp).1, (hb.cell (p := ⟨b, j * 2 + 1, none⟩) hlt).trans (hc j p hp).2⟩⟩
theorem Row.imp {P Q : Nat → Prop} {w : World} {A : Option Addr} {L : List (Nat × Nat)} (h : Row P w A L) (hq : ∀ b, P b → Q b) : Row Q w A L := fun h0 => by
 obtain ⟨b, e, hp, r⟩ := h h0
 exact ⟨b, e, hq b hp, r⟩
theorem Row.apart {P : Nat → Prop} {w w' : World} {A : Option Addr} {L : List (Nat × Nat)} (h : Row P w A L) (g : Nat) (hg : ∀ b, P b → b ≠ g) (ha : Cells.Apart g w w') : Row P w' A L := fun h0 => by
 obtain ⟨b, e, hp, hlt, hc⟩ := h h0
 exact ⟨b, e, hp, Nat.lt_of_lt_of_le hlt ha.1, fun j p hj => ⟨(ha.2 ⟨b, j * 2, none⟩ (hg b hp)).1.trans (hc j p hj).1, (ha.2 ⟨b, j * 2 + 1, none⟩ (hg b hp)).1.trans (hc j p hj).2⟩⟩
theorem Row.apartZ {P : Nat → Prop} {w w' : World} {A : Option Addr} {L : List (Nat × Nat)} (h : Row P w A L) (g : Nat) (x : Int) (hz : w.cell? ⟨g, 0, none⟩ = some (.int .u16 x)) (ha : Cells.Apart g w w') : Row P w' A L := fun h0 => by
 obtain ⟨b, e, hp, hlt, hc⟩ := h h0
 have hne : b ≠ g := fun q => by
   subst q
   have h1 := (hc 0 _ (List.getElem?_eq_getElem h0)).1
   rw [Nat.zero_mul, hz] at h1
   cases h1
 exact ⟨b, e, hp, Nat.lt_of_lt_of_le hlt ha.1, fun j p hj => ⟨(ha.2 ⟨b, j * 2, none⟩ hne).1.trans (hc j p hj).1, (ha.2 ⟨b, j * 2 + 1, none⟩ hne).1.trans (hc j p hj).2⟩⟩
theorem OwnB.row {w : World} {base : Nat} {A : Option Addr} {n c : Nat} {L : List (Nat × Nat)} (h : OwnB w base (.slice A n c) L) (hn : n = L.length) : Row (fun b => base ≤ b) w A L := by
 subst hn
 intro h0
 obtain ⟨g, rfl, hb, hg, hc, _⟩ := own_at h h0
 refine ⟨g, rfl, hb, hg, fun j p hp => ?_⟩
 obtain ⟨e1, e2⟩ := encB_at L j p hp
 exact ⟨by have := hc _ _ e1; rwa [Nat.zero_add] at this, by have := hc _ _ e2; rwa [Nat.zero_add] at this⟩
theorem OwnB.reads {w : World} {base : Nat} {A : Option Addr} {n c : Nat} {L : List (Nat × Nat)} (h : OwnB w base (.slice A n c) L) (hn : n = L.length) : BlkR w A L := by
 subst hn
 intro h0
 obtain ⟨g, rfl, _, hg, hc, _⟩ := own_at h h0
 refine ⟨g, 0, rfl, hg, fun j p hp => ?_⟩
 obtain ⟨e1, e2⟩ := encB_at L j p hp
 exact ⟨hc _ _ e1, by have := hc _ _ e2; rwa [← Nat.add_assoc] at this⟩
theorem app_blk {ops : Array Oper} {rest : List Oper} {o : Oper} {a : Act} {Q : Exit → Act → World → Prop} (W : World) (hgd : o.guard = none) (s x : Operand)
   (ho : o.op = .call { callee := .builtin .append, args := #[s, x], argTypes := #[26, 26] })
   (base : Nat) (v : Value) (L : List (Nat × Nat)) (hs : a.eval s = v) (hown : OwnB W base v L)
   (p q : Nat) (B : Nat) (hx : a.eval x = .slice (some ⟨B, 0, none⟩) 1 1) (hblk : W.heap[B]? = some (.cells #[.int .u32 (p : Int), .int .u32 (q : Int)] 74 (0, 0))) (hbase : base ≤ W.heap.size) (hn : L.length + 1 ≤ 1099511627776)
   (h : ∀ A' c' w', OwnB w' base (.slice A' (L.length + 1) c') (L ++ [(p, q)]) → Below base W w' → wpList Tryz.prog ops Q rest (a.put o.dst (.slice A' (L.length + 1) c')) w') :
   wpList Tryz.prog ops Q (o :: rest) a W := by
 obtain ⟨i0, hi, hz0, hz1, hz2⟩ := info_parts info_blk
 refine wpList_append_own _ hgd s x 26 ho base 74 i0 _ 2 8 Tryz.underlying26 hi hz0 hz1 hz2 rfl (by decide) v L.length _ hs hown ⟨B, 0, none⟩ 1 1 [.int .u32 (p : Int), .int .u32 (q : Int)] hx rfl ?_ ?_ (by unfold maxLen; omega) (by omega) hbase ?_
 · intro j u hj
   have : (⟨B, 0, none⟩ : Addr).add j = ⟨B, j, none⟩ := by
     unfold Addr.add
     split <;> simp_all
   rw [this, cell_of_row _ _ _ _ _ _ hblk]
   simpa using hj
 · intro u hu
   simp at hu
   rcases hu with rfl | rfl <;> rfl
 · intro v' w' h2 h3 _
   obtain ⟨A', c', rfl⟩ := own_form h2
   refine h A' c' w' ?_ ((Below.refl base W).grown h3 hbase fun k hk => (hown.lt k hk).1)
   unfold OwnB
   rw [List.length_append, List.length_singleton, encB_snoc]
   exact h2
theorem prs_len : ∀ (m : Nat) (l : List Nat), l.length = 8 * m → (prs l).length = m
 | 0, l, h => by rw [List.eq_nil_of_length_eq_zero (show l.length = 0 by omega)]; rfl
 | m + 1, l, h => by
   match l, h with
   | a :: b :: c :: d :: e :: f :: g :: x :: r, h =>
     show (prs r).length + 1 = m + 1
     rw [prs_len m r (by simp at h; omega)]
   | [], h => simp at h
   | [_], h => simp at h; omega
   | [_, _], h => simp at h; omega
   | [_, _, _], h => simp at h; omega
   | [_, _, _, _], h => simp at h; omega
   | [_, _, _, _, _], h => simp at h; omega
   | [_, _, _, _, _, _], h => simp at h; omega
   | [_, _, _, _, _, _, _], h => simp at h; omega
theorem prs_at : ∀ (k : Nat) (l : List Nat), 8 * k + 8 ≤ l.length → (prs l)[k]? = some (v256 ((l.drop (8 * k)).take 4), v256 ((l.drop (8 * k + 4)).take 4))
 | k, a :: b :: c :: d :: e :: f :: g :: x :: r, h => by
   have hv : ∀ a b c d : Nat, v256 [a, b, c, d] = a * 16777216 + b * 65536 + c * 256 + d := fun a b c d => by simp only [v256, List.foldl_cons, List.foldl_nil]; omega
   match k with
   | 0 =>
     show some (_, _) = some (v256 [a, b, c, d], v256 [e, f, g, x])
     rw [hv, hv]
   | k + 1 =>
     have ih := prs_at k r (by simp at h; omega)
     have e1 : 8 * (k + 1) = 8 * k + 8 := by omega
     have e2 : 8 * k + 8 + 4 = 8 * k + 4 + 8 := by omega
     rw [e1, e2]
     exact ih
 | k, [], h => by simp at h
 | k, [_], h => by simp at h
 | k, [_, _], h => by simp at h
 | k, [_, _, _], h => by simp at h
 | k, [_, _, _, _], h => by simp at h
 | k, [_, _, _, _, _], h => by simp at h
 | k, [_, _, _, _, _, _], h => by simp at h
 | k, [_, _, _, _, _, _, _], h => by simp at h
def relT5 (s : ByteArray) (A : Option Addr) (n c a p q b0 : Nat) : Nat → Value → World → Prop
 | 0 => fun v _ => v = .pointer (some ⟨b0, 3, none⟩)
 | 1 => fun v _ => v = .slice A n c
 | 2 => fun v _ => v = .string s
 | 3 => fun v _ => v = .int .i64 (a : Int)
 | 4 => fun v _ => v = .int .i64 (a : Int)
 | 5 => fun v _ => v = .int .i64 ((a : Int) + 4)
 | 6 => fun v _ => v = .string (s.extract a (a + 4))
 | 7 => fun v _ => v = .int .u32 (p : Int)
 | 8 => fun v _ => v = .string s
 | 9 => fun v _ => v = .int .i64 (a : Int)
 | 10 => fun v _ => v = .int .i64 ((a : Int) + 4)
 | 11 => fun v _ => v = .int .i64 (a : Int)
 | 12 => fun v _ => v = .int .i64 ((a : Int) + 8)
 | 13 => fun v _ => v = .string (s.extract (a + 4) (a + 8))
 | 14 => fun v _ => v = .int .u32 (q : Int)
 | 15 => fun v _ => v = .agg #[.int .u32 (p : Int), .int .u32 (q : Int)]
 | 16 => fun v W => ∃ B, v = .slice (some ⟨B, 0, none⟩) 1 1 ∧ W.heap[B]? = some (.cells #[.int .u32 (p : Int), .int .u32 (q : Int)] 74 (0, 0))
 | _ => fun _ _ => True
theorem relT5_more (s : ByteArray) (A : Option Addr) (n c a p q b0 : Nat) (i : Nat) (v : Value) (w w' : World) (hr : relT5 s A n c a p q b0 i v w) (hb : Below w.heap.size w w') : relT5 s A n c a p q b0 i v w' := by
 unfold relT5 at hr ⊢
 split at hr <;> first
   | exact hr
   | (obtain ⟨B, e, h⟩ := hr
      exact ⟨B, e, box_more h hb⟩)
attribute [local go_sem] relUpon
set_option maxHeartbeats 16000000 in
theorem take5 (o : Opn) (s : ByteArray) (w : World) (hbl : o.blocks = []) (h8 : s.size % 8 = 0) (hs : s.size ≤ 32) :
   Calls Tryz.prog 90 #[ov o none 0, .int .i64 5, .string s] w fun e w' => ∃ A' c', e = .returned (.tuple #[ov { o with blocks := prs (bz s) } A' c', .bool true]) ∧ Row (fun b => w.heap.size ≤ b) w' A' (prs (bz s)) ∧ Below w.heap.size w w' := by
 obtain ⟨M, hM⟩ : ∃ M, prs (bz s) = M := ⟨_, rfl⟩
 have hMl : M.length = s.size / 8 := by rw [← hM]; exact prs_len _ _ (by rw [bz_len]; omega)
 have HA : Hid (∀ k, 8 * k + 8 ≤ s.size → M[k]? = some (v256 (((bz s).drop (8 * k)).take 4), v256 (((bz s).drop (8 * k + 4)).take 4))) := Lib.hid (fun k hk => by rw [← hM]; exact prs_at k (bz s) (by rw [bz_len]; exact hk))
 rw [hM]
 clear hM
 obtain ⟨mss, scale, sack, blocks, time, val, echo⟩ := o
 simp only at hbl
 subst hbl
 have C0 : CellsAt ((w.alloc (.cells (oc ⟨mss, scale, sack, [], time, val, echo⟩ none 0) 28)).alloc (.cells #[.int .u16 0, .int .i64 0, .bool false, .slice none 0 0, .bool false, .int .u32 0, .int .u32 0] 28)) w.heap.size (oc ⟨mss, scale, sack, [], time, val, echo⟩ none 0) :=
   (CellsAt.new w (oc ⟨mss, scale, sack, [], time, val, echo⟩ none 0) 28).later ((Below.refl _ _).alloc (Nat.le_refl _) _)
 have D0 := CellsAt.new (w.alloc (.cells (oc ⟨mss, scale, sack, [], time, val, echo⟩ none 0) 28)) #[.int .u16 0, .int .i64 0, .bool false, .slice none 0 0, .bool false, .int .u32 0, .int .u32 0] 28
 rw [World.size_alloc] at D0
 have B0 := st_alloc (st_alloc (Below.refl _ w) (.cells (oc ⟨mss, scale, sack, [], time, val, echo⟩ none 0) 28)) (.cells #[.int .u16 0, .int .i64 0, .bool false, .slice none 0 0, .bool false, .int .u32 0, .int .u32 0] 28)
 have HC0 := Lib.hid C0
 have HD0 := Lib.hid D0
 have HB0 := Lib.hid B0
 have HL := Lib.hid hMl
 clear C0 D0 B0 hMl
 go_enter Tryz.func90, Tryz.ntmps90
 go_wp2_with fail
 go_loopw [8] (fun i wr => ∃ (k a : Nat) (A : Option Addr) (c : Nat) (L : List (Nat × Nat)), i = .int .i64 (a : Int) ∧ a = 8 * k ∧ a ≤ s.size ∧ L = M.take k ∧ CellsAt wr w.heap.size (oc ⟨mss, scale, sack, L, time, val, echo⟩ A c) ∧ CellsAt wr (w.heap.size + 1) #[.int .u16 0, .int .i64 0, .bool false, .slice none 0 0, .bool false, .int .u32 0, .int .u32 0] ∧ OwnB wr (w.heap.size + 2) (.slice A L.length c) L ∧ Below w.heap.size w wr) (fun i _ => s.size - (intOf i).toNat)
 case atStart => exact ⟨0, 0, none, 0, [], rfl, rfl, by omega, rfl, HC0.out, HD0.out, ownB_nil _ _, HB0.out⟩
 case round =>
   obtain ⟨k, a, A, c, L, rfl, hak, hk, hL, hC, hD, hO, hB⟩ := hrel
   have HLk := Lib.hid hL
   have hLl : L.length = min k M.length := by rw [hL, List.length_take]
   have HC := Lib.hid hC
   have HD := Lib.hid hD
   have HO := Lib.hid hO
   have HB := Lib.hid hB
   have HAK := Lib.hid hak
   have hd1 := hD.lt
   clear hL hC hD hO hB
   by_cases hlt : a < s.size
   · have hli : (a : Int) < (s.size : Int) := by omega
     have hk8 : 8 * k + 8 ≤ s.size := by omega
     have hMk := HA.out k hk8
     have hk4 : L.length ≤ 4 := by have := HL.out; omega
     have e4 : bz (s.extract a (a + 4)) = ((bz s).drop (8 * k)).take 4 := by rw [bz_extract s _ _ (by omega), List.drop_take, hak]; congr 1; omega
     have e8 : bz (s.extract (a + 4) (a + 8)) = ((bz s).drop (8 * k + 4)).take 4 := by rw [bz_extract s _ _ (by omega), List.drop_take, hak]; congr 1; omega
     have np := fun W => numR (s.extract a (a + 4)) W (by rw [ByteArray.size_extract]; omega)
     have nq := fun W => numR (s.extract (a + 4) (a + 8)) W (by rw [ByteArray.size_extract]; omega)
     rw [e4] at np
     rw [e8] at nq
     generalize v256 (((bz s).drop (8 * k)).take 4) = p at np hMk
     generalize v256 (((bz s).drop (8 * k + 4)).take 4) = q at nq hMk
     have HP := Lib.hid np
     have HQ := Lib.hid nq
     have HMK := Lib.hid hMk
     have i4 : (a : Int) + 4 ≤ (s.size : Int) := by omega
     have i8 : (a : Int) + 8 ≤ (s.size : Int) := by omega
     have i04 : (a : Int) ≤ (a : Int) + 4 := by omega
     have i48 : (a : Int) + 4 ≤ (a : Int) + 8 := by omega
     have i40 : 0 ≤ (a : Int) + 4 := by omega
     have i80 : 0 ≤ (a : Int) + 8 := by omega
     have t4 : ((a : Int) + 4).toNat = a + 4 := by omega
     have t8 : ((a : Int) + 8).toNat = a + 8 := by omega
     have w4 : IntKind.i64.wrap ((a : Int) + 4) = (a : Int) + 4 := by rw [IntKind.wrap_i64]; omega
     have w8 : IntKind.i64.wrap ((a : Int) + 8) = (a : Int) + 8 := by rw [IntKind.wrap_i64]; omega
     have HLL := Lib.hid hLl
     have HK8 := Lib.hid hk8
     clear np nq hMk e4 e8 hLl hak hk8
     go_wp2_with fail
     refine wp_region_see_tail 17 69 (relT5 s A L.length c a p q w.heap.size) rfl (by kernel_rfl) (by kernel_rfl) (by kernel_rfl) (by kernel_rfl) (relT5_more s A L.length c a p q w.heap.size) ?_ ?_
     · intro i hi
       have hi2 : i < 17 := by simpa using hi
       clear hi
       match i, hi2 with
       | 0, _ =>
         intro ρ W hb hc hg hf h0 hd
         have t3 := h0 3 (by kernel_rfl)
         clear hd h0
         go_simp
         exact ⟨rfl, Below.refl _ _⟩
       | 1, _ =>
         intro ρ W hb hc hg hf h0 hd
         have d0 : ρ (.tmp 38) = .pointer (some ⟨w.heap.size, 3, none⟩) := hd 0 38 (by kernel_rfl) (by kernel_rfl)
         have c3 := (HC.out.later hb).cell 3 _ rfl
         clear hd h0
         go_simp
         exact ⟨rfl, Below.refl _ _⟩
       | 2, _ =>
         intro ρ W hb hc hg hf h0 hd
         have t2 := h0 2 (by kernel_rfl)
         clear hd h0
         go_simp
         exact ⟨rfl, Below.refl _ _⟩
       | 3, _ =>
         intro ρ W hb hc hg hf h0 hd
         have t8 := h0 8 (by kernel_rfl)
         clear hd h0
         go_simp
         exact ⟨rfl, Below.refl _ _⟩
       | 4, _ =>
         intro ρ W hb hc hg hf h0 hd
         have t8 := h0 8 (by kernel_rfl)
         clear hd h0
         go_simp
         exact ⟨rfl, Below.refl _ _⟩
       | 5, _ =>
         intro ρ W hb hc hg hf h0 hd
         have d4 : ρ (.tmp 42) = .int .i64 (a : Int) := hd 4 42 (by kernel_rfl) (by kernel_rfl)
         clear hd h0
         go_simp
         exact ⟨rfl, Below.refl _ _⟩
       | 6, _ =>
         intro ρ W hb hc hg hf h0 hd
         have d2 : ρ (.tmp 40) = .string s := hd 2 40 (by kernel_rfl) (by kernel_rfl)
         have d3 : ρ (.tmp 41) = .int .i64 (a : Int) := hd 3 41 (by kernel_rfl) (by kernel_rfl)
         have d5 : ρ (.tmp 43) = .int .i64 ((a : Int) + 4) := hd 5 43 (by kernel_rfl) (by kernel_rfl)
         clear hd h0
         go_simp
         exact ⟨rfl, Below.refl _ _⟩
       | 7, _ =>
         intro ρ W hb hc hg hf h0 hd
         have d6 : ρ (.tmp 44) = .string (s.extract a (a + 4)) := hd 6 44 (by kernel_rfl) (by kernel_rfl)
         clear hd h0
         go_simp
         exact (HP.out W).mono fun e w' ⟨he, hw⟩ => ⟨_, he, rfl, by rw [hw]; exact Below.refl _ _⟩
       | 8, _ =>
         intro ρ W hb hc hg hf h0 hd
         have t2 := h0 2 (by kernel_rfl)
         clear hd h0
         go_simp
         exact ⟨rfl, Below.refl _ _⟩
       | 9, _ =>
         intro ρ W hb hc hg hf h0 hd
         have t8 := h0 8 (by kernel_rfl)
         clear hd h0
         go_simp
         exact ⟨rfl, Below.refl _ _⟩
       | 10, _ =>
         intro ρ W hb hc hg hf h0 hd
         have d9 : ρ (.tmp 47) = .int .i64 (a : Int) := hd 9 47 (by kernel_rfl) (by kernel_rfl)
         clear hd h0
         go_simp
         exact ⟨rfl, Below.refl _ _⟩
       | 11, _ =>
         intro ρ W hb hc hg hf h0 hd
         have t8 := h0 8 (by kernel_rfl)
         clear hd h0
         go_simp
         exact ⟨rfl, Below.refl _ _⟩
       | 12, _ =>
         intro ρ W hb hc hg hf h0 hd
         have d11 : ρ (.tmp 49) = .int .i64 (a : Int) := hd 11 49 (by kernel_rfl) (by kernel_rfl)
         clear hd h0
         go_simp
         exact ⟨rfl, Below.refl _ _⟩
       | 13, _ =>
         intro ρ W hb hc hg hf h0 hd
         have d8 : ρ (.tmp 46) = .string s := hd 8 46 (by kernel_rfl) (by kernel_rfl)
         have d10 : ρ (.tmp 48) = .int .i64 ((a : Int) + 4) := hd 10 48 (by kernel_rfl) (by kernel_rfl)
         have d12 : ρ (.tmp 50) = .int .i64 ((a : Int) + 8) := hd 12 50 (by kernel_rfl) (by kernel_rfl)
         clear hd h0
         go_simp
         exact ⟨rfl, Below.refl _ _⟩
       | 14, _ =>
         intro ρ W hb hc hg hf h0 hd
         have d13 : ρ (.tmp 51) = .string (s.extract (a + 4) (a + 8)) := hd 13 51 (by kernel_rfl) (by kernel_rfl)
         clear hd h0
         go_simp
         exact (HQ.out W).mono fun e w' ⟨he, hw⟩ => ⟨_, he, rfl, by rw [hw]; exact Below.refl _ _⟩
       | 15, _ =>
         intro ρ W hb hc hg hf h0 hd
         have d7 : ρ (.tmp 45) = .int .u32 (p : Int) := hd 7 45 (by kernel_rfl) (by kernel_rfl)
         have d14 : ρ (.tmp 52) = .int .u32 (q : Int) := hd 14 52 (by kernel_rfl) (by kernel_rfl)
         clear hd h0
         go_simp
         exact ⟨rfl, Below.refl _ _⟩
       | 16, _ =>
         intro ρ W hb hc hg hf h0 hd
         have d15 : ρ (.tmp 53) = .agg #[.int .u32 (p : Int), .int .u32 (q : Int)] := hd 15 53 (by kernel_rfl) (by kernel_rfl)
         clear hd h0
         go_simp
         exact ⟨⟨_, rfl, box_new _ _⟩, st_alloc (Below.refl _ _) _⟩
       | i + 17, hlt => exact absurd hlt (by omega)
     · intro vs W hb hall
       have h1 : vs 1 = .slice A L.length c := hall 1 (by omega)
       obtain ⟨B, h16, hblk⟩ : ∃ B, vs 16 = .slice (some ⟨B, 0, none⟩) 1 1 ∧ W.heap[B]? = some (.cells #[.int .u32 (p : Int), .int .u32 (q : Int)] 74 (0, 0)) := hall 16 (by omega)
       clear hall
       rw [lexA_slots vs 17 [(some 38, 0), (some 39, 1), (some 40, 2), (some 41, 3), (some 42, 4), (some 43, 5), (some 44, 6), (some 45, 7), (some 46, 8), (some 47, 9), (some 48, 10), (some 49, 11), (some 50, 12), (some 51, 13), (some 52, 14), (some 53, 15), (some 54, 16)] (by kernel_rfl)]
       simp only [List.foldl_cons, List.foldl_nil, h1, h16]
       show wpList _ _ _ [_, _, _] _ _
       simp only [put_lit, List.set_cons_succ, List.set_cons_zero]
       have C1 := HC.out.later hb
       have D1 := HD.out.later hb
       have O1 := HO.out.stays hb
       have B1 := st_call HB.out hb
       have hsz := D1.lt
       refine app_blk W rfl _ _ rfl (w.heap.size + 2) _ L rfl O1 p q B rfl hblk (by omega) (by omega) ?_
       intro A' c' w' hO' hB'
       have C2 := Lib.hid (C1.more (by omega) hB')
       have D2 := Lib.hid (D1.more (by omega) hB')
       have O2 := Lib.hid hO'
       have B2 := Lib.hid (B1.trans (hB'.mono (by omega)))
       have c3 := C2.out.cell 3 _ rfl
       have f3 := C2.out.free 3 (show 3 < 7 by decide)
       clear C1 D1 O1 B1 hO' hB' hblk h1 h16 hb
       have C3 : CellsAt (w'.setCell ⟨w.heap.size, 3, none⟩ (.slice A' (L.length + 1) c')) w.heap.size (oc ⟨mss, scale, sack, L ++ [(p, q)], time, val, echo⟩ A' c') := by
         have h := C2.out.put 3 (.slice A' (L.length + 1) c') (show 3 < 7 by decide)
         have e : (L ++ [(p, q)]).length = L.length + 1 := by simp
         show CellsAt _ _ #[_, _, _, .slice A' (L ++ [(p, q)]).length c', _, _, _]
         rw [e]
         exact h
       have HC3 := Lib.hid C3
       clear C3
       go_wp2_with fail
       have hL2 : L ++ [(p, q)] = M.take (k + 1) := by rw [take_snocG HMK.out, HLk.out]
       go_roundw
       case rel => exact ⟨k + 1, a + 8, A', c', L ++ [(p, q)], by go_num, by have := HAK.out; omega, by omega, hL2, HC3.out, D2.out.other _ _ _ (by omega), by rw [List.length_append]; exact O2.out.put _ _ _ (by omega), B2.out.setCell (Nat.le_refl _) _⟩
       case measure => simp [intOf]; omega
   · obtain rfl : L = M := by rw [HLk.out, List.take_of_length_le (by have := HL.out; omega)]
     have hli : ¬ (a : Int) < (s.size : Int) := by omega
     have c0 := HC.out.cell 0 _ rfl
     have d0 := HD.out.cell 0 _ rfl
     have f0 := HD.out.free 0 (by decide)
     have c1 := HC.out.cell 1 _ rfl
     have d1 := HD.out.cell 1 _ rfl
     have f1 := HD.out.free 1 (by decide)
     have c2 := HC.out.cell 2 _ rfl
     have d2 := HD.out.cell 2 _ rfl
     have f2 := HD.out.free 2 (by decide)
     have c3 := HC.out.cell 3 _ rfl
     have d3 := HD.out.cell 3 _ rfl
     have f3 := HD.out.free 3 (by decide)
     have c4 := HC.out.cell 4 _ rfl
     have d4 := HD.out.cell 4 _ rfl
     have f4 := HD.out.free 4 (by decide)
     have c5 := HC.out.cell 5 _ rfl
     have d5 := HD.out.cell 5 _ rfl
     have f5 := HD.out.free 5 (by decide)
     have c6 := HC.out.cell 6 _ rfl
     have d6 := HD.out.cell 6 _ rfl
     have f6 := HD.out.free 6 (by decide)
     clear hLl
     go_wp2_with fail
     obtain ⟨W9, hW9, ez, hb9⟩ := set7 wr (w.heap.size + 1) (.int .u16 (mss : Int)) (.int .i64 scale) (.bool sack) (.slice A L.length c) (.bool time) (.int .u32 (val : Int)) (.int .u32 (echo : Int)) (fun j hj => HD.out.some_ j hj)
     rw [hW9]
     have e0 := ez 0 _ rfl
     have e1 := ez 1 _ rfl
     have e2 := ez 2 _ rfl
     have e3 := ez 3 _ rfl
     have e4 := ez 4 _ rfl
     have e5 := ez 5 _ rfl
     have e6 := ez 6 _ rfl
     have B9 := Lib.hid (HB.out.trans (hb9.mono (by omega)))
     have R9 : Row (fun b => w.heap.size ≤ b) W9 A L := by
       rw [← hW9]
       refine Row.imp (OwnB.row (base := w.heap.size + 2) ((((((((HO.out.put (w.heap.size + 1) 0 _ (by omega)).put (w.heap.size + 1) 1 _ (by omega)).put (w.heap.size + 1) 2 _ (by omega)).put (w.heap.size + 1) 3 _ (by omega)).put (w.heap.size + 1) 4 _ (by omega)).put (w.heap.size + 1) 5 _ (by omega)).put (w.heap.size + 1) 6 _ (by omega))) rfl) (fun b hb => by omega)
     refine bodyPost_ret (v := .tuple #[ov ⟨mss, scale, sack, L, time, val, echo⟩ A c, .bool true]) ?_ rfl ⟨A, ⟨c, rfl⟩, R9, B9.out⟩
     simp [results, Tryz.f90, go_sem, e0, e1, e2, e3, e4, e5, e6]
end Go.Proofs.YtpmnmnflaijaaaaGreat.OptTake5
namespace Go.Proofs.YtpmnmnflaijaaaaGreat.OptTk
open Go.RowKit Own TupMath SumMath Litb Calm IpMath IpRef OptMath OptRef OptPlc OptSame Boxes OptRaw OptMay OptTake OptTake5
set_option linter.unusedVariables false
set_option maxRecDepth 100000
def tkO (o : Opn) (k : Nat) (p : List Nat) : Opn :=
 if k = 2 then { o with mss := v256 p }
 else if k = 3 then { o with scale := min (at0 p 0 : Int) 14 }
 else if k = 4 then { o with sack := true }
 else if k = 5 then { o with blocks := o.blocks ++ prs p }
 else if k = 8 then { o with time := true, val := v256 (p.take 4), echo := v256 (p.drop 4) }
 else o
def tkB (k : Nat) (p : List Nat) : Bool := !(decide (k = 2) && decide (v256 p = 0))
theorem tk_is (o : Opn) (k : Nat) (p : List Nat) : tk o (k, p) = if tkB k p = true then some (tkO o k p) else none := by
 unfold tk tkO tkB
 by_cases c2 : k = 2
 · subst c2
   by_cases c : v256 p = 0
   · rw [if_pos rfl, if_pos c, if_neg (by simp [c])]
   · rw [if_pos rfl, if_neg c, if_pos (by simp [c]), if_pos rfl]
 · have e : (!(decide (k = 2) && decide (v256 p = 0))) = true := by simp [c2]
   rw [e, if_pos rfl]
   simp only [if_neg c2]
   repeat' split
   all_goals rfl
theorem takeR (P : Nat → Prop) (o : Opn) (A : Option Addr) (c k : Nat) (s : ByteArray) (w : World) (hr : right k (s.size + 2) = true) (h5 : k = 5 → o.blocks = [] ∧ A = none ∧ c = 0) (hrow : Row P w A o.blocks) (hP : ∀ b, w.heap.size ≤ b → P b) :
   Calls Tryz.prog 90 #[ov o A c, .int .i64 (k : Int), .string s] w fun e w' => (∃ A' c', e = .returned (.tuple #[ov (tkO o k (bz s)) A' c', .bool (tkB k (bz s))]) ∧ Row P w' A' (tkO o k (bz s)).blocks ∧ (k ≠ 5 → A' = A ∧ c' = c)) ∧ Below w.heap.size w w' := by
 by_cases c2 : k = 2
 · subst c2
   have hs : s.size = 2 := by simp [right] at hr; omega
   refine (take2 o A c s w hs).mono ?_
   rintro e w' ⟨rfl, hb⟩
   refine ⟨⟨A, c, ?_, hrow.more hb, fun _ => ⟨rfl, rfl⟩⟩, hb⟩
   have e1 : tkB 2 (bz s) = decide (v256 (bz s) ≠ 0) := by unfold tkB; simp
   rw [e1]
   rfl
 by_cases c3 : k = 3
 · subst c3
   have hs : s.size = 1 := by simp [right] at hr; omega
   refine (take3 o A c s w hs).mono ?_
   rintro e w' ⟨rfl, hb⟩
   exact ⟨⟨A, c, rfl, hrow.more hb, fun _ => ⟨rfl, rfl⟩⟩, hb⟩
 by_cases c4 : k = 4
 · subst c4
   refine (take4 o A c s w).mono ?_
   rintro e w' ⟨rfl, hb⟩
   exact ⟨⟨A, c, rfl, hrow.more hb, fun _ => ⟨rfl, rfl⟩⟩, hb⟩
 by_cases c5 : k = 5
 · subst c5
   obtain ⟨hb0, rfl, rfl⟩ := h5 rfl
   have hs : s.size % 8 = 0 ∧ s.size ≤ 32 := by simp [right] at hr; omega
   refine (take5 o s w hb0 hs.1 hs.2).mono ?_
   rintro e w' ⟨A', c', rfl, hR, hb⟩
   have e1 : tkO o 5 (bz s) = { o with blocks := prs (bz s) } := by unfold tkO; rw [hb0]; rfl
   rw [e1]
   exact ⟨⟨A', c', rfl, hR.imp hP, fun h => absurd rfl h⟩, hb⟩
 by_cases c8 : k = 8
 · subst c8
   have hs : s.size = 8 := by simp [right] at hr; omega
   refine (take8 o A c s w hs).mono ?_
   rintro e w' ⟨rfl, hb⟩
   exact ⟨⟨A, c, rfl, hrow.more hb, fun _ => ⟨rfl, rfl⟩⟩, hb⟩
 · have e1 : tkO o k (bz s) = o := by unfold tkO; rw [if_neg c2, if_neg c3, if_neg c4, if_neg c5, if_neg c8]
   have e2 : tkB k (bz s) = true := by unfold tkB; simp [c2]
   rw [e1, e2]
   refine (takeO o A c k s w c2 c3 c4 c5 c8).mono ?_
   rintro e w' ⟨rfl, hb⟩
   exact ⟨⟨A, c, rfl, hrow.more hb, fun _ => ⟨rfl, rfl⟩⟩, hb⟩
theorem plc_once (l : List Nat) : ∀ (m a : Nat) (met ps : List Nat), l.length - a ≤ m → plc l a met = some ps →
   (∀ p ∈ ps, known (at0 l p) = true → at0 l p ∉ met) ∧ ps.Pairwise fun p q => known (at0 l p) = true → at0 l q ≠ at0 l p := by
 intro m
 induction m with
 | zero =>
   intro a met ps h he
   rw [plc_end (by omega)] at he
   obtain rfl := Option.some.inj he
   exact ⟨(fun p hp => by cases hp), List.Pairwise.nil⟩
 | succ m ih =>
   intro a met ps h he
   by_cases ha : a < l.length
   · by_cases h0 : at0 l a = 0
     · rw [plc_zero ha h0] at he
       obtain rfl := Option.some.inj he
       exact ⟨(fun p hp => by cases hp), List.Pairwise.nil⟩
     by_cases h1 : at0 l a = 1
     · rw [plc_one ha h1] at he
       exact ih (a + 1) met ps (by omega) he
     by_cases hr : a + 1 < l.length ∧ right (at0 l a) (at0 l (a + 1)) = true ∧ a + at0 l (a + 1) ≤ l.length ∧ ¬ (at0 l a ∈ met ∧ known (at0 l a) = true)
     · have hn := right_ge hr.2.1
       rw [plc_ok ha h0 h1 hr] at he
       obtain ⟨qs, hq, rfl⟩ := Option.map_eq_some_iff.1 he
       obtain ⟨i1, i2⟩ := ih _ _ qs (by omega) hq
       refine ⟨fun p hp hk => ?_, List.pairwise_cons.2 ⟨fun q hq2 hk e => ?_, i2⟩⟩
       · rcases List.mem_cons.1 hp with rfl | hp
         · exact fun hm => hr.2.2.2 ⟨hm, hk⟩
         · exact fun hm => i1 p hp hk (List.mem_cons_of_mem _ hm)
       · exact i1 q hq2 (by rw [e]; exact hk) (by rw [e]; exact List.mem_cons_self)
     · rw [plc_bad ha h0 h1 hr] at he; cases he
   · rw [plc_end ha] at he
     obtain rfl := Option.some.inj he
     exact ⟨(fun p hp => by cases hp), List.Pairwise.nil⟩
theorem plc_few (l : List Nat) : ∀ (m a : Nat) (met ps : List Nat), l.length - a ≤ m → plc l a met = some ps → ps.length ≤ m := by
 intro m
 induction m with
 | zero =>
   intro a met ps h he
   rw [plc_end (by omega)] at he
   obtain rfl := Option.some.inj he
   exact Nat.le_refl _
 | succ m ih =>
   intro a met ps h he
   by_cases ha : a < l.length
   · by_cases h0 : at0 l a = 0
     · rw [plc_zero ha h0] at he
       obtain rfl := Option.some.inj he
       exact Nat.zero_le _
     by_cases h1 : at0 l a = 1
     · rw [plc_one ha h1] at he
       exact Nat.le_succ_of_le (ih (a + 1) met ps (by omega) he)
     by_cases hr : a + 1 < l.length ∧ right (at0 l a) (at0 l (a + 1)) = true ∧ a + at0 l (a + 1) ≤ l.length ∧ ¬ (at0 l a ∈ met ∧ known (at0 l a) = true)
     · have hn := right_ge hr.2.1
       rw [plc_ok ha h0 h1 hr] at he
       obtain ⟨qs, hq, rfl⟩ := Option.map_eq_some_iff.1 he
       have := ih _ _ qs (by omega) hq
       rw [List.length_cons]
       omega
     · rw [plc_bad ha h0 h1 hr] at he; cases he
   · rw [plc_end ha] at he
     obtain rfl := Option.some.inj he
     exact Nat.zero_le _
def dec7 (l : List Nat) : Nat × Opn := if 40 < l.length then (4, zeroO) else match decO l with | none => (70, zeroO) | some p => (0, p)
theorem dec7_long {l : List Nat} (h : 40 < l.length) : dec7 l = (4, zeroO) := if_pos h
theorem dec7_none {l : List Nat} (h : ¬ 40 < l.length) (hd : decO l = none) : dec7 l = (70, zeroO) := by unfold dec7; rw [if_neg h, hd]
theorem dec7_some {l : List Nat} {p : Opn} (h : ¬ 40 < l.length) (hd : decO l = some p) : dec7 l = (0, p) := by unfold dec7; rw [if_neg h, hd]
def DecOut (l : List Nat) (w : World) (e : Ending) (w' : World) : Prop :=
 (∃ A c, e = .returned (.tuple #[ov (dec7 l).2 A c, .int .i64 ((dec7 l).1 : Int)]) ∧ Row (fun b => w.heap.size ≤ b) w' A (dec7 l).2.blocks) ∧ Below w.heap.size w w'
def upto (l ps : List Nat) (j : Nat) : Option Opn := ((ps.take j).map (itm l)).foldlM tk none0
theorem upto_zero (l ps : List Nat) : upto l ps 0 = some none0 := rfl
theorem upto_succ {l ps : List Nat} {j a : Nat} {o : Opn} (ho : upto l ps j = some o) (ha : ps[j]? = some a) : upto l ps (j + 1) = tk o (itm l a) := by
 unfold upto at ho ⊢
 rw [take_snocG ha, List.map_append, List.foldlM_append, ho]
 show (List.foldlM tk o [itm l a]) = _
 simp only [List.foldlM_cons, List.foldlM_nil]
 cases tk o (itm l a) <;> rfl
theorem upto_none {l ps : List Nat} {j a : Nat} {o : Opn} (ho : upto l ps j = some o) (ha : ps[j]? = some a) (hn : tk o (itm l a) = none) : (ps.map (itm l)).foldlM tk none0 = none := by
 have h1 := upto_succ ho ha
 rw [hn] at h1
 unfold upto at h1
 have e : ps.map (itm l) = (ps.take (j + 1)).map (itm l) ++ (ps.drop (j + 1)).map (itm l) := by rw [← List.map_append, List.take_append_drop]
 rw [e, List.foldlM_append, h1]
 rfl
theorem dec_of {l ps : List Nat} (hp : plc l 0 [] = some ps) : decO l = (ps.map (itm l)).foldlM tk none0 := by
 unfold decO
 have h := its_plc l l.length 0 [] (by omega)
 rw [List.drop_zero, hp] at h
 rw [h]
 rfl
theorem dec_no {l : List Nat} (hp : plc l 0 [] = none) : decO l = none := by
 unfold decO
 have h := its_plc l l.length 0 [] (by omega)
 rw [List.drop_zero, hp] at h
 rw [h]
 rfl
end Go.Proofs.YtpmnmnflaijaaaaGreat.OptTk
namespace Go.Proofs.YtpmnmnflaijaaaaGreat.OptTurnM
open Go.RowKit TupMath SumMath IpMath OptMath OptRef OptTk
set_option linter.unusedVariables false
theorem addA_split (A q R : List Nat) (x : Nat) (hq : q.length = 4) : addA (A ++ (q ++ R)) A.length x = A ++ (addw q x ++ R) := by
 unfold addA
 have e1 : (A ++ (q ++ R)).take A.length = A := List.take_left' rfl
 have e2 : (A ++ (q ++ R)).drop A.length = q ++ R := List.drop_left' rfl
 have e3 : (A ++ (q ++ R)).drop (A.length + 4) = R := by
   rw [← List.drop_drop, e2]
   exact List.drop_left' hq
 rw [e1, e2, e3, List.take_left' hq]
theorem addA_at (l : List Nat) (a x i : Nat) (h : i < a) (ha : a ≤ l.length) : at0 (addA l a x) i = at0 l i := by
 unfold addA
 rw [at_app (by rw [List.length_take]; omega), at_take h]
def addN (b : Nat) (c : List Nat) (k : Nat) : Nat → List Nat
 | 0 => c
 | t + 1 => addA (addN b c k t) (k + 4 * t) b
theorem addAll_app (x : Nat) : ∀ (t : Nat) (p q : List Nat), p.length = 4 * t → q.length = 4 → addAll x (p ++ q) = addAll x p ++ addw q x
 | 0, p, q, hp, hq => by
   rw [List.eq_nil_of_length_eq_zero (show p.length = 0 by omega)]
   match q, hq with
   | [a, b, c, d], _ => simp [addAll]
 | t + 1, p, q, hp, hq => by
   match p, hp with
   | a :: b :: c :: d :: r, hp =>
     show addw [a, b, c, d] x ++ addAll x (r ++ q) = _
     rw [addAll_app x t r q (by simp at hp; omega) hq]
     show _ = (addw [a, b, c, d] x ++ addAll x r) ++ _
     rw [List.append_assoc]
   | [], hp => simp at hp
   | [_], hp => simp at hp; omega
   | [_, _], hp => simp at hp; omega
   | [_, _, _], hp => simp at hp; omega
theorem addN_split (b : Nat) (A : List Nat) : ∀ (t : Nat) (p R : List Nat), p.length = 4 * t → addN b (A ++ (p ++ R)) A.length t = A ++ (addAll b p ++ R)
 | 0, p, R, hp => by
   rw [List.eq_nil_of_length_eq_zero (show p.length = 0 by omega)]
   rfl
 | t + 1, p, R, hp => by
   obtain ⟨p', q, rfl, hp', hq⟩ : ∃ p' q, p = p' ++ q ∧ p'.length = 4 * t ∧ q.length = 4 := ⟨p.take (4 * t), p.drop (4 * t), (List.take_append_drop _ _).symm, by rw [List.length_take]; omega, by rw [List.length_drop]; omega⟩
   show addA (addN b (A ++ (p' ++ q ++ R)) A.length t) (A.length + 4 * t) b = _
   rw [List.append_assoc p', addN_split b A t p' (q ++ R) hp', addAll_app b t p' q hp' hq]
   have hl : (A ++ addAll b p').length = A.length + 4 * t := by rw [List.length_append, addAll_len b p'.length p' (Nat.le_refl _), hp']
   rw [← hl, ← List.append_assoc A, addA_split (A ++ addAll b p') q R b hq]
   simp only [List.append_assoc]
theorem addN_len (b : Nat) (c : List Nat) (k : Nat) : ∀ t, k + 4 * t ≤ c.length → (addN b c k t).length = c.length
 | 0, _ => rfl
 | t + 1, h => by
   have ih := addN_len b c k t (by omega)
   show (addA (addN b c k t) (k + 4 * t) b).length = _
   rw [addA_len _ _ _ (by omega), ih]
theorem addN_at (b : Nat) (c : List Nat) (k i : Nat) (hi : i < k) : ∀ t, k + 4 * t ≤ c.length → at0 (addN b c k t) i = at0 c i
 | 0, _ => rfl
 | t + 1, h => by
   have ih := addN_at b c k i hi t (by omega)
   show at0 (addA (addN b c k t) (k + 4 * t) b) i = _
   rw [addA_at _ _ _ _ (by omega) (by rw [addN_len b c k t (by omega)]; omega), ih]
def updP (b v e : Nat) (c : List Nat) (p : Nat) : List Nat :=
 if at0 c p = 8 then addA (addA c (p + 2) v) (p + 6) e else if at0 c p = 5 then addN b c (p + 2) ((at0 c (p + 1) - 2) / 4) else c
theorem at_mid (A : List Nat) (k n : Nat) (r : List Nat) : at0 (A ++ (k :: n :: r)) A.length = k ∧ at0 (A ++ (k :: n :: r)) (A.length + 1) = n := by
 unfold at0
 constructor
 · rw [List.getElem?_append_right (Nat.le_refl _), Nat.sub_self]; rfl
 · rw [List.getElem?_append_right (by omega), show A.length + 1 - A.length = 1 by omega]; rfl
theorem updP_is (b v e k n : Nat) (A p R : List Nat) (hr : right k n = true) (hp : p.length + 2 = n) : updP b v e (A ++ (k :: n :: (p ++ R))) A.length = A ++ (k :: n :: (tp b v e k p ++ R)) := by
 obtain ⟨h1, h2⟩ := at_mid A k n (p ++ R)
 unfold updP tp
 rw [h1, h2]
 have eA : ∀ X : List Nat, A ++ (k :: n :: X) = (A ++ [k, n]) ++ X := fun X => by simp
 have lA : (A ++ [k, n]).length = A.length + 2 := by simp
 by_cases c8 : k = 8
 · rw [if_pos c8, if_pos c8]
   have hn : n = 10 := by subst c8; simpa [right] using hr
   have h8 : p.length = 8 := by omega
   have ep : p = p.take 4 ++ p.drop 4 := (List.take_append_drop _ _).symm
   have l1 : (p.take 4).length = 4 := by rw [List.length_take]; omega
   have l2 : (p.drop 4).length = 4 := by rw [List.length_drop]; omega
   generalize p.take 4 = q1 at ep l1
   generalize p.drop 4 = q2 at ep l2
   subst ep
   rw [eA, ← lA, List.append_assoc q1, addA_split (A ++ [k, n]) q1 (q2 ++ R) v l1]
   have l3 : ((A ++ [k, n]) ++ addw q1 v).length = A.length + 6 := by rw [List.length_append, lA, addw_len]
   rw [← List.append_assoc (A ++ [k, n]), ← l3, addA_split ((A ++ [k, n]) ++ addw q1 v) q2 R e l2]
   simp only [List.append_assoc, List.cons_append, List.nil_append]
 · rw [if_neg c8, if_neg c8]
   by_cases c5 : k = 5
   · rw [if_pos c5, if_pos c5]
     have hn : p.length = 8 ∨ p.length = 16 ∨ p.length = 24 ∨ p.length = 32 := by subst c5; simp [right] at hr; omega
     rw [eA, ← lA, addN_split b (A ++ [k, n]) ((n - 2) / 4) p R (by omega)]
     simp only [List.append_assoc, List.cons_append, List.nil_append]
   · rw [if_neg c5, if_neg c5]
theorem drop_opt {l : List Nat} {a : Nat} (hr : a + 1 < l.length ∧ right (at0 l a) (at0 l (a + 1)) = true ∧ a + at0 l (a + 1) ≤ l.length) :
   ∃ p, l.drop a = at0 l a :: at0 l (a + 1) :: (p ++ l.drop (a + at0 l (a + 1))) ∧ p.length + 2 = at0 l (a + 1) := by
 have hn := right_ge hr.2.1
 refine ⟨(l.drop (a + 2)).take (at0 l (a + 1) - 2), ?_, ?_⟩
 · rw [drop_cons (show a < l.length by omega), drop_cons hr.1]
   congr 2
   have e : l.drop (a + at0 l (a + 1)) = (l.drop (a + 2)).drop (at0 l (a + 1) - 2) := by rw [List.drop_drop]; congr 1; omega
   rw [e, List.take_append_drop]
 · rw [List.length_take, List.length_drop]; omega
theorem fold_turnS (b v e : Nat) (l : List Nat) : ∀ (m a : Nat) (met ps A : List Nat), l.length - a ≤ m → plc l a met = some ps → A.length = a →
   ps.foldl (updP b v e) (A ++ l.drop a) = A ++ turnS b v e (l.drop a) := by
 intro m
 induction m with
 | zero =>
   intro a met ps A h he hA
   rw [plc_end (by omega)] at he
   obtain rfl := Option.some.inj he
   rw [List.drop_eq_nil_of_le (by omega), turnS_nil]
   rfl
 | succ m ih =>
   intro a met ps A h he hA
   by_cases ha : a < l.length
   · by_cases h0 : at0 l a = 0
     · rw [plc_zero ha h0] at he
       obtain rfl := Option.some.inj he
       rw [drop_cons ha, h0, turnS_zero]
       rfl
     by_cases h1 : at0 l a = 1
     · rw [plc_one ha h1] at he
       have := ih (a + 1) met ps (A ++ [1]) (by omega) he (by simp [hA])
       rw [drop_cons ha, h1, turnS_one]
       simpa using this
     by_cases hr : a + 1 < l.length ∧ right (at0 l a) (at0 l (a + 1)) = true ∧ a + at0 l (a + 1) ≤ l.length ∧ ¬ (at0 l a ∈ met ∧ known (at0 l a) = true)
     · have hn := right_ge hr.2.1
       rw [plc_ok ha h0 h1 hr] at he
       obtain ⟨qs, hq, rfl⟩ := Option.map_eq_some_iff.1 he
       obtain ⟨p, hd, hp⟩ := drop_opt ⟨hr.1, hr.2.1, hr.2.2.1⟩
       have hr1 := hr.2.1
       rw [hd, turnS_ok b v e _ _ p _ h0 h1 hp, List.foldl_cons]
       generalize hk : at0 l a = k at hr1 hp hq ⊢
       generalize at0 l (a + 1) = n at hr1 hp hq hn ⊢
       rw [← hA, updP_is b v e k n A p _ hr1 hp]
       have tl := tp_len b v e k p (by rw [hp]; exact hr1)
       have := ih (A.length + n) (k :: met) qs (A ++ (k :: n :: tp b v e k p)) (by omega) (by rw [hA]; exact hq) (by simp [tl]; omega)
       simpa using this
     · rw [plc_bad ha h0 h1 hr] at he; cases he
   · rw [plc_end ha] at he
     obtain rfl := Option.some.inj he
     rw [List.drop_eq_nil_of_le (by omega), turnS_nil]
     rfl
theorem fold_keep (b v e : Nat) (l : List Nat) : ∀ (m a : Nat) (met ps A : List Nat), l.length - a ≤ m → plc l a met = some ps → A.length = a →
   ∀ (j p : Nat), ps[j]? = some p → ((ps.take j).foldl (updP b v e) (A ++ l.drop a)).drop p = l.drop p := by
 intro m
 induction m with
 | zero =>
   intro a met ps A h he hA j p hj
   rw [plc_end (by omega)] at he
   obtain rfl := Option.some.inj he
   simp at hj
 | succ m ih =>
   intro a met ps A h he hA j p hj
   have hin := plc_in l (m + 1) a met ps h he p (List.mem_of_getElem? hj)
   by_cases ha : a < l.length
   · by_cases h0 : at0 l a = 0
     · rw [plc_zero ha h0] at he
       obtain rfl := Option.some.inj he
       simp at hj
     by_cases h1 : at0 l a = 1
     · rw [plc_one ha h1] at he
       have := ih (a + 1) met ps (A ++ [1]) (by omega) he (by simp [hA]) j p hj
       rw [drop_cons ha, h1]
       simpa using this
     by_cases hr : a + 1 < l.length ∧ right (at0 l a) (at0 l (a + 1)) = true ∧ a + at0 l (a + 1) ≤ l.length ∧ ¬ (at0 l a ∈ met ∧ known (at0 l a) = true)
     · have hn := right_ge hr.2.1
       rw [plc_ok ha h0 h1 hr] at he
       obtain ⟨qs, hq, rfl⟩ := Option.map_eq_some_iff.1 he
       cases j with
       | zero =>
         show (A ++ l.drop a).drop p = l.drop p
         rw [List.drop_append, List.drop_eq_nil_of_le (by omega), List.nil_append, List.drop_drop]
         congr 1
         omega
       | succ j =>
         have hj' : qs[j]? = some p := by simpa using hj
         obtain ⟨q, hd, hp⟩ := drop_opt ⟨hr.1, hr.2.1, hr.2.2.1⟩
         have hr1 := hr.2.1
         rw [hd, List.take_succ_cons, List.foldl_cons]
         generalize hk : at0 l a = k at hr1 hp hq ⊢
         generalize at0 l (a + 1) = n at hr1 hp hq hn ⊢
         rw [← hA, updP_is b v e k n A q _ hr1 hp]
         have tl := tp_len b v e k q (by rw [hp]; exact hr1)
         have := ih (A.length + n) (k :: met) qs (A ++ (k :: n :: tp b v e k q)) (by omega) (by rw [hA]; exact hq) (by simp [tl]; omega) j p hj'
         simpa using this
     · rw [plc_bad ha h0 h1 hr] at he; cases he
   · rw [plc_end ha] at he
     obtain rfl := Option.some.inj he
     simp at hj
def turnTo (b v e : Nat) (l ps : List Nat) (j : Nat) : List Nat := (ps.take j).foldl (updP b v e) l
theorem turnTo_succ (b v e : Nat) {l ps : List Nat} {j p : Nat} (h : ps[j]? = some p) : turnTo b v e l ps (j + 1) = updP b v e (turnTo b v e l ps j) p := by
 unfold turnTo
 rw [OptSame.take_snocG h, List.foldl_append]
 rfl
theorem turnTo_all (b v e : Nat) {l ps : List Nat} (h : plc l 0 [] = some ps) : turnTo b v e l ps ps.length = turnS b v e l := by
 unfold turnTo
 rw [List.take_of_length_le (Nat.le_refl _)]
 have := fold_turnS b v e l l.length 0 [] ps [] (by omega) h rfl
 rwa [List.nil_append, List.nil_append, List.drop_zero] at this
theorem turnTo_keep (b v e : Nat) {l ps : List Nat} (h : plc l 0 [] = some ps) {j p : Nat} (hj : ps[j]? = some p) : (turnTo b v e l ps j).drop p = l.drop p := by
 have := fold_keep b v e l l.length 0 [] ps [] (by omega) h rfl j p hj
 rwa [List.nil_append, List.drop_zero] at this
theorem at_drop {c l : List Nat} {p i : Nat} (h : c.drop p = l.drop p) (hi : p ≤ i) : at0 c i = at0 l i := by
 have e := congrArg (fun x => x[i - p]?) h
 simp only [List.getElem?_drop] at e
 unfold at0
 rw [show p + (i - p) = i by omega] at e
 rw [e]
end Go.Proofs.YtpmnmnflaijaaaaGreat.OptTurnM
namespace Go.Proofs.YtpmnmnflaijaaaaGreat.OptQ
open Go.RowKit TupMath SumMath IpMath IpRef OptMath OptRef OptTk OptTurnM
set_option linter.unusedVariables false
def there (o : Opn) (k : Nat) : Bool :=
 if k = 2 then decide (o.mss ≠ 0) else if k = 3 then decide (0 ≤ o.scale) else if k = 4 then o.sack else if k = 8 then o.time else if k = 5 then decide (0 < o.blocks.length) else false
def segO (o : Opn) (k : Nat) : List Nat :=
 if k = 2 then [2, 4] ++ w2 o.mss else if k = 3 then [1, 3, 3, o.scale.toNat] else if k = 4 then [1, 1, 4, 2] else if k = 8 then [1, 1, 8, 10] ++ (w4 o.val ++ w4 o.echo) else [1, 1, 5, 2 + 8 * o.blocks.length] ++ blkB o.blocks
def parts (o : Opn) (ks : List Nat) : List Nat := ks.flatMap fun k => if there o k = true then segO o k else []
theorem parts_all (o : Opn) : parts o [2, 3, 4, 8, 5] = rawO o := by
 have e2 : (if there o 2 = true then segO o 2 else []) = sMss o := by
   show (if decide (o.mss ≠ 0) = true then _ else _) = _
   unfold sMss
   simp only [decide_eq_true_eq]
   rfl
 have e3 : (if there o 3 = true then segO o 3 else []) = sScale o := by
   show (if decide (0 ≤ o.scale) = true then _ else _) = _
   unfold sScale
   simp only [decide_eq_true_eq]
   rfl
 have e4 : (if there o 4 = true then segO o 4 else []) = sSack o := rfl
 have e8 : (if there o 8 = true then segO o 8 else []) = sTime o := rfl
 have e5 : (if there o 5 = true then segO o 5 else []) = sBlocks o := by
   show (if decide (0 < o.blocks.length) = true then _ else _) = _
   unfold sBlocks
   simp only [decide_eq_true_eq]
   rfl
 unfold parts rawO
 simp only [List.flatMap_cons, List.flatMap_nil, List.append_nil]
 rw [e2, e3, e4, e8, e5]
theorem parts_snoc (o : Opn) (ks : List Nat) (k : Nat) : parts o (ks ++ [k]) = parts o ks ++ (if there o k = true then segO o k else []) := by
 unfold parts
 rw [List.flatMap_append]
 simp
theorem segO_len (o : Opn) (k : Nat) (hf : o.blocks.length ≤ 4) : (segO o k).length ≤ 36 := by
 unfold segO
 split
 · simp [w2]
 split
 · simp
 split
 · simp
 split
 · simp [w4]
 · rw [List.length_append, blkB_len]; show 4 + _ ≤ 36; omega
theorem parts_len (o : Opn) (hf : o.blocks.length ≤ 4) : ∀ ks : List Nat, (parts o ks).length ≤ 36 * ks.length
 | [] => by simp [parts]
 | k :: ks => by
   have ih := parts_len o hf ks
   have h1 := segO_len o k hf
   show ((if there o k = true then segO o k else []) ++ parts o ks).length ≤ _
   rw [List.length_append, List.length_cons]
   split
   · omega
   · simp only [List.length_nil]; omega
def lenAt (l : List Nat) (a : Nat) : Nat := min (max 2 (at0 l (a + 1))) (l.length - a)
theorem lenAt_pos {l : List Nat} {a : Nat} (h : a < l.length) : 0 < lenAt l a := by unfold lenAt; omega
theorem lenAt_le {l : List Nat} {a : Nat} (h : a < l.length) : a + lenAt l a ≤ l.length := by unfold lenAt; omega
def opts (l : List Nat) (a : Nat) : List Nat :=
 if h : a < l.length then
   if at0 l a = 0 then [] else if at0 l a = 1 then opts l (a + 1) else a :: opts l (a + lenAt l a)
 else []
termination_by l.length - a
decreasing_by
 · omega
 · have := lenAt_pos h; omega
theorem opts_end {l : List Nat} {a : Nat} (h : ¬ a < l.length) : opts l a = [] := by rw [opts.eq_def, dif_neg h]
theorem opts_zero {l : List Nat} {a : Nat} (h : a < l.length) (h0 : at0 l a = 0) : opts l a = [] := by rw [opts.eq_def, dif_pos h, if_pos h0]
theorem opts_one {l : List Nat} {a : Nat} (h : a < l.length) (h1 : at0 l a = 1) : opts l a = opts l (a + 1) := by rw [opts.eq_def, dif_pos h, if_neg (by omega), if_pos h1]
theorem opts_some {l : List Nat} {a : Nat} (h : a < l.length) (h0 : at0 l a ≠ 0) (h1 : at0 l a ≠ 1) : opts l a = a :: opts l (a + lenAt l a) := by rw [opts.eq_def, dif_pos h, if_neg h0, if_neg h1]
theorem opts_in (l : List Nat) : ∀ (m a : Nat), l.length - a ≤ m → ∀ p ∈ opts l a, a ≤ p ∧ p < l.length ∧ at0 l p ≠ 0 ∧ at0 l p ≠ 1 := by
 intro m
 induction m with
 | zero => intro a h p hp; rw [opts_end (by omega)] at hp; cases hp
 | succ m ih =>
   intro a h p hp
   by_cases ha : a < l.length
   · by_cases h0 : at0 l a = 0
     · rw [opts_zero ha h0] at hp; cases hp
     by_cases h1 : at0 l a = 1
     · rw [opts_one ha h1] at hp
       obtain ⟨q1, q2⟩ := ih (a + 1) (by omega) p hp
       exact ⟨by omega, q2⟩
     · have hl := lenAt_pos ha
       rw [opts_some ha h0 h1] at hp
       rcases List.mem_cons.1 hp with rfl | hp
       · exact ⟨Nat.le_refl _, ha, h0, h1⟩
       · obtain ⟨q1, q2⟩ := ih _ (by omega) p hp
         exact ⟨by omega, q2⟩
   · rw [opts_end ha] at hp; cases hp
theorem opts_few (l : List Nat) : ∀ (m a : Nat), l.length - a ≤ m → (opts l a).length ≤ m := by
 intro m
 induction m with
 | zero => intro a h; rw [opts_end (by omega)]; exact Nat.le_refl _
 | succ m ih =>
   intro a h
   by_cases ha : a < l.length
   · by_cases h0 : at0 l a = 0
     · rw [opts_zero ha h0]; exact Nat.zero_le _
     by_cases h1 : at0 l a = 1
     · rw [opts_one ha h1]
       exact Nat.le_succ_of_le (ih (a + 1) (by omega))
     · have hl := lenAt_pos ha
       rw [opts_some ha h0 h1, List.length_cons]
       have := ih (a + lenAt l a) (by omega)
       omega
   · rw [opts_end ha]; exact Nat.zero_le _
theorem opts_plc (l : List Nat) : ∀ (m a : Nat) (met ps : List Nat), l.length - a ≤ m → plc l a met = some ps → opts l a = ps := by
 intro m
 induction m with
 | zero =>
   intro a met ps h he
   rw [plc_end (by omega)] at he
   obtain rfl := Option.some.inj he
   exact opts_end (by omega)
 | succ m ih =>
   intro a met ps h he
   by_cases ha : a < l.length
   · by_cases h0 : at0 l a = 0
     · rw [plc_zero ha h0] at he
       obtain rfl := Option.some.inj he
       exact opts_zero ha h0
     by_cases h1 : at0 l a = 1
     · rw [plc_one ha h1] at he
       rw [opts_one ha h1]
       exact ih (a + 1) met ps (by omega) he
     by_cases hr : a + 1 < l.length ∧ right (at0 l a) (at0 l (a + 1)) = true ∧ a + at0 l (a + 1) ≤ l.length ∧ ¬ (at0 l a ∈ met ∧ known (at0 l a) = true)
     · have hn := right_ge hr.2.1
       rw [plc_ok ha h0 h1 hr] at he
       obtain ⟨qs, hq, rfl⟩ := Option.map_eq_some_iff.1 he
       have e : lenAt l a = at0 l (a + 1) := by unfold lenAt; omega
       rw [opts_some ha h0 h1, e, ih _ _ qs (by omega) hq]
     · rw [plc_bad ha h0 h1 hr] at he; cases he
   · rw [plc_end ha] at he
     obtain rfl := Option.some.inj he
     exact opts_end ha
def rightX (q : List Nat) : Bool := decide (q.length = at0 q 1) && right (at0 q 0) q.length && tkB (at0 q 0) (q.drop 2)
def cutX (l : List Nat) (a : Nat) : List Nat := (l.drop a).take (lenAt l a)
theorem cut_len {l : List Nat} {a : Nat} (h : a < l.length) : (cutX l a).length = lenAt l a := by unfold cutX; rw [List.length_take, List.length_drop]; have := lenAt_le h; omega
theorem cut_0 {l : List Nat} {a : Nat} (h : a < l.length) : at0 (cutX l a) 0 = at0 l a := by
 unfold cutX
 rw [at_take (lenAt_pos h)]
 unfold at0
 rw [List.getElem?_drop, Nat.add_zero]
theorem cut_1 {l : List Nat} {a : Nat} (h : a < l.length) : at0 (cutX l a) 1 = at0 l (a + 1) := by
 unfold cutX
 by_cases h2 : a + 1 < l.length
 · rw [at_take (show 1 < lenAt l a by unfold lenAt; omega)]
   unfold at0
   rw [List.getElem?_drop]
 · unfold at0
   rw [List.getElem?_eq_none (by rw [List.length_take, List.length_drop]; omega), List.getElem?_eq_none (by omega)]
def stp (l : List Nat) (o : Opn) (a : Nat) : Option Opn := if rightX (cutX l a) = true ∧ there o (at0 l a) = false then some (tkO o (at0 l a) ((cutX l a).drop 2)) else none
def Met (o : Opn) (met : List Nat) : Prop := ∀ k, known k = true → (k ∈ met ↔ there o k = true)
theorem met_none : Met none0 [] := by
 intro k hk
 unfold known at hk
 have : k = 2 ∨ k = 3 ∨ k = 4 ∨ k = 5 ∨ k = 8 := by simp at hk; omega
 rcases this with rfl | rfl | rfl | rfl | rfl <;> simp [there, none0]
theorem there_unknown {o : Opn} {k : Nat} (h : known k = false) : there o k = false := by
 unfold known at h
 simp at h
 unfold there
 rw [if_neg (by omega), if_neg (by omega), if_neg (by omega), if_neg (by omega), if_neg (by omega)]
theorem prs_pos {p : List Nat} (h : 8 ≤ p.length) : 0 < (prs p).length := by
 match p, h with
 | a :: b :: c :: d :: e :: f :: g :: x :: r, h => show 0 < (prs r).length + 1; omega
theorem there_tk {o : Opn} {k : Nat} {p : List Nat} (hr : right k (p.length + 2) = true) (ht : tkB k p = true) (hf : there o k = false) (j : Nat) (hj : known j = true) : there (tkO o k p) j = true ↔ j = k ∨ there o j = true := by
 have hj2 : j = 2 ∨ j = 3 ∨ j = 4 ∨ j = 5 ∨ j = 8 := by unfold known at hj; simp at hj; omega
 by_cases c2 : k = 2
 · subst c2
   have hv : v256 p ≠ 0 := by unfold tkB at ht; simpa using ht
   have e : tkO o 2 p = { o with mss := v256 p } := rfl
   rw [e]
   rcases hj2 with rfl | rfl | rfl | rfl | rfl <;> simp [there, hv]
 by_cases c3 : k = 3
 · subst c3
   have e : tkO o 3 p = { o with scale := min (at0 p 0 : Int) 14 } := rfl
   have hs : (0 : Int) ≤ min (at0 p 0 : Int) 14 := by omega
   rw [e]
   rcases hj2 with rfl | rfl | rfl | rfl | rfl <;> simp [there] <;> omega
 by_cases c4 : k = 4
 · subst c4
   have e : tkO o 4 p = { o with sack := true } := rfl
   rw [e]
   rcases hj2 with rfl | rfl | rfl | rfl | rfl <;> simp [there]
 by_cases c5 : k = 5
 · subst c5
   have e : tkO o 5 p = { o with blocks := o.blocks ++ prs p } := rfl
   have h8 : 8 ≤ p.length := by simp [right] at hr; omega
   have hp := prs_pos h8
   rw [e]
   rcases hj2 with rfl | rfl | rfl | rfl | rfl <;> simp [there] <;> omega
 by_cases c8 : k = 8
 · subst c8
   have e : tkO o 8 p = { o with time := true, val := v256 (p.take 4), echo := v256 (p.drop 4) } := rfl
   rw [e]
   rcases hj2 with rfl | rfl | rfl | rfl | rfl <;> simp [there]
 · have e : tkO o k p = o := by unfold tkO; rw [if_neg c2, if_neg c3, if_neg c4, if_neg c5, if_neg c8]
   rw [e]
   exact ⟨.inr, fun h => h.resolve_left (by omega)⟩
theorem met_tk {o : Opn} {met : List Nat} {k : Nat} {p : List Nat} (m : Met o met) (hr : right k (p.length + 2) = true) (ht : tkB k p = true) (hf : there o k = false) : Met (tkO o k p) (k :: met) := by
 intro j hj
 rw [there_tk hr ht hf j hj, List.mem_cons, m j hj]
theorem cut_ok {l : List Nat} {a : Nat} (ha : a < l.length) (hb : a + 1 < l.length) (hr : right (at0 l a) (at0 l (a + 1)) = true) (hn : a + at0 l (a + 1) ≤ l.length) : lenAt l a = at0 l (a + 1) ∧ (cutX l a).drop 2 = (l.drop (a + 2)).take (at0 l (a + 1) - 2) := by
 have h2 := right_ge hr
 have e : lenAt l a = at0 l (a + 1) := by unfold lenAt; omega
 refine ⟨e, ?_⟩
 unfold cutX
 rw [e, List.drop_take, List.drop_drop]
theorem dec_stp (l : List Nat) : ∀ (m a : Nat) (o : Opn) (met : List Nat), l.length - a ≤ m → Met o met → (opts l a).foldlM (stp l) o = (plc l a met).bind fun ps => (ps.map (itm l)).foldlM tk o := by
 intro m
 induction m with
 | zero =>
   intro a o met h hm
   rw [opts_end (by omega), plc_end (by omega)]
   rfl
 | succ m ih =>
   intro a o met h hm
   by_cases ha : a < l.length
   · by_cases h0 : at0 l a = 0
     · rw [opts_zero ha h0, plc_zero ha h0]; rfl
     by_cases h1 : at0 l a = 1
     · rw [opts_one ha h1, plc_one ha h1]
       exact ih (a + 1) o met (by omega) hm
     rw [opts_some ha h0 h1, List.foldlM_cons]
     by_cases hr : a + 1 < l.length ∧ right (at0 l a) (at0 l (a + 1)) = true ∧ a + at0 l (a + 1) ≤ l.length ∧ ¬ (at0 l a ∈ met ∧ known (at0 l a) = true)
     · have hn := right_ge hr.2.1
       obtain ⟨e1, e2⟩ := cut_ok ha hr.1 hr.2.1 hr.2.2.1
       have hl : ((l.drop (a + 2)).take (at0 l (a + 1) - 2)).length + 2 = at0 l (a + 1) := by rw [List.length_take, List.length_drop]; omega
       have hth : there o (at0 l a) = false := by
         cases hk : known (at0 l a)
         · exact there_unknown hk
         · cases ht : there o (at0 l a)
           · rfl
           · exact absurd ⟨(hm _ hk).2 ht, hk⟩ hr.2.2.2
       rw [plc_ok ha h0 h1 hr, e1]
       have hx : rightX (cutX l a) = tkB (at0 l a) ((l.drop (a + 2)).take (at0 l (a + 1) - 2)) := by
         unfold rightX
         rw [cut_len ha, cut_0 ha, cut_1 ha, e1, e2, hr.2.1]
         simp
       have hs : stp l o a = tk o (itm l a) := by
         unfold stp itm
         rw [hx, tk_is, e2]
         by_cases hb : tkB (at0 l a) ((l.drop (a + 2)).take (at0 l (a + 1) - 2)) = true
         · rw [if_pos ⟨hb, hth⟩, if_pos hb]
         · rw [if_neg (fun h => hb h.1), if_neg hb]
       rw [hs]
       have hit : itm l a = (at0 l a, (l.drop (a + 2)).take (at0 l (a + 1) - 2)) := rfl
       by_cases hb : tkB (at0 l a) ((l.drop (a + 2)).take (at0 l (a + 1) - 2)) = true
       · have ht : tk o (itm l a) = some (tkO o (at0 l a) ((l.drop (a + 2)).take (at0 l (a + 1) - 2))) := by rw [hit, tk_is, if_pos hb]
         rw [ht]
         have := ih (a + at0 l (a + 1)) _ (at0 l a :: met) (by omega) (met_tk (p := (l.drop (a + 2)).take (at0 l (a + 1) - 2)) hm (by rw [hl]; exact hr.2.1) hb hth)
         show List.foldlM (stp l) _ _ = _
         rw [this]
         cases hq : plc l (a + at0 l (a + 1)) (at0 l a :: met) with
         | none => rfl
         | some qs =>
           show _ = List.foldlM tk o (itm l a :: qs.map (itm l))
           rw [List.foldlM_cons, ht]
           rfl
       · have ht : tk o (itm l a) = none := by rw [hit, tk_is, if_neg hb]
         rw [ht]
         cases hq : plc l (a + at0 l (a + 1)) (at0 l a :: met) with
         | none => rfl
         | some qs =>
           show _ = List.foldlM tk o (itm l a :: qs.map (itm l))
           rw [List.foldlM_cons, ht]
           rfl
     · have hs : stp l o a = none := by
         unfold stp
         refine if_neg fun h => hr ?_
         obtain ⟨hx, hth⟩ := h
         unfold rightX at hx
         rw [cut_len ha, cut_0 ha, cut_1 ha] at hx
         simp only [Bool.and_eq_true, decide_eq_true_eq] at hx
         have hb : a + 1 < l.length := by
           rcases Nat.lt_or_ge (a + 1) l.length with hb | hb
           · exact hb
           · have h3 := hx.1.1
             have h4 : at0 l (a + 1) = 0 := by unfold at0; rw [List.getElem?_eq_none hb]; rfl
             have := lenAt_pos ha
             omega
         refine ⟨hb, by rw [← hx.1.1]; exact hx.1.2, by rw [← hx.1.1]; exact lenAt_le ha, fun hmm => ?_⟩
         have := (hm _ hmm.2).1 hmm.1
         rw [this] at hth
         cases hth
       rw [plc_bad ha h0 h1 hr, hs]
       rfl
   · rw [opts_end ha, plc_end ha]
     rfl
theorem dec_opts (l : List Nat) : (opts l 0).foldlM (stp l) none0 = decO l := by
 rw [dec_stp l l.length 0 none0 [] (by omega) met_none]
 cases hp : plc l 0 [] with
 | none => rw [dec_no hp]; rfl
 | some ps => rw [dec_of hp]; rfl
theorem stp_snoc {l : List Nat} {pre : List Nat} {o : Opn} (h : pre.foldlM (stp l) none0 = some o) (a : Nat) : (pre ++ [a]).foldlM (stp l) none0 = stp l o a := by
 rw [List.foldlM_append, h]
 show List.foldlM (stp l) o [a] = _
 rw [List.foldlM_cons]
 cases stp l o a <;> rfl
theorem stp_broken {l pre : List Nat} (h : pre.foldlM (stp l) none0 = none) (hp : pre <+: opts l 0) : decO l = none := by
 obtain ⟨r, hr⟩ := hp
 rw [← dec_opts, ← hr, List.foldlM_append, h]
 rfl
def putA (l c : List Nat) (a x : Nat) : List Nat := c.take a ++ (addw ((l.drop a).take 4) x ++ c.drop (a + 4))
theorem putA_len (l c : List Nat) (a x : Nat) (h : a + 4 ≤ c.length) : (putA l c a x).length = c.length := by
 unfold putA
 rw [List.length_append, List.length_append, addw_len, List.length_take, List.length_drop]
 omega
theorem putA_le {l c : List Nat} (a x : Nat) (h : ∀ y ∈ c, y ≤ 255) : ∀ y ∈ putA l c a x, y ≤ 255 := by
 intro y hy
 unfold putA at hy
 rcases List.mem_append.1 hy with hy | hy
 · exact h y (List.mem_of_mem_take hy)
 rcases List.mem_append.1 hy with hy | hy
 · exact w4_le _ (by have := Nat.mod_lt (v256 ((l.drop a).take 4) + x) (show 0 < 4294967296 by decide); omega) y hy
 · exact h y (List.mem_of_mem_drop hy)
theorem putA_add {l c : List Nat} {a : Nat} (x : Nat) (h : c.drop a = l.drop a) : putA l c a x = addA c a x := by unfold putA addA; rw [h]
theorem putA_drop (l c : List Nat) (a x j : Nat) (h : a + 4 ≤ j) (hc : a + 4 ≤ c.length) : (putA l c a x).drop j = c.drop j := by
 unfold putA
 rw [List.drop_append, List.drop_append, addw_len, List.length_take]
 have e1 : (c.take a).drop j = [] := List.drop_eq_nil_of_le (by rw [List.length_take]; omega)
 have e2 : (addw ((l.drop a).take 4) x).drop (j - min a c.length) = [] := List.drop_eq_nil_of_le (by rw [addw_len]; omega)
 rw [e1, e2, List.nil_append, List.nil_append, List.drop_drop]
 congr 1
 omega
def putN (l : List Nat) (b : Nat) (c : List Nat) (k : Nat) : Nat → List Nat
 | 0 => c
 | t + 1 => putA l (putN l b c k t) (k + 4 * t) b
theorem putN_len (l : List Nat) (b : Nat) (c : List Nat) (k : Nat) : ∀ t, k + 4 * t ≤ c.length → (putN l b c k t).length = c.length
 | 0, _ => rfl
 | t + 1, h => by
   have ih := putN_len l b c k t (by omega)
   show (putA l (putN l b c k t) (k + 4 * t) b).length = _
   rw [putA_len _ _ _ _ (by omega), ih]
theorem putN_drop (l : List Nat) (b : Nat) (c : List Nat) (k : Nat) : ∀ t j, k + 4 * t ≤ j → k + 4 * t ≤ c.length → (putN l b c k t).drop j = c.drop j
 | 0, _, _, _ => rfl
 | t + 1, j, h, hc => by
   show (putA l (putN l b c k t) (k + 4 * t) b).drop j = _
   rw [putA_drop _ _ _ _ _ (by omega) (by rw [putN_len l b c k t (by omega)]; omega), putN_drop l b c k t j (by omega) (by omega)]
theorem putN_add {l c : List Nat} (b k : Nat) (h : c.drop k = l.drop k) : ∀ t, k + 4 * t ≤ c.length → putN l b c k t = addN b c k t
 | 0, _ => rfl
 | t + 1, hc => by
   have ih := putN_add b k h t (by omega)
   show putA l (putN l b c k t) (k + 4 * t) b = addA (addN b c k t) (k + 4 * t) b
   have hd : (putN l b c k t).drop (k + 4 * t) = l.drop (k + 4 * t) := by
     rw [putN_drop l b c k t _ (Nat.le_refl _) (by omega)]
     have e1 : c.drop (k + 4 * t) = (c.drop k).drop (4 * t) := by rw [List.drop_drop]
     have e2 : l.drop (k + 4 * t) = (l.drop k).drop (4 * t) := by rw [List.drop_drop]
     rw [e1, e2, h]
   rw [putA_add b hd, ih]
def putP (b v e : Nat) (l c : List Nat) (p : Nat) : List Nat :=
 if at0 l p = 8 then putA l (putA l c (p + 2) v) (p + 6) e else if at0 l p = 5 then putN l b c (p + 2) ((at0 l (p + 1) - 2) / 4) else c
theorem putP_upd {b v e : Nat} {l c : List Nat} {p : Nat} (h : c.drop p = l.drop p) (hl : c.length = l.length) (hr : right (at0 l p) (at0 l (p + 1)) = true) (hn : p + at0 l (p + 1) ≤ l.length) : putP b v e l c p = updP b v e c p := by
 have h2 := right_ge hr
 have dr : ∀ k, c.drop (p + k) = l.drop (p + k) := fun k => by
   have e1 : c.drop (p + k) = (c.drop p).drop k := by rw [List.drop_drop]
   have e2 : l.drop (p + k) = (l.drop p).drop k := by rw [List.drop_drop]
   rw [e1, e2, h]
 unfold putP updP
 rw [at_drop h (Nat.le_refl p), at_drop h (show p ≤ p + 1 by omega)]
 by_cases c8 : at0 l p = 8
 · have h10 : at0 l (p + 1) = 10 := by rw [c8] at hr; simpa [right] using hr
   rw [if_pos c8, if_pos c8, putA_add v (dr 2)]
   refine putA_add e ?_
   have : (putA l c (p + 2) v).drop (p + 6) = c.drop (p + 6) := putA_drop _ _ _ _ _ (by omega) (by omega)
   rw [← putA_add v (dr 2), this, dr 6]
 · rw [if_neg c8, if_neg c8]
   by_cases c5 : at0 l p = 5
   · rw [if_pos c5, if_pos c5]
     exact putN_add b (p + 2) (dr 2) _ (by omega)
   · rw [if_neg c5, if_neg c5]
theorem updP_len {b v e : Nat} {c : List Nat} {p : Nat} (hr : right (at0 c p) (at0 c (p + 1)) = true) (hn : p + at0 c (p + 1) ≤ c.length) : (updP b v e c p).length = c.length := by
 have h2 := right_ge hr
 unfold updP
 by_cases c8 : at0 c p = 8
 · have h10 : at0 c (p + 1) = 10 := by rw [c8] at hr; simpa [right] using hr
   rw [if_pos c8, addA_len _ _ _ (by rw [addA_len _ _ _ (by omega)]; omega), addA_len _ _ _ (by omega)]
 · rw [if_neg c8]
   split
   · exact addN_len b c (p + 2) _ (by omega)
   · rfl
theorem put_turnTo (b v e : Nat) {l ps : List Nat} (h : plc l 0 [] = some ps) : ∀ j, j ≤ ps.length → (ps.take j).foldl (putP b v e l) l = turnTo b v e l ps j ∧ (turnTo b v e l ps j).length = l.length
 | 0, _ => ⟨rfl, rfl⟩
 | j + 1, hj => by
   obtain ⟨e1, e2⟩ := put_turnTo b v e h j (by omega)
   obtain ⟨p, hp⟩ : ∃ p, ps[j]? = some p := ⟨_, List.getElem?_eq_getElem (by omega)⟩
   have hin := plc_in l l.length 0 [] ps (by omega) h p (List.mem_of_getElem? hp)
   have hk := turnTo_keep b v e h hp
   have hu := putP_upd (b := b) (v := v) (e := e) hk e2 hin.2.2.2.1 hin.2.2.1
   refine ⟨?_, ?_⟩
   · rw [OptSame.take_snocG hp, List.foldl_append, e1, turnTo_succ b v e hp]
     exact hu
   · rw [turnTo_succ b v e hp]
     have a1 := at_drop hk (Nat.le_refl p)
     have a2 := at_drop hk (show p ≤ p + 1 by omega)
     rw [updP_len (by rw [a1, a2]; exact hin.2.2.2.1) (by rw [a2, e2]; exact hin.2.2.1), e2]
theorem put_all (b v e : Nat) {l ps : List Nat} (h : plc l 0 [] = some ps) : (opts l 0).foldl (putP b v e l) l = turnS b v e l := by
 rw [opts_plc l l.length 0 [] ps (by omega) h]
 have := (put_turnTo b v e h ps.length (Nat.le_refl _)).1
 rw [List.take_of_length_le (Nat.le_refl _), turnTo_all b v e h] at this
 exact this
end Go.Proofs.YtpmnmnflaijaaaaGreat.OptQ
namespace Go.Proofs.YtpmnmnflaijaaaaGreat.OptFew
open Go.RowKit TupMath SumMath IpMath OptMath OptTk
set_option linter.unusedVariables false
theorem prs_le : ∀ l : List Nat, (prs l).length ≤ l.length
 | a :: b :: c :: d :: e :: f :: g :: h :: r => by
   have := prs_le r
   show (prs r).length + 1 ≤ _
   simp only [List.length_cons]
   omega
 | [] => Nat.zero_le _
 | [_] => Nat.zero_le _
 | [_, _] => Nat.zero_le _
 | [_, _, _] => Nat.zero_le _
 | [_, _, _, _] => Nat.zero_le _
 | [_, _, _, _, _] => Nat.zero_le _
 | [_, _, _, _, _, _] => Nat.zero_le _
 | [_, _, _, _, _, _, _] => Nat.zero_le _
theorem tk_few {o p : Opn} {x : Nat × List Nat} (h : tk o x = some p) : p.blocks.length ≤ o.blocks.length + x.2.length := by
 obtain ⟨k, q⟩ := x
 rw [tk_is] at h
 split at h
 · obtain rfl := Option.some.inj h
   have := prs_le q
   unfold tkO
   repeat' split
   all_goals simp only [List.length_append]
   all_goals omega
 · cases h
theorem fold_few : ∀ (L : List (Nat × List Nat)) (o p : Opn), L.foldlM tk o = some p → p.blocks.length ≤ o.blocks.length + (L.map fun x => x.2.length).sum
 | [], o, p, h => by
   obtain rfl : o = p := Option.some.inj h
   simp
 | x :: L, o, p, h => by
   rw [List.foldlM_cons] at h
   obtain ⟨o1, h1, h2⟩ := Option.bind_eq_some_iff.1 h
   have a1 := tk_few h1
   have a2 := fold_few L o1 p h2
   simp only [List.map_cons, List.sum_cons]
   omega
theorem its_sum : ∀ (m : Nat) (l met : List Nat) (L : List (Nat × List Nat)), l.length ≤ m → its l met = some L → (L.map fun x => x.2.length).sum ≤ l.length
 | m, l, met, L, hm, h => by
   rcases its_cases h with ⟨rfl, rfl⟩ | ⟨r, rfl, rfl⟩ | ⟨r, rfl, h2⟩ | ⟨k, p, r, L2, rfl, _, _, _, _, h2, rfl⟩
   · simp
   · simp
   · match m, hm with
     | 0, hm => simp at hm
     | m + 1, hm =>
       have := its_sum m r met L (by simp at hm; omega) h2
       simp only [List.length_cons]
       omega
   · match m, hm with
     | 0, hm => simp at hm
     | m + 1, hm =>
       have := its_sum m r (k :: met) L2 (by simp at hm; omega) h2
       simp only [List.map_cons, List.sum_cons, List.length_cons, List.length_append]
       omega
theorem dec_few {l : List Nat} {p : Opn} (h : decO l = some p) : p.blocks.length ≤ l.length := by
 unfold decO at h
 obtain ⟨L, hL, hf⟩ := Option.bind_eq_some_iff.1 h
 have a1 := fold_few L none0 p hf
 have a2 := its_sum l.length l [] L (Nat.le_refl _) hL
 have : none0.blocks.length = 0 := rfl
 omega
theorem dec7_few (l : List Nat) : (dec7 l).2.blocks.length ≤ 40 := by
 by_cases h : 40 < l.length
 · rw [dec7_long h]; exact Nat.zero_le _
 · cases hd : decO l with
   | none => rw [dec7_none h hd]; exact Nat.zero_le _
   | some p =>
     rw [dec7_some h hd]
     have := dec_few hd
     show p.blocks.length ≤ 40
     omega
end Go.Proofs.YtpmnmnflaijaaaaGreat.OptFew
