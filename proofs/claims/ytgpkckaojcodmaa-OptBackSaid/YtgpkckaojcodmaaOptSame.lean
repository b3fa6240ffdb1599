/-
  The document's own answers of layer 7: None, Same; how options lie in memory.
-/
import Derived.Test.YtgpkckaojcodmaaOptPlc
import Derived.Test.YtgpkckaojcodmaaBoxes
import Derived.BigGuardPart
namespace Go.Proofs.Ytgpkckaojcodmaa.OptSame
open Go.RowKit Own TupMath SumMath Litb Calm Rel IpMath IpRef OptMath OptRef OptPlc Boxes
set_option linter.unusedVariables false
set_option maxRecDepth 100000

/-- a slice of blocks that reads as a list -/
def BlkR (w : World) (A : Option Addr) (L : List (Nat × Nat)) : Prop := 0 < L.length → ∃ b off, A = some ⟨b, off, none⟩ ∧ b < w.heap.size ∧ ∀ (j : Nat) (p : Nat × Nat), L[j]? = some p → w.cell? ⟨b, off + j * 2, none⟩ = some (.int .u32 (p.1 : Int)) ∧ w.cell? ⟨b, off + j * 2 + 1, none⟩ = some (.int .u32 (p.2 : Int))
theorem BlkR.nil (w : World) (A : Option Addr) : BlkR w A [] := fun h => absurd h (by simp)
theorem BlkR.more {w w' : World} {A : Option Addr} {L : List (Nat × Nat)} (h : BlkR w A L) (hb : Below w.heap.size w w') : BlkR w' A L := fun hn => by
  obtain ⟨b, off, e, hlt, hc⟩ := h hn
  exact ⟨b, off, e, Nat.lt_of_lt_of_le hlt hb.size, fun j p hp => ⟨(hb.cell (p := ⟨b, off + j * 2, none⟩) hlt).trans (hc j p hp).1, (hb.cell (p := ⟨b, off + j * 2 + 1, none⟩) hlt).trans (hc j p hp).2⟩⟩
theorem take_snocG {α : Type} {l : List α} {k : Nat} {x : α} (h : l[k]? = some x) : l.take (k + 1) = l.take k ++ [x] := by
  obtain ⟨hk, hx⟩ := List.getElem?_eq_some_iff.1 h
  rw [List.take_succ_eq_append_getElem hk, hx]
theorem below_q (n : Nat) (w : World) (q : Nat) : Below n w (w.drewN q) := ⟨rfl, rfl, rfl, Nat.le_refl _, fun _ _ => rfl⟩
/-- options, as cells and as a value -/
abbrev oc (o : Opn) (A : Option Addr) (c : Nat) : Array Value := #[.int .u16 (o.mss : Int), .int .i64 o.scale, .bool o.sack, .slice A o.blocks.length c, .bool o.time, .int .u32 (o.val : Int), .int .u32 (o.echo : Int)]
abbrev ov (o : Opn) (A : Option Addr) (c : Nat) : Value := .agg #[.int .u16 (o.mss : Int), .int .i64 o.scale, .bool o.sack, .slice A o.blocks.length c, .bool o.time, .int .u32 (o.val : Int), .int .u32 (o.echo : Int)]

set_option maxHeartbeats 4000000 in
theorem noneR (w : World) : Calls Try.prog 18 #[] w fun e w' => e = .returned (ov none0 none 0) ∧ Below w.heap.size w w' := by
  go_enter Try.func18, Try.ntmps18
  go_wp2_with fail
  refine bodyPost_ret (v := ov none0 none 0) ?_ rfl ⟨rfl, st_alloc (Below.refl _ _) _⟩
  simp [results, Try.f18, go_sem, none0]

set_option maxHeartbeats 16000000 in
theorem sameR (o p : Opn) (Ao : Option Addr) (co : Nat) (Ap : Option Addr) (cp : Nat) (w : World) (ho : BlkR w Ao o.blocks) (hp : BlkR w Ap p.blocks) (lo : o.blocks.length ≤ 1000000) (lp : p.blocks.length ≤ 1000000) :
    Calls Try.prog 16 #[ov o Ao co, ov p Ap cp] w fun e w' => e = .returned (.bool (decide (o = p))) ∧ Below w.heap.size w w' := by
  have HO := Lib.hid ho
  have HP := Lib.hid hp
  clear ho hp
  by_cases c0 : o.mss = p.mss
  rotate_left
  · rw [decide_eq_false (fun e => c0 (by rw [e]))]
    have q0 : ((o.mss : Int) == (p.mss : Int)) = false := beq_eq_false_iff_ne.2 (by omega)
    have r0 : ((o.mss : Int) != (p.mss : Int)) = true := bne_iff_ne.2 (by omega)
    clear c0
    go_enter Try.func16, Try.ntmps16
    go_wp2_with fail
    go_ret
    exact ⟨rfl, st_alloc (st_alloc (Below.refl _ _) _) _⟩
  have q0 : ((o.mss : Int) == (p.mss : Int)) = true := beq_iff_eq.2 (by omega)
  have r0 : ((o.mss : Int) != (p.mss : Int)) = false := by rw [bne, q0]; rfl
  by_cases c1 : o.scale = p.scale
  rotate_left
  · rw [decide_eq_false (fun e => c1 (by rw [e]))]
    have q1 : (o.scale == p.scale) = false := beq_eq_false_iff_ne.2 c1
    have r1 : (o.scale != p.scale) = true := bne_iff_ne.2 c1
    clear c1
    go_enter Try.func16, Try.ntmps16
    go_wp2_with fail
    go_ret
    exact ⟨rfl, st_alloc (st_alloc (Below.refl _ _) _) _⟩
  have q1 : (o.scale == p.scale) = true := beq_iff_eq.2 c1
  have r1 : (o.scale != p.scale) = false := by rw [bne, q1]; rfl
  by_cases c2 : o.sack = p.sack
  rotate_left
  · rw [decide_eq_false (fun e => c2 (by rw [e]))]
    have q2 : (o.sack == p.sack) = false := beq_eq_false_iff_ne.2 c2
    have r2 : (o.sack != p.sack) = true := bne_iff_ne.2 c2
    clear c2
    go_enter Try.func16, Try.ntmps16
    go_wp2_with fail
    go_ret
    exact ⟨rfl, st_alloc (st_alloc (Below.refl _ _) _) _⟩
  have q2 : (o.sack == p.sack) = true := beq_iff_eq.2 c2
  have r2 : (o.sack != p.sack) = false := by rw [bne, q2]; rfl
  by_cases c3 : o.time = p.time
  rotate_left
  · rw [decide_eq_false (fun e => c3 (by rw [e]))]
    have q3 : (o.time == p.time) = false := beq_eq_false_iff_ne.2 c3
    have r3 : (o.time != p.time) = true := bne_iff_ne.2 c3
    clear c3
    go_enter Try.func16, Try.ntmps16
    go_wp2_with fail
    go_ret
    exact ⟨rfl, st_alloc (st_alloc (Below.refl _ _) _) _⟩
  have q3 : (o.time == p.time) = true := beq_iff_eq.2 c3
  have r3 : (o.time != p.time) = false := by rw [bne, q3]; rfl
  by_cases c4 : o.val = p.val
  rotate_left
  · rw [decide_eq_false (fun e => c4 (by rw [e]))]
    have q4 : ((o.val : Int) == (p.val : Int)) = false := beq_eq_false_iff_ne.2 (by omega)
    have r4 : ((o.val : Int) != (p.val : Int)) = true := bne_iff_ne.2 (by omega)
    clear c4
    go_enter Try.func16, Try.ntmps16
    go_wp2_with fail
    go_ret
    exact ⟨rfl, st_alloc (st_alloc (Below.refl _ _) _) _⟩
  have q4 : ((o.val : Int) == (p.val : Int)) = true := beq_iff_eq.2 (by omega)
  have r4 : ((o.val : Int) != (p.val : Int)) = false := by rw [bne, q4]; rfl
  by_cases c5 : o.echo = p.echo
  rotate_left
  · rw [decide_eq_false (fun e => c5 (by rw [e]))]
    have q5 : ((o.echo : Int) == (p.echo : Int)) = false := beq_eq_false_iff_ne.2 (by omega)
    have r5 : ((o.echo : Int) != (p.echo : Int)) = true := bne_iff_ne.2 (by omega)
    clear c5
    go_enter Try.func16, Try.ntmps16
    go_wp2_with fail
    go_ret
    exact ⟨rfl, st_alloc (st_alloc (Below.refl _ _) _) _⟩
  have q5 : ((o.echo : Int) == (p.echo : Int)) = true := beq_iff_eq.2 (by omega)
  have r5 : ((o.echo : Int) != (p.echo : Int)) = false := by rw [bne, q5]; rfl
  by_cases cl : o.blocks.length = p.blocks.length
  rotate_left
  · rw [decide_eq_false (fun e => cl (by rw [e]))]
    have q7 : ((o.blocks.length : Int) == (p.blocks.length : Int)) = false := beq_eq_false_iff_ne.2 (by omega)
    have r7 : ((o.blocks.length : Int) != (p.blocks.length : Int)) = true := bne_iff_ne.2 (by omega)
    clear c0 c1 c2 c3 c4 c5 cl
    go_enter Try.func16, Try.ntmps16
    go_wp2_with fail
    go_ret
    exact ⟨rfl, st_alloc (st_alloc (Below.refl _ _) _) _⟩
  have hm : ∀ (bo : o.blocks = p.blocks), o = p := by
    obtain ⟨a1, a2, a3, a4, a5, a6, a7⟩ := o
    obtain ⟨b1, b2, b3, b4, b5, b6, b7⟩ := p
    simp only at c0 c1 c2 c3 c4 c5 ⊢
    intro bo
    rw [c0, c1, c2, c3, c4, c5, bo]
  have HM := Lib.hid hm
  clear hm
  have x3 := World.cell?_alloc_mark w (oc o Ao co) 26 (0, 0) 3
  have y3 := World.cell?_alloc_mark (w.alloc (.cells (oc o Ao co) 26)) (oc p Ap cp) 26 (0, 0) 3
  have hx : ((w.alloc (.cells (oc o Ao co) 26)).alloc (.cells (oc p Ap cp) 26)).cell? ⟨w.heap.size, 3, none⟩ = some (.slice Ao o.blocks.length co) := (((Below.refl _ _).alloc (Nat.le_refl _) _).cell (p := ⟨w.heap.size, 3, none⟩) (by simp)).trans x3
  have hy : ((w.alloc (.cells (oc o Ao co) 26)).alloc (.cells (oc p Ap cp) 26)).cell? ⟨w.heap.size + 1, 3, none⟩ = some (.slice Ap p.blocks.length cp) := by rw [World.size_alloc] at y3; exact y3
  have hbel := st_alloc (st_alloc (Below.refl _ w) (.cells (oc o Ao co) 26)) (.cells (oc p Ap cp) 26)
  have hsz : ((w.alloc (.cells (oc o Ao co) 26)).alloc (.cells (oc p Ap cp) 26)).heap.size = w.heap.size + 2 := by simp
  have HX := Lib.hid hx
  have HY := Lib.hid hy
  have HSZ := Lib.hid hsz
  have HBL := Lib.hid hbel
  have HO2 := Lib.hid (HO.out.more hbel)
  have HP2 := Lib.hid (HP.out.more hbel)
  clear x3 y3 hx hy hbel hsz c0 c1 c2 c3 c4 c5
  have q7 : ((o.blocks.length : Int) == (p.blocks.length : Int)) = true := beq_iff_eq.2 (by omega)
  have r7 : ((o.blocks.length : Int) != (p.blocks.length : Int)) = false := by rw [bne, q7]; rfl
  have HCL := Lib.hid cl
  clear cl
  go_enter Try.func16, Try.ntmps16
  go_wp2_with fail
  generalize (w.alloc (.cells (oc o Ao co) 26)).alloc (.cells (oc p Ap cp) 26) = w1 at HX HY HSZ HBL HO2 HP2 ⊢
  clear q0 q1 q2 q3 q4 q5 r0 r1 r2 r3 r4 r5 q7 r7
  go_loopw [5] (fun i wr => ∃ k : Nat, i = .int .i64 (k : Int) ∧ k ≤ o.blocks.length ∧ o.blocks.take k = p.blocks.take k ∧ Below w1.heap.size w1 wr) (fun i _ => o.blocks.length - (intOf i).toNat)
  case atStart => exact ⟨0, rfl, by omega, rfl, Below.refl _ _⟩
  case round =>
    obtain ⟨k, rfl, hk, htk, hB⟩ := hrel
    have HTK := Lib.hid htk
    have HB := Lib.hid hB
    have x3 := (hB.cell (p := ⟨w.heap.size, 3, none⟩) (by rw [HSZ.out]; show w.heap.size < _; omega)).trans HX.out
    have y3 := (hB.cell (p := ⟨w.heap.size + 1, 3, none⟩) (by rw [HSZ.out]; show w.heap.size + 1 < _; omega)).trans HY.out
    clear htk hB
    by_cases hlt : k < o.blocks.length
    · have hlti : (k : Int) < (o.blocks.length : Int) := by omega
      have hlt2 : k < p.blocks.length := by have := HCL.out; omega
      have hlti2 : (k : Int) < (p.blocks.length : Int) := by omega
      obtain ⟨b, off, e1, hb1, hc1⟩ := HO2.out (by omega)
      obtain ⟨b2, off2, e2, hb2, hc2⟩ := HP2.out (by omega)
      obtain ⟨u, hu⟩ : ∃ u, o.blocks[k]? = some u := ⟨_, List.getElem?_eq_getElem hlt⟩
      obtain ⟨v, hv⟩ : ∃ u, p.blocks[k]? = some u := ⟨_, List.getElem?_eq_getElem hlt2⟩
      have d0 := (HB.out.cell (p := ⟨b, off + k * 2, none⟩) hb1).trans (hc1 k u hu).1
      have d1 := (HB.out.cell (p := ⟨b, off + k * 2 + 1, none⟩) hb1).trans (hc1 k u hu).2
      have g0 := (HB.out.cell (p := ⟨b2, off2 + k * 2, none⟩) hb2).trans (hc2 k v hv).1
      have g1 := (HB.out.cell (p := ⟨b2, off2 + k * 2 + 1, none⟩) hb2).trans (hc2 k v hv).2
      have HTS : Hid (u = v → o.blocks.take (k + 1) = p.blocks.take (k + 1)) := Lib.hid fun e => by
        rw [take_snocG hu, take_snocG hv, HTK.out, e]
      have HNE : Hid (u ≠ v → o ≠ p) := Lib.hid fun e h => by
        rw [h, hv] at hu
        exact e (Option.some.inj hu).symm
      rw [e1] at x3
      rw [e2] at y3
      clear e1 e2 hc1 hc2 hu hv
      obtain ⟨u1, u2⟩ := u
      obtain ⟨v1, v2⟩ := v
      simp only at d0 d1 g0 g1
      by_cases h1 : u1 = v1
      · by_cases h2 : u2 = v2
        · subst h1 h2
          have hts := Lib.hid (HTS.out rfl)
          go_wp2_with fail
          go_quiet (fail)
          go_wp2
          go_roundw
          case rel => exact ⟨k + 1, by go_num, by omega, hts.out, HB.out.trans (below_q _ _ _)⟩
          case measure => simp only [intOf]; omega
        · have q8 : ((u2 : Int) == (v2 : Int)) = false := beq_eq_false_iff_ne.2 (by omega)
          subst h1
          have HF := Lib.hid (decide_eq_false (HNE.out (fun e => h2 (congrArg Prod.snd e))))
          clear h2
          go_wp2_with fail
          go_quiet (fail)
          go_wp2
          go_ret
          exact ⟨by rw [HF.out]; rfl, st_call HBL.out (HB.out.trans (below_q _ _ _))⟩
      · have q8 : ((u1 : Int) == (v1 : Int)) = false := beq_eq_false_iff_ne.2 (by omega)
        have HF := Lib.hid (decide_eq_false (HNE.out (fun e => h1 (congrArg Prod.fst e))))
        clear h1
        go_wp2_with fail
        go_quiet (fail)
        go_wp2
        go_ret
        exact ⟨by rw [HF.out]; rfl, st_call HBL.out (HB.out.trans (below_q _ _ _))⟩
    · have hlti : ¬ (k : Int) < (o.blocks.length : Int) := by omega
      have HT : Hid (decide (o = p) = true) := Lib.hid (decide_eq_true (HM.out (by
        have h := HTK.out
        rw [List.take_of_length_le (by omega), List.take_of_length_le (by have := HCL.out; omega)] at h
        exact h)))
      go_wp2_with fail
      go_ret
      exact ⟨by rw [HT.out]; rfl, st_call HBL.out HB.out⟩
end Go.Proofs.Ytgpkckaojcodmaa.OptSame
