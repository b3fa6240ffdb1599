/-
  The document's own answers of layer 7: May, Encode.
-/
import Derived.Test.YtgpkckaojcodmaaOptRaw
namespace Go.Proofs.Ytgpkckaojcodmaa.OptMay
open Go.RowKit Own TupMath SumMath Litb Calm Rel RelT RelK IpMath IpRef OptMath OptRef OptPlc OptSame Boxes OptRaw
set_option linter.unusedVariables false
set_option maxRecDepth 100000

theorem ov_time {o : Opn} {b : Bool} (h : o.time = b) (A : Option Addr) (c : Nat) : ov o A c = .agg #[.int .u16 (o.mss : Int), .int .i64 o.scale, .bool o.sack, .slice A o.blocks.length c, .bool b, .int .u32 (o.val : Int), .int .u32 (o.echo : Int)] := by unfold ov; rw [h]
theorem oc_time {o : Opn} {b : Bool} (h : o.time = b) (A : Option Addr) (c : Nat) : oc o A c = #[.int .u16 (o.mss : Int), .int .i64 o.scale, .bool o.sack, .slice A o.blocks.length c, .bool b, .int .u32 (o.val : Int), .int .u32 (o.echo : Int)] := by unfold oc; rw [h]
theorem may_not {o : Opn} (h : ¬ OptMath.May o) : mayO o = false := by
  cases e : mayO o
  · rfl
  · exact absurd (may_of e) h
theorem may_len {o : Opn} (h1 : -1 ≤ o.scale) (h2 : o.scale ≤ 14) (h3 : o.blocks.length ≤ 4) (h4 : o.time = false → o.val = 0 ∧ o.echo = 0) : mayO o = decide ((ofB (rawO o)).size ≤ 40) := by
  rw [ofB_size]
  by_cases h : (rawO o).length ≤ 40
  · rw [decide_eq_true h]; exact of_may ⟨h1, h2, h3, h4, h⟩
  · rw [decide_eq_false h]; exact may_not fun m => h m.most

set_option maxHeartbeats 16000000 in
theorem mayR (o : Opn) (A : Option Addr) (c : Nat) (w : World) (hbk : BlkR w A o.blocks) (k : o.ok) :
    Calls Try.prog 14 #[ov o A c] w fun e w' => e = .returned (.bool (mayO o)) ∧ Below w.heap.size w w' := by
  have HB0 := Lib.hid (st_alloc (Below.refl _ w) (.cells (oc o A c) 26))
  have HBK := Lib.hid (hbk.more (st_alloc (Below.refl _ w) (.cells (oc o A c) 26)))
  clear hbk
  by_cases c1 : o.scale < -1
  · have HX := Lib.hid c1
    have HV := Lib.hid (may_not (o := o) fun m => by have := m.lo; have := HX.out; omega)
    go_enter Try.func14, Try.ntmps14
    go_wp2_with fail
    go_ret
    exact ⟨by rw [HV.out]; rfl, st_alloc (Below.refl _ _) _⟩
  by_cases c2 : 14 < o.scale
  · have HX := Lib.hid c2
    have c1' : ¬ o.scale < -1 := c1
    have HV := Lib.hid (may_not (o := o) fun m => by have := m.hi; have := HX.out; omega)
    go_enter Try.func14, Try.ntmps14
    go_wp2_with fail
    go_ret
    exact ⟨by rw [HV.out]; rfl, st_alloc (Below.refl _ _) _⟩
  by_cases c3 : 4 < o.blocks.length
  · have HX := Lib.hid c3
    have i3 : (4 : Int) < (o.blocks.length : Int) := by omega
    have HV := Lib.hid (may_not (o := o) fun m => by have := m.few; have := HX.out; omega)
    go_enter Try.func14, Try.ntmps14
    go_wp2_with fail
    go_ret
    exact ⟨by rw [HV.out]; rfl, st_alloc (Below.refl _ _) _⟩
  have i3 : ¬ (4 : Int) < (o.blocks.length : Int) := by omega
  have H14 := Lib.hid (show o.scale ≤ 14 by omega)
  have H4 := Lib.hid (show o.blocks.length ≤ 4 by omega)
  have HZ := Lib.hid (show (ofB (rawO o)).size ≤ 1000 by
    rw [ofB_size]
    obtain ⟨L1, L2, L3, L4⟩ := seg_lens o H4.out
    unfold rawO
    have : (sBlocks o).length ≤ 40 := by
      have := H4.out
      unfold sBlocks
      split
      · simp only [List.length_append, List.length_cons, List.length_nil, blkB_len]; omega
      · simp
    simp only [List.length_append]
    omega)
  cases c4 : o.time
  · by_cases c5 : o.val = 0
    · by_cases c6 : o.echo = 0
      · have q5 : ((o.val : Int) != 0) = false := by rw [c5]; rfl
        have q6 : ((o.echo : Int) != 0) = false := by rw [c6]; rfl
        have HX := Lib.hid (And.intro c5 c6)
        have HT := Lib.hid c4
        clear c5 c6
        have HV := Lib.hid (may_len (o := o) (by omega) (by omega) (by omega) (fun _ => HX.out))
        go_enter Try.func14, Try.ntmps14
        go_wp2_with fail
        have hr := rawR7 o A c (w.alloc (.cells (oc o A c) 26)) HBK.out k H14.out H4.out
        rw [ov_time HT.out, oc_time HT.out] at hr
        have hb0 := HB0.out
        rw [oc_time HT.out] at hb0
        have HB1 := Lib.hid hb0
        clear hb0
        refine hr.mono ?_
        clear hr
        rintro e wA ⟨rfl, hb⟩
        have HB := Lib.hid hb
        clear hb
        have hz : (ofB (rawO o)).size ≤ 9223372036854775807 := Nat.le_trans HZ.out (by decide)
        obtain ⟨S, hS⟩ : ∃ S, ofB (rawO o) = S := ⟨_, rfl⟩
        rw [hS] at HV hz ⊢
        clear hS
        go_wp2_with fail
        go_ret
        exact ⟨by rw [HV.out]; exact congrArg (fun b => Ending.returned (.bool b)) (decide_eq_decide.2 (by omega)), HB1.out.trans (HB.out.mono HB1.out.size)⟩
      · have q5 : ((o.val : Int) != 0) = false := by rw [c5]; rfl
        have q6 : ((o.echo : Int) != 0) = true := bne_iff_ne.2 (by omega)
        have HX := Lib.hid (And.intro c4 c6)
        have HV := Lib.hid (may_not (o := o) fun m => HX.out.2 (m.time HX.out.1).2)
        go_enter Try.func14, Try.ntmps14
        go_wp2_with fail
        go_ret
        exact ⟨by rw [HV.out]; rfl, st_alloc (Below.refl _ _) _⟩
    · have q5 : ((o.val : Int) != 0) = true := bne_iff_ne.2 (by omega)
      have HX := Lib.hid (And.intro c4 c5)
      have HV := Lib.hid (may_not (o := o) fun m => HX.out.2 (m.time HX.out.1).1)
      go_enter Try.func14, Try.ntmps14
      go_wp2_with fail
      go_ret
      exact ⟨by rw [HV.out]; rfl, st_alloc (Below.refl _ _) _⟩
  · have HX := Lib.hid c4
    have HT := Lib.hid c4
    have HV := Lib.hid (may_len (o := o) (by omega) (by omega) (by omega) (fun h => absurd (h.symm.trans HX.out) (by decide)))
    go_enter Try.func14, Try.ntmps14
    go_wp2_with fail
    have hr := rawR7 o A c (w.alloc (.cells (oc o A c) 26)) HBK.out k H14.out H4.out
    rw [ov_time HT.out, oc_time HT.out] at hr
    have hb0 := HB0.out
    rw [oc_time HT.out] at hb0
    have HB1 := Lib.hid hb0
    clear hb0
    refine hr.mono ?_
    clear hr
    rintro e wA ⟨rfl, hb⟩
    have HB := Lib.hid hb
    clear hb
    have hz : (ofB (rawO o)).size ≤ 9223372036854775807 := Nat.le_trans HZ.out (by decide)
    obtain ⟨S, hS⟩ : ∃ S, ofB (rawO o) = S := ⟨_, rfl⟩
    rw [hS] at HV hz ⊢
    clear hS
    go_wp2_with fail
    go_ret
    exact ⟨by rw [HV.out]; exact congrArg (fun b => Ending.returned (.bool b)) (decide_eq_decide.2 (by omega)), HB1.out.trans (HB.out.mono HB1.out.size)⟩

/-- what Encode answers -/
def encV7 (o : Opn) : Value := if mayO o = true then .tuple #[.string (ofB (rawO o)), .int .i64 0] else .tuple #[.string ⟨#[]⟩, .int .i64 2]

set_option maxHeartbeats 16000000 in
theorem encR7 (o : Opn) (A : Option Addr) (c : Nat) (w : World) (hbk : BlkR w A o.blocks) (k : o.ok) :
    Calls Try.prog 10 #[ov o A c] w fun e w' => e = .returned (encV7 o) ∧ Below w.heap.size w w' := by
  have HX := Lib.hid (fun (W : World) (hW : Below (w.alloc (.cells (oc o A c) 26)).heap.size (w.alloc (.cells (oc o A c) 26)) W) (j : Nat) (v : Value) (hv : (oc o A c)[j]? = some v) => ((hW.cell (p := ⟨w.heap.size, j, none⟩) (by simp)).trans (World.cell?_alloc_mark w _ _ (0, 0) j)).trans hv)
  have HBK := Lib.hid (fun (W : World) (hW : Below (w.alloc (.cells (oc o A c) 26)).heap.size (w.alloc (.cells (oc o A c) 26)) W) => (hbk.more (st_alloc (Below.refl _ w) (.cells (oc o A c) 26))).more hW)
  have HB0 := Lib.hid (st_alloc (Below.refl _ w) (.cells (oc o A c) 26))
  clear hbk
  by_cases m : mayO o = true
  · have HV := Lib.hid (show encV7 o = _ from if_pos m)
    have M := may_of m
    go_enter Try.func10, Try.ntmps10
    go_wp2_with fail
    refine (mayR o A c _ (HBK.out _ (Below.refl _ _)) k).mono ?_
    rintro e wA ⟨rfl, hb⟩
    have HB := Lib.hid hb
    rw [m]
    have x0 : wA.cell? ⟨w.heap.size, 0, none⟩ = some (.int .u16 (o.mss : Int)) := HX.out _ hb 0 _ rfl
    have x1 : wA.cell? ⟨w.heap.size, 1, none⟩ = some (.int .i64 o.scale) := HX.out _ hb 1 _ rfl
    have x2 : wA.cell? ⟨w.heap.size, 2, none⟩ = some (.bool o.sack) := HX.out _ hb 2 _ rfl
    have x3 : wA.cell? ⟨w.heap.size, 3, none⟩ = some (.slice A o.blocks.length c) := HX.out _ hb 3 _ rfl
    have x4 : wA.cell? ⟨w.heap.size, 4, none⟩ = some (.bool o.time) := HX.out _ hb 4 _ rfl
    have x5 : wA.cell? ⟨w.heap.size, 5, none⟩ = some (.int .u32 (o.val : Int)) := HX.out _ hb 5 _ rfl
    have x6 : wA.cell? ⟨w.heap.size, 6, none⟩ = some (.int .u32 (o.echo : Int)) := HX.out _ hb 6 _ rfl
    clear hb
    go_wp2_with fail
    refine (rawR7 o A c _ (HBK.out _ HB.out) k M.hi M.few).mono ?_
    rintro e wB ⟨rfl, hb⟩
    have HB2 := Lib.hid hb
    clear hb x0 x1 x2 x3 x4 x5 x6
    go_wp2_with fail
    have b1 := HB0.out.trans (HB.out.mono HB0.out.size)
    refine bodyPost_ret (v := encV7 o) ?_ rfl ⟨rfl, b1.trans (HB2.out.mono b1.size)⟩
    rw [HV.out]
    simp [results, Try.f10, go_sem]
  · have HV := Lib.hid (show encV7 o = _ from if_neg m)
    have m2 : mayO o = false := by cases h : mayO o; rfl; exact absurd h m
    go_enter Try.func10, Try.ntmps10
    go_wp2_with fail
    refine (mayR o A c _ (HBK.out _ (Below.refl _ _)) k).mono ?_
    rintro e wA ⟨rfl, hb⟩
    have HB := Lib.hid hb
    rw [m2]
    clear hb m m2
    go_wp2_with fail
    refine bodyPost_ret (v := encV7 o) ?_ rfl ⟨rfl, HB0.out.trans (HB.out.mono HB0.out.size)⟩
    rw [HV.out]
    simp [results, Try.f10, go_sem]
end Go.Proofs.Ytgpkckaojcodmaa.OptMay
