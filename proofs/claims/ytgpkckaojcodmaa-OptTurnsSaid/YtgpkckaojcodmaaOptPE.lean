/-
  The program's own calls of layer 7: the bytes of options, May, Encode.
-/
import Derived.Test.YtgpkckaojcodmaaOptPT
namespace Go.Proofs.Ytgpkckaojcodmaa.OptPE
open Cells (CellsAt)
open Go.RowKit TupMath SumMath Litb Calm IpMath IpRef Rel Num OptMath OptRef OptPlc OptSame OptMay OptTk OptQ OptPT
set_option linter.unusedVariables false
set_option maxRecDepth 100000

theorem laidP (o : Opn) (A : Option Addr) (c k : Nat) (w : World) (hbk : BlkR w A o.blocks) (ok : o.ok) (hi : o.scale ≤ 14) (hf : o.blocks.length ≤ 4) (hk : k = 2 ∨ k = 3 ∨ k = 4 ∨ k = 8 ∨ k = 5) (ht : there o k = true) :
    Calls Try.prog 33 #[ov o A c, .int .u8 (k : Int)] w fun e w' => e = .returned (.string (ofB (segO o k))) ∧ Below w.heap.size w w' := by
  rcases hk with rfl | rfl | rfl | rfl | rfl
  · exact laid2 o A c w ok
  · exact laid3 o A c w (of_decide_eq_true ht) hi
  · exact laid4 o A c w
  · exact laid8 o A c w ok
  · exact laid5 o A c w hbk ok hf
theorem five (j k : Nat) (h : ([2, 3, 4, 8, 5] : List Nat)[j]? = some k) : k ≤ 255 ∧ (k = 2 ∨ k = 3 ∨ k = 4 ∨ k = 8 ∨ k = 5) := by
  have hm := List.mem_of_getElem? h
  simp at hm
  omega
set_option maxHeartbeats 16000000 in
theorem writtenP (o : Opn) (A : Option Addr) (c : Nat) (w : World) (hbk : BlkR w A o.blocks) (ok : o.ok) (hi : o.scale ≤ 14) (hf : o.blocks.length ≤ 4) :
    Calls Try.prog 22 #[ov o A c] w fun e w' => e = .returned (.string (ofB (rawO o))) ∧ Below w.heap.size w w' := by
  have HX := Lib.hid (fun (W : World) (hW : Below (w.alloc (.cells (oc o A c) 26)).heap.size (w.alloc (.cells (oc o A c) 26)) W) (j : Nat) (v : Value) (hv : (oc o A c)[j]? = some v) => ((hW.cell (p := ⟨w.heap.size, j, none⟩) (by simp)).trans (World.cell?_alloc_mark w _ _ (0, 0) j)).trans hv)
  have HB0 := Lib.hid (st_alloc (Below.refl _ w) (.cells (oc o A c) 26))
  have HBK := Lib.hid (hbk.more HB0.out)
  have hs0 : (w.alloc (.cells (oc o A c) 26)).heap.size = w.heap.size + 1 := by simp
  have HP := Lib.hid (parts_all o)
  have HPL := Lib.hid (parts_len o hf)
  clear hbk
  go_enter Try.func22, Try.ntmps22
  go_wp2_with fail
  generalize w.alloc (.cells (oc o A c) 26) = w1 at HX HBK HB0 hs0 ⊢
  have hd : ∀ (j kk : Nat), ([2, 3, 4, 8, 5] : List Nat)[j]? = some kk → (w1.alloc (.cells #[.int .u8 2, .int .u8 3, .int .u8 4, .int .u8 8, .int .u8 5] 5)).cell? ⟨w1.heap.size, j, none⟩ = some (.int .u8 (kk : Int)) := by
    obtain ⟨b, e, _, h⟩ := HoldK.new .u8 w1 [2, 3, 4, 8, 5] 5
    injection e with e
    injection e with e
    injection e with e
    subst e
    exact h
  rw [hs0] at hd
  have HB1 := Lib.hid (st_alloc (Below.refl _ w1) (.cells #[.int .u8 2, .int .u8 3, .int .u8 4, .int .u8 8, .int .u8 5] 5))
  have hs1 : (w1.alloc (.cells #[.int .u8 2, .int .u8 3, .int .u8 4, .int .u8 8, .int .u8 5] 5)).heap.size = w1.heap.size + 1 := by simp
  generalize w1.alloc (.cells #[.int .u8 2, .int .u8 3, .int .u8 4, .int .u8 8, .int .u8 5] 5) = w2 at hd HB1 hs1 ⊢
  have HD := Lib.hid (fun (W : World) (hW : Below w2.heap.size w2 W) (j kk : Nat) (hj : ([2, 3, 4, 8, 5] : List Nat)[j]? = some kk) => (hW.cell (p := ⟨w.heap.size + 1, j, none⟩) (by show w.heap.size + 1 < _; omega)).trans (hd j kk hj))
  clear hd
  go_loopw [3, 8] (fun s i wr => ∃ (j : Nat) (Q : List Nat), i = .int .i64 (j : Int) ∧ j ≤ 5 ∧ s = .string (ofB Q) ∧ Q = parts o (([2, 3, 4, 8, 5] : List Nat).take j) ∧ Below w2.heap.size w2 wr) (fun _ i _ => 5 - (intOf i).toNat)
  case atStart => exact ⟨0, _, rfl, by omega, rfl, rfl, Below.refl _ _⟩
  case round =>
    obtain ⟨j, Q, rfl, hj, rfl, hQ, hB⟩ := hrel
    have HQ := Lib.hid hQ
    have HB := Lib.hid hB
    have HB12 := Lib.hid (HB1.out.trans (hB.mono HB1.out.size))
    clear hQ hB
    by_cases hlt : j < 5
    · obtain ⟨kk, hkk⟩ : ∃ kk, ([2, 3, 4, 8, 5] : List Nat)[j]? = some kk := ⟨_, List.getElem?_eq_getElem hlt⟩
      obtain ⟨hk1, hk2⟩ := five j kk hkk
      have d0 := HD.out wr HB.out j kk hkk
      have x0 := HX.out wr HB12.out 0 _ rfl
      have x1 := HX.out wr HB12.out 1 _ rfl
      have x2 := HX.out wr HB12.out 2 _ rfl
      have x3 := HX.out wr HB12.out 3 _ rfl
      have x4 := HX.out wr HB12.out 4 _ rfl
      have x5 := HX.out wr HB12.out 5 _ rfl
      have x6 := HX.out wr HB12.out 6 _ rfl
      have HTS := Lib.hid (show parts o (([2, 3, 4, 8, 5] : List Nat).take (j + 1)) = Q ++ (if there o kk = true then segO o kk else []) by rw [take_snocG hkk, parts_snoc, HQ.out])
      have HK := Lib.hid hk2
      clear hkk hk2
      go_wp2_with fail
      refine (thereP o A c kk _ hk1).mono ?_
      rintro e wA ⟨rfl, hb⟩
      have HBA := Lib.hid (st_call HB.out hb)
      have HBA2 := Lib.hid (st_call HB12.out hb)
      clear hb d0 x0 x1 x2 x3 x4 x5 x6
      cases ht : there o kk
      · have HT2 : Hid (Q = parts o (([2, 3, 4, 8, 5] : List Nat).take (j + 1))) := Lib.hid (by rw [HTS.out, ht]; simp)
        clear ht
        go_wp2_with fail
        go_roundw
        case rel => exact ⟨j + 1, Q, by go_num, by omega, rfl, HT2.out, HBA.out⟩
        case measure => simp only [intOf]; omega
      · have HT2 : Hid (parts o (([2, 3, 4, 8, 5] : List Nat).take (j + 1)) = Q ++ segO o kk) := Lib.hid (by rw [HTS.out, ht]; simp)
        have HT3 := Lib.hid ht
        clear ht
        have x0 := HX.out wA HBA2.out 0 _ rfl
        have x1 := HX.out wA HBA2.out 1 _ rfl
        have x2 := HX.out wA HBA2.out 2 _ rfl
        have x3 := HX.out wA HBA2.out 3 _ rfl
        have x4 := HX.out wA HBA2.out 4 _ rfl
        have x5 := HX.out wA HBA2.out 5 _ rfl
        have x6 := HX.out wA HBA2.out 6 _ rfl
        go_wp2_with fail
        refine (laidP o A c kk _ (HBK.out.more HBA2.out) ok hi hf HK.out HT3.out).mono ?_
        rintro e wB ⟨rfl, hb⟩
        have HBB := Lib.hid (st_call HBA.out hb)
        have hz : (ofB Q).size + (ofB (segO o kk)).size ≤ 9223372036854775807 := app_size (by
          have h1 := HPL.out (([2, 3, 4, 8, 5] : List Nat).take j)
          have h2 := segO_len o kk hf
          rw [← HQ.out] at h1
          rw [List.length_take] at h1
          omega)
        have HV := Lib.hid (show ofB Q ++ ofB (segO o kk) = ofB (parts o (([2, 3, 4, 8, 5] : List Nat).take (j + 1))) by rw [ofB_app, HT2.out])
        clear hb x0 x1 x2 x3 x4 x5 x6
        go_wp2_with fail
        go_roundw
        case rel => exact ⟨j + 1, _, by go_num, by omega, congrArg Value.string HV.out, rfl, HBB.out⟩
        case measure => simp only [intOf]; omega
    · obtain rfl : j = 5 := by omega
      have HV := Lib.hid (show Q = rawO o by rw [HQ.out, ← HP.out]; rfl)
      go_wp2_with fail
      go_ret
      exact ⟨by rw [HV.out]; rfl, HB0.out.trans (HB12.out.mono HB0.out.size)⟩

set_option maxHeartbeats 16000000 in
theorem mayP (o : Opn) (A : Option Addr) (c : Nat) (w : World) (hbk : BlkR w A o.blocks) (k : o.ok) :
    Calls Try.prog 13 #[ov o A c] w fun e w' => e = .returned (.bool (mayO o)) ∧ Below w.heap.size w w' := by
  have HX := Lib.hid (fun (W : World) (hW : Below (w.alloc (.cells (oc o A c) 26)).heap.size (w.alloc (.cells (oc o A c) 26)) W) (j : Nat) (v : Value) (hv : (oc o A c)[j]? = some v) => ((hW.cell (p := ⟨w.heap.size, j, none⟩) (by simp)).trans (World.cell?_alloc_mark w _ _ (0, 0) j)).trans hv)
  have HB0 := Lib.hid (st_alloc (Below.refl _ w) (.cells (oc o A c) 26))
  have HBK := Lib.hid (hbk.more HB0.out)
  clear hbk
  by_cases c1 : -1 ≤ o.scale
  rotate_left
  · have HC := Lib.hid c1
    have q0 : decide (-1 ≤ o.scale) = false := decide_eq_false c1
    clear c1
    have HV := Lib.hid (may_not (o := o) fun m => by have := m.lo; exact HC.out this)
    go_enter Try.func13, Try.ntmps13
    go_wp2_with fail
    have hb0 := HB0.out
    have hx0 := HX.out
    generalize (w.alloc (.cells #[.int .u16 (o.mss : Int), .int .i64 o.scale, .bool o.sack, .slice A o.blocks.length c, .bool o.time, .int .u32 (o.val : Int), .int .u32 (o.echo : Int)] 26)) = w1 at hb0 hx0 ⊢
    have HB1 := Lib.hid hb0
    have HX1 := Lib.hid hx0
    clear hb0 hx0
    have y0 : ∀ i : Later w1.heap.size w1, i.w.cell? ⟨w.heap.size, 0, none⟩ = some (.int .u16 (o.mss : Int)) := fun i => HX1.out i.w i.h 0 _ rfl
    have y1 : ∀ i : Later w1.heap.size w1, i.w.cell? ⟨w.heap.size, 1, none⟩ = some (.int .i64 o.scale) := fun i => HX1.out i.w i.h 1 _ rfl
    have y2 : ∀ i : Later w1.heap.size w1, i.w.cell? ⟨w.heap.size, 2, none⟩ = some (.bool o.sack) := fun i => HX1.out i.w i.h 2 _ rfl
    have y3 : ∀ i : Later w1.heap.size w1, i.w.cell? ⟨w.heap.size, 3, none⟩ = some (.slice A o.blocks.length c) := fun i => HX1.out i.w i.h 3 _ rfl
    have y4 : ∀ i : Later w1.heap.size w1, i.w.cell? ⟨w.heap.size, 4, none⟩ = some (.bool o.time) := fun i => HX1.out i.w i.h 4 _ rfl
    have y5 : ∀ i : Later w1.heap.size w1, i.w.cell? ⟨w.heap.size, 5, none⟩ = some (.int .u32 (o.val : Int)) := fun i => HX1.out i.w i.h 5 _ rfl
    have y6 : ∀ i : Later w1.heap.size w1, i.w.cell? ⟨w.heap.size, 6, none⟩ = some (.int .u32 (o.echo : Int)) := fun i => HX1.out i.w i.h 6 _ rfl
    have KN : Hid (∀ i : Later w1.heap.size w1, Calls Try.prog 17 #[] i.w fun e w' => e = .returned (.agg #[.int .u16 0, .int .i64 (-1), .bool false, .slice none 0 0, .bool false, .int .u32 0, .int .u32 0]) ∧ Below i.w.heap.size i.w w') := Lib.hid fun i => noneP i.w
    have hfd : ∀ W : World, (Instr.field 26 (.agg #[.int .u16 0, .int .i64 (-1), .bool false, .slice none 0 0, .bool false, .int .u32 0, .int .u32 0]) 1).run Try.prog W = .ok (.int .i64 (-1)) W := fun _ => by kernel_rfl
    refine wp_region_later (n := w1.heap.size) w1 (Below.refl _ _) (by kernel_rfl) (by kernel_rfl) ?_
    repeat (first | go_big_quiet_step (((go_at_call 17; exact later_calls (Nat.le_refl _) _ (KN.out _)))) | go_big_quiet_step (fail))
    refine wpQuiet_nil ?_
    rintro W ⟨⟨wj, hj⟩, rfl⟩
    go_wp2
    go_ret
    exact ⟨by rw [HV.out]; rfl, st_call HB1.out hj⟩
  by_cases c2 : o.scale ≤ 14
  rotate_left
  · have HC := Lib.hid c2
    have q0 : decide (o.scale ≤ 14) = false := decide_eq_false c2
    clear c2
    have HV := Lib.hid (may_not (o := o) fun m => by have := m.hi; exact HC.out this)
    go_enter Try.func13, Try.ntmps13
    go_wp2_with fail
    have hb0 := HB0.out
    have hx0 := HX.out
    generalize (w.alloc (.cells #[.int .u16 (o.mss : Int), .int .i64 o.scale, .bool o.sack, .slice A o.blocks.length c, .bool o.time, .int .u32 (o.val : Int), .int .u32 (o.echo : Int)] 26)) = w1 at hb0 hx0 ⊢
    have HB1 := Lib.hid hb0
    have HX1 := Lib.hid hx0
    clear hb0 hx0
    have y0 : ∀ i : Later w1.heap.size w1, i.w.cell? ⟨w.heap.size, 0, none⟩ = some (.int .u16 (o.mss : Int)) := fun i => HX1.out i.w i.h 0 _ rfl
    have y1 : ∀ i : Later w1.heap.size w1, i.w.cell? ⟨w.heap.size, 1, none⟩ = some (.int .i64 o.scale) := fun i => HX1.out i.w i.h 1 _ rfl
    have y2 : ∀ i : Later w1.heap.size w1, i.w.cell? ⟨w.heap.size, 2, none⟩ = some (.bool o.sack) := fun i => HX1.out i.w i.h 2 _ rfl
    have y3 : ∀ i : Later w1.heap.size w1, i.w.cell? ⟨w.heap.size, 3, none⟩ = some (.slice A o.blocks.length c) := fun i => HX1.out i.w i.h 3 _ rfl
    have y4 : ∀ i : Later w1.heap.size w1, i.w.cell? ⟨w.heap.size, 4, none⟩ = some (.bool o.time) := fun i => HX1.out i.w i.h 4 _ rfl
    have y5 : ∀ i : Later w1.heap.size w1, i.w.cell? ⟨w.heap.size, 5, none⟩ = some (.int .u32 (o.val : Int)) := fun i => HX1.out i.w i.h 5 _ rfl
    have y6 : ∀ i : Later w1.heap.size w1, i.w.cell? ⟨w.heap.size, 6, none⟩ = some (.int .u32 (o.echo : Int)) := fun i => HX1.out i.w i.h 6 _ rfl
    have KN : Hid (∀ i : Later w1.heap.size w1, Calls Try.prog 17 #[] i.w fun e w' => e = .returned (.agg #[.int .u16 0, .int .i64 (-1), .bool false, .slice none 0 0, .bool false, .int .u32 0, .int .u32 0]) ∧ Below i.w.heap.size i.w w') := Lib.hid fun i => noneP i.w
    have hfd : ∀ W : World, (Instr.field 26 (.agg #[.int .u16 0, .int .i64 (-1), .bool false, .slice none 0 0, .bool false, .int .u32 0, .int .u32 0]) 1).run Try.prog W = .ok (.int .i64 (-1)) W := fun _ => by kernel_rfl
    refine wp_region_later (n := w1.heap.size) w1 (Below.refl _ _) (by kernel_rfl) (by kernel_rfl) ?_
    repeat (first | go_big_quiet_step (((go_at_call 17; exact later_calls (Nat.le_refl _) _ (KN.out _)))) | go_big_quiet_step (fail))
    refine wpQuiet_nil ?_
    rintro W ⟨⟨wj, hj⟩, rfl⟩
    go_wp2
    go_ret
    exact ⟨by rw [HV.out]; rfl, st_call HB1.out hj⟩
  by_cases c3 : (o.blocks.length : Int) ≤ 4
  rotate_left
  · have HC := Lib.hid c3
    have q0 : decide ((o.blocks.length : Int) ≤ 4) = false := decide_eq_false c3
    clear c3
    have HV := Lib.hid (may_not (o := o) fun m => by have := m.few; have := HC.out; omega)
    go_enter Try.func13, Try.ntmps13
    go_wp2_with fail
    have hb0 := HB0.out
    have hx0 := HX.out
    generalize (w.alloc (.cells #[.int .u16 (o.mss : Int), .int .i64 o.scale, .bool o.sack, .slice A o.blocks.length c, .bool o.time, .int .u32 (o.val : Int), .int .u32 (o.echo : Int)] 26)) = w1 at hb0 hx0 ⊢
    have HB1 := Lib.hid hb0
    have HX1 := Lib.hid hx0
    clear hb0 hx0
    have y0 : ∀ i : Later w1.heap.size w1, i.w.cell? ⟨w.heap.size, 0, none⟩ = some (.int .u16 (o.mss : Int)) := fun i => HX1.out i.w i.h 0 _ rfl
    have y1 : ∀ i : Later w1.heap.size w1, i.w.cell? ⟨w.heap.size, 1, none⟩ = some (.int .i64 o.scale) := fun i => HX1.out i.w i.h 1 _ rfl
    have y2 : ∀ i : Later w1.heap.size w1, i.w.cell? ⟨w.heap.size, 2, none⟩ = some (.bool o.sack) := fun i => HX1.out i.w i.h 2 _ rfl
    have y3 : ∀ i : Later w1.heap.size w1, i.w.cell? ⟨w.heap.size, 3, none⟩ = some (.slice A o.blocks.length c) := fun i => HX1.out i.w i.h 3 _ rfl
    have y4 : ∀ i : Later w1.heap.size w1, i.w.cell? ⟨w.heap.size, 4, none⟩ = some (.bool o.time) := fun i => HX1.out i.w i.h 4 _ rfl
    have y5 : ∀ i : Later w1.heap.size w1, i.w.cell? ⟨w.heap.size, 5, none⟩ = some (.int .u32 (o.val : Int)) := fun i => HX1.out i.w i.h 5 _ rfl
    have y6 : ∀ i : Later w1.heap.size w1, i.w.cell? ⟨w.heap.size, 6, none⟩ = some (.int .u32 (o.echo : Int)) := fun i => HX1.out i.w i.h 6 _ rfl
    have KN : Hid (∀ i : Later w1.heap.size w1, Calls Try.prog 17 #[] i.w fun e w' => e = .returned (.agg #[.int .u16 0, .int .i64 (-1), .bool false, .slice none 0 0, .bool false, .int .u32 0, .int .u32 0]) ∧ Below i.w.heap.size i.w w') := Lib.hid fun i => noneP i.w
    have hfd : ∀ W : World, (Instr.field 26 (.agg #[.int .u16 0, .int .i64 (-1), .bool false, .slice none 0 0, .bool false, .int .u32 0, .int .u32 0]) 1).run Try.prog W = .ok (.int .i64 (-1)) W := fun _ => by kernel_rfl
    refine wp_region_later (n := w1.heap.size) w1 (Below.refl _ _) (by kernel_rfl) (by kernel_rfl) ?_
    repeat (first | go_big_quiet_step (((go_at_call 17; exact later_calls (Nat.le_refl _) _ (KN.out _)))) | go_big_quiet_step (fail))
    refine wpQuiet_nil ?_
    rintro W ⟨⟨wj, hj⟩, rfl⟩
    go_wp2
    go_ret
    exact ⟨by rw [HV.out]; rfl, st_call HB1.out hj⟩
  have H14 := Lib.hid c2
  have H4 := Lib.hid (show o.blocks.length ≤ 4 by omega)
  have HZ := Lib.hid (show (ofB (rawO o)).size ≤ 1000 by
    rw [ofB_size, ← parts_all o]
    have := parts_len o H4.out [2, 3, 4, 8, 5]
    simp at this
    omega)
  cases c4 : o.time
  · by_cases c5 : o.val = 0
    · by_cases c6 : o.echo = 0
      · have q5 : ((o.val : Int) == 0) = true := beq_iff_eq.2 (by omega)
        have q6 : ((o.echo : Int) == 0) = true := beq_iff_eq.2 (by omega)
        have HC := Lib.hid (And.intro c5 c6)
        have HMV := Lib.hid (may_len (o := o) c1 c2 (by omega) (fun _ => HC.out))
        obtain ⟨S, hS⟩ : ∃ S, ofB (rawO o) = S := ⟨_, rfl⟩
        have HS := Lib.hid hS
        have hz : S.size ≤ 1000 := by rw [← hS]; exact HZ.out
        rw [hS] at HMV
        clear hS c5 c6
        have HV := Lib.hid (HMV.out)
        have HT := Lib.hid c4
        go_enter Try.func13, Try.ntmps13
        go_wp2_with fail
        have hb0 := HB0.out
        have hx0 := HX.out
        rw [oc_time HT.out] at hb0 hx0
        have hbk0 := HBK.out
        rw [oc_time HT.out] at hbk0
        generalize (w.alloc (.cells #[.int .u16 (o.mss : Int), .int .i64 o.scale, .bool o.sack, .slice A o.blocks.length c, .bool false, .int .u32 (o.val : Int), .int .u32 (o.echo : Int)] 26)) = w1 at hb0 hx0 hbk0 ⊢
        have HB1 := Lib.hid hb0
        have HX1 := Lib.hid hx0
        have HBK1 := Lib.hid hbk0
        clear hb0 hx0 hbk0
        have y0 : ∀ i : Later w1.heap.size w1, i.w.cell? ⟨w.heap.size, 0, none⟩ = some (.int .u16 (o.mss : Int)) := fun i => HX1.out i.w i.h 0 _ rfl
        have y1 : ∀ i : Later w1.heap.size w1, i.w.cell? ⟨w.heap.size, 1, none⟩ = some (.int .i64 o.scale) := fun i => HX1.out i.w i.h 1 _ rfl
        have y2 : ∀ i : Later w1.heap.size w1, i.w.cell? ⟨w.heap.size, 2, none⟩ = some (.bool o.sack) := fun i => HX1.out i.w i.h 2 _ rfl
        have y3 : ∀ i : Later w1.heap.size w1, i.w.cell? ⟨w.heap.size, 3, none⟩ = some (.slice A o.blocks.length c) := fun i => HX1.out i.w i.h 3 _ rfl
        have y4 : ∀ i : Later w1.heap.size w1, i.w.cell? ⟨w.heap.size, 4, none⟩ = some (.bool false) := fun i => HX1.out i.w i.h 4 _ rfl
        have y5 : ∀ i : Later w1.heap.size w1, i.w.cell? ⟨w.heap.size, 5, none⟩ = some (.int .u32 (o.val : Int)) := fun i => HX1.out i.w i.h 5 _ rfl
        have y6 : ∀ i : Later w1.heap.size w1, i.w.cell? ⟨w.heap.size, 6, none⟩ = some (.int .u32 (o.echo : Int)) := fun i => HX1.out i.w i.h 6 _ rfl
        have KN : Hid (∀ i : Later w1.heap.size w1, Calls Try.prog 17 #[] i.w fun e w' => e = .returned (.agg #[.int .u16 0, .int .i64 (-1), .bool false, .slice none 0 0, .bool false, .int .u32 0, .int .u32 0]) ∧ Below i.w.heap.size i.w w') := Lib.hid fun i => noneP i.w
        have hfd : ∀ W : World, (Instr.field 26 (.agg #[.int .u16 0, .int .i64 (-1), .bool false, .slice none 0 0, .bool false, .int .u32 0, .int .u32 0]) 1).run Try.prog W = .ok (.int .i64 (-1)) W := fun _ => by kernel_rfl
        have KW : Hid (∀ i : Later w1.heap.size w1, Calls Try.prog 22 #[.agg #[.int .u16 (o.mss : Int), .int .i64 o.scale, .bool o.sack, .slice A o.blocks.length c, .bool false, .int .u32 (o.val : Int), .int .u32 (o.echo : Int)]] i.w fun e w' => e = .returned (.string S) ∧ Below i.w.heap.size i.w w') := Lib.hid fun i => by
          have h := writtenP o A c i.w (HBK1.out.more i.h) k H14.out H4.out
          rw [ov_time HT.out, HS.out] at h
          exact h
        refine wp_region_later (n := w1.heap.size) w1 (Below.refl _ _) (by kernel_rfl) (by kernel_rfl) ?_
        repeat (first | go_big_quiet_step ((first | (go_at_call 17; exact later_calls (Nat.le_refl _) _ (KN.out _)) | (go_at_call 22; exact later_calls (Nat.le_refl _) _ (KW.out _)))) | go_big_quiet_step (fail))
        refine wpQuiet_nil ?_
        rintro W ⟨⟨wj, hj⟩, rfl⟩
        go_wp2
        go_ret
        exact ⟨by rw [HV.out]; exact congrArg (fun b => Ending.returned (.bool b)) (decide_eq_decide.2 (by omega)), st_call HB1.out hj⟩
      · have q5 : ((o.val : Int) == 0) = true := beq_iff_eq.2 (by omega)
        have q6 : ((o.echo : Int) == 0) = false := beq_eq_false_iff_ne.2 (by omega)
        have HC := Lib.hid c6
        have HC4 := Lib.hid c4
        clear c5 c6
        have HV := Lib.hid (may_not (o := o) fun m => HC.out (m.time HC4.out).2)
        have HT := Lib.hid c4
        go_enter Try.func13, Try.ntmps13
        go_wp2_with fail
        have hb0 := HB0.out
        have hx0 := HX.out
        rw [oc_time HT.out] at hb0 hx0
        generalize (w.alloc (.cells #[.int .u16 (o.mss : Int), .int .i64 o.scale, .bool o.sack, .slice A o.blocks.length c, .bool false, .int .u32 (o.val : Int), .int .u32 (o.echo : Int)] 26)) = w1 at hb0 hx0 ⊢
        have HB1 := Lib.hid hb0
        have HX1 := Lib.hid hx0
        clear hb0 hx0
        have y0 : ∀ i : Later w1.heap.size w1, i.w.cell? ⟨w.heap.size, 0, none⟩ = some (.int .u16 (o.mss : Int)) := fun i => HX1.out i.w i.h 0 _ rfl
        have y1 : ∀ i : Later w1.heap.size w1, i.w.cell? ⟨w.heap.size, 1, none⟩ = some (.int .i64 o.scale) := fun i => HX1.out i.w i.h 1 _ rfl
        have y2 : ∀ i : Later w1.heap.size w1, i.w.cell? ⟨w.heap.size, 2, none⟩ = some (.bool o.sack) := fun i => HX1.out i.w i.h 2 _ rfl
        have y3 : ∀ i : Later w1.heap.size w1, i.w.cell? ⟨w.heap.size, 3, none⟩ = some (.slice A o.blocks.length c) := fun i => HX1.out i.w i.h 3 _ rfl
        have y4 : ∀ i : Later w1.heap.size w1, i.w.cell? ⟨w.heap.size, 4, none⟩ = some (.bool false) := fun i => HX1.out i.w i.h 4 _ rfl
        have y5 : ∀ i : Later w1.heap.size w1, i.w.cell? ⟨w.heap.size, 5, none⟩ = some (.int .u32 (o.val : Int)) := fun i => HX1.out i.w i.h 5 _ rfl
        have y6 : ∀ i : Later w1.heap.size w1, i.w.cell? ⟨w.heap.size, 6, none⟩ = some (.int .u32 (o.echo : Int)) := fun i => HX1.out i.w i.h 6 _ rfl
        have KN : Hid (∀ i : Later w1.heap.size w1, Calls Try.prog 17 #[] i.w fun e w' => e = .returned (.agg #[.int .u16 0, .int .i64 (-1), .bool false, .slice none 0 0, .bool false, .int .u32 0, .int .u32 0]) ∧ Below i.w.heap.size i.w w') := Lib.hid fun i => noneP i.w
        have hfd : ∀ W : World, (Instr.field 26 (.agg #[.int .u16 0, .int .i64 (-1), .bool false, .slice none 0 0, .bool false, .int .u32 0, .int .u32 0]) 1).run Try.prog W = .ok (.int .i64 (-1)) W := fun _ => by kernel_rfl
        refine wp_region_later (n := w1.heap.size) w1 (Below.refl _ _) (by kernel_rfl) (by kernel_rfl) ?_
        repeat (first | go_big_quiet_step (((go_at_call 17; exact later_calls (Nat.le_refl _) _ (KN.out _)))) | go_big_quiet_step (fail))
        refine wpQuiet_nil ?_
        rintro W ⟨⟨wj, hj⟩, rfl⟩
        go_wp2
        go_ret
        exact ⟨by rw [HV.out]; rfl, st_call HB1.out hj⟩
    · have q5 : ((o.val : Int) == 0) = false := beq_eq_false_iff_ne.2 (by omega)
      have HC := Lib.hid c5
      have HC4 := Lib.hid c4
      clear c5
      have HV := Lib.hid (may_not (o := o) fun m => HC.out (m.time HC4.out).1)
      have HT := Lib.hid c4
      go_enter Try.func13, Try.ntmps13
      go_wp2_with fail
      have hb0 := HB0.out
      have hx0 := HX.out
      rw [oc_time HT.out] at hb0 hx0
      generalize (w.alloc (.cells #[.int .u16 (o.mss : Int), .int .i64 o.scale, .bool o.sack, .slice A o.blocks.length c, .bool false, .int .u32 (o.val : Int), .int .u32 (o.echo : Int)] 26)) = w1 at hb0 hx0 ⊢
      have HB1 := Lib.hid hb0
      have HX1 := Lib.hid hx0
      clear hb0 hx0
      have y0 : ∀ i : Later w1.heap.size w1, i.w.cell? ⟨w.heap.size, 0, none⟩ = some (.int .u16 (o.mss : Int)) := fun i => HX1.out i.w i.h 0 _ rfl
      have y1 : ∀ i : Later w1.heap.size w1, i.w.cell? ⟨w.heap.size, 1, none⟩ = some (.int .i64 o.scale) := fun i => HX1.out i.w i.h 1 _ rfl
      have y2 : ∀ i : Later w1.heap.size w1, i.w.cell? ⟨w.heap.size, 2, none⟩ = some (.bool o.sack) := fun i => HX1.out i.w i.h 2 _ rfl
      have y3 : ∀ i : Later w1.heap.size w1, i.w.cell? ⟨w.heap.size, 3, none⟩ = some (.slice A o.blocks.length c) := fun i => HX1.out i.w i.h 3 _ rfl
      have y4 : ∀ i : Later w1.heap.size w1, i.w.cell? ⟨w.heap.size, 4, none⟩ = some (.bool false) := fun i => HX1.out i.w i.h 4 _ rfl
      have y5 : ∀ i : Later w1.heap.size w1, i.w.cell? ⟨w.heap.size, 5, none⟩ = some (.int .u32 (o.val : Int)) := fun i => HX1.out i.w i.h 5 _ rfl
      have y6 : ∀ i : Later w1.heap.size w1, i.w.cell? ⟨w.heap.size, 6, none⟩ = some (.int .u32 (o.echo : Int)) := fun i => HX1.out i.w i.h 6 _ rfl
      have KN : Hid (∀ i : Later w1.heap.size w1, Calls Try.prog 17 #[] i.w fun e w' => e = .returned (.agg #[.int .u16 0, .int .i64 (-1), .bool false, .slice none 0 0, .bool false, .int .u32 0, .int .u32 0]) ∧ Below i.w.heap.size i.w w') := Lib.hid fun i => noneP i.w
      have hfd : ∀ W : World, (Instr.field 26 (.agg #[.int .u16 0, .int .i64 (-1), .bool false, .slice none 0 0, .bool false, .int .u32 0, .int .u32 0]) 1).run Try.prog W = .ok (.int .i64 (-1)) W := fun _ => by kernel_rfl
      refine wp_region_later (n := w1.heap.size) w1 (Below.refl _ _) (by kernel_rfl) (by kernel_rfl) ?_
      repeat (first | go_big_quiet_step (((go_at_call 17; exact later_calls (Nat.le_refl _) _ (KN.out _)))) | go_big_quiet_step (fail))
      refine wpQuiet_nil ?_
      rintro W ⟨⟨wj, hj⟩, rfl⟩
      go_wp2
      go_ret
      exact ⟨by rw [HV.out]; rfl, st_call HB1.out hj⟩
  · have HC4 := Lib.hid c4
    have HMV := Lib.hid (may_len (o := o) c1 c2 (by omega) (fun h => absurd (h.symm.trans HC4.out) (by decide)))
    obtain ⟨S, hS⟩ : ∃ S, ofB (rawO o) = S := ⟨_, rfl⟩
    have HS := Lib.hid hS
    have hz : S.size ≤ 1000 := by rw [← hS]; exact HZ.out
    rw [hS] at HMV
    clear hS
    have HV := Lib.hid (HMV.out)
    have HT := Lib.hid c4
    go_enter Try.func13, Try.ntmps13
    go_wp2_with fail
    have hb0 := HB0.out
    have hx0 := HX.out
    rw [oc_time HT.out] at hb0 hx0
    have hbk0 := HBK.out
    rw [oc_time HT.out] at hbk0
    generalize (w.alloc (.cells #[.int .u16 (o.mss : Int), .int .i64 o.scale, .bool o.sack, .slice A o.blocks.length c, .bool true, .int .u32 (o.val : Int), .int .u32 (o.echo : Int)] 26)) = w1 at hb0 hx0 hbk0 ⊢
    have HB1 := Lib.hid hb0
    have HX1 := Lib.hid hx0
    have HBK1 := Lib.hid hbk0
    clear hb0 hx0 hbk0
    have y0 : ∀ i : Later w1.heap.size w1, i.w.cell? ⟨w.heap.size, 0, none⟩ = some (.int .u16 (o.mss : Int)) := fun i => HX1.out i.w i.h 0 _ rfl
    have y1 : ∀ i : Later w1.heap.size w1, i.w.cell? ⟨w.heap.size, 1, none⟩ = some (.int .i64 o.scale) := fun i => HX1.out i.w i.h 1 _ rfl
    have y2 : ∀ i : Later w1.heap.size w1, i.w.cell? ⟨w.heap.size, 2, none⟩ = some (.bool o.sack) := fun i => HX1.out i.w i.h 2 _ rfl
    have y3 : ∀ i : Later w1.heap.size w1, i.w.cell? ⟨w.heap.size, 3, none⟩ = some (.slice A o.blocks.length c) := fun i => HX1.out i.w i.h 3 _ rfl
    have y4 : ∀ i : Later w1.heap.size w1, i.w.cell? ⟨w.heap.size, 4, none⟩ = some (.bool true) := fun i => HX1.out i.w i.h 4 _ rfl
    have y5 : ∀ i : Later w1.heap.size w1, i.w.cell? ⟨w.heap.size, 5, none⟩ = some (.int .u32 (o.val : Int)) := fun i => HX1.out i.w i.h 5 _ rfl
    have y6 : ∀ i : Later w1.heap.size w1, i.w.cell? ⟨w.heap.size, 6, none⟩ = some (.int .u32 (o.echo : Int)) := fun i => HX1.out i.w i.h 6 _ rfl
    have KN : Hid (∀ i : Later w1.heap.size w1, Calls Try.prog 17 #[] i.w fun e w' => e = .returned (.agg #[.int .u16 0, .int .i64 (-1), .bool false, .slice none 0 0, .bool false, .int .u32 0, .int .u32 0]) ∧ Below i.w.heap.size i.w w') := Lib.hid fun i => noneP i.w
    have hfd : ∀ W : World, (Instr.field 26 (.agg #[.int .u16 0, .int .i64 (-1), .bool false, .slice none 0 0, .bool false, .int .u32 0, .int .u32 0]) 1).run Try.prog W = .ok (.int .i64 (-1)) W := fun _ => by kernel_rfl
    have KW : Hid (∀ i : Later w1.heap.size w1, Calls Try.prog 22 #[.agg #[.int .u16 (o.mss : Int), .int .i64 o.scale, .bool o.sack, .slice A o.blocks.length c, .bool true, .int .u32 (o.val : Int), .int .u32 (o.echo : Int)]] i.w fun e w' => e = .returned (.string S) ∧ Below i.w.heap.size i.w w') := Lib.hid fun i => by
      have h := writtenP o A c i.w (HBK1.out.more i.h) k H14.out H4.out
      rw [ov_time HT.out, HS.out] at h
      exact h
    refine wp_region_later (n := w1.heap.size) w1 (Below.refl _ _) (by kernel_rfl) (by kernel_rfl) ?_
    repeat (first | go_big_quiet_step ((first | (go_at_call 17; exact later_calls (Nat.le_refl _) _ (KN.out _)) | (go_at_call 22; exact later_calls (Nat.le_refl _) _ (KW.out _)))) | go_big_quiet_step (fail))
    refine wpQuiet_nil ?_
    rintro W ⟨⟨wj, hj⟩, rfl⟩
    go_wp2
    go_ret
    exact ⟨by rw [HV.out]; exact congrArg (fun b => Ending.returned (.bool b)) (decide_eq_decide.2 (by omega)), st_call HB1.out hj⟩

set_option maxHeartbeats 16000000 in
theorem encP7 (o : Opn) (A : Option Addr) (c : Nat) (w : World) (hbk : BlkR w A o.blocks) (k : o.ok) :
    Calls Try.prog 9 #[ov o A c] w fun e w' => e = .returned (encV7 o) ∧ Below w.heap.size w w' := by
  have HX := Lib.hid (fun (W : World) (hW : Below (w.alloc (.cells (oc o A c) 26)).heap.size (w.alloc (.cells (oc o A c) 26)) W) (j : Nat) (v : Value) (hv : (oc o A c)[j]? = some v) => ((hW.cell (p := ⟨w.heap.size, j, none⟩) (by simp)).trans (World.cell?_alloc_mark w _ _ (0, 0) j)).trans hv)
  have HBK := Lib.hid (fun (W : World) (hW : Below (w.alloc (.cells (oc o A c) 26)).heap.size (w.alloc (.cells (oc o A c) 26)) W) => (hbk.more (st_alloc (Below.refl _ w) (.cells (oc o A c) 26))).more hW)
  have HB0 := Lib.hid (st_alloc (Below.refl _ w) (.cells (oc o A c) 26))
  clear hbk
  by_cases m : mayO o = true
  · have HV := Lib.hid (show encV7 o = _ from if_pos m)
    have M := may_of m
    go_enter Try.func9, Try.ntmps9
    go_wp2_with fail
    refine (mayP o A c _ (HBK.out _ (Below.refl _ _)) k).mono ?_
    rintro e wA ⟨rfl, hb⟩
    have HB := Lib.hid hb
    rw [m]
    have x0 : wA.cell? ⟨w.heap.size, 0, none⟩ = some (.int .u16 (o.mss : Int)) := HX.out _ hb 0 _ rfl
    have x1 : wA.cell? ⟨w.heap.size, 1, none⟩ = some (.int .i64 o.scale) := HX.out _ hb 1 _ rfl
    have x2 : wA.cell? ⟨w.heap.size, 2, none⟩ = some (.bool o.sack) := HX.out _ hb 2 _ rfl
    have x3 : wA.cell? ⟨w.heap.size, 3, none⟩ = some (.slice A o.blocks.length c) := HX.out _ hb 3 _ rfl
    have x4 : wA.cell? ⟨w.heap.size, 4, none⟩ = some (.bool o.time) := HX.out _ hb 4 _ rfl
    have x5 : wA.cell? ⟨w.heap.size, 5, none⟩ = some (.int .u32 (o.val : Int)) := HX.out _ hb 5 _ rfl
    have x6 : wA.cell? ⟨w.heap.size, 6, none⟩ = some (.int .u32 (o.echo : Int)) := HX.out _ hb 6 _ rfl
    clear hb
    go_wp2_with fail
    refine (writtenP o A c _ (HBK.out _ HB.out) k M.hi M.few).mono ?_
    rintro e wB ⟨rfl, hb⟩
    have HB2 := Lib.hid hb
    clear hb x0 x1 x2 x3 x4 x5 x6
    go_wp2_with fail
    have b1 := HB0.out.trans (HB.out.mono HB0.out.size)
    refine bodyPost_ret (v := encV7 o) ?_ rfl ⟨rfl, b1.trans (HB2.out.mono b1.size)⟩
    rw [HV.out]
    simp [results, Try.f9, go_sem]
  · have HV := Lib.hid (show encV7 o = _ from if_neg m)
    have m2 : mayO o = false := by cases h : mayO o; rfl; exact absurd h m
    go_enter Try.func9, Try.ntmps9
    go_wp2_with fail
    refine (mayP o A c _ (HBK.out _ (Below.refl _ _)) k).mono ?_
    rintro e wA ⟨rfl, hb⟩
    have HB := Lib.hid hb
    rw [m2]
    clear hb m m2
    go_wp2_with fail
    refine bodyPost_ret (v := encV7 o) ?_ rfl ⟨rfl, HB0.out.trans (HB.out.mono HB0.out.size)⟩
    rw [HV.out]
    simp [results, Try.f9, go_sem]
end Go.Proofs.Ytgpkckaojcodmaa.OptPE
