/-
  The document's own answer of layer 7: options' bytes.
-/
import Derived.Test.YtgpkckaojcodmaaOptSame
import Derived.Test.YtgpkckaojcodmaaRelK
import Derived.Deep.DeepCutAuto
namespace Go.Proofs.Ytgpkckaojcodmaa.OptRaw
open Go.RowKit Own TupMath SumMath Litb Calm Rel RelT RelK IpMath IpRef OptMath OptRef OptPlc OptSame Boxes
set_option linter.unusedVariables false
set_option maxRecDepth 100000

def rel9 (P : ByteArray) (val echo B : Nat) : Nat → Value → World → Prop
  | 0 => fun v _ => v = .string P
  | 1 => fun v _ => v = .string (P ++ ⟨#[1, 1, 8, 10]⟩)
  | 2 => fun v _ => v = .pointer (some ⟨B, 5, none⟩)
  | 3 => fun v _ => v = .int .u32 (val : Int)
  | 4 => fun v _ => v = .string (ofB (w4 val))
  | 5 => fun v _ => v = .string (P ++ ⟨#[1, 1, 8, 10]⟩ ++ ofB (w4 val))
  | 6 => fun v _ => v = .pointer (some ⟨B, 6, none⟩)
  | 7 => fun v _ => v = .int .u32 (echo : Int)
  | 8 => fun v _ => v = .string (ofB (w4 echo))
  | 9 => fun v _ => v = .string (P ++ ⟨#[1, 1, 8, 10]⟩ ++ ofB (w4 val) ++ ofB (w4 echo))
  | 10 => fun v _ => v = .string (P ++ ⟨#[1, 1, 8, 10]⟩ ++ ofB (w4 val) ++ ofB (w4 echo))
  | _ => fun _ _ => True
theorem rel9_more (P : ByteArray) (val echo B : Nat) (i : Nat) (v : Value) (w w' : World) (hr : rel9 P val echo B i v w) (hb : Below w.heap.size w w') : rel9 P val echo B i v w' := by
  unfold rel9 at hr ⊢
  split at hr <;> exact hr
def rel15 (P : ByteArray) (f t B b off n c i : Nat) : Nat → Value → World → Prop
  | 0 => fun v _ => v = .string P
  | 1 => fun v _ => v = .pointer (some ⟨B, 3, none⟩)
  | 2 => fun v _ => v = .slice (some ⟨b, off, none⟩) n c
  | 3 => fun v _ => v = .int .i64 (i : Int)
  | 4 => fun v _ => v = .pointer (some ⟨b, off + i * 2, none⟩)
  | 5 => fun v _ => v = .pointer (some ⟨b, off + i * 2, none⟩)
  | 6 => fun v _ => v = .int .u32 (f : Int)
  | 7 => fun v _ => v = .string (ofB (w4 f))
  | 8 => fun v _ => v = .string (P ++ ofB (w4 f))
  | 9 => fun v _ => v = .pointer (some ⟨B, 3, none⟩)
  | 10 => fun v _ => v = .slice (some ⟨b, off, none⟩) n c
  | 11 => fun v _ => v = .int .i64 (i : Int)
  | 12 => fun v _ => v = .pointer (some ⟨b, off + i * 2, none⟩)
  | 13 => fun v _ => v = .pointer (some ⟨b, off + i * 2 + 1, none⟩)
  | 14 => fun v _ => v = .int .u32 (t : Int)
  | 15 => fun v _ => v = .string (ofB (w4 t))
  | 16 => fun v _ => v = .string (P ++ ofB (w4 f) ++ ofB (w4 t))
  | 17 => fun v _ => v = .string (P ++ ofB (w4 f) ++ ofB (w4 t))
  | _ => fun _ _ => True
theorem rel15_more (P : ByteArray) (f t B b off n c i : Nat) (j : Nat) (v : Value) (w w' : World) (hr : rel15 P f t B b off n c i j v w) (hb : Below w.heap.size w w') : rel15 P f t B b off n c i j v w' := by
  unfold rel15 at hr ⊢
  split at hr <;> exact hr
attribute [local go_sem] relUpon
theorem ofB_nil : (⟨#[]⟩ : ByteArray) = ofB [] := rfl
theorem seg_lens (o : Opn) (hf : o.blocks.length ≤ 4) : (sMss o).length ≤ 4 ∧ (sScale o).length ≤ 4 ∧ (sSack o).length ≤ 4 ∧ (sTime o).length ≤ 12 := by
  refine ⟨?_, ?_, ?_, ?_⟩
  · unfold sMss; split <;> simp [w2]
  · unfold sScale; split <;> simp
  · unfold sSack; split <;> simp
  · unfold sTime; split <;> simp [w4]

set_option maxHeartbeats 16000000 in
theorem rawR7 (o : Opn) (A : Option Addr) (c : Nat) (w : World) (hbk : BlkR w A o.blocks) (k : o.ok) (hi : o.scale ≤ 14) (hf : o.blocks.length ≤ 4) :
    Calls Try.prog 23 #[ov o A c] w fun e w' => e = .returned (.string (ofB (rawO o))) ∧ Below w.heap.size w w' := by
  obtain ⟨L1, L2, L3, L4⟩ := seg_lens o hf
  have HX := Lib.hid (fun (W : World) (hW : Below (w.alloc (.cells (oc o A c) 26)).heap.size (w.alloc (.cells (oc o A c) 26)) W) (j : Nat) (v : Value) (hv : (oc o A c)[j]? = some v) => ((hW.cell (p := ⟨w.heap.size, j, none⟩) (by simp)).trans (World.cell?_alloc_mark w _ _ (0, 0) j)).trans hv)
  have HBK := Lib.hid (fun (W : World) (hW : Below (w.alloc (.cells (oc o A c) 26)).heap.size (w.alloc (.cells (oc o A c) 26)) W) => (hbk.more (st_alloc (Below.refl _ w) (.cells (oc o A c) 26))).more hW)
  have HB0 := Lib.hid (st_alloc (Below.refl _ w) (.cells (oc o A c) 26))
  clear hbk
  go_enter Try.func23, Try.ntmps23
  go_upto_if 7 with (fail)
  generalize w.alloc (.cells (oc o A c) 26) = w1 at HX HBK HB0 ⊢
  have x0 : (w1).cell? ⟨w.heap.size, 0, none⟩ = some (.int .u16 (o.mss : Int)) := HX.out _ (Below.refl _ _) 0 _ rfl
  go_cut [3] (fun v wx => v = .string (ofB (sMss o)) ∧ Below w1.heap.size w1 wx)
  case first =>
    by_cases c0 : o.mss ≠ 0
    · have es : sMss o = [2, 4] ++ w2 o.mss := if_pos c0
      have r0 : ((o.mss : Int) != 0) = true := bne_iff_ne.2 (by omega)
      have y0 : (ofB (w2 o.mss)).size = 2 := ofB_size _
      go_wp2_with fail
      refine (wordR o.mss _ k.mss).mono ?_
      rintro e wA ⟨rfl, hb⟩
      have HB := Lib.hid hb
      clear hb
      have hval : (⟨#[]⟩ : ByteArray) ++ ⟨#[2, 4]⟩ ++ ofB (w2 o.mss) = ofB (sMss o) := by
        rw [es]
        show ofB [] ++ ofB [2, 4] ++ ofB (w2 o.mss) = _
        rw [ofB_app, ofB_app]
        rfl
      have HV := Lib.hid hval
      clear hval es
      go_wp2_with fail
      go_meet
      exact ⟨congrArg Value.string HV.out, HB.out⟩
    · have HV := Lib.hid (show (⟨#[]⟩ : ByteArray) = ofB (sMss o) by rw [show sMss o = [] from if_neg c0]; rfl)
      have r0 : ((o.mss : Int) != 0) = false := by
        have : (o.mss : Int) = 0 := by omega
        rw [this]; rfl
      clear c0
      go_wp2_with fail
      go_meet
      exact ⟨congrArg Value.string HV.out, Below.refl _ _⟩
  case rest =>
    obtain ⟨rfl, hcb⟩ := hcut
    obtain ⟨W1, hwd⟩ : ∃ x : World, x = wc := ⟨_, rfl⟩
    subst hwd
    obtain ⟨P, hP⟩ : ∃ P, ofB (sMss o) = P := ⟨_, rfl⟩
    have hPs : P.size ≤ 4 := by rw [← hP, ofB_size]; (try simp only [List.length_append]); omega
    rw [hP]
    have HP := Lib.hid hP
    have HBW := Lib.hid hcb
    have x1 : (W1).cell? ⟨w.heap.size, 1, none⟩ = some (.int .i64 o.scale) := HX.out _ hcb 1 _ rfl
    clear hP hcb
    go_upto_if 16 with (fail)
    go_cut [3] (fun v wx => v = .string (ofB (sMss o ++ sScale o)) ∧ Below w1.heap.size w1 wx)
    case first =>
      by_cases c1 : 0 ≤ o.scale
      · have es : sScale o = [1, 3, 3, o.scale.toNat] := if_pos c1
        obtain ⟨sc, hsc⟩ : ∃ sc : Nat, o.scale = (sc : Int) := ⟨o.scale.toNat, by omega⟩
        have hsn : o.scale.toNat = sc := by omega
        have hs14 : sc ≤ 14 := by omega
        have i1 : (0 : Int) ≤ (sc : Int) := by omega
        rw [hsc] at x1
        have hcv : (convert 46 9 (.slice (some ⟨W1.heap.size, 0, none⟩) 1 1)).run Try.prog (W1.alloc (.cells #[.int .u8 (sc : Int)] 5)) = .ok (.string (ofB [sc])) (W1.alloc (.cells #[.int .u8 (sc : Int)] 5)) := lit_back Try.prog 46 9 5 Try.underlying46 Try.underlying5 Try.underlying9 [sc] (by intro z hz; simp at hz; omega) W1 5 (0, 0) _ rfl
        have z1 : P.size + 3 ≤ 9223372036854775807 := by omega
        have y1 : (ofB [sc]).size = 1 := ofB_size _
        have hval : P ++ ⟨#[1, 3, 3]⟩ ++ ofB [sc] = ofB (sMss o ++ sScale o) := by
          rw [← HP.out, es, hsn]
          show ofB (sMss o) ++ ofB [1, 3, 3] ++ ofB [sc] = _
          rw [ofB_app, ofB_app, List.append_assoc]
          rfl
        have HV := Lib.hid hval
        have HSC := Lib.hid hsc
        clear hval hsc hsn c1 es
        simp only [HSC.out]
        go_wp2_with fail
        go_meet
        exact ⟨congrArg Value.string HV.out, st_alloc HBW.out _⟩
      · have HV := Lib.hid (show P = ofB (sMss o ++ sScale o) by rw [show sScale o = [] from if_neg c1, List.append_nil]; exact HP.out.symm)
        have i1 : ¬ (0 : Int) ≤ o.scale := c1
        clear c1
        go_wp2_with fail
        go_meet
        exact ⟨congrArg Value.string HV.out, HBW.out⟩
    case rest =>
      obtain ⟨rfl, hcb⟩ := hcut
      obtain ⟨W2, hwd⟩ : ∃ x : World, x = wc := ⟨_, rfl⟩
      subst hwd
      obtain ⟨P, hP⟩ : ∃ P, ofB (sMss o ++ sScale o) = P := ⟨_, rfl⟩
      have hPs : P.size ≤ 8 := by rw [← hP, ofB_size]; (try simp only [List.length_append]); omega
      rw [hP]
      have HP := Lib.hid hP
      have HBW := Lib.hid hcb
      have x2 : (W2).cell? ⟨w.heap.size, 2, none⟩ = some (.bool o.sack) := HX.out _ hcb 2 _ rfl
      clear hP hcb
      go_upto_if 26 with (fail)
      go_cut [3] (fun v wx => v = .string (ofB (sMss o ++ sScale o ++ sSack o)) ∧ Below w1.heap.size w1 wx)
      case first =>
        cases c2 : o.sack
        · have HV := Lib.hid (show P = ofB (sMss o ++ sScale o ++ sSack o) by rw [show sSack o = [] from by unfold sSack; rw [c2]; rfl, List.append_nil]; exact HP.out.symm)
          rw [c2] at x2
          go_wp2_with fail
          go_meet
          exact ⟨congrArg Value.string HV.out, HBW.out⟩
        · have es : sSack o = [1, 1, 4, 2] := by unfold sSack; rw [c2]; rfl
          rw [c2] at x2
          have z1 : P.size + 4 ≤ 9223372036854775807 := by omega
          have hval : P ++ ⟨#[1, 1, 4, 2]⟩ = ofB (sMss o ++ sScale o ++ sSack o) := by
            rw [← HP.out, es]
            show ofB (sMss o ++ sScale o) ++ ofB [1, 1, 4, 2] = _
            rw [ofB_app]
          have HV := Lib.hid hval
          clear hval es
          go_wp2_with fail
          go_meet
          exact ⟨congrArg Value.string HV.out, HBW.out⟩
      case rest =>
        obtain ⟨rfl, hcb⟩ := hcut
        obtain ⟨W3, hwd⟩ : ∃ x : World, x = wc := ⟨_, rfl⟩
        subst hwd
        obtain ⟨P, hP⟩ : ∃ P, ofB (sMss o ++ sScale o ++ sSack o) = P := ⟨_, rfl⟩
        have hPs : P.size ≤ 12 := by rw [← hP, ofB_size]; (try simp only [List.length_append]); omega
        rw [hP]
        have HP := Lib.hid hP
        have HBW := Lib.hid hcb
        have x4 : (W3).cell? ⟨w.heap.size, 4, none⟩ = some (.bool o.time) := HX.out _ hcb 4 _ rfl
        clear hP hcb
        go_upto_if 30 with (fail)
        go_cut [3] (fun v wx => v = .string (ofB (sMss o ++ sScale o ++ sSack o ++ sTime o)) ∧ Below w1.heap.size w1 wx)
        case first =>
          cases c3 : o.time
          · have HV := Lib.hid (show P = ofB (sMss o ++ sScale o ++ sSack o ++ sTime o) by rw [show sTime o = [] from by unfold sTime; rw [c3]; rfl, List.append_nil]; exact HP.out.symm)
            rw [c3] at x4
            go_wp2_with fail
            go_meet
            exact ⟨congrArg Value.string HV.out, HBW.out⟩
          · have es : sTime o = [1, 1, 8, 10] ++ (w4 o.val ++ w4 o.echo) := by unfold sTime; rw [c3]; rfl
            rw [c3] at x4
            have Y0 : (ofB (w4 o.val)).size = 4 := ofB_size _
            have Y1 : (ofB (w4 o.echo)).size = 4 := ofB_size _
            have Z1 : P.size + 4 ≤ 9223372036854775807 := by omega
            have Z2 : P.size + 4 + (ofB (w4 o.val)).size ≤ 9223372036854775807 := by omega
            have Z3 : P.size + 4 + (ofB (w4 o.val)).size + (ofB (w4 o.echo)).size ≤ 9223372036854775807 := by omega
            clear Y0 Y1
            have hval : P ++ ⟨#[1, 1, 8, 10]⟩ ++ ofB (w4 o.val) ++ ofB (w4 o.echo) = ofB (sMss o ++ sScale o ++ sSack o ++ sTime o) := by
              rw [← HP.out, es]
              show ofB (sMss o ++ sScale o ++ sSack o) ++ ofB [1, 1, 8, 10] ++ ofB (w4 o.val) ++ ofB (w4 o.echo) = _
              rw [ofB_app, ofB_app, ofB_app]
              simp only [List.append_assoc]
            have HV := Lib.hid hval
            clear hval es
            go_wp2_with fail
            refine wp_region_seeK 10 81 (rel9 P o.val o.echo w.heap.size) rfl (by kernel_rfl) (by kernel_rfl) (by kernel_rfl) (by kernel_rfl) (rel9_more P o.val o.echo w.heap.size) ?_ ?_
            · intro i hi
              have hi2 : i < 10 := by simpa using hi
              clear hi
              match i, hi2 with
              | 0, _ =>
                intro ρ W hb hc hg hf h0 hd
                have t3 := h0 3 (by kernel_rfl)
                clear hd h0
                go_simp
                exact ⟨rfl, Below.refl _ _⟩
              | 1, _ =>
                intro ρ W hb hc hg hf h0 hd
                have d0 : ρ (.tmp 31) = .string P := hd 0 31 (by kernel_rfl) (by kernel_rfl)
                clear hd h0
                go_simp
                first | exact ⟨rfl, Below.refl _ _⟩ | (rw [if_neg (Nat.not_lt.2 Z1)]; exact ⟨rfl, Below.refl _ _⟩)
              | 2, _ =>
                intro ρ W hb hc hg hf h0 hd
                have t1 := h0 1 (by kernel_rfl)
                clear hd h0
                go_simp
                exact ⟨rfl, Below.refl _ _⟩
              | 3, _ =>
                intro ρ W hb hc hg hf h0 hd
                have d2 : ρ (.tmp 33) = .pointer (some ⟨w.heap.size, 5, none⟩) := hd 2 33 (by kernel_rfl) (by kernel_rfl)
                have c5 := HX.out W (HBW.out.trans (hb.mono HBW.out.size)) 5 _ rfl
                clear hd h0
                go_simp
                exact ⟨rfl, Below.refl _ _⟩
              | 4, _ =>
                intro ρ W hb hc hg hf h0 hd
                have d3 : ρ (.tmp 34) = .int .u32 (o.val : Int) := hd 3 34 (by kernel_rfl) (by kernel_rfl)
                clear hd h0
                go_simp
                exact (fourR o.val W k.val).mono fun e w' ⟨he, hb⟩ => ⟨_, he, rfl, hb⟩
              | 5, _ =>
                intro ρ W hb hc hg hf h0 hd
                have d1 : ρ (.tmp 32) = .string (P ++ ⟨#[1, 1, 8, 10]⟩) := hd 1 32 (by kernel_rfl) (by kernel_rfl)
                have d4 : ρ (.tmp 35) = .string (ofB (w4 o.val)) := hd 4 35 (by kernel_rfl) (by kernel_rfl)
                clear hd h0
                go_simp
                first | exact ⟨rfl, Below.refl _ _⟩ | (rw [if_neg (Nat.not_lt.2 Z2)]; exact ⟨rfl, Below.refl _ _⟩)
              | 6, _ =>
                intro ρ W hb hc hg hf h0 hd
                have t1 := h0 1 (by kernel_rfl)
                clear hd h0
                go_simp
                exact ⟨rfl, Below.refl _ _⟩
              | 7, _ =>
                intro ρ W hb hc hg hf h0 hd
                have d6 : ρ (.tmp 37) = .pointer (some ⟨w.heap.size, 6, none⟩) := hd 6 37 (by kernel_rfl) (by kernel_rfl)
                have c6 := HX.out W (HBW.out.trans (hb.mono HBW.out.size)) 6 _ rfl
                clear hd h0
                go_simp
                exact ⟨rfl, Below.refl _ _⟩
              | 8, _ =>
                intro ρ W hb hc hg hf h0 hd
                have d7 : ρ (.tmp 38) = .int .u32 (o.echo : Int) := hd 7 38 (by kernel_rfl) (by kernel_rfl)
                clear hd h0
                go_simp
                exact (fourR o.echo W k.echo).mono fun e w' ⟨he, hb⟩ => ⟨_, he, rfl, hb⟩
              | 9, _ =>
                intro ρ W hb hc hg hf h0 hd
                have d5 : ρ (.tmp 36) = .string (P ++ ⟨#[1, 1, 8, 10]⟩ ++ ofB (w4 o.val)) := hd 5 36 (by kernel_rfl) (by kernel_rfl)
                have d8 : ρ (.tmp 39) = .string (ofB (w4 o.echo)) := hd 8 39 (by kernel_rfl) (by kernel_rfl)
                clear hd h0
                go_simp
                first | exact ⟨rfl, Below.refl _ _⟩ | (rw [if_neg (Nat.not_lt.2 Z3)]; exact ⟨rfl, Below.refl _ _⟩)
              | i + 10, hlt => exact absurd hlt (by omega)
            · intro vs W hb hall
              have h10 : vs 9 = .string (P ++ ⟨#[1, 1, 8, 10]⟩ ++ ofB (w4 o.val) ++ ofB (w4 o.echo)) := hall 9 (by omega)
              have HBQ := Lib.hid (HBW.out.trans (hb.mono HBW.out.size))
              clear hall hb
              rw [lexA_slots vs 10 [(some 31, 0), (some 32, 1), (some 33, 2), (some 34, 3), (some 35, 4), (some 36, 5), (some 37, 6), (some 38, 7), (some 39, 8), (some 40, 9)] (by kernel_rfl)]
              simp only [List.foldl_cons, List.foldl_nil, h10]
              show wpList _ _ _ [_] _ _
              go_wp2_with fail
              go_meet
              exact ⟨congrArg Value.string HV.out, HBQ.out⟩
        case rest =>
          obtain ⟨rfl, hcb⟩ := hcut
          obtain ⟨W4, hwd⟩ : ∃ x : World, x = wc := ⟨_, rfl⟩
          subst hwd
          obtain ⟨P, hP⟩ : ∃ P, ofB (sMss o ++ sScale o ++ sSack o ++ sTime o) = P := ⟨_, rfl⟩
          have hPs : P.size ≤ 24 := by rw [← hP, ofB_size]; (try simp only [List.length_append]); omega
          rw [hP]
          have HP := Lib.hid hP
          have HBW := Lib.hid hcb
          have x3 : (W4).cell? ⟨w.heap.size, 3, none⟩ = some (.slice A o.blocks.length c) := HX.out _ hcb 3 _ rfl
          clear hP hcb
          go_upto_if 44 with (fail)
          go_cut [3] (fun v wx => v = .string (ofB (sMss o ++ sScale o ++ sSack o ++ sTime o ++ sBlocks o)) ∧ Below w1.heap.size w1 wx)
          case first =>
            by_cases c4 : 0 < o.blocks.length
            · have es : sBlocks o = [1, 1, 5, 2 + 8 * o.blocks.length] ++ blkB o.blocks := if_pos c4
              have i4 : (0 : Int) < (o.blocks.length : Int) := by omega
              have e8 : (2 : Int) + 8 * (o.blocks.length : Int) = ((2 + 8 * o.blocks.length : Nat) : Int) := by omega
              have n34 : 2 + 8 * o.blocks.length ≤ 34 := by omega
              obtain ⟨nn, hnn⟩ : ∃ nn, 2 + 8 * o.blocks.length = nn := ⟨_, rfl⟩
              rw [hnn] at e8 n34 es
              obtain ⟨b, off, rfl, hbl0, hcl⟩ := HBK.out w1 (Below.refl _ _) c4
              have HX3 := Lib.hid (fun (W : World) (hW : Below w1.heap.size w1 W) => (HX.out W hW 3 (.slice (some ⟨b, off, none⟩) o.blocks.length c) rfl))
              have hcv : (convert 46 9 (.slice (some ⟨W4.heap.size, 0, none⟩) 1 1)).run Try.prog (W4.alloc (.cells #[.int .u8 (nn : Int)] 5)) = .ok (.string (ofB [nn])) (W4.alloc (.cells #[.int .u8 (nn : Int)] 5)) := lit_back Try.prog 46 9 5 Try.underlying46 Try.underlying5 Try.underlying9 [nn] (by intro z hz; simp at hz; omega) W4 5 (0, 0) _ rfl
              have y1 : (ofB [nn]).size = 1 := ofB_size _
              have z1 : P.size + 3 ≤ 9223372036854775807 := by omega
              have hq0 : P ++ ⟨#[1, 1, 5]⟩ ++ ofB [nn] = ofB (sMss o ++ sScale o ++ sSack o ++ sTime o ++ [1, 1, 5, nn] ++ blkB (o.blocks.take 0)) := by
                rw [← HP.out]
                show ofB (sMss o ++ sScale o ++ sSack o ++ sTime o) ++ ofB [1, 1, 5] ++ ofB [nn] = _
                rw [ofB_app, ofB_app, show blkB (o.blocks.take 0) = [] from rfl, List.append_nil]
                simp only [List.append_assoc, List.cons_append, List.nil_append]
              have HQ0 := Lib.hid hq0
              have HES := Lib.hid es
              have HCL := Lib.hid hcl
              have hb5 := Lib.hid (HBW.out.alloc HBW.out.size (.cells #[.int .u8 (nn : Int)] 5))
              clear hq0 es hnn hcl
              go_wp2_with fail
              obtain ⟨Q0, hQ0⟩ : ∃ Q0, P ++ ⟨#[1, 1, 5]⟩ ++ ofB [nn] = Q0 := ⟨_, rfl⟩
              rw [hQ0] at HQ0 ⊢
              clear hQ0 hcv y1 z1 x3 e8
              generalize W4.alloc (.cells #[.int .u8 (nn : Int)] 5) = W5 at hb5 ⊢
              rw [decide_eq_true c4]
              go_loopw [3, 4] (fun v i wr => ∃ (j : Nat) (Q : ByteArray), i = .int .i64 (j : Int) ∧ j ≤ o.blocks.length ∧ v = .string Q ∧ Q = ofB (sMss o ++ sScale o ++ sSack o ++ sTime o ++ [1, 1, 5, nn] ++ blkB (o.blocks.take j)) ∧ Below w1.heap.size w1 wr) (fun _ i _ => o.blocks.length - (intOf i).toNat)
              case atStart => exact ⟨0, Q0, rfl, by omega, rfl, HQ0.out, hb5.out⟩
              case round =>
                obtain ⟨j, Q, rfl, hj, rfl, hQ, hB⟩ := hrel
                have HQ := Lib.hid hQ
                have HBW := Lib.hid hB
                have hQs : Q.size ≤ 60 := by
                  rw [hQ, ofB_size]
                  simp only [List.length_append, List.length_cons, List.length_nil, blkB_len, List.length_take]
                  omega
                have x3 := HX3.out wr hB
                have hbl : b < wr.heap.size := Nat.lt_of_lt_of_le hbl0 hB.size
                clear hQ
                by_cases hlt : j < o.blocks.length
                · have hlti : (j : Int) < (o.blocks.length : Int) := by omega
                  obtain ⟨u, hu⟩ : ∃ u, o.blocks[j]? = some u := ⟨_, List.getElem?_eq_getElem hlt⟩
                  have hu4 := k.blocks u (List.mem_of_getElem? hu)
                  have d0 := (hB.cell (p := ⟨b, off + j * 2, none⟩) hbl0).trans (HCL.out j u hu).1
                  have d1 := (hB.cell (p := ⟨b, off + j * 2 + 1, none⟩) hbl0).trans (HCL.out j u hu).2
                  have HTS := Lib.hid (take_snocG hu)
                  clear hu
                  obtain ⟨f, t⟩ := u
                  obtain ⟨hf4, ht4⟩ := hu4
                  simp only at d0 d1 hf4 ht4
                  have Y0 : (ofB (w4 f)).size = 4 := ofB_size _
                  have Y1 : (ofB (w4 t)).size = 4 := ofB_size _
                  have Z1 : Q.size + (ofB (w4 f)).size ≤ 9223372036854775807 := by omega
                  have Z2 : Q.size + (ofB (w4 f)).size + (ofB (w4 t)).size ≤ 9223372036854775807 := by omega
                  have HV := Lib.hid (show Q ++ ofB (w4 f) ++ ofB (w4 t) = ofB (sMss o ++ sScale o ++ sSack o ++ sTime o ++ [1, 1, 5, nn] ++ blkB (o.blocks.take (j + 1))) by
                    rw [HQ.out, ofB_app, ofB_app, HTS.out]
                    unfold blkB
                    rw [List.flatMap_append]
                    simp only [List.flatMap_cons, List.flatMap_nil, List.append_nil, List.append_assoc])
                  clear Y0 Y1 hB
                  go_wp2_with fail
                  refine wp_region_seeK 17 81 (rel15 Q f t w.heap.size b off o.blocks.length c j) rfl (by kernel_rfl) (by kernel_rfl) (by kernel_rfl) (by kernel_rfl) (rel15_more Q f t w.heap.size b off o.blocks.length c j) ?_ ?_
                  · intro i hi
                    have hi2 : i < 17 := by simpa using hi
                    clear hi
                    match i, hi2 with
                    | 0, _ =>
                      intro ρ W hb hc hg hf h0 hd
                      have t3 := h0 3 (by kernel_rfl)
                      clear hd h0
                      go_simp
                      exact ⟨rfl, Below.refl _ _⟩
                    | 1, _ =>
                      intro ρ W hb hc hg hf h0 hd
                      have t1 := h0 1 (by kernel_rfl)
                      clear hd h0
                      go_simp
                      exact ⟨rfl, Below.refl _ _⟩
                    | 2, _ =>
                      intro ρ W hb hc hg hf h0 hd
                      have d1 : ρ (.tmp 64) = .pointer (some ⟨w.heap.size, 3, none⟩) := hd 1 64 (by kernel_rfl) (by kernel_rfl)
                      have c3 := HX3.out W (HBW.out.trans (hb.mono HBW.out.size))
                      clear hd h0
                      go_simp
                      exact ⟨rfl, Below.refl _ _⟩
                    | 3, _ =>
                      intro ρ W hb hc hg hf h0 hd
                      have t4 := h0 4 (by kernel_rfl)
                      clear hd h0
                      go_simp
                      exact ⟨rfl, Below.refl _ _⟩
                    | 4, _ =>
                      intro ρ W hb hc hg hf h0 hd
                      have d2 : ρ (.tmp 65) = .slice (some ⟨b, off, none⟩) o.blocks.length c := hd 2 65 (by kernel_rfl) (by kernel_rfl)
                      have d3 : ρ (.tmp 66) = .int .i64 (j : Int) := hd 3 66 (by kernel_rfl) (by kernel_rfl)
                      clear hd h0
                      go_simp
                      exact ⟨rfl, Below.refl _ _⟩
                    | 5, _ =>
                      intro ρ W hb hc hg hf h0 hd
                      have d4 : ρ (.tmp 67) = .pointer (some ⟨b, off + j * 2, none⟩) := hd 4 67 (by kernel_rfl) (by kernel_rfl)
                      clear hd h0
                      go_simp
                      exact ⟨rfl, Below.refl _ _⟩
                    | 6, _ =>
                      intro ρ W hb hc hg hf h0 hd
                      have d5 : ρ (.tmp 68) = .pointer (some ⟨b, off + j * 2, none⟩) := hd 5 68 (by kernel_rfl) (by kernel_rfl)
                      have e0 := (hb.cell (p := ⟨b, off + j * 2, none⟩) hbl).trans d0
                      clear hd h0
                      go_simp
                      exact ⟨rfl, Below.refl _ _⟩
                    | 7, _ =>
                      intro ρ W hb hc hg hf h0 hd
                      have d6 : ρ (.tmp 69) = .int .u32 (f : Int) := hd 6 69 (by kernel_rfl) (by kernel_rfl)
                      clear hd h0
                      go_simp
                      exact (fourR f W hf4).mono fun e w' ⟨he, hb⟩ => ⟨_, he, rfl, hb⟩
                    | 8, _ =>
                      intro ρ W hb hc hg hf h0 hd
                      have d0 : ρ (.tmp 63) = .string Q := hd 0 63 (by kernel_rfl) (by kernel_rfl)
                      have d7 : ρ (.tmp 70) = .string (ofB (w4 f)) := hd 7 70 (by kernel_rfl) (by kernel_rfl)
                      clear hd h0
                      go_simp
                      first | exact ⟨rfl, Below.refl _ _⟩ | (rw [if_neg (Nat.not_lt.2 Z1)]; exact ⟨rfl, Below.refl _ _⟩)
                    | 9, _ =>
                      intro ρ W hb hc hg hf h0 hd
                      have t1 := h0 1 (by kernel_rfl)
                      clear hd h0
                      go_simp
                      exact ⟨rfl, Below.refl _ _⟩
                    | 10, _ =>
                      intro ρ W hb hc hg hf h0 hd
                      have d9 : ρ (.tmp 72) = .pointer (some ⟨w.heap.size, 3, none⟩) := hd 9 72 (by kernel_rfl) (by kernel_rfl)
                      have c3 := HX3.out W (HBW.out.trans (hb.mono HBW.out.size))
                      clear hd h0
                      go_simp
                      exact ⟨rfl, Below.refl _ _⟩
                    | 11, _ =>
                      intro ρ W hb hc hg hf h0 hd
                      have t4 := h0 4 (by kernel_rfl)
                      clear hd h0
                      go_simp
                      exact ⟨rfl, Below.refl _ _⟩
                    | 12, _ =>
                      intro ρ W hb hc hg hf h0 hd
                      have d10 : ρ (.tmp 73) = .slice (some ⟨b, off, none⟩) o.blocks.length c := hd 10 73 (by kernel_rfl) (by kernel_rfl)
                      have d11 : ρ (.tmp 74) = .int .i64 (j : Int) := hd 11 74 (by kernel_rfl) (by kernel_rfl)
                      clear hd h0
                      go_simp
                      exact ⟨rfl, Below.refl _ _⟩
                    | 13, _ =>
                      intro ρ W hb hc hg hf h0 hd
                      have d12 : ρ (.tmp 75) = .pointer (some ⟨b, off + j * 2, none⟩) := hd 12 75 (by kernel_rfl) (by kernel_rfl)
                      clear hd h0
                      go_simp
                      exact ⟨rfl, Below.refl _ _⟩
                    | 14, _ =>
                      intro ρ W hb hc hg hf h0 hd
                      have d13 : ρ (.tmp 76) = .pointer (some ⟨b, off + j * 2 + 1, none⟩) := hd 13 76 (by kernel_rfl) (by kernel_rfl)
                      have e1 := (hb.cell (p := ⟨b, off + j * 2 + 1, none⟩) hbl).trans d1
                      clear hd h0
                      go_simp
                      exact ⟨rfl, Below.refl _ _⟩
                    | 15, _ =>
                      intro ρ W hb hc hg hf h0 hd
                      have d14 : ρ (.tmp 77) = .int .u32 (t : Int) := hd 14 77 (by kernel_rfl) (by kernel_rfl)
                      clear hd h0
                      go_simp
                      exact (fourR t W ht4).mono fun e w' ⟨he, hb⟩ => ⟨_, he, rfl, hb⟩
                    | 16, _ =>
                      intro ρ W hb hc hg hf h0 hd
                      have d8 : ρ (.tmp 71) = .string (Q ++ ofB (w4 f)) := hd 8 71 (by kernel_rfl) (by kernel_rfl)
                      have d15 : ρ (.tmp 78) = .string (ofB (w4 t)) := hd 15 78 (by kernel_rfl) (by kernel_rfl)
                      clear hd h0
                      go_simp
                      first | exact ⟨rfl, Below.refl _ _⟩ | (rw [if_neg (Nat.not_lt.2 Z2)]; exact ⟨rfl, Below.refl _ _⟩)
                    | i + 17, hlt => exact absurd hlt (by omega)
                  · intro vs W hb hall
                    have h17 : vs 16 = .string (Q ++ ofB (w4 f) ++ ofB (w4 t)) := hall 16 (by omega)
                    have HBQ := Lib.hid (HBW.out.trans (hb.mono HBW.out.size))
                    clear hall hb d0 d1 x3
                    rw [lexA_slots vs 17 [(some 63, 0), (some 64, 1), (some 65, 2), (some 66, 3), (some 67, 4), (some 68, 5), (some 69, 6), (some 70, 7), (some 71, 8), (some 72, 9), (some 73, 10), (some 74, 11), (some 75, 12), (some 76, 13), (some 77, 14), (some 78, 15), (some 79, 16)] (by kernel_rfl)]
                    simp only [List.foldl_cons, List.foldl_nil, h17]
                    show wpList _ _ _ [_] _ _
                    go_wp2_with fail
                    go_roundw
                    case rel => exact ⟨j + 1, _, by go_num, by omega, rfl, HV.out, HBQ.out⟩
                    case measure => simp only [intOf]; omega
                · obtain rfl : j = o.blocks.length := by omega
                  have HV := Lib.hid (show Q = ofB (sMss o ++ sScale o ++ sSack o ++ sTime o ++ sBlocks o) by
                    rw [HQ.out, HES.out, List.take_length]
                    simp only [List.append_assoc])
                  go_wp2_with fail
                  go_meet
                  exact ⟨congrArg Value.string HV.out, HBW.out⟩
            · have HV := Lib.hid (show P = ofB (sMss o ++ sScale o ++ sSack o ++ sTime o ++ sBlocks o) by rw [show sBlocks o = [] from if_neg c4, List.append_nil]; exact HP.out.symm)
              have i4 : ¬ (0 : Int) < (o.blocks.length : Int) := by omega
              clear c4
              go_wp2_with fail
              go_meet
              exact ⟨congrArg Value.string HV.out, HBW.out⟩
          case rest =>
            obtain ⟨rfl, hcb⟩ := hcut
            have e : rawO o = sMss o ++ sScale o ++ sSack o ++ sTime o ++ sBlocks o := by unfold rawO; simp only [List.append_assoc]
            have HE := Lib.hid e
            have HBW2 := Lib.hid (HB0.out.trans (hcb.mono HB0.out.size))
            clear e hcb
            go_wp2_with fail
            go_ret
            exact ⟨by rw [HE.out]; rfl, HBW2.out⟩
end Go.Proofs.Ytgpkckaojcodmaa.OptRaw
