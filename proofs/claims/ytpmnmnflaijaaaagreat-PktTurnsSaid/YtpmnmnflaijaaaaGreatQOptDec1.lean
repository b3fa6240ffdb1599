/-
  Laws for a proof of package pkt: 1 texts in one.
-/
import Derived.Test.YtpmnmnflaijaaaaGreatQOptFew9
import Derived.Test.YtpmnmnflaijaaaaGreatQRelL3
namespace Go.Proofs.YtpmnmnflaijaaaaGreat.OptDec
open Go.RowKit Own TupMath SumMath Litb Calm Rel RelT RelL IpMath IpRef OptMath OptRef OptPlc OptSame Boxes OptRaw OptMay OptTake OptTake5 OptTk
open Cells (CellsAt Apart put_lit)
set_option linter.unusedVariables false
set_option maxRecDepth 100000
def relDc (s X : ByteArray) (o o2 : Opn) (A : Option Addr) (b : Bool) (g n c0 c j a k m bo B0 : Nat) : Nat → Value → World → Prop
 | 0 => fun v _ => v = ov o A c
 | 1 => fun v _ => v = .string s
 | 2 => fun v _ => v = .slice (some ⟨g, 0, none⟩) n c0
 | 3 => fun v _ => v = .int .i64 (j : Int)
 | 4 => fun v _ => v = .pointer (some ⟨g, j, none⟩)
 | 5 => fun v _ => v = .int .i64 (a : Int)
 | 6 => fun v _ => v = .int .u8 (k : Int)
 | 7 => fun v _ => v = .int .i64 (k : Int)
 | 8 => fun v _ => v = .string s
 | 9 => fun v _ => v = .slice (some ⟨g, 0, none⟩) n c0
 | 10 => fun v _ => v = .int .i64 (j : Int)
 | 11 => fun v _ => v = .pointer (some ⟨g, j, none⟩)
 | 12 => fun v _ => v = .int .i64 (a : Int)
 | 13 => fun v _ => v = .int .i64 ((a : Int) + 2)
 | 14 => fun v _ => v = .slice (some ⟨g, 0, none⟩) n c0
 | 15 => fun v _ => v = .int .i64 (j : Int)
 | 16 => fun v _ => v = .pointer (some ⟨g, j, none⟩)
 | 17 => fun v _ => v = .int .i64 (a : Int)
 | 18 => fun v _ => v = .string s
 | 19 => fun v _ => v = .slice (some ⟨g, 0, none⟩) n c0
 | 20 => fun v _ => v = .int .i64 (j : Int)
 | 21 => fun v _ => v = .pointer (some ⟨g, j, none⟩)
 | 22 => fun v _ => v = .int .i64 (a : Int)
 | 23 => fun v _ => v = .int .i64 ((a : Int) + 1)
 | 24 => fun v _ => v = .int .u8 (m : Int)
 | 25 => fun v _ => v = .int .i64 (m : Int)
 | 26 => fun v _ => v = .int .i64 ((a : Int) + (m : Int))
 | 27 => fun v _ => v = .string X
 | 28 => fun v W => ∃ A' c', v = .tuple #[ov o2 A' c', .bool b] ∧ Row (fun x => bo < x) W A' o2.blocks ∧ (k ≠ 5 → A' = A ∧ c' = c)
 | 29 => fun v W => ∃ A' c', v = .tuple #[ov o2 A' c', .bool b] ∧ Row (fun x => bo < x) W A' o2.blocks ∧ (k ≠ 5 → A' = A ∧ c' = c)
 | 30 => fun v W => ∃ A' c', v = ov o2 A' c' ∧ Row (fun x => bo < x) W A' o2.blocks ∧ (k ≠ 5 → A' = A ∧ c' = c)
 | 31 => fun v _ => v = .bool b
 | 32 => fun v W => ∃ B, v = .pointer (some ⟨B, 0, none⟩) ∧ B0 ≤ B ∧ W.heap[B]? = some (.cells #[.int .u16 0, .int .i64 0, .bool false, .slice none 0 0, .bool false, .int .u32 0, .int .u32 0] 28 (0, 0))
 | _ => fun _ _ => True
theorem relDc_more (s X : ByteArray) (o o2 : Opn) (A : Option Addr) (b : Bool) (g n c0 c j a k m bo B0 : Nat) (i : Nat) (v : Value) (w w' : World) (hr : relDc s X o o2 A b g n c0 c j a k m bo B0 i v w) (hb : Below w.heap.size w w') : relDc s X o o2 A b g n c0 c j a k m bo B0 i v w' := by
 unfold relDc at hr ⊢
 split at hr <;> first
   | exact hr
   | (obtain ⟨A', c', e, hR, h5⟩ := hr
      exact ⟨A', c', e, hR.more hb, h5⟩)
   | (obtain ⟨B, e, hle, h⟩ := hr
      exact ⟨B, e, hle, box_more h hb⟩)
attribute [local go_sem] relUpon
theorem tkO_blocks (o : Opn) (k : Nat) (p : List Nat) (h : k ≠ 5) : (tkO o k p).blocks = o.blocks := by
 unfold tkO
 repeat' split
 all_goals first | rfl | (exact absurd (by assumption) h)
theorem itm_of (s : ByteArray) (a m : Nat) (hm : at0 (bz s) (a + 1) = m) (h2 : 2 ≤ m) (hn : a + m ≤ s.size) : itm (bz s) a = (at0 (bz s) a, bz (s.extract (a + 2) (a + m))) := by
 unfold itm
 rw [hm, bz_extract s _ _ hn, List.drop_take]
 congr 2
 omega
set_option maxHeartbeats 16000000 in
theorem decR7 (s : ByteArray) (w : World) (hs : s.size ≤ 1000000) : Calls Tryz.prog 53 #[.string s] w (DecOut (bz s) w) := by
 by_cases h40 : 40 < s.size
 · have HV := dec7_long (l := bz s) (by rw [bz_len]; exact h40)
   unfold DecOut
   rw [HV]
   clear HV
   have k40 : (40 : Int) < (s.size : Int) := by omega
   go_enter Tryz.func53, Tryz.ntmps53
   go_wp2
   refine bodyPost_ret (v := .tuple #[ov zeroO none 0, .int .i64 4]) ?_ rfl ⟨⟨none, 0, rfl, Row.nil _ _ _⟩, st_alloc (Below.refl _ _) _⟩
   simp [results, Tryz.f53, go_sem, zeroO]
 have k40 : ¬ (40 : Int) < (s.size : Int) := by omega
 have h40' : ¬ 40 < (bz s).length := by rw [bz_len]; exact h40
 have HPL := Lib.hid (fun W => placesR s W hs)
 have D0 := Lib.hid (CellsAt.new w #[.int .u16 0, .int .i64 0, .bool false, .slice none 0 0, .bool false, .int .u32 0, .int .u32 0] 28)
 have B0 := Lib.hid (st_alloc (Below.refl _ w) (.cells #[.int .u16 0, .int .i64 0, .bool false, .slice none 0 0, .bool false, .int .u32 0, .int .u32 0] 28))
 cases hplc : plc (bz s) 0 [] with
 | none =>
   have HV := dec7_none h40' (dec_no hplc)
   unfold DecOut
   rw [HV]
   clear HV
   go_enter Tryz.func53, Tryz.ntmps53
   go_wp2_with fail
   refine (HPL.out _).mono ?_
   rintro e wA ⟨hP, hb1⟩
   rw [hplc] at hP
   obtain rfl := hP
   have D1 := Lib.hid (D0.out.later hb1)
   have B1 := Lib.hid (st_call B0.out hb1)
   have d0 := D1.out.cell 0 _ rfl
   have f0 := D1.out.free 0 (by decide)
   have d1 := D1.out.cell 1 _ rfl
   have f1 := D1.out.free 1 (by decide)
   have d2 := D1.out.cell 2 _ rfl
   have f2 := D1.out.free 2 (by decide)
   have d3 := D1.out.cell 3 _ rfl
   have f3 := D1.out.free 3 (by decide)
   have d4 := D1.out.cell 4 _ rfl
   have f4 := D1.out.free 4 (by decide)
   have d5 := D1.out.cell 5 _ rfl
   have f5 := D1.out.free 5 (by decide)
   have d6 := D1.out.cell 6 _ rfl
   have f6 := D1.out.free 6 (by decide)
   clear hb1
   go_wp2_with fail
   obtain ⟨W9, hW9, hC9, _, hb9⟩ := D1.out.anew rfl (.int .u16 0) (.int .i64 0) (.bool false) (.slice none 0 0) (.bool false) (.int .u32 0) (.int .u32 0)
   rw [hW9]
   have e0 := hC9.cell 0 _ rfl
   have e1 := hC9.cell 1 _ rfl
   have e2 := hC9.cell 2 _ rfl
   have e3 := hC9.cell 3 _ rfl
   have e4 := hC9.cell 4 _ rfl
   have e5 := hC9.cell 5 _ rfl
   have e6 := hC9.cell 6 _ rfl
   have B9 := Lib.hid (B1.out.trans hb9)
   refine bodyPost_ret (v := .tuple #[ov zeroO none 0, .int .i64 70]) ?_ rfl ⟨⟨none, 0, rfl, Row.nil _ _ _⟩, B9.out⟩
   simp [results, Tryz.f53, go_sem, zeroO, e0, e1, e2, e3, e4, e5, e6]
 | some ps =>
   have HDEC := Lib.hid (dec_of hplc)
   have HIN := Lib.hid (plc_in (bz s) (bz s).length 0 [] ps (by omega) hplc)
   have HONCE := Lib.hid (plc_once (bz s) (bz s).length 0 [] ps (by omega) hplc).2
   have hp40 : ps.length ≤ 40 := by have := plc_few (bz s) (bz s).length 0 [] ps (by omega) hplc; omega
   have H40 := Lib.hid h40'
   clear h40'
   go_enter Tryz.func53, Tryz.ntmps53
   go_wp2_with fail
   refine (HPL.out _).mono ?_
   rintro e wA ⟨hP, hb1⟩
   rw [hplc] at hP
   obtain ⟨v, rfl, A0, c0, rfl, hI⟩ := hP
   have D1 := Lib.hid (D0.out.later hb1)
   have B1 := Lib.hid (st_call B0.out hb1)
   have HI := Lib.hid hI
   have hszA := hb1.size
   clear hb1 hI hplc hszA
   go_wp2_with fail
   refine (noneR _).mono ?_
   rintro e wB ⟨rfl, hb2⟩
   have D2 := Lib.hid ((D1.out.later hb2).later ((Below.refl _ wB).alloc (Nat.le_refl _) (.cells (oc none0 none 0) 28)))
   have B2 := Lib.hid (st_alloc (st_call B1.out hb2) (.cells (oc none0 none 0) 28))
   have HBA := Lib.hid hb2
   have C2 := Lib.hid (CellsAt.new wB (oc none0 none 0) 28)
   have hszB := hb2.size
   have hlt0 : w.heap.size < wB.heap.size := Nat.lt_of_lt_of_le D1.out.lt hszB
   clear hb2
   go_wp2_with fail
   go_loopw [7] (fun i wr => ∃ (j : Nat) (o : Opn) (A : Option Addr) (c : Nat), i = .int .i64 (j : Int) ∧ j ≤ ps.length ∧ upto (bz s) ps j = some o ∧ CellsAt wr wB.heap.size (oc o A c) ∧ Row (fun x => wB.heap.size < x) wr A o.blocks ∧
       ((∃ i x : Nat, i < j ∧ ps[i]? = some x ∧ at0 (bz s) x = 5) ∨ (o.blocks = [] ∧ A = none ∧ c = 0)) ∧ Below wB.heap.size wB wr) (fun i _ => ps.length - (intOf i).toNat)
   case atStart => exact ⟨0, none0, none, 0, rfl, by omega, upto_zero _ _, C2.out, Row.nil _ _ _, .inr ⟨rfl, rfl, rfl⟩, (Below.refl _ wB).alloc (Nat.le_refl _) _⟩
   case round =>
     obtain ⟨j, o, A, c, rfl, hj, hup, hC, hR, h5, hB⟩ := hrel
     have HUP := Lib.hid hup
     have HC := Lib.hid hC
     have HR := Lib.hid hR
     have H5 := Lib.hid h5
     have HB := Lib.hid hB
     have hrB := hB.size
     have DR := Lib.hid ((D1.out.later HBA.out).more (n := wB.heap.size) hlt0 hB)
     have BR := Lib.hid ((st_call B1.out HBA.out).trans (hB.mono (Nat.le_of_lt hlt0)))
     have HBR := Lib.hid (HBA.out.trans (hB.mono hszB))
     clear hup hC hR h5 hB
     by_cases hlt : j < ps.length
     · obtain ⟨a, haj⟩ : ∃ a, ps[j]? = some a := ⟨_, List.getElem?_eq_getElem hlt⟩
       have hli : (j : Int) < (ps.length : Int) := by omega
       have HLT := Lib.hid hlt
       obtain ⟨_, h1, h2, h3, h4, h6⟩ := HIN.out a (List.mem_of_getElem? haj)
       rw [bz_len] at h1 h2
       obtain ⟨g, hg0, hgl, hgc⟩ := HI.out (by omega)
       subst hg0
       have HGJ : Hid (∀ W, Below wr.heap.size wr W → W.cell? ⟨g, j, none⟩ = some (.int .i64 (a : Int))) := Lib.hid (fun W hb => (hb.cell (p := ⟨g, j, none⟩) (show g < _ from Nat.lt_of_lt_of_le hgl HBR.out.size)).trans ((HBR.out.cell (p := ⟨g, j, none⟩) hgl).trans (hgc j a haj)))
       have zk := at_byte s a (by omega)
       have zm := at_byte s (a + 1) (by omega)
       have qk := at_le s a
       have qm := at_le s (a + 1)
       have hm2 := right_ge h3
       have hitm := itm_of s a _ rfl hm2 h2
       have h55 : at0 (bz s) a = 5 → o.blocks = [] ∧ A = none ∧ c = 0 := fun e5 => by
         rcases H5.out with ⟨i, x, hi, hx, hx5⟩ | h
         · have hp := List.pairwise_iff_getElem.1 HONCE.out i j (by omega) hlt hi
           rw [(List.getElem?_eq_some_iff.1 hx).2, (List.getElem?_eq_some_iff.1 haj).2] at hp
           exact absurd (e5.trans hx5.symm) (hp (by rw [hx5]; rfl))
         · exact h
       obtain ⟨X, hX⟩ : ∃ X, s.extract (a + 2) (a + at0 (bz s) (a + 1)) = X := ⟨_, rfl⟩
       have hXs : X.size + 2 = at0 (bz s) (a + 1) := by rw [← hX, ByteArray.size_extract]; omega
       rw [hX] at hitm
       rw [← hXs] at h3
       have hus := upto_succ HUP.out haj
       rw [hitm, tk_is] at hus
       have hno : tkB (at0 (bz s) a) (bz X) = false → _ := fun hn => upto_none HUP.out haj (by rw [hitm, tk_is, hn]; rfl)
       obtain ⟨k, hkk⟩ : ∃ k, at0 (bz s) a = k := ⟨_, rfl⟩
       rw [hkk] at zk qk h3 h4 h6 h55 hus hno
       have HKK := Lib.hid hkk
       clear hkk
       obtain ⟨m, hm⟩ : ∃ m, at0 (bz s) (a + 1) = m := ⟨_, rfl⟩
       rw [hm] at zm qm h2 hm2 hX hXs
       have ht := fun W (hb : Below wr.heap.size wr W) => takeR (fun x => wB.heap.size < x) o A c k X W h3 h55 (HR.out.more hb) (fun b hbb => by have := hb.size; have := HC.out.lt; omega)
       obtain ⟨o2, ho2⟩ : ∃ o2, tkO o k (bz X) = o2 := ⟨_, rfl⟩
       obtain ⟨b, hbk⟩ : ∃ b, tkB k (bz X) = b := ⟨_, rfl⟩
       rw [ho2, hbk] at ht hus
       rw [hbk] at hno
       have hbl := fun h5 => tkO_blocks o k (bz X) h5
       rw [ho2] at hbl
       have HBL := Lib.hid hbl
       clear hbl
       have HT := Lib.hid ht
       have HX := Lib.hid hX
       have HUS := Lib.hid hus
       have HNO := Lib.hid hno
       have HAJ := Lib.hid haj
       have HM := Lib.hid hm
       have H55 := Lib.hid h55
       clear ht hX hus hno haj hm h55 hitm hgc h3 hXs hbk ho2 h4 h6
       have i1 : (a : Int) + 1 < (s.size : Int) := by omega
       have i0 : (a : Int) < (s.size : Int) := by omega
       have i2 : (a : Int) + (m : Int) ≤ (s.size : Int) := by omega
       have i3 : (a : Int) + 2 ≤ (a : Int) + (m : Int) := by omega
       have i4 : 0 ≤ (a : Int) + 2 := by omega
       have i5 : 0 ≤ (a : Int) + (m : Int) := by omega
       have w1 : IntKind.i64.wrap ((a : Int) + 1) = (a : Int) + 1 := by rw [IntKind.wrap_i64]; omega
       have w2 : IntKind.i64.wrap ((a : Int) + 2) = (a : Int) + 2 := by rw [IntKind.wrap_i64]; omega
       have wm : IntKind.i64.wrap ((a : Int) + (m : Int)) = (a : Int) + (m : Int) := by rw [IntKind.wrap_i64]; omega
       have wk : IntKind.i64.wrap (k : Int) = (k : Int) := by rw [IntKind.wrap_i64]; omega
       have wn : IntKind.i64.wrap (m : Int) = (m : Int) := by rw [IntKind.wrap_i64]; omega
       have t1 : ((a : Int) + 1).toNat = a + 1 := by omega
       have t2 : ((a : Int) + 2).toNat = a + 2 := by omega
       have tm : ((a : Int) + (m : Int)).toNat = a + m := by omega
       go_wp2_with fail
       refine wp_region_see_late 33 31 66 (relDc s X o o2 A b g ps.length c0 c j a k m wB.heap.size wr.heap.size) rfl (by kernel_rfl) (by kernel_rfl) (by kernel_rfl) (by kernel_rfl) (relDc_more s X o o2 A b g ps.length c0 c j a k m wB.heap.size wr.heap.size) ?_ ?_ ?_
       · intro i hi
         have hi2 : i < 33 := by simpa using hi
         clear hi
         match i, hi2 with
         | 0, _ =>
           intro ρ W hb hc hg hf h0 hd
           have t6 := h0 6 (by kernel_rfl)
           have hcc := HC.out.later hb
           have c0_ := hcc.cell 0 _ rfl
           have c1_ := hcc.cell 1 _ rfl
           have c2_ := hcc.cell 2 _ rfl
           have c3_ := hcc.cell 3 _ rfl
           have c4_ := hcc.cell 4 _ rfl
           have c5_ := hcc.cell 5 _ rfl
           have c6_ := hcc.cell 6 _ rfl
           clear hcc
           clear hd h0
           go_simp
           exact ⟨rfl, Below.refl _ _⟩
         | 1, _ =>
           intro ρ W hb hc hg hf h0 hd
           have t0 := h0 0 (by kernel_rfl)
           clear hd h0
           go_simp
           exact ⟨rfl, Below.refl _ _⟩
         | 2, _ =>
           intro ρ W hb hc hg hf h0 hd
           have t4 := h0 4 (by kernel_rfl)
           clear hd h0
           go_simp
           exact ⟨rfl, Below.refl _ _⟩
         | 3, _ =>
           intro ρ W hb hc hg hf h0 hd
           have t7 := h0 7 (by kernel_rfl)
           clear hd h0
           go_simp
           exact ⟨rfl, Below.refl _ _⟩
         | 4, _ =>
           intro ρ W hb hc hg hf h0 hd
           have d2 : ρ (.tmp 32) = .slice (some ⟨g, 0, none⟩) ps.length c0 := hd 2 32 (by kernel_rfl) (by kernel_rfl)
           have d3 : ρ (.tmp 33) = .int .i64 (j : Int) := hd 3 33 (by kernel_rfl) (by kernel_rfl)
           clear hd h0
           go_simp
           exact ⟨rfl, Below.refl _ _⟩
         | 5, _ =>
           intro ρ W hb hc hg hf h0 hd
           have d4 : ρ (.tmp 34) = .pointer (some ⟨g, j, none⟩) := hd 4 34 (by kernel_rfl) (by kernel_rfl)
           have cg := HGJ.out W hb
           clear hd h0
           go_simp
           exact ⟨rfl, Below.refl _ _⟩
         | 6, _ =>
           intro ρ W hb hc hg hf h0 hd
           have d1 : ρ (.tmp 31) = .string s := hd 1 31 (by kernel_rfl) (by kernel_rfl)
           have d5 : ρ (.tmp 35) = .int .i64 (a : Int) := hd 5 35 (by kernel_rfl) (by kernel_rfl)
           clear hd h0
           go_simp
           exact ⟨rfl, Below.refl _ _⟩
         | 7, _ =>
           intro ρ W hb hc hg hf h0 hd
           have d6 : ρ (.tmp 36) = .int .u8 (k : Int) := hd 6 36 (by kernel_rfl) (by kernel_rfl)
           clear hd h0
           go_simp
           exact ⟨rfl, Below.refl _ _⟩
         | 8, _ =>
           intro ρ W hb hc hg hf h0 hd
           have t0 := h0 0 (by kernel_rfl)
           clear hd h0
           go_simp
           exact ⟨rfl, Below.refl _ _⟩
         | 9, _ =>
           intro ρ W hb hc hg hf h0 hd
           have t4 := h0 4 (by kernel_rfl)
           clear hd h0
           go_simp
           exact ⟨rfl, Below.refl _ _⟩
         | 10, _ =>
           intro ρ W hb hc hg hf h0 hd
           have t7 := h0 7 (by kernel_rfl)
           clear hd h0
           go_simp
           exact ⟨rfl, Below.refl _ _⟩
         | 11, _ =>
           intro ρ W hb hc hg hf h0 hd
           have d9 : ρ (.tmp 39) = .slice (some ⟨g, 0, none⟩) ps.length c0 := hd 9 39 (by kernel_rfl) (by kernel_rfl)
           have d10 : ρ (.tmp 40) = .int .i64 (j : Int) := hd 10 40 (by kernel_rfl) (by kernel_rfl)
           clear hd h0
           go_simp
           exact ⟨rfl, Below.refl _ _⟩
         | 12, _ =>
           intro ρ W hb hc hg hf h0 hd
           have d11 : ρ (.tmp 41) = .pointer (some ⟨g, j, none⟩) := hd 11 41 (by kernel_rfl) (by kernel_rfl)
           have cg := HGJ.out W hb
           clear hd h0
           go_simp
           exact ⟨rfl, Below.refl _ _⟩
         | 13, _ =>
           intro ρ W hb hc hg hf h0 hd
           have d12 : ρ (.tmp 42) = .int .i64 (a : Int) := hd 12 42 (by kernel_rfl) (by kernel_rfl)
           clear hd h0
           go_simp
           exact ⟨rfl, Below.refl _ _⟩
         | 14, _ =>
           intro ρ W hb hc hg hf h0 hd
           have t4 := h0 4 (by kernel_rfl)
           clear hd h0
           go_simp
           exact ⟨rfl, Below.refl _ _⟩
         | 15, _ =>
           intro ρ W hb hc hg hf h0 hd
           have t7 := h0 7 (by kernel_rfl)
           clear hd h0
           go_simp
           exact ⟨rfl, Below.refl _ _⟩
         | 16, _ =>
           intro ρ W hb hc hg hf h0 hd
           have d14 : ρ (.tmp 44) = .slice (some ⟨g, 0, none⟩) ps.length c0 := hd 14 44 (by kernel_rfl) (by kernel_rfl)
           have d15 : ρ (.tmp 45) = .int .i64 (j : Int) := hd 15 45 (by kernel_rfl) (by kernel_rfl)
           clear hd h0
           go_simp
           exact ⟨rfl, Below.refl _ _⟩
         | 17, _ =>
           intro ρ W hb hc hg hf h0 hd
           have d16 : ρ (.tmp 46) = .pointer (some ⟨g, j, none⟩) := hd 16 46 (by kernel_rfl) (by kernel_rfl)
           have cg := HGJ.out W hb
           clear hd h0
           go_simp
           exact ⟨rfl, Below.refl _ _⟩
         | 18, _ =>
           intro ρ W hb hc hg hf h0 hd
           have t0 := h0 0 (by kernel_rfl)
           clear hd h0
           go_simp
           exact ⟨rfl, Below.refl _ _⟩
         | 19, _ =>
           intro ρ W hb hc hg hf h0 hd
           have t4 := h0 4 (by kernel_rfl)
           clear hd h0
           go_simp
           exact ⟨rfl, Below.refl _ _⟩
         | 20, _ =>
           intro ρ W hb hc hg hf h0 hd
           have t7 := h0 7 (by kernel_rfl)
           clear hd h0
           go_simp
           exact ⟨rfl, Below.refl _ _⟩
         | 21, _ =>
           intro ρ W hb hc hg hf h0 hd
           have d19 : ρ (.tmp 49) = .slice (some ⟨g, 0, none⟩) ps.length c0 := hd 19 49 (by kernel_rfl) (by kernel_rfl)
           have d20 : ρ (.tmp 50) = .int .i64 (j : Int) := hd 20 50 (by kernel_rfl) (by kernel_rfl)
           clear hd h0
           go_simp
           exact ⟨rfl, Below.refl _ _⟩
         | 22, _ =>
           intro ρ W hb hc hg hf h0 hd
           have d21 : ρ (.tmp 51) = .pointer (some ⟨g, j, none⟩) := hd 21 51 (by kernel_rfl) (by kernel_rfl)
           have cg := HGJ.out W hb
           clear hd h0
           go_simp
           exact ⟨rfl, Below.refl _ _⟩
         | 23, _ =>
           intro ρ W hb hc hg hf h0 hd
           have d22 : ρ (.tmp 52) = .int .i64 (a : Int) := hd 22 52 (by kernel_rfl) (by kernel_rfl)
           clear hd h0
           go_simp
           exact ⟨rfl, Below.refl _ _⟩
         | 24, _ =>
           intro ρ W hb hc hg hf h0 hd
           have d18 : ρ (.tmp 48) = .string s := hd 18 48 (by kernel_rfl) (by kernel_rfl)
           have d23 : ρ (.tmp 53) = .int .i64 ((a : Int) + 1) := hd 23 53 (by kernel_rfl) (by kernel_rfl)
           clear hd h0
           go_simp
           exact ⟨rfl, Below.refl _ _⟩
         | 25, _ =>
           intro ρ W hb hc hg hf h0 hd
           have d24 : ρ (.tmp 54) = .int .u8 (m : Int) := hd 24 54 (by kernel_rfl) (by kernel_rfl)
           clear hd h0
           go_simp
           exact ⟨rfl, Below.refl _ _⟩
         | 26, _ =>
           intro ρ W hb hc hg hf h0 hd
           have d17 : ρ (.tmp 47) = .int .i64 (a : Int) := hd 17 47 (by kernel_rfl) (by kernel_rfl)
           have d25 : ρ (.tmp 55) = .int .i64 (m : Int) := hd 25 55 (by kernel_rfl) (by kernel_rfl)
           clear hd h0
           go_simp
           exact ⟨rfl, Below.refl _ _⟩
         | 27, _ =>
           intro ρ W hb hc hg hf h0 hd
           have d8 : ρ (.tmp 38) = .string s := hd 8 38 (by kernel_rfl) (by kernel_rfl)
           have d13 : ρ (.tmp 43) = .int .i64 ((a : Int) + 2) := hd 13 43 (by kernel_rfl) (by kernel_rfl)
           have d26 : ρ (.tmp 56) = .int .i64 ((a : Int) + (m : Int)) := hd 26 56 (by kernel_rfl) (by kernel_rfl)
           clear hd h0
           have hXX := HX.out
           go_simp
           exact ⟨rfl, Below.refl _ _⟩
         | 28, _ =>
           intro ρ W hb hc hg hf h0 hd
           have d0 : ρ (.tmp 30) = ov o A c := hd 0 30 (by kernel_rfl) (by kernel_rfl)
           have d7 : ρ (.tmp 37) = .int .i64 (k : Int) := hd 7 37 (by kernel_rfl) (by kernel_rfl)
           have d27 : ρ (.tmp 57) = .string X := hd 27 57 (by kernel_rfl) (by kernel_rfl)
           clear hd h0
           have HTW := HT.out W hb
           go_simp
           exact HTW.mono fun e w' h => by
             obtain ⟨⟨A', c', he, hR, h5⟩, hw⟩ := h
             exact ⟨_, he, ⟨A', c', rfl, hR, h5⟩, hw⟩
         | 29, _ =>
           intro ρ W hb hc hg hf h0 hd
           have dp28 : ∃ A' c', (ρ (.tmp 58)) = .tuple #[ov o2 A' c', .bool b] ∧ Row (fun x => wB.heap.size < x) W A' o2.blocks ∧ (k ≠ 5 → A' = A ∧ c' = c) := hd 28 58 (by kernel_rfl) (by kernel_rfl)
           clear hd h0
           go_simp
           obtain ⟨A', c', he, hR, h5⟩ := dp28
           rw [he]
           exact ⟨⟨A', c', rfl, hR, h5⟩, Below.refl _ _⟩
         | 30, _ =>
           intro ρ W hb hc hg hf h0 hd
           have dp29 : ∃ A' c', (ρ (.tmp 29)) = .tuple #[ov o2 A' c', .bool b] ∧ Row (fun x => wB.heap.size < x) W A' o2.blocks ∧ (k ≠ 5 → A' = A ∧ c' = c) := hd 29 29 (by kernel_rfl) (by kernel_rfl)
           clear hd h0
           go_simp
           obtain ⟨A', c', he, hR, h5⟩ := dp29
           rw [he]
           exact ⟨⟨A', c', rfl, hR, h5⟩, Below.refl _ _⟩
         | 31, _ =>
           intro ρ W hb hc hg hf h0 hd
           have dp29 : ∃ A' c', (ρ (.tmp 29)) = .tuple #[ov o2 A' c', .bool b] ∧ Row (fun x => wB.heap.size < x) W A' o2.blocks ∧ (k ≠ 5 → A' = A ∧ c' = c) := hd 29 29 (by kernel_rfl) (by kernel_rfl)
           clear hd h0
           go_simp
           obtain ⟨A', c', he, hR, h5⟩ := dp29
           rw [he]
           exact ⟨rfl, Below.refl _ _⟩
         | 32, _ =>
           intro ρ W hb hc hg hf h0 hd
           clear hd h0
           go_simp
           exact ⟨⟨_, rfl, hb.size, box_new _ _⟩, st_alloc (Below.refl _ _) _⟩
         | i + 33, hlt => exact absurd hlt (by omega)
       · intro vs W hb hall
         obtain ⟨A', c', h30, hR, h5'⟩ : ∃ A' c', vs 30 = ov o2 A' c' ∧ Row (fun x => wB.heap.size < x) W A' o2.blocks ∧ (k ≠ 5 → A' = A ∧ c' = c) := hall 30 (by omega)
         have h31 : vs 31 = .bool b := hall 31 (by omega)
         obtain ⟨B, h32, hBle, hbox⟩ : ∃ B, vs 32 = .pointer (some ⟨B, 0, none⟩) ∧ wr.heap.size ≤ B ∧ W.heap[B]? = some (.cells #[.int .u16 0, .int .i64 0, .bool false, .slice none 0 0, .bool false, .int .u32 0, .int .u32 0] 28 (0, 0)) := hall 32 (by omega)
         clear hall
         rw [lexA_slots vs 33 [(some 30, 0), (some 31, 1), (some 32, 2), (some 33, 3), (some 34, 4), (some 35, 5), (some 36, 6), (some 37, 7), (some 38, 8), (some 39, 9), (some 40, 10), (some 41, 11), (some 42, 12), (some 43, 13), (some 44, 14), (some 45, 15), (some 46, 16), (some 47, 17), (some 48, 18), (some 49, 19), (some 50, 20), (some 51, 21), (some 52, 22), (some 53, 23), (some 54, 24), (some 55, 25), (some 56, 26), (some 57, 27), (some 58, 28), (some 29, 29), (some 59, 30), (some 60, 31), (some 8, 32)] (by kernel_rfl)]
         simp only [List.foldl_cons, List.foldl_nil, h30, h32, h31]
         show wpList _ _ _ [_, _] _ _
         simp only [put_lit, List.set_cons_succ, List.set_cons_zero]
         have hbx : CellsAt W B #[.int .u16 0, .int .i64 0, .bool false, .slice none 0 0, .bool false, .int .u32 0, .int .u32 0] := CellsAt.of_block hbox
         have hbwr := HB.out.size
         have hlt1 := HC.out.lt
         have c0 := hbx.cell 0 _ rfl
         have f0 := hbx.free 0 (show 0 < 7 by decide)
         have c1 := hbx.cell 1 _ rfl
         have f1 := hbx.free 1 (show 1 < 7 by decide)
         have c2 := hbx.cell 2 _ rfl
         have f2 := hbx.free 2 (show 2 < 7 by decide)
         have c3 := hbx.cell 3 _ rfl
         have f3 := hbx.free 3 (show 3 < 7 by decide)
         have c4 := hbx.cell 4 _ rfl
         have f4 := hbx.free 4 (show 4 < 7 by decide)
         have c5 := hbx.cell 5 _ rfl
         have f5 := hbx.free 5 (show 5 < 7 by decide)
         have c6 := hbx.cell 6 _ rfl
         have f6 := hbx.free 6 (show 6 < 7 by decide)
         have HBX := Lib.hid hbx
         have HHB := Lib.hid hb
         have HRR := Lib.hid hR
         have H5P := Lib.hid h5'
         clear hbx hb hR h5' hbox h30 h32 h31
         cases b
         · go_upto_region 11 with (fail)
           obtain ⟨W9, hW9, hC9, hA9, hb9⟩ := HBX.out.anew rfl (.int .u16 (o2.mss : Int)) (.int .i64 o2.scale) (.bool o2.sack) (.slice A' o2.blocks.length c') (.bool o2.time) (.int .u32 (o2.val : Int)) (.int .u32 (o2.echo : Int))
           rw [hW9]
           clear c0 f0 c1 f1 c2 f2 c3 f3 c4 f4 c5 f5 c6 f6 hW9
           have R9 := Lib.hid (HRR.out.apartZ B 0 (HBX.out.cell 0 _ rfl) hA9)
           have D9 := Lib.hid ((DR.out.later HHB.out).apart (by omega) hA9)
           have C9 := Lib.hid ((HC.out.later HHB.out).apart (by omega) hA9)
           have B9 := Lib.hid ((BR.out.trans (HHB.out.mono BR.out.size)).trans (hb9.mono (by omega)))
           have BB9 := Lib.hid ((HB.out.trans (HHB.out.mono HB.out.size)).trans (hb9.mono (by omega)))
           have X9 := Lib.hid hC9
           clear hC9 hA9 hb9
           have HV := Lib.hid (dec7_none H40.out (HDEC.out.trans (HNO.out rfl)))
           have d0 := D9.out.cell 0 _ rfl
           have g0 := D9.out.free 0 (show 0 < 7 by decide)
           have d1 := D9.out.cell 1 _ rfl
           have g1 := D9.out.free 1 (show 1 < 7 by decide)
           have d2 := D9.out.cell 2 _ rfl
           have g2 := D9.out.free 2 (show 2 < 7 by decide)
           have d3 := D9.out.cell 3 _ rfl
           have g3 := D9.out.free 3 (show 3 < 7 by decide)
           have d4 := D9.out.cell 4 _ rfl
           have g4 := D9.out.free 4 (show 4 < 7 by decide)
           have d5 := D9.out.cell 5 _ rfl
           have g5 := D9.out.free 5 (show 5 < 7 by decide)
           have d6 := D9.out.cell 6 _ rfl
           have g6 := D9.out.free 6 (show 6 < 7 by decide)
           go_wp2_with fail
           obtain ⟨W8, hW8, hC8, _, hb8⟩ := D9.out.anew rfl (.int .u16 0) (.int .i64 0) (.bool false) (.slice none 0 0) (.bool false) (.int .u32 0) (.int .u32 0)
           rw [hW8]
           have e0 := hC8.cell 0 _ rfl
           have e1 := hC8.cell 1 _ rfl
           have e2 := hC8.cell 2 _ rfl
           have e3 := hC8.cell 3 _ rfl
           have e4 := hC8.cell 4 _ rfl
           have e5 := hC8.cell 5 _ rfl
           have e6 := hC8.cell 6 _ rfl
           have B8 := Lib.hid (B9.out.trans hb8)
           refine bodyPost_ret (v := .tuple #[ov zeroO none 0, .int .i64 70]) ?_ rfl ⟨?_, B8.out⟩
           · simp [results, Tryz.f53, go_sem, zeroO, e0, e1, e2, e3, e4, e5, e6]
           · rw [HV.out]
             exact ⟨none, 0, rfl, Row.nil _ _ _⟩
         · go_upto_region 11 with (fail)
           obtain ⟨W9, hW9, hC9, hA9, hb9⟩ := HBX.out.anew rfl (.int .u16 (o2.mss : Int)) (.int .i64 o2.scale) (.bool o2.sack) (.slice A' o2.blocks.length c') (.bool o2.time) (.int .u32 (o2.val : Int)) (.int .u32 (o2.echo : Int))
           rw [hW9]
           clear c0 f0 c1 f1 c2 f2 c3 f3 c4 f4 c5 f5 c6 f6 hW9
           have R9 := Lib.hid (HRR.out.apartZ B 0 (HBX.out.cell 0 _ rfl) hA9)
           have D9 := Lib.hid ((DR.out.later HHB.out).apart (by omega) hA9)
           have C9 := Lib.hid ((HC.out.later HHB.out).apart (by omega) hA9)
           have B9 := Lib.hid ((BR.out.trans (HHB.out.mono BR.out.size)).trans (hb9.mono (by omega)))
           have BB9 := Lib.hid ((HB.out.trans (HHB.out.mono HB.out.size)).trans (hb9.mono (by omega)))
           have X9 := Lib.hid hC9
           clear hC9 hA9 hb9
           have c0 := X9.out.cell 0 _ rfl
           have f0 := X9.out.free 0 (show 0 < 7 by decide)
           have c1 := X9.out.cell 1 _ rfl
           have f1 := X9.out.free 1 (show 1 < 7 by decide)
           have c2 := X9.out.cell 2 _ rfl
           have f2 := X9.out.free 2 (show 2 < 7 by decide)
           have c3 := X9.out.cell 3 _ rfl
           have f3 := X9.out.free 3 (show 3 < 7 by decide)
           have c4 := X9.out.cell 4 _ rfl
           have f4 := X9.out.free 4 (show 4 < 7 by decide)
           have c5 := X9.out.cell 5 _ rfl
           have f5 := X9.out.free 5 (show 5 < 7 by decide)
           have c6 := X9.out.cell 6 _ rfl
           have f6 := X9.out.free 6 (show 6 < 7 by decide)
           have d0 := C9.out.cell 0 _ rfl
           have g0 := C9.out.free 0 (show 0 < 7 by decide)
           have d1 := C9.out.cell 1 _ rfl
           have g1 := C9.out.free 1 (show 1 < 7 by decide)
           have d2 := C9.out.cell 2 _ rfl
           have g2 := C9.out.free 2 (show 2 < 7 by decide)
           have d3 := C9.out.cell 3 _ rfl
           have g3 := C9.out.free 3 (show 3 < 7 by decide)
           have d4 := C9.out.cell 4 _ rfl
           have g4 := C9.out.free 4 (show 4 < 7 by decide)
           have d5 := C9.out.cell 5 _ rfl
           have g5 := C9.out.free 5 (show 5 < 7 by decide)
           have d6 := C9.out.cell 6 _ rfl
           have g6 := C9.out.free 6 (show 6 < 7 by decide)
           go_wp2_with fail
           obtain ⟨W8, hW8, hC8, hA8, hb8⟩ := C9.out.anew rfl (.int .u16 (o2.mss : Int)) (.int .i64 o2.scale) (.bool o2.sack) (.slice A' o2.blocks.length c') (.bool o2.time) (.int .u32 (o2.val : Int)) (.int .u32 (o2.echo : Int))
           rw [hW8]
           have HC8 := Lib.hid hC8
           have HA8 := Lib.hid hA8
           have Hb8 := Lib.hid hb8
           clear hC8 hA8 hb8 hW8
           go_roundw
           case rel =>
             refine ⟨j + 1, o2, A', c', by go_num, HLT.out, HUS.out, HC8.out, R9.out.apart wB.heap.size (fun x h => Nat.ne_of_gt h) HA8.out, ?_, BB9.out.trans Hb8.out⟩
             by_cases k5 : k = 5
             · exact .inl ⟨j, a, by omega, HAJ.out, HKK.out.trans k5⟩
             · obtain ⟨rfl, rfl⟩ := H5P.out k5
               rcases H5.out with ⟨i, x, hi, hx⟩ | ⟨h1, h2, h3⟩
               · exact .inl ⟨i, x, by omega, hx⟩
               · exact .inr ⟨(HBL.out k5).trans h1, h2, h3⟩
           case measure => have := HLT.out; simp [intOf]; omega
       · intro vs W hb hall
         obtain ⟨A', c', h30, hR, h5'⟩ : ∃ A' c', vs 30 = ov o2 A' c' ∧ Row (fun x => wB.heap.size < x) W A' o2.blocks ∧ (k ≠ 5 → A' = A ∧ c' = c) := hall 30 (by omega) (by omega)
         obtain ⟨A'', c'', h29, _, _⟩ : ∃ A' c', vs 29 = .tuple #[ov o2 A' c', .bool b] ∧ Row (fun x => wB.heap.size < x) W A' o2.blocks ∧ (k ≠ 5 → A' = A ∧ c' = c) := hall 29 (by omega) (by omega)
         obtain ⟨B, h32, hBle, hbox⟩ : ∃ B, vs 32 = .pointer (some ⟨B, 0, none⟩) ∧ wr.heap.size ≤ B ∧ W.heap[B]? = some (.cells #[.int .u16 0, .int .i64 0, .bool false, .slice none 0 0, .bool false, .int .u32 0, .int .u32 0] 28 (0, 0)) := hall 32 (by omega) (by omega)
         clear hall
         rw [lexA_slots vs 33 [(some 30, 0), (some 31, 1), (some 32, 2), (some 33, 3), (some 34, 4), (some 35, 5), (some 36, 6), (some 37, 7), (some 38, 8), (some 39, 9), (some 40, 10), (some 41, 11), (some 42, 12), (some 43, 13), (some 44, 14), (some 45, 15), (some 46, 16), (some 47, 17), (some 48, 18), (some 49, 19), (some 50, 20), (some 51, 21), (some 52, 22), (some 53, 23), (some 54, 24), (some 55, 25), (some 56, 26), (some 57, 27), (some 58, 28), (some 29, 29), (some 59, 30), (some 60, 31), (some 8, 32)] (by kernel_rfl)]
         simp only [List.foldl_cons, List.foldl_nil, h30, h32, h29]
         show wpList _ _ _ [_, _, _] _ _
         simp only [put_lit, List.set_cons_succ, List.set_cons_zero]
         have hbx : CellsAt W B #[.int .u16 0, .int .i64 0, .bool false, .slice none 0 0, .bool false, .int .u32 0, .int .u32 0] := CellsAt.of_block hbox
         have hbwr := HB.out.size
         have hlt1 := HC.out.lt
         have c0 := hbx.cell 0 _ rfl
         have f0 := hbx.free 0 (show 0 < 7 by decide)
         have c1 := hbx.cell 1 _ rfl
         have f1 := hbx.free 1 (show 1 < 7 by decide)
         have c2 := hbx.cell 2 _ rfl
         have f2 := hbx.free 2 (show 2 < 7 by decide)
         have c3 := hbx.cell 3 _ rfl
         have f3 := hbx.free 3 (show 3 < 7 by decide)
         have c4 := hbx.cell 4 _ rfl
         have f4 := hbx.free 4 (show 4 < 7 by decide)
         have c5 := hbx.cell 5 _ rfl
         have f5 := hbx.free 5 (show 5 < 7 by decide)
         have c6 := hbx.cell 6 _ rfl
         have f6 := hbx.free 6 (show 6 < 7 by decide)
         have HBX := Lib.hid hbx
         have HHB := Lib.hid hb
         have HRR := Lib.hid hR
         have H5P := Lib.hid h5'
         clear hbx hb hR h5' hbox h30 h32 h29
         cases b
         · go_upto_region 11 with (fail)
           obtain ⟨W9, hW9, hC9, hA9, hb9⟩ := HBX.out.anew rfl (.int .u16 (o2.mss : Int)) (.int .i64 o2.scale) (.bool o2.sack) (.slice A' o2.blocks.length c') (.bool o2.time) (.int .u32 (o2.val : Int)) (.int .u32 (o2.echo : Int))
           rw [hW9]
           clear c0 f0 c1 f1 c2 f2 c3 f3 c4 f4 c5 f5 c6 f6 hW9
           have R9 := Lib.hid (HRR.out.apartZ B 0 (HBX.out.cell 0 _ rfl) hA9)
           have D9 := Lib.hid ((DR.out.later HHB.out).apart (by omega) hA9)
           have C9 := Lib.hid ((HC.out.later HHB.out).apart (by omega) hA9)
           have B9 := Lib.hid ((BR.out.trans (HHB.out.mono BR.out.size)).trans (hb9.mono (by omega)))
           have BB9 := Lib.hid ((HB.out.trans (HHB.out.mono HB.out.size)).trans (hb9.mono (by omega)))
           have X9 := Lib.hid hC9
           clear hC9 hA9 hb9
           have HV := Lib.hid (dec7_none H40.out (HDEC.out.trans (HNO.out rfl)))
           have d0 := D9.out.cell 0 _ rfl
           have g0 := D9.out.free 0 (show 0 < 7 by decide)
           have d1 := D9.out.cell 1 _ rfl
           have g1 := D9.out.free 1 (show 1 < 7 by decide)
           have d2 := D9.out.cell 2 _ rfl
           have g2 := D9.out.free 2 (show 2 < 7 by decide)
           have d3 := D9.out.cell 3 _ rfl
           have g3 := D9.out.free 3 (show 3 < 7 by decide)
           have d4 := D9.out.cell 4 _ rfl
           have g4 := D9.out.free 4 (show 4 < 7 by decide)
           have d5 := D9.out.cell 5 _ rfl
           have g5 := D9.out.free 5 (show 5 < 7 by decide)
           have d6 := D9.out.cell 6 _ rfl
           have g6 := D9.out.free 6 (show 6 < 7 by decide)
           go_wp2_with fail
           obtain ⟨W8, hW8, hC8, _, hb8⟩ := D9.out.anew rfl (.int .u16 0) (.int .i64 0) (.bool false) (.slice none 0 0) (.bool false) (.int .u32 0) (.int .u32 0)
           rw [hW8]
           have e0 := hC8.cell 0 _ rfl
           have e1 := hC8.cell 1 _ rfl
           have e2 := hC8.cell 2 _ rfl
           have e3 := hC8.cell 3 _ rfl
           have e4 := hC8.cell 4 _ rfl
           have e5 := hC8.cell 5 _ rfl
           have e6 := hC8.cell 6 _ rfl
           have B8 := Lib.hid (B9.out.trans hb8)
           refine bodyPost_ret (v := .tuple #[ov zeroO none 0, .int .i64 70]) ?_ rfl ⟨?_, B8.out⟩
           · simp [results, Tryz.f53, go_sem, zeroO, e0, e1, e2, e3, e4, e5, e6]
           · rw [HV.out]
             exact ⟨none, 0, rfl, Row.nil _ _ _⟩
         · go_upto_region 11 with (fail)
           obtain ⟨W9, hW9, hC9, hA9, hb9⟩ := HBX.out.anew rfl (.int .u16 (o2.mss : Int)) (.int .i64 o2.scale) (.bool o2.sack) (.slice A' o2.blocks.length c') (.bool o2.time) (.int .u32 (o2.val : Int)) (.int .u32 (o2.echo : Int))
           rw [hW9]
           clear c0 f0 c1 f1 c2 f2 c3 f3 c4 f4 c5 f5 c6 f6 hW9
           have R9 := Lib.hid (HRR.out.apartZ B 0 (HBX.out.cell 0 _ rfl) hA9)
           have D9 := Lib.hid ((DR.out.later HHB.out).apart (by omega) hA9)
           have C9 := Lib.hid ((HC.out.later HHB.out).apart (by omega) hA9)
           have B9 := Lib.hid ((BR.out.trans (HHB.out.mono BR.out.size)).trans (hb9.mono (by omega)))
           have BB9 := Lib.hid ((HB.out.trans (HHB.out.mono HB.out.size)).trans (hb9.mono (by omega)))
           have X9 := Lib.hid hC9
           clear hC9 hA9 hb9
           have c0 := X9.out.cell 0 _ rfl
           have f0 := X9.out.free 0 (show 0 < 7 by decide)
           have c1 := X9.out.cell 1 _ rfl
           have f1 := X9.out.free 1 (show 1 < 7 by decide)
           have c2 := X9.out.cell 2 _ rfl
           have f2 := X9.out.free 2 (show 2 < 7 by decide)
           have c3 := X9.out.cell 3 _ rfl
           have f3 := X9.out.free 3 (show 3 < 7 by decide)
           have c4 := X9.out.cell 4 _ rfl
           have f4 := X9.out.free 4 (show 4 < 7 by decide)
           have c5 := X9.out.cell 5 _ rfl
           have f5 := X9.out.free 5 (show 5 < 7 by decide)
           have c6 := X9.out.cell 6 _ rfl
           have f6 := X9.out.free 6 (show 6 < 7 by decide)
           have d0 := C9.out.cell 0 _ rfl
           have g0 := C9.out.free 0 (show 0 < 7 by decide)
           have d1 := C9.out.cell 1 _ rfl
           have g1 := C9.out.free 1 (show 1 < 7 by decide)
           have d2 := C9.out.cell 2 _ rfl
           have g2 := C9.out.free 2 (show 2 < 7 by decide)
           have d3 := C9.out.cell 3 _ rfl
           have g3 := C9.out.free 3 (show 3 < 7 by decide)
           have d4 := C9.out.cell 4 _ rfl
           have g4 := C9.out.free 4 (show 4 < 7 by decide)
           have d5 := C9.out.cell 5 _ rfl
           have g5 := C9.out.free 5 (show 5 < 7 by decide)
           have d6 := C9.out.cell 6 _ rfl
           have g6 := C9.out.free 6 (show 6 < 7 by decide)
           go_wp2_with fail
           obtain ⟨W8, hW8, hC8, hA8, hb8⟩ := C9.out.anew rfl (.int .u16 (o2.mss : Int)) (.int .i64 o2.scale) (.bool o2.sack) (.slice A' o2.blocks.length c') (.bool o2.time) (.int .u32 (o2.val : Int)) (.int .u32 (o2.echo : Int))
           rw [hW8]
           have HC8 := Lib.hid hC8
           have HA8 := Lib.hid hA8
           have Hb8 := Lib.hid hb8
           clear hC8 hA8 hb8 hW8
           go_roundw
           case rel =>
             refine ⟨j + 1, o2, A', c', by go_num, HLT.out, HUS.out, HC8.out, R9.out.apart wB.heap.size (fun x h => Nat.ne_of_gt h) HA8.out, ?_, BB9.out.trans Hb8.out⟩
             by_cases k5 : k = 5
             · exact .inl ⟨j, a, by omega, HAJ.out, HKK.out.trans k5⟩
             · obtain ⟨rfl, rfl⟩ := H5P.out k5
               rcases H5.out with ⟨i, x, hi, hx⟩ | ⟨h1, h2, h3⟩
               · exact .inl ⟨i, x, by omega, hx⟩
               · exact .inr ⟨(HBL.out k5).trans h1, h2, h3⟩
           case measure => have := HLT.out; simp [intOf]; omega
     · obtain rfl : j = ps.length := by omega
       have hli : ¬ ((ps.length : Nat) : Int) < (ps.length : Int) := by omega
       have HV := Lib.hid (dec7_some H40.out (HDEC.out.trans (by have h := HUP.out; unfold upto at h; rw [List.take_of_length_le (Nat.le_refl _)] at h; exact h)))
       have c0 := HC.out.cell 0 _ rfl
       have f0 := HC.out.free 0 (show 0 < 7 by decide)
       have c1 := HC.out.cell 1 _ rfl
       have f1 := HC.out.free 1 (show 1 < 7 by decide)
       have c2 := HC.out.cell 2 _ rfl
       have f2 := HC.out.free 2 (show 2 < 7 by decide)
       have c3 := HC.out.cell 3 _ rfl
       have f3 := HC.out.free 3 (show 3 < 7 by decide)
       have c4 := HC.out.cell 4 _ rfl
       have f4 := HC.out.free 4 (show 4 < 7 by decide)
       have c5 := HC.out.cell 5 _ rfl
       have f5 := HC.out.free 5 (show 5 < 7 by decide)
       have c6 := HC.out.cell 6 _ rfl
       have f6 := HC.out.free 6 (show 6 < 7 by decide)
       have d0 := DR.out.cell 0 _ rfl
       have g0 := DR.out.free 0 (show 0 < 7 by decide)
       have d1 := DR.out.cell 1 _ rfl
       have g1 := DR.out.free 1 (show 1 < 7 by decide)
       have d2 := DR.out.cell 2 _ rfl
       have g2 := DR.out.free 2 (show 2 < 7 by decide)
       have d3 := DR.out.cell 3 _ rfl
       have g3 := DR.out.free 3 (show 3 < 7 by decide)
       have d4 := DR.out.cell 4 _ rfl
       have g4 := DR.out.free 4 (show 4 < 7 by decide)
       have d5 := DR.out.cell 5 _ rfl
       have g5 := DR.out.free 5 (show 5 < 7 by decide)
       have d6 := DR.out.cell 6 _ rfl
       have g6 := DR.out.free 6 (show 6 < 7 by decide)
       go_wp2_with fail
       obtain ⟨W8, hW8, hC8, hA8, hb8⟩ := DR.out.anew rfl (.int .u16 (o.mss : Int)) (.int .i64 o.scale) (.bool o.sack) (.slice A o.blocks.length c) (.bool o.time) (.int .u32 (o.val : Int)) (.int .u32 (o.echo : Int))
       rw [hW8]
       have e0 := hC8.cell 0 _ rfl
       have e1 := hC8.cell 1 _ rfl
       have e2 := hC8.cell 2 _ rfl
       have e3 := hC8.cell 3 _ rfl
       have e4 := hC8.cell 4 _ rfl
       have e5 := hC8.cell 5 _ rfl
       have e6 := hC8.cell 6 _ rfl
       have B8 := Lib.hid (BR.out.trans hb8)
       have R8 := Lib.hid ((HR.out.apart w.heap.size (fun x h => Nat.ne_of_gt (Nat.lt_trans hlt0 h)) hA8).imp (fun x h => Nat.le_of_lt (Nat.lt_trans hlt0 h)) : Row (fun b => w.heap.size ≤ b) W8 A o.blocks)
       refine bodyPost_ret (v := .tuple #[ov o A c, .int .i64 0]) ?_ rfl ⟨?_, B8.out⟩
       · simp [results, Tryz.f53, go_sem, e0, e1, e2, e3, e4, e5, e6]
       · rw [HV.out]
         exact ⟨A, c, rfl, R8.out⟩
end Go.Proofs.YtpmnmnflaijaaaaGreat.OptDec
