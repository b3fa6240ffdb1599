/-
  Laws for a proof of package pkt: 1 texts in one.
-/
import Derived.Test.YtpmnmnflaijaaaaGreatQIpD2
import Derived.Laws.EntriesVeiled
namespace Go.Proofs.YtpmnmnflaijaaaaGreat.IpDD
open Go.RowKit TupMath SumMath IpMath Litb Calm Rel RelT IpRef IpHead IpEnc IpDec Num SumWords SumStrs SumOf IpP IpD
set_option linter.unusedVariables false
set_option maxRecDepth 100000
structure Two (B : Nat) (W : World) : Prop where
 box : W.heap[B]? = some (.cells #[.int .u32 0, .int .u32 0, .int .u8 0, .int .u8 0, .int .u8 0, .int .u16 0, .bool false] 59 (0, 0))
 tab : W.heap[B + 1]? = some (.cells FT 120 (0, 0))
theorem Two.lt {B : Nat} {W : World} (h : Two B W) : B + 1 < W.heap.size := (Array.getElem?_eq_some_iff.1 h.tab).1
theorem Two.more {B : Nat} {W W' : World} (h : Two B W) (hb : Below W.heap.size W W') : Two B W' := by
 have := h.lt
 exact ⟨(hb.block B (by omega)).trans h.box, (hb.block (B + 1) (by omega)).trans h.tab⟩
theorem Two.at_ {B : Nat} {W : World} (h : Two B W) (j : Nat) (v : Value) (hv : FT[j]? = some v) : W.cell? ⟨B + 1, j, none⟩ = some v := by
 rw [World.cell?, h.tab]
 simpa using hv
theorem two_new (w : World) : Two w.heap.size ((w.alloc (.cells #[.int .u32 0, .int .u32 0, .int .u8 0, .int .u8 0, .int .u8 0, .int .u16 0, .bool false] 59)).alloc (.cells FT 120)) := by
 refine ⟨?_, ?_⟩
 · rw [show ((w.alloc (.cells #[.int .u32 0, .int .u32 0, .int .u8 0, .int .u8 0, .int .u8 0, .int .u16 0, .bool false] 59)).alloc (.cells FT 120)).heap[w.heap.size]? = (w.alloc (.cells #[.int .u32 0, .int .u32 0, .int .u8 0, .int .u8 0, .int .u8 0, .int .u16 0, .bool false] 59)).heap[w.heap.size]? from ((Below.refl _ (w.alloc (.cells #[.int .u32 0, .int .u32 0, .int .u8 0, .int .u8 0, .int .u8 0, .int .u16 0, .bool false] 59))).alloc (Nat.le_refl _) _).block w.heap.size (by simp)]
   exact alloc_own w _
 · have h := alloc_own (w.alloc (.cells #[.int .u32 0, .int .u32 0, .int .u8 0, .int .u8 0, .int .u8 0, .int .u16 0, .bool false] 59)) (.cells FT 120)
   rw [World.size_alloc] at h
   exact h
theorem twenty {s : ByteArray} {k : Nat} (h : ∀ j, j < k → bad (bz s) j = false) (hk : 0 < k) : 20 ≤ s.size := by
 have h0 := h 0 hk
 unfold bad at h0
 rw [bz_len] at h0
 have := of_decide_eq_false h0
 omega
def relDD (s : ByteArray) : Nat → Value → World → Prop
 | 0 => fun v _ => v = .string s
 | 1 => fun v _ => v = hv (rd (bz s))
 | 2 => fun v _ => v = .string s
 | 3 => fun v _ => v = .string (s.extract 20 s.size)
 | 4 => fun v _ => v = .string (s.extract 20 s.size)
 | _ => fun _ _ => True
theorem relDD_more (s : ByteArray) (i : Nat) (v : Value) (w w' : World) (hr : relDD s i v w) (hb : Below w.heap.size w w') : relDD s i v w' := by
 unfold relDD at hr ⊢
 split at hr <;> exact hr
attribute [local go_sem] relUpon
set_option maxHeartbeats 16000000 in
theorem decP (s : ByteArray) (w : World) (hs : s.size ≤ 1000000) : Calls Tryz.prog 39 #[.string s] w fun e w' => e = .returned (decV s) ∧ Below w.heap.size w w' := by
 have T1 := Lib.hid (two_new w)
 have BW := Lib.hid (st_alloc (st_alloc (Below.refl _ w) (.cells #[.int .u32 0, .int .u32 0, .int .u8 0, .int .u8 0, .int .u8 0, .int .u16 0, .bool false] 59)) (.cells FT 120))
 go_enter Tryz.func39, Tryz.ntmps39
 go_wp2_with fail
 refine (faultsP _).mono ?_
 rintro e w1 ⟨rfl, hw1⟩
 rw [← hw1] at T1 BW
 clear hw1
 go_wp2_with fail
 go_loopw [9] (fun i wr => ∃ k : Nat, i = .int .i64 (k : Int) ∧ k ≤ 6 ∧ (∀ j, j < k → bad (bz s) j = false) ∧ Two w.heap.size wr ∧ Below w.heap.size w wr) (fun i _ => 6 - (intOf i).toNat)
 case atStart => exact ⟨0, rfl, by omega, fun j hj => absurd hj (by omega), T1.out, BW.out⟩
 case round =>
   obtain ⟨k, rfl, hk, hall, hT, hB⟩ := hrel
   have HALL := Lib.hid hall
   have HT := Lib.hid hT
   have HB := Lib.hid hB
   clear hall hT hB
   by_cases c0 : k = 0
   · subst c0
     have d0 : wr.cell? ⟨w.heap.size + 1, 0, none⟩ = some (.int .i64 50) := HT.out.at_ 0 _ rfl
     have d1 : wr.cell? ⟨w.heap.size + 1, 1, none⟩ = some (.func (.func 99) #[] #[]) := HT.out.at_ 1 _ rfl
     go_wp2_with fail
     have T1 := Lib.hid (HT.out.more ((Below.refl _ wr).alloc (Nat.le_refl _) (.cells #[.int .i64 50, .func (.func 99) #[] #[]] 120)))
     have B1 := Lib.hid (st_alloc HB.out (.cells #[.int .i64 50, .func (.func 99) #[] #[]] 120))
     have g0 : (wr.alloc (.cells #[.int .i64 50, .func (.func 99) #[] #[]] 120)).cell? ⟨wr.heap.size, 0, none⟩ = some (.int .i64 50) := World.cell?_alloc_mark wr _ _ (0, 0) 0
     have hz1 : (wr.alloc (.cells #[.int .i64 50, .func (.func 99) #[] #[]] 120)).heap.size = wr.heap.size + 1 := World.size_alloc _ _
     have hlt := HT.out.lt
     clear d0 d1
     generalize wr.alloc (.cells #[.int .i64 50, .func (.func 99) #[] #[]] 120) = w1 at T1 B1 g0 hz1 ⊢
     have C := f0P s w1 hs
     cases hbad : bad (bz s) 0
     · rw [hbad] at C
       refine C.mono ?_
       rintro e wq ⟨rfl, hb⟩
       have T2 := Lib.hid (T1.out.more hb)
       have B2 := Lib.hid (st_call B1.out hb)
       have HBAD := Lib.hid hbad
       clear hb C g0 hz1 hbad hlt
       go_wp2_with fail
       go_roundw
       case rel => exact ⟨1, by go_num, by omega, fun j hj => by rcases Nat.lt_succ_iff_lt_or_eq.1 hj with hj | rfl; exact HALL.out j hj; exact HBAD.out, T2.out, B2.out⟩
       case measure => simp [intOf]
     · rw [hbad] at C
       have HE := Lib.hid (err_of (bz_le s) 0 (by omega) HALL.out hbad)
       refine C.mono ?_
       rintro e wq ⟨rfl, hb⟩
       have T2 := T1.out.more hb
       have B2 := Lib.hid (st_call B1.out hb)
       have g1 := (hb.cell (p := ⟨wr.heap.size, 0, none⟩) (by rw [hz1]; show wr.heap.size < _; omega)).trans g0
       obtain ⟨fz, cz⟩ := box7 wq w.heap.size T2.box
       clear hb C g0 hz1 hbad T1 B1
       have hne : ¬ wr.heap.size = w.heap.size := by omega
       have hne2 : ¬ w.heap.size = wr.heap.size := by omega
       have f0 := fz 0
       have c0 := cz 0 _ rfl
       have f1 := fz 1
       have c1 := cz 1 _ rfl
       have f2 := fz 2
       have c2 := cz 2 _ rfl
       have f3 := fz 3
       have c3 := cz 3 _ rfl
       have f4 := fz 4
       have c4 := cz 4 _ rfl
       have f5 := fz 5
       have c5 := cz 5 _ rfl
       have f6 := fz 6
       have c6 := cz 6 _ rfl
       have CZ := Lib.hid cz
       clear cz fz
       go_wp2_with fail
       go_region
       all_goals go_wp2
       all_goals
         obtain ⟨W2, hW2, ez, hb2⟩ := set7 wq w.heap.size (.int .u32 0) (.int .u32 0) (.int .u8 0) (.int .u8 0) (.int .u8 0) (.int .u16 0) (.bool false) (fun j hj => ⟨_, CZ.out j _ (Array.getElem?_eq_getElem (by simpa using hj))⟩)
         rw [hW2]
         have e0 := ez 0 _ rfl
         have e1 := ez 1 _ rfl
         have e2 := ez 2 _ rfl
         have e3 := ez 3 _ rfl
         have e4 := ez 4 _ rfl
         have e5 := ez 5 _ rfl
         have e6 := ez 6 _ rfl
         refine bodyPost_ret (v := .tuple #[hv zero, .string ⟨#[]⟩, .int .i64 50]) ?_ rfl ?_
         · simp [results, Tryz.f39, go_sem, e0, e1, e2, e3, e4, e5, e6, zero]
         · exact ⟨by rw [decV, HE.out]; rfl, st_drew (B2.out.trans hb2)⟩
   by_cases c1 : k = 1
   · subst c1
     have d0 : wr.cell? ⟨w.heap.size + 1, 2, none⟩ = some (.int .i64 51) := HT.out.at_ 2 _ rfl
     have d1 : wr.cell? ⟨w.heap.size + 1, 3, none⟩ = some (.func (.func 100) #[] #[]) := HT.out.at_ 3 _ rfl
     go_wp2_with fail
     have T1 := Lib.hid (HT.out.more ((Below.refl _ wr).alloc (Nat.le_refl _) (.cells #[.int .i64 51, .func (.func 100) #[] #[]] 120)))
     have B1 := Lib.hid (st_alloc HB.out (.cells #[.int .i64 51, .func (.func 100) #[] #[]] 120))
     have g0 : (wr.alloc (.cells #[.int .i64 51, .func (.func 100) #[] #[]] 120)).cell? ⟨wr.heap.size, 0, none⟩ = some (.int .i64 51) := World.cell?_alloc_mark wr _ _ (0, 0) 0
     have hz1 : (wr.alloc (.cells #[.int .i64 51, .func (.func 100) #[] #[]] 120)).heap.size = wr.heap.size + 1 := World.size_alloc _ _
     have hlt := HT.out.lt
     clear d0 d1
     generalize wr.alloc (.cells #[.int .i64 51, .func (.func 100) #[] #[]] 120) = w1 at T1 B1 g0 hz1 ⊢
     have C := f1P s w1 (twenty HALL.out (by omega)) hs
     cases hbad : bad (bz s) 1
     · rw [hbad] at C
       refine C.mono ?_
       rintro e wq ⟨rfl, hb⟩
       have T2 := Lib.hid (T1.out.more hb)
       have B2 := Lib.hid (st_call B1.out hb)
       have HBAD := Lib.hid hbad
       clear hb C g0 hz1 hbad hlt
       go_wp2_with fail
       go_roundw
       case rel => exact ⟨2, by go_num, by omega, fun j hj => by rcases Nat.lt_succ_iff_lt_or_eq.1 hj with hj | rfl; exact HALL.out j hj; exact HBAD.out, T2.out, B2.out⟩
       case measure => simp [intOf]
     · rw [hbad] at C
       have HE := Lib.hid (err_of (bz_le s) 1 (by omega) HALL.out hbad)
       refine C.mono ?_
       rintro e wq ⟨rfl, hb⟩
       have T2 := T1.out.more hb
       have B2 := Lib.hid (st_call B1.out hb)
       have g1 := (hb.cell (p := ⟨wr.heap.size, 0, none⟩) (by rw [hz1]; show wr.heap.size < _; omega)).trans g0
       obtain ⟨fz, cz⟩ := box7 wq w.heap.size T2.box
       clear hb C g0 hz1 hbad T1 B1
       have hne : ¬ wr.heap.size = w.heap.size := by omega
       have hne2 : ¬ w.heap.size = wr.heap.size := by omega
       have f0 := fz 0
       have c0 := cz 0 _ rfl
       have f1 := fz 1
       have c1 := cz 1 _ rfl
       have f2 := fz 2
       have c2 := cz 2 _ rfl
       have f3 := fz 3
       have c3 := cz 3 _ rfl
       have f4 := fz 4
       have c4 := cz 4 _ rfl
       have f5 := fz 5
       have c5 := cz 5 _ rfl
       have f6 := fz 6
       have c6 := cz 6 _ rfl
       have CZ := Lib.hid cz
       clear cz fz
       go_wp2_with fail
       go_region
       all_goals go_wp2
       all_goals
         obtain ⟨W2, hW2, ez, hb2⟩ := set7 wq w.heap.size (.int .u32 0) (.int .u32 0) (.int .u8 0) (.int .u8 0) (.int .u8 0) (.int .u16 0) (.bool false) (fun j hj => ⟨_, CZ.out j _ (Array.getElem?_eq_getElem (by simpa using hj))⟩)
         rw [hW2]
         have e0 := ez 0 _ rfl
         have e1 := ez 1 _ rfl
         have e2 := ez 2 _ rfl
         have e3 := ez 3 _ rfl
         have e4 := ez 4 _ rfl
         have e5 := ez 5 _ rfl
         have e6 := ez 6 _ rfl
         refine bodyPost_ret (v := .tuple #[hv zero, .string ⟨#[]⟩, .int .i64 51]) ?_ rfl ?_
         · simp [results, Tryz.f39, go_sem, e0, e1, e2, e3, e4, e5, e6, zero]
         · exact ⟨by rw [decV, HE.out]; rfl, st_drew (B2.out.trans hb2)⟩
   by_cases c2 : k = 2
   · subst c2
     have d0 : wr.cell? ⟨w.heap.size + 1, 4, none⟩ = some (.int .i64 52) := HT.out.at_ 4 _ rfl
     have d1 : wr.cell? ⟨w.heap.size + 1, 5, none⟩ = some (.func (.func 101) #[] #[]) := HT.out.at_ 5 _ rfl
     go_wp2_with fail
     have T1 := Lib.hid (HT.out.more ((Below.refl _ wr).alloc (Nat.le_refl _) (.cells #[.int .i64 52, .func (.func 101) #[] #[]] 120)))
     have B1 := Lib.hid (st_alloc HB.out (.cells #[.int .i64 52, .func (.func 101) #[] #[]] 120))
     have g0 : (wr.alloc (.cells #[.int .i64 52, .func (.func 101) #[] #[]] 120)).cell? ⟨wr.heap.size, 0, none⟩ = some (.int .i64 52) := World.cell?_alloc_mark wr _ _ (0, 0) 0
     have hz1 : (wr.alloc (.cells #[.int .i64 52, .func (.func 101) #[] #[]] 120)).heap.size = wr.heap.size + 1 := World.size_alloc _ _
     have hlt := HT.out.lt
     clear d0 d1
     generalize wr.alloc (.cells #[.int .i64 52, .func (.func 101) #[] #[]] 120) = w1 at T1 B1 g0 hz1 ⊢
     have C := f2P s w1 (twenty HALL.out (by omega)) hs
     cases hbad : bad (bz s) 2
     · rw [hbad] at C
       refine C.mono ?_
       rintro e wq ⟨rfl, hb⟩
       have T2 := Lib.hid (T1.out.more hb)
       have B2 := Lib.hid (st_call B1.out hb)
       have HBAD := Lib.hid hbad
       clear hb C g0 hz1 hbad hlt
       go_wp2_with fail
       go_roundw
       case rel => exact ⟨3, by go_num, by omega, fun j hj => by rcases Nat.lt_succ_iff_lt_or_eq.1 hj with hj | rfl; exact HALL.out j hj; exact HBAD.out, T2.out, B2.out⟩
       case measure => simp [intOf]
     · rw [hbad] at C
       have HE := Lib.hid (err_of (bz_le s) 2 (by omega) HALL.out hbad)
       refine C.mono ?_
       rintro e wq ⟨rfl, hb⟩
       have T2 := T1.out.more hb
       have B2 := Lib.hid (st_call B1.out hb)
       have g1 := (hb.cell (p := ⟨wr.heap.size, 0, none⟩) (by rw [hz1]; show wr.heap.size < _; omega)).trans g0
       obtain ⟨fz, cz⟩ := box7 wq w.heap.size T2.box
       clear hb C g0 hz1 hbad T1 B1
       have hne : ¬ wr.heap.size = w.heap.size := by omega
       have hne2 : ¬ w.heap.size = wr.heap.size := by omega
       have f0 := fz 0
       have c0 := cz 0 _ rfl
       have f1 := fz 1
       have c1 := cz 1 _ rfl
       have f2 := fz 2
       have c2 := cz 2 _ rfl
       have f3 := fz 3
       have c3 := cz 3 _ rfl
       have f4 := fz 4
       have c4 := cz 4 _ rfl
       have f5 := fz 5
       have c5 := cz 5 _ rfl
       have f6 := fz 6
       have c6 := cz 6 _ rfl
       have CZ := Lib.hid cz
       clear cz fz
       go_wp2_with fail
       go_region
       all_goals go_wp2
       all_goals
         obtain ⟨W2, hW2, ez, hb2⟩ := set7 wq w.heap.size (.int .u32 0) (.int .u32 0) (.int .u8 0) (.int .u8 0) (.int .u8 0) (.int .u16 0) (.bool false) (fun j hj => ⟨_, CZ.out j _ (Array.getElem?_eq_getElem (by simpa using hj))⟩)
         rw [hW2]
         have e0 := ez 0 _ rfl
         have e1 := ez 1 _ rfl
         have e2 := ez 2 _ rfl
         have e3 := ez 3 _ rfl
         have e4 := ez 4 _ rfl
         have e5 := ez 5 _ rfl
         have e6 := ez 6 _ rfl
         refine bodyPost_ret (v := .tuple #[hv zero, .string ⟨#[]⟩, .int .i64 52]) ?_ rfl ?_
         · simp [results, Tryz.f39, go_sem, e0, e1, e2, e3, e4, e5, e6, zero]
         · exact ⟨by rw [decV, HE.out]; rfl, st_drew (B2.out.trans hb2)⟩
   by_cases c3 : k = 3
   · subst c3
     have d0 : wr.cell? ⟨w.heap.size + 1, 6, none⟩ = some (.int .i64 53) := HT.out.at_ 6 _ rfl
     have d1 : wr.cell? ⟨w.heap.size + 1, 7, none⟩ = some (.func (.func 102) #[] #[]) := HT.out.at_ 7 _ rfl
     go_wp2_with fail
     have T1 := Lib.hid (HT.out.more ((Below.refl _ wr).alloc (Nat.le_refl _) (.cells #[.int .i64 53, .func (.func 102) #[] #[]] 120)))
     have B1 := Lib.hid (st_alloc HB.out (.cells #[.int .i64 53, .func (.func 102) #[] #[]] 120))
     have g0 : (wr.alloc (.cells #[.int .i64 53, .func (.func 102) #[] #[]] 120)).cell? ⟨wr.heap.size, 0, none⟩ = some (.int .i64 53) := World.cell?_alloc_mark wr _ _ (0, 0) 0
     have hz1 : (wr.alloc (.cells #[.int .i64 53, .func (.func 102) #[] #[]] 120)).heap.size = wr.heap.size + 1 := World.size_alloc _ _
     have hlt := HT.out.lt
     clear d0 d1
     generalize wr.alloc (.cells #[.int .i64 53, .func (.func 102) #[] #[]] 120) = w1 at T1 B1 g0 hz1 ⊢
     have C := f3P s w1 (twenty HALL.out (by omega)) hs
     cases hbad : bad (bz s) 3
     · rw [hbad] at C
       refine C.mono ?_
       rintro e wq ⟨rfl, hb⟩
       have T2 := Lib.hid (T1.out.more hb)
       have B2 := Lib.hid (st_call B1.out hb)
       have HBAD := Lib.hid hbad
       clear hb C g0 hz1 hbad hlt
       go_wp2_with fail
       go_roundw
       case rel => exact ⟨4, by go_num, by omega, fun j hj => by rcases Nat.lt_succ_iff_lt_or_eq.1 hj with hj | rfl; exact HALL.out j hj; exact HBAD.out, T2.out, B2.out⟩
       case measure => simp [intOf]
     · rw [hbad] at C
       have HE := Lib.hid (err_of (bz_le s) 3 (by omega) HALL.out hbad)
       refine C.mono ?_
       rintro e wq ⟨rfl, hb⟩
       have T2 := T1.out.more hb
       have B2 := Lib.hid (st_call B1.out hb)
       have g1 := (hb.cell (p := ⟨wr.heap.size, 0, none⟩) (by rw [hz1]; show wr.heap.size < _; omega)).trans g0
       obtain ⟨fz, cz⟩ := box7 wq w.heap.size T2.box
       clear hb C g0 hz1 hbad T1 B1
       have hne : ¬ wr.heap.size = w.heap.size := by omega
       have hne2 : ¬ w.heap.size = wr.heap.size := by omega
       have f0 := fz 0
       have c0 := cz 0 _ rfl
       have f1 := fz 1
       have c1 := cz 1 _ rfl
       have f2 := fz 2
       have c2 := cz 2 _ rfl
       have f3 := fz 3
       have c3 := cz 3 _ rfl
       have f4 := fz 4
       have c4 := cz 4 _ rfl
       have f5 := fz 5
       have c5 := cz 5 _ rfl
       have f6 := fz 6
       have c6 := cz 6 _ rfl
       have CZ := Lib.hid cz
       clear cz fz
       go_wp2_with fail
       go_region
       all_goals go_wp2
       all_goals
         obtain ⟨W2, hW2, ez, hb2⟩ := set7 wq w.heap.size (.int .u32 0) (.int .u32 0) (.int .u8 0) (.int .u8 0) (.int .u8 0) (.int .u16 0) (.bool false) (fun j hj => ⟨_, CZ.out j _ (Array.getElem?_eq_getElem (by simpa using hj))⟩)
         rw [hW2]
         have e0 := ez 0 _ rfl
         have e1 := ez 1 _ rfl
         have e2 := ez 2 _ rfl
         have e3 := ez 3 _ rfl
         have e4 := ez 4 _ rfl
         have e5 := ez 5 _ rfl
         have e6 := ez 6 _ rfl
         refine bodyPost_ret (v := .tuple #[hv zero, .string ⟨#[]⟩, .int .i64 53]) ?_ rfl ?_
         · simp [results, Tryz.f39, go_sem, e0, e1, e2, e3, e4, e5, e6, zero]
         · exact ⟨by rw [decV, HE.out]; rfl, st_drew (B2.out.trans hb2)⟩
   by_cases c4 : k = 4
   · subst c4
     have d0 : wr.cell? ⟨w.heap.size + 1, 8, none⟩ = some (.int .i64 55) := HT.out.at_ 8 _ rfl
     have d1 : wr.cell? ⟨w.heap.size + 1, 9, none⟩ = some (.func (.func 103) #[] #[]) := HT.out.at_ 9 _ rfl
     go_wp2_with fail
     have T1 := Lib.hid (HT.out.more ((Below.refl _ wr).alloc (Nat.le_refl _) (.cells #[.int .i64 55, .func (.func 103) #[] #[]] 120)))
     have B1 := Lib.hid (st_alloc HB.out (.cells #[.int .i64 55, .func (.func 103) #[] #[]] 120))
     have g0 : (wr.alloc (.cells #[.int .i64 55, .func (.func 103) #[] #[]] 120)).cell? ⟨wr.heap.size, 0, none⟩ = some (.int .i64 55) := World.cell?_alloc_mark wr _ _ (0, 0) 0
     have hz1 : (wr.alloc (.cells #[.int .i64 55, .func (.func 103) #[] #[]] 120)).heap.size = wr.heap.size + 1 := World.size_alloc _ _
     have hlt := HT.out.lt
     clear d0 d1
     generalize wr.alloc (.cells #[.int .i64 55, .func (.func 103) #[] #[]] 120) = w1 at T1 B1 g0 hz1 ⊢
     have C := f4P s w1 (twenty HALL.out (by omega)) hs
     cases hbad : bad (bz s) 4
     · rw [hbad] at C
       refine C.mono ?_
       rintro e wq ⟨rfl, hb⟩
       have T2 := Lib.hid (T1.out.more hb)
       have B2 := Lib.hid (st_call B1.out hb)
       have HBAD := Lib.hid hbad
       clear hb C g0 hz1 hbad hlt
       go_wp2_with fail
       go_roundw
       case rel => exact ⟨5, by go_num, by omega, fun j hj => by rcases Nat.lt_succ_iff_lt_or_eq.1 hj with hj | rfl; exact HALL.out j hj; exact HBAD.out, T2.out, B2.out⟩
       case measure => simp [intOf]
     · rw [hbad] at C
       have HE := Lib.hid (err_of (bz_le s) 4 (by omega) HALL.out hbad)
       refine C.mono ?_
       rintro e wq ⟨rfl, hb⟩
       have T2 := T1.out.more hb
       have B2 := Lib.hid (st_call B1.out hb)
       have g1 := (hb.cell (p := ⟨wr.heap.size, 0, none⟩) (by rw [hz1]; show wr.heap.size < _; omega)).trans g0
       obtain ⟨fz, cz⟩ := box7 wq w.heap.size T2.box
       clear hb C g0 hz1 hbad T1 B1
       have hne : ¬ wr.heap.size = w.heap.size := by omega
       have hne2 : ¬ w.heap.size = wr.heap.size := by omega
       have f0 := fz 0
       have c0 := cz 0 _ rfl
       have f1 := fz 1
       have c1 := cz 1 _ rfl
       have f2 := fz 2
       have c2 := cz 2 _ rfl
       have f3 := fz 3
       have c3 := cz 3 _ rfl
       have f4 := fz 4
       have c4 := cz 4 _ rfl
       have f5 := fz 5
       have c5 := cz 5 _ rfl
       have f6 := fz 6
       have c6 := cz 6 _ rfl
       have CZ := Lib.hid cz
       clear cz fz
       go_wp2_with fail
       go_region
       all_goals go_wp2
       all_goals
         obtain ⟨W2, hW2, ez, hb2⟩ := set7 wq w.heap.size (.int .u32 0) (.int .u32 0) (.int .u8 0) (.int .u8 0) (.int .u8 0) (.int .u16 0) (.bool false) (fun j hj => ⟨_, CZ.out j _ (Array.getElem?_eq_getElem (by simpa using hj))⟩)
         rw [hW2]
         have e0 := ez 0 _ rfl
         have e1 := ez 1 _ rfl
         have e2 := ez 2 _ rfl
         have e3 := ez 3 _ rfl
         have e4 := ez 4 _ rfl
         have e5 := ez 5 _ rfl
         have e6 := ez 6 _ rfl
         refine bodyPost_ret (v := .tuple #[hv zero, .string ⟨#[]⟩, .int .i64 55]) ?_ rfl ?_
         · simp [results, Tryz.f39, go_sem, e0, e1, e2, e3, e4, e5, e6, zero]
         · exact ⟨by rw [decV, HE.out]; rfl, st_drew (B2.out.trans hb2)⟩
   by_cases c5 : k = 5
   · subst c5
     have d0 : wr.cell? ⟨w.heap.size + 1, 10, none⟩ = some (.int .i64 54) := HT.out.at_ 10 _ rfl
     have d1 : wr.cell? ⟨w.heap.size + 1, 11, none⟩ = some (.func (.func 105) #[] #[]) := HT.out.at_ 11 _ rfl
     go_wp2_with fail
     have T1 := Lib.hid (HT.out.more ((Below.refl _ wr).alloc (Nat.le_refl _) (.cells #[.int .i64 54, .func (.func 105) #[] #[]] 120)))
     have B1 := Lib.hid (st_alloc HB.out (.cells #[.int .i64 54, .func (.func 105) #[] #[]] 120))
     have g0 : (wr.alloc (.cells #[.int .i64 54, .func (.func 105) #[] #[]] 120)).cell? ⟨wr.heap.size, 0, none⟩ = some (.int .i64 54) := World.cell?_alloc_mark wr _ _ (0, 0) 0
     have hz1 : (wr.alloc (.cells #[.int .i64 54, .func (.func 105) #[] #[]] 120)).heap.size = wr.heap.size + 1 := World.size_alloc _ _
     have hlt := HT.out.lt
     clear d0 d1
     generalize wr.alloc (.cells #[.int .i64 54, .func (.func 105) #[] #[]] 120) = w1 at T1 B1 g0 hz1 ⊢
     have C := f5P s w1 (twenty HALL.out (by omega)) hs
     cases hbad : bad (bz s) 5
     · rw [hbad] at C
       refine C.mono ?_
       rintro e wq ⟨rfl, hb⟩
       have T2 := Lib.hid (T1.out.more hb)
       have B2 := Lib.hid (st_call B1.out hb)
       have HBAD := Lib.hid hbad
       clear hb C g0 hz1 hbad hlt
       go_wp2_with fail
       go_roundw
       case rel => exact ⟨6, by go_num, by omega, fun j hj => by rcases Nat.lt_succ_iff_lt_or_eq.1 hj with hj | rfl; exact HALL.out j hj; exact HBAD.out, T2.out, B2.out⟩
       case measure => simp [intOf]
     · rw [hbad] at C
       have HE := Lib.hid (err_of (bz_le s) 5 (by omega) HALL.out hbad)
       refine C.mono ?_
       rintro e wq ⟨rfl, hb⟩
       have T2 := T1.out.more hb
       have B2 := Lib.hid (st_call B1.out hb)
       have g1 := (hb.cell (p := ⟨wr.heap.size, 0, none⟩) (by rw [hz1]; show wr.heap.size < _; omega)).trans g0
       obtain ⟨fz, cz⟩ := box7 wq w.heap.size T2.box
       clear hb C g0 hz1 hbad T1 B1
       have hne : ¬ wr.heap.size = w.heap.size := by omega
       have hne2 : ¬ w.heap.size = wr.heap.size := by omega
       have f0 := fz 0
       have c0 := cz 0 _ rfl
       have f1 := fz 1
       have c1 := cz 1 _ rfl
       have f2 := fz 2
       have c2 := cz 2 _ rfl
       have f3 := fz 3
       have c3 := cz 3 _ rfl
       have f4 := fz 4
       have c4 := cz 4 _ rfl
       have f5 := fz 5
       have c5 := cz 5 _ rfl
       have f6 := fz 6
       have c6 := cz 6 _ rfl
       have CZ := Lib.hid cz
       clear cz fz
       go_wp2_with fail
       go_region
       all_goals go_wp2
       all_goals
         obtain ⟨W2, hW2, ez, hb2⟩ := set7 wq w.heap.size (.int .u32 0) (.int .u32 0) (.int .u8 0) (.int .u8 0) (.int .u8 0) (.int .u16 0) (.bool false) (fun j hj => ⟨_, CZ.out j _ (Array.getElem?_eq_getElem (by simpa using hj))⟩)
         rw [hW2]
         have e0 := ez 0 _ rfl
         have e1 := ez 1 _ rfl
         have e2 := ez 2 _ rfl
         have e3 := ez 3 _ rfl
         have e4 := ez 4 _ rfl
         have e5 := ez 5 _ rfl
         have e6 := ez 6 _ rfl
         refine bodyPost_ret (v := .tuple #[hv zero, .string ⟨#[]⟩, .int .i64 54]) ?_ rfl ?_
         · simp [results, Tryz.f39, go_sem, e0, e1, e2, e3, e4, e5, e6, zero]
         · exact ⟨by rw [decV, HE.out]; rfl, st_drew (B2.out.trans hb2)⟩
   obtain rfl : k = 6 := by omega
   have h20 := twenty HALL.out (by omega)
   obtain ⟨herr, _, h7⟩ | ⟨i, hi⟩ := err_none HALL.out
   rotate_left
   · exact absurd (at_le s i) (by omega)
   have HE := Lib.hid herr
   have HH := Lib.hid fun W => headP s W h20 hs h7
   have HX := Lib.hid (show (s.extract 20 s.size).size ≤ 1000000 by rw [ByteArray.size_extract]; omega)
   have hs20 : (20 : Int) ≤ (s.size : Int) := by omega
   have hlt := HT.out.lt
   clear herr h7
   go_wp2_with fail
   refine wp_region_see_tail 5 26 (relDD s) rfl (by kernel_rfl) (by kernel_rfl) (by kernel_rfl) (by kernel_rfl) (relDD_more s) ?_ ?_
   · intro i hi
     have hi2 : i < 5 := by simpa using hi
     clear hi
     match i, hi2 with
     | 0, _ =>
       intro ρ W hb hc hg hf h0 hd
       have t0 := h0 0 (by kernel_rfl)
       clear hd h0
       go_simp
       exact ⟨rfl, Below.refl _ _⟩
     | 1, _ =>
       intro ρ W hb hc hg hf h0 hd
       have d0 : ρ (.tmp 21) = .string s := hd 0 21 (by kernel_rfl) (by kernel_rfl)
       clear hd h0
       go_simp
       exact (HH.out W).mono fun e w' ⟨he, hb⟩ => ⟨_, he, rfl, hb⟩
     | 2, _ =>
       intro ρ W hb hc hg hf h0 hd
       have t0 := h0 0 (by kernel_rfl)
       clear hd h0
       go_simp
       exact ⟨rfl, Below.refl _ _⟩
     | 3, _ =>
       intro ρ W hb hc hg hf h0 hd
       have d2 : ρ (.tmp 23) = .string s := hd 2 23 (by kernel_rfl) (by kernel_rfl)
       clear hd h0
       go_simp
       exact ⟨rfl, Below.refl _ _⟩
     | 4, _ =>
       intro ρ W hb hc hg hf h0 hd
       have d3 : ρ (.tmp 24) = .string (s.extract 20 s.size) := hd 3 24 (by kernel_rfl) (by kernel_rfl)
       clear hd h0
       go_simp
       exact (cloneP _ W HX.out).mono fun e w' ⟨he, hb⟩ => ⟨_, he, rfl, hb⟩
     | i + 5, hlt => exact absurd hlt (by omega)
   · intro vs W hb hall
     have v1 : vs 1 = hv (rd (bz s)) := hall 1 (by omega)
     have v4 : vs 4 = .string (s.extract 20 s.size) := hall 4 (by omega)
     clear hall
     rw [lexA_slots vs 5 [(some 21, 0), (some 22, 1), (some 23, 2), (some 24, 3), (some 25, 4)] (by kernel_rfl)]
     simp only [List.foldl_cons, List.foldl_nil, v1, v4]
     show wpList _ _ _ [_, _, _] _ _
     have T2 := HT.out.more hb
     obtain ⟨fz, cz⟩ := box7 W w.heap.size T2.box
     have HBX := Lib.hid (st_call HB.out hb)
     clear hb
     have f0 := fz 0
     have c0 := cz 0 _ rfl
     have f1 := fz 1
     have c1 := cz 1 _ rfl
     have f2 := fz 2
     have c2 := cz 2 _ rfl
     have f3 := fz 3
     have c3 := cz 3 _ rfl
     have f4 := fz 4
     have c4 := cz 4 _ rfl
     have f5 := fz 5
     have c5 := cz 5 _ rfl
     have f6 := fz 6
     have c6 := cz 6 _ rfl
     have CZ := Lib.hid cz
     clear cz fz
     obtain ⟨hh, hhh⟩ : ∃ hh, rd (bz s) = hh := ⟨_, rfl⟩
     rw [hhh] at v1 ⊢
     have HHH := Lib.hid hhh
     clear hhh
     go_wp2_with fail
     obtain ⟨W1, hW1, dz, hb1⟩ := set7 W w.heap.size (.int .u32 (hh.src : Int)) (.int .u32 (hh.dst : Int)) (.int .u8 (hh.proto : Int)) (.int .u8 (hh.ttl : Int)) (.int .u8 (hh.tos : Int)) (.int .u16 (hh.id : Int)) (.bool hh.df) (fun j hj => ⟨_, CZ.out j _ (Array.getElem?_eq_getElem (by simpa using hj))⟩)
     rw [hW1]
     have d0 := dz 0 _ rfl
     have d1 := dz 1 _ rfl
     have d2 := dz 2 _ rfl
     have d3 := dz 3 _ rfl
     have d4 := dz 4 _ rfl
     have d5 := dz 5 _ rfl
     have d6 := dz 6 _ rfl
     refine bodyPost_ret (v := .tuple #[hv hh, .string (s.extract 20 s.size), .int .i64 0]) ?_ rfl ?_
     · simp [results, Tryz.f39, go_sem, d0, d1, d2, d3, d4, d5, d6]
     · exact ⟨by rw [decV, HE.out, HHH.out]; rfl, HBX.out.trans hb1⟩
end Go.Proofs.YtpmnmnflaijaaaaGreat.IpDD
