/-
  Laws for a proof of package pkt: 2 texts in one.
-/
import Derived.Test.YtpmnmnflaijaaaaGreatQOptPD1
import Derived.Test.YtpmnmnflaijaaaaGreatQOptTurn10
import Derived.Lib.LazyBuf
namespace Go.Proofs.YtpmnmnflaijaaaaGreat.OptPU
open Go.Proofs.YtpmnmnflaijaaaaGreat.Own
open Cells (CellsAt set7 put_lit Apart)
open Go.RowKit Go.Shelf TupMath SumMath Litb Calm Rel RelIn RelTIn IpMath IpRef Num OptMath OptRef OptPlc OptSame Boxes OptMay OptTake5 OptTk OptDec OptTurnM OptTurn OptQ OptPT OptPI OptPO OptPW OptPD
set_option linter.unusedVariables false
set_option maxRecDepth 100000
attribute [local go_sem] Oper.semAt_some
def Held8 (W : World) (b : Nat) (c : List Nat) : Prop := b < W.heap.size ∧ ∀ (j x : Nat), c[j]? = some x → W.cell? ⟨b, j, none⟩ = some (.int .u8 (x : Int)) ∧ W.frozen? ⟨b, j, none⟩ = false
theorem held_more {W W' : World} {b : Nat} {c : List Nat} (h : Held8 W b c) (hb : Below W.heap.size W W') : Held8 W' b c :=
 ⟨Nat.lt_of_lt_of_le h.1 hb.size, fun j x hx => ⟨(hb.cell (p := ⟨b, j, none⟩) h.1).trans (h.2 j x hx).1, (hb.frozen (p := ⟨b, j, none⟩) h.1).trans (h.2 j x hx).2⟩⟩
theorem held_kept {W W' : World} {row : Option Nat} {b : Nat} {c : List Nat} (h : Held8 W b c) (hg : W.grownBy W' row) (hr : ∀ r, row = some r → ∃ o : Obj, W.heap[r]? = some o ∧ o.isCells = false) : Held8 W' b c :=
 ⟨Nat.lt_of_lt_of_le h.1 hg.size, fun j x hx => ⟨cell_kept (h.2 j x hx).1 hg hr, (frozen_kept (h.2 j x hx).1 hg hr).trans (h.2 j x hx).2⟩⟩
theorem held_set {W : World} {b : Nat} {c : List Nat} (h : Held8 W b c) (i x : Nat) (hi : i < c.length) : Held8 (W.setCell ⟨b, i, none⟩ (.int .u8 (x : Int))) b (c.set i x) := by
 refine ⟨by simpa using h.1, fun j y hy => ?_⟩
 by_cases e : i = j
 · subst e
   rw [List.getElem?_set_self hi] at hy
   obtain rfl := Option.some.inj hy
   exact ⟨set_at W b i _ ⟨_, (h.2 i _ (List.getElem?_eq_getElem hi)).1⟩, by simpa using (h.2 i _ (List.getElem?_eq_getElem hi)).2⟩
 · rw [List.getElem?_set_ne e] at hy
   exact ⟨(set_ne W b i j _ (fun q => e q.symm)).trans (h.2 j y hy).1, by simpa using (h.2 j y hy).2⟩
theorem set_take {c : List Nat} {o x : Nat} (r : List Nat) (h : o < c.length) : (c.set o x).take (o + 1) ++ (r ++ (c.set o x).drop (o + 1 + r.length)) = c.take o ++ (x :: r ++ c.drop (o + (r.length + 1))) := by
 have e1 : (c.set o x).take (o + 1) = c.take o ++ [x] := by
   rw [List.take_succ_eq_append_getElem (by rw [List.length_set]; exact h), List.getElem_set_self, List.take_set_of_le (Nat.le_refl _)]
 have e2 : (c.set o x).drop (o + 1 + r.length) = c.drop (o + (r.length + 1)) := by
   rw [List.drop_set_of_lt (by omega)]
   congr 1
   omega
 rw [e1, e2]
 simp
theorem setCells_held : ∀ (vs : List Nat) (o : Nat) (W : World) (b : Nat) (c : List Nat), Held8 W b c → o + vs.length ≤ c.length →
   Held8 (W.setCells b o (vs.map fun x : Nat => Value.int .u8 (x : Int))) b (c.take o ++ (vs ++ c.drop (o + vs.length))) ∧ Apart b W (W.setCells b o (vs.map fun x : Nat => Value.int .u8 (x : Int))) ∧ Below b W (W.setCells b o (vs.map fun x : Nat => Value.int .u8 (x : Int))) ∧ KeepsOthers W (W.setCells b o (vs.map fun x : Nat => Value.int .u8 (x : Int)))
 | [], o, W, b, c, h, hl => by
   refine ⟨?_, Apart.refl _ _, Below.refl _ _, KeepsOthers.refl _⟩
   show Held8 W b (c.take o ++ ([] ++ c.drop (o + 0)))
   rw [List.nil_append, Nat.add_zero, List.take_append_drop]
   exact h
 | x :: r, o, W, b, c, h, hl => by
   rw [List.length_cons] at hl
   obtain ⟨i1, i2, i3, i4⟩ := setCells_held r (o + 1) (W.setCell ⟨b, o, none⟩ (.int .u8 (x : Int))) b (c.set o x) (held_set h o x (by omega)) (by rw [List.length_set]; omega)
   rw [set_take r (by omega)] at i1
   refine ⟨i1, ?_, ((Below.refl b W).setCell (p := ⟨b, o, none⟩) (Nat.le_refl _) _).trans i3, (KeepsOthers.setCell W _ _).trans i4⟩
   have a1 := (Apart.refl b W).put o (.int .u8 (x : Int))
   exact ⟨Nat.le_trans a1.1 i2.1, fun p hp => ⟨((i2.2 p hp).1).trans (a1.2 p hp).1, ((i2.2 p hp).2).trans (a1.2 p hp).2⟩⟩
theorem cells_bz (t : ByteArray) : (t.data.toList.map fun x => Value.int .u8 (x.toNat : Int)) = (bz t).map fun x : Nat => Value.int .u8 (x : Int) := by unfold bz; rw [List.map_map]; rfl
theorem copy_held {W : World} {b : Nat} {c : List Nat} (h : Held8 W b c) (o dLen dCap ty : Nat) (t : ByteArray) (hle : t.size ≤ dLen) (hfit : o + t.size ≤ c.length) :
   ∃ W', (Builtin.copy_ #[50, 9] ty #[.slice (some ⟨b, o, none⟩) dLen dCap, .string t]).run Tryz.prog W = .ok (goInt t.size) W' ∧ Held8 W' b (c.take o ++ (bz t ++ c.drop (o + t.size))) ∧ Apart b W W' ∧ Below b W W' ∧ KeepsOthers W W' := by
 have hz : ∀ w, (Go.sizeOf 5).run Tryz.prog w = .ok 1 w := fun _ => by kernel_rfl
 have hr := run_copy_string (P := Tryz.prog) W 50 9 ty 5 b o dLen dCap t Tryz.underlying50 hz hle (fun j hj => by
   rw [(h.2 (o + j) _ (List.getElem?_eq_getElem (by omega))).1]; rfl) (fun j hj => (h.2 (o + j) _ (List.getElem?_eq_getElem (by omega))).2)
 rw [cells_bz] at hr
 obtain ⟨i1, i2, i3, i4⟩ := setCells_held (bz t) o W b c h (by rw [bz_len]; exact hfit)
 rw [bz_len] at i1
 exact ⟨_, hr, i1, i2, i3, i4⟩
theorem bytes_held (S : ByteArray) (w : World) (B : Nat) (hB : w.heap.size = B) :
   ∃ cap w1, (convert 9 50 (.string S)).run Tryz.prog w = .ok (.slice (some ⟨B, 0, none⟩) S.size cap) w1 ∧ Held8 w1 B (bz S) ∧ w1.heap.size = B + 1 ∧ Below w.heap.size w w1 ∧ S.size ≤ cap := by
 subst hB
 refine ⟨_, _, run_bytes_of_string w 9 50 5 S Tryz.underlying9 Tryz.underlying50 Tryz.underlying5, ⟨?_, fun j x hx => ?_⟩, ?_, ?_, grownCap_ge _ _ _ _⟩
 · simp
 · have hj : j < S.size := by
     have := (List.getElem?_eq_some_iff.1 hx).1
     rwa [bz_len] at this
   have hv : x = S[j].toNat := by rw [bz_at S j hj] at hx; exact (Option.some.inj hx).symm
   subst hv
   refine row_cells w S _ 5 _ ?_ j hj
   unfold bytesRow
   simp only [Array.size_append, Array.size_map]
   show S.data.size ≤ _
   omega
 · simp
 · exact ((Below.refl _ w).drew).alloc (Nat.le_refl _) _
theorem held_string {W : World} {b : Nat} {c : List Nat} (h : Held8 W b c) (hc : ∀ x ∈ c, x ≤ 255) (cap n : Nat) (hn : n = c.length) : (convert 50 9 (.slice (some ⟨b, 0, none⟩) n cap)).run Tryz.prog W = .ok (.string (ofB c)) W := by
 subst hn
 exact held_back Tryz.prog 50 9 5 Tryz.underlying50 Tryz.underlying5 Tryz.underlying9 c hc W b cap (fun j x hx => (h.2 j x hx).1)
theorem lay32one (a : Nat) (w : World) (B : Nat) (hB : w.heap.size = B) (ha : a ≤ 4294967295) : Calls Tryz.prog 51 #[.slice (some ⟨B, 0, none⟩) 1 1] (w.alloc (.cells #[.int .u32 (a : Int)] 22)) fun e w' => e = .returned (.string (ofB (w4 a))) ∧ Below (w.alloc (.cells #[.int .u32 (a : Int)] 22)).heap.size (w.alloc (.cells #[.int .u32 (a : Int)] 22)) w' := by
 subst hB
 have h := layH32 (HoldK.new .u32 w [a] 22) (by simp) (by simp) (by intro x hx; simp at hx; omega)
 have e : w4s [a] = w4 a := by show w4 a ++ [] = _; rw [List.append_nil]
 rw [e] at h
 exact h
set_option maxHeartbeats 4000000 in
theorem moreP (s : ByteArray) (i n : Nat) (w : World) (h : i + 4 ≤ s.size) (hs : s.size ≤ 1000000) (hn : n ≤ 4294967295) : Calls Tryz.prog 46 #[.string s, .int .i64 (i : Int), .int .u32 (n : Int)] w fun e w' => e = .returned (.string (ofB (addw (((bz s).drop i).take 4) n))) ∧ Below w.heap.size w w' := by
 have HA := Lib.hid (fun W => at32v s i W h hs)
 unfold addw
 generalize v256 (((bz s).drop i).take 4) = p at HA ⊢
 obtain ⟨y, hy⟩ : ∃ y, (p + n) % 4294967296 = y := ⟨_, rfl⟩
 have hy1 : y ≤ 4294967295 := by have := Nat.mod_lt (p + n) (show 0 < 4294967296 by decide); omega
 have hw : IntKind.u32.wrap ((p : Int) + (n : Int)) = (y : Int) := by rw [IntKind.wrap_u32]; omega
 have HL := Lib.hid (fun W B hB => lay32one y W B hB hy1)
 have hw2 : ((p : Int) + (n : Int)) % 4294967296 = (y : Int) := by omega
 rw [hy]
 clear hy
 go_enter Tryz.func46, Tryz.ntmps46
 go_wp2_with fail
 refine (HA.out _).mono ?_
 rintro e w1 ⟨rfl, hb⟩
 have HB := Lib.hid (st_alloc hb (.cells #[.int .u32 (y : Int)] 22))
 clear hb
 go_wp2_with fail
 refine (HL.out _ _ (by simp)).mono ?_
 rintro e w2 ⟨rfl, hb⟩
 have HB2 := Lib.hid (st_call HB.out hb)
 clear hb
 go_wp2_with fail
 go_ret
 exact ⟨rfl, HB2.out⟩
theorem cut_part {l : List Nat} {a i : Nat} (ha : a < l.length) (h : i + 4 ≤ lenAt l a) : ((cutX l a).drop i).take 4 = (l.drop (a + i)).take 4 := by
 unfold cutX
 rw [List.drop_take, List.drop_drop, List.take_take]
 congr 1
 omega
def relS (s x t : ByteArray) (g cap a p j : Nat) : Nat → Value → World → Prop
 | 0 => fun v _ => v = .slice (some ⟨g, 0, none⟩) s.size cap
 | 1 => fun v _ => v = .int .i64 (a : Int)
 | 2 => fun v _ => v = .int .i64 ((a + j : Nat) : Int)
 | 3 => fun v W => ∃ dc, v = .slice (some ⟨g, a + j, none⟩) (s.size - (a + j)) dc
 | 4 => fun v _ => v = .string x
 | 5 => fun v _ => v = .int .u32 (p : Int)
 | 6 => fun v _ => v = .string t
 | _ => fun _ _ => True
theorem relS_more (s x t : ByteArray) (g cap a p j : Nat) (i : Nat) (v : Value) (w w' : World) (hr : relS s x t g cap a p j i v w) (hb : Below w.heap.size w w') : relS s x t g cap a p j i v w' := by
 unfold relS at hr ⊢
 split at hr <;> exact hr
def relBa (s x t : ByteArray) (g cap a p i : Nat) : Nat → Value → World → Prop
 | 0 => fun v _ => v = .slice (some ⟨g, 0, none⟩) s.size cap
 | 1 => fun v _ => v = .int .i64 (a : Int)
 | 2 => fun v _ => v = .int .i64 (i : Int)
 | 3 => fun v _ => v = .int .i64 ((a + i : Nat) : Int)
 | 4 => fun v _ => v = .int .i64 ((a + i : Nat) : Int)
 | 5 => fun v W => ∃ dc, v = .slice (some ⟨g, a + i, none⟩) (s.size - (a + i)) dc
 | 6 => fun v _ => v = .string x
 | 7 => fun v _ => v = .int .i64 (i : Int)
 | 8 => fun v _ => v = .int .i64 (i : Int)
 | 9 => fun v _ => v = .int .u32 (p : Int)
 | 10 => fun v _ => v = .string t
 | _ => fun _ _ => True
theorem relBa_more (s x t : ByteArray) (g cap a p i : Nat) (j : Nat) (v : Value) (w w' : World) (hr : relBa s x t g cap a p i j v w) (hb : Below w.heap.size w w') : relBa s x t g cap a p i j v w' := by
 unfold relBa at hr ⊢
 split at hr <;> exact hr
def relBb (s x t : ByteArray) (g cap a p i : Nat) : Nat → Value → World → Prop
 | 0 => fun v _ => v = .slice (some ⟨g, 0, none⟩) s.size cap
 | 1 => fun v _ => v = .int .i64 (a : Int)
 | 2 => fun v _ => v = .int .i64 (i : Int)
 | 3 => fun v _ => v = .int .i64 ((a + i : Nat) : Int)
 | 4 => fun v _ => v = .int .i64 ((a + (i + 4) : Nat) : Int)
 | 5 => fun v W => ∃ dc, v = .slice (some ⟨g, a + (i + 4), none⟩) (s.size - (a + (i + 4))) dc
 | 6 => fun v _ => v = .string x
 | 7 => fun v _ => v = .int .i64 (i : Int)
 | 8 => fun v _ => v = .int .i64 ((i + 4 : Nat) : Int)
 | 9 => fun v _ => v = .int .u32 (p : Int)
 | 10 => fun v _ => v = .string t
 | _ => fun _ _ => True
theorem relBb_more (s x t : ByteArray) (g cap a p i : Nat) (j : Nat) (v : Value) (w w' : World) (hr : relBb s x t g cap a p i j v w) (hb : Below w.heap.size w w') : relBb s x t g cap a p i j v w' := by
 unfold relBb at hr ⊢
 split at hr <;> exact hr
attribute [local go_sem] relUpon
theorem putA_is {l c : List Nat} {a x : Nat} : c.take a ++ (addw ((l.drop a).take 4) x ++ c.drop (a + 4)) = putA l c a x := rfl
set_option maxHeartbeats 16000000 in
theorem turnP7_err (s : ByteArray) (bl v e : Nat) (w : World) (hs : s.size ≤ 1000000) (h0 : (dec7 (bz s)).1 ≠ 0) :
   Calls Tryz.prog 18 #[.string s, .int .u32 (bl : Int), .int .u32 (v : Int), .int .u32 (e : Int)] w fun r w' => r = .returned (turnV bl v e (bz s)) ∧ Below w.heap.size w w' := by
 have HD := Lib.hid (fun W => decP7 s W hs)
 have HV := Lib.hid (show turnV bl v e (bz s) = .tuple #[.string ⟨#[]⟩, .int .i64 ((dec7 (bz s)).1 : Int)] from if_neg h0)
 unfold DecOut at HD
 generalize (dec7 (bz s)).1 = n at HD HV h0
 generalize (dec7 (bz s)).2 = o2 at HD
 have q1 : ((n : Int) == 0) = false := beq_eq_false_iff_ne.2 (by omega)
 have q2 : ((n : Int) != 0) = true := bne_iff_ne.2 (by omega)
 have B0 := Lib.hid (st_alloc (st_alloc (st_alloc (Below.refl _ w) (.cells #[.int .u32 (bl : Int)] 22)) (.cells #[.int .u32 (v : Int)] 22)) (.cells #[.int .u32 (e : Int)] 22))
 go_enter Tryz.func18, Tryz.ntmps18
 go_wp2_with fail
 refine (HD.out _).mono ?_
 rintro r wA ⟨⟨A, c, rfl, _⟩, hb1⟩
 have HB := Lib.hid (st_alloc (st_call B0.out hb1) (.cells (oc o2 A c) 28))
 clear hb1
 go_wp2_with fail
 go_ret2
 exact ⟨by rw [HV.out]; rfl, HB.out⟩
set_option maxHeartbeats 16000000 in
theorem turnP7 (s : ByteArray) (bl v e : Nat) (w : World) (hs : s.size ≤ 1000000) (hb : bl ≤ 4294967295) (hv : v ≤ 4294967295) (he : e ≤ 4294967295) :
   Calls Tryz.prog 18 #[.string s, .int .u32 (bl : Int), .int .u32 (v : Int), .int .u32 (e : Int)] w fun r w' => r = .returned (turnV bl v e (bz s)) ∧ Below w.heap.size w w' := by
 by_cases h0 : (dec7 (bz s)).1 = 0
 rotate_left
 · exact turnP7_err s bl v e w hs h0
 obtain ⟨h40, ps, o2, hplc, hdec, ho2⟩ := dec7_zero h0
 have HV := Lib.hid (show turnV bl v e (bz s) = .tuple #[.string (ofB ((opts (bz s) 0).foldl (putP bl v e (bz s)) (bz s))), .int .i64 0] by rw [put_all bl v e hplc]; exact if_pos h0)
 have HD := Lib.hid (fun W => decP7 s W hs)
 unfold DecOut at HD
 rw [h0, ho2] at HD
 have hs40 : s.size ≤ 40 := by rw [bz_len] at h40; omega
 have HIN := Lib.hid (plc_in (bz s) (bz s).length 0 [] ps (by omega) hplc)
 have HOP := Lib.hid (opts_plc (bz s) (bz s).length 0 [] ps (by omega) hplc)
 clear h40 hdec ho2 h0 hplc
 refine (callsIn_wide (n := 8)).1 ?_
 refine callsIn_of_wp_marks Tryz.func18 rfl trivial ?_ rfl
 simp only [Tryz.ntmps18, List.size_toArray, List.length_cons, List.length_nil, Nat.reduceAdd, Nat.reduceSub, Array.replicate_succ, Array.replicate_zero, List.push_toArray, List.append_toArray, List.nil_append, List.cons_append]
 have C5 := CellsAt.new w #[.int .u32 (bl : Int)] 22
 have C6 := CellsAt.new (w.alloc (.cells #[.int .u32 (bl : Int)] 22)) #[.int .u32 (v : Int)] 22
 have C7 := CellsAt.new ((w.alloc (.cells #[.int .u32 (bl : Int)] 22)).alloc (.cells #[.int .u32 (v : Int)] 22)) #[.int .u32 (e : Int)] 22
 simp only [World.size_alloc] at C6 C7
 have D5 := (C5.later ((Below.refl _ _).alloc (Nat.le_refl _) (.cells #[.int .u32 (v : Int)] 22))).later ((Below.refl _ _).alloc (Nat.le_refl _) (.cells #[.int .u32 (e : Int)] 22))
 have D6 := C6.later ((Below.refl _ _).alloc (Nat.le_refl _) (.cells #[.int .u32 (e : Int)] 22))
 have B0 := st_alloc (st_alloc (st_alloc (Below.refl _ w) (.cells #[.int .u32 (bl : Int)] 22)) (.cells #[.int .u32 (v : Int)] 22)) (.cells #[.int .u32 (e : Int)] 22)
 gi_wp2
 refine ⟨trivial, ?_⟩
 refine (callsIn_wide.2 (HD.out _)).mono ?_
 rintro r w1 ⟨⟨A, c, rfl, _⟩, hb1⟩
 have E5 := D5.later hb1
 have E6 := D6.later hb1
 have E7 := C7.later hb1
 have HB1 := st_call B0 hb1
 have BA := st_alloc (Below.refl _ w1) (.cells (oc o2 A c) 28)
 have F5 := Lib.hid (E5.later BA)
 have F6 := Lib.hid (E6.later BA)
 have F7 := Lib.hid (E7.later BA)
 have HB2 := Lib.hid (st_call HB1 BA)
 have hz2 : (w1.alloc (.cells (oc o2 A c) 28)).heap.size = w1.heap.size + 1 := by simp
 clear hb1 B0 C5 C6 C7 D5 D6 E5 E6 E7 HB1 BA
 obtain ⟨cap, w3, hbc, hH, hz3, hb3, hcap⟩ := bytes_held s (w1.alloc (.cells (oc o2 A c) 28)) (w1.heap.size + 1) (by simp)
 have lt7 := F7.out.lt
 gi_wp2
 obtain ⟨g, hg1⟩ : ∃ g, w1.heap.size + 1 = g := ⟨_, rfl⟩
 rw [hz2] at lt7
 rw [hg1] at hH hz3 lt7 ⊢
 have G5 := F5.out.later hb3
 have G6 := F6.out.later hb3
 have G7 := F7.out.later hb3
 have BG := st_call HB2.out hb3
 clear hbc hb3 F5 F6 F7 HB2 hz2 hg1
 refine ⟨trivial, ?_⟩
 refine (options_in _ _ _).mono ?_
 rintro r w4 ⟨rfl, rfl⟩
 gi_wp2
 have BS := (st_alloc (st_alloc (Below.refl _ w3) (.cells #[.slice (some ⟨g, 0, none⟩) s.size cap] 50)) (.cells #[.string s] 9))
 have K12 := (CellsAt.new w3 #[.slice (some ⟨g, 0, none⟩) s.size cap] 50).later ((Below.refl _ _).alloc (Nat.le_refl _) (.cells #[.string s] 9))
 have KS := CellsAt.new (w3.alloc (.cells #[.slice (some ⟨g, 0, none⟩) s.size cap] 50)) #[.string s] 9
 rw [World.size_alloc] at KS
 have K5 := G5.later BS
 have K6 := G6.later BS
 have K7 := G7.later BS
 have KH := held_more hH BS
 have KB := st_call BG BS
 have hsz : ((w3.alloc (.cells #[.slice (some ⟨g, 0, none⟩) s.size cap] 50)).alloc (.cells #[.string s] 9)).heap.size = g + 3 := by simp [hz3]
 rw [hz3] at K12 KS
 obtain ⟨w0, hw0⟩ : ∃ w0, (w3.alloc (.cells #[.slice (some ⟨g, 0, none⟩) s.size cap] 50)).alloc (.cells #[.string s] 9) = w0 := ⟨_, rfl⟩
 rw [hw0] at K12 KS K5 K6 K7 KH KB hsz ⊢
 clear BS hw0 hH G5 G6 G7 BG hz3
 refine wpIn_rangeFunc_ownF rfl (by omega) (gf := 78) (lb := #[.pointer (some ⟨g + 1 + 1, 0, none⟩)]) rfl trivial (enters_of Tryz.func78 (by kernel_rfl) rfl)
   (options_stops _ (by omega) (g + 1 + 1) s hs w0 (by rw [hsz]; omega) (KS.cell 0 _ rfl)) KeepR.trans (fun W l o o' h1 h2 h3 h4 => KeepR.of_below (belowK_b (n₀ := g + 1 + 1 + 1) (Nat.le_of_eq hsz.symm) W l o o' h1 h2 h3 h4)) (Below.refl _ _) (fun _ => rfl)
   (fun pre W => (∃ c : List Nat, c = (vals pre).foldl (putP bl v e (bz s)) (bz s) ∧ c.length = s.size ∧ (∀ y ∈ c, y ≤ 255) ∧ Held8 W g c) ∧ CellsAt W (g + 1) #[.slice (some ⟨g, 0, none⟩) s.size cap] ∧ CellsAt W w.heap.size #[.int .u32 (bl : Int)] ∧ CellsAt W (w.heap.size + 1) #[.int .u32 (v : Int)] ∧ CellsAt W (w.heap.size + 1 + 1) #[.int .u32 (e : Int)] ∧ CellsAt W (g + 1 + 1) #[.string s] ∧ Below w.heap.size w W)
   (fun _ _ _ => False)
   (OwnFrom.and (Own.from (fun t A B row hs hg hr => by
     obtain ⟨c, h1, h2, h3, h4⟩ := hs
     exact ⟨c, h1, h2, h3, held_kept h4 hg hr⟩) _) (OwnFrom.and (Own.from (fun t A B row hs hg hr => cellsAt_kept hs hg hr) _) (OwnFrom.and (Own.from (fun t A B row hs hg hr => cellsAt_kept hs hg hr) _) (OwnFrom.and (Own.from (fun t A B row hs hg hr => cellsAt_kept hs hg hr) _) (OwnFrom.and (Own.from (fun t A B row hs hg hr => cellsAt_kept hs hg hr) _) (OwnFrom.and (Own.from (fun t A B row hs hg hr => cellsAt_kept hs hg hr) _) (ownFrom_below (Nat.le_refl _) (by rw [hsz]; omega))))))))
   (fun _ _ _ _ _ hs _ _ => hs)
   ⟨⟨bz s, rfl, bz_len s, bz_le s, KH⟩, K12, K5, K6, K7, KS, KB⟩
   (fun x => { tmps := #[.string s, .int .u32 (bl : Int), .int .u32 (v : Int), .int .u32 (e : Int), undef, .pointer (some ⟨w.heap.size, 0, none⟩), .pointer (some ⟨w.heap.size + 1, 0, none⟩), .pointer (some ⟨w.heap.size + 1 + 1, 0, none⟩), .string ⟨#[]⟩, .int .i64 0, .pointer (some ⟨w1.heap.size, 0, none⟩), .int .i64 0, .pointer (some ⟨g + 1, 0, none⟩), .int .i64 (x.1 : Int), .string (cutS s x.1), undef, .tuple #[ov o2 A c, .int .i64 0], .string s, .tuple #[ov o2 A c, .int .i64 0], ov o2 A c, .int .i64 0, .int .i64 0, .bool false, undef, .string s, .slice (some ⟨g, 0, none⟩) s.size cap, .string s, .func (.func 78) #[] #[.pointer (some ⟨g + 1 + 1, 0, none⟩)], .int .i64 (x.1 : Int), .string (cutS s x.1), undef, undef, undef, undef, undef, undef, undef, undef, undef, undef, undef, undef, undef, undef, undef, undef, undef, undef, undef, undef, undef, undef, undef, undef, undef, undef, undef, undef, undef, undef, undef, undef, undef, undef, undef, undef, undef, undef, undef, undef, undef, undef, undef, undef, undef, undef, undef, undef, undef, undef, undef, undef, undef, undef], defers := [] }) ?assign ?body ?done ?stop
 case assign =>
   intro l x W K hK
   gi_wp2
   exact hK
 case body =>
   rintro l pre ⟨a, ha⟩ W ⟨⟨c, hc, hcl, hc8, hH⟩, h12, h5, h6, h7, hS, hB⟩ _
   have hin := HIN.out a (by rw [← HOP.out]; exact ha)
   obtain ⟨_, ha1, han, hr, hk0, hk1⟩ := hin
   rw [bz_len] at ha1 han
   have hlt : a < s.size := by omega
   have hltb : a < (bz s).length := by rw [bz_len]; exact hlt
   have hx := cutS_bz s a hlt
   have hxs := cutS_size s a hlt
   have hn2 := right_ge hr
   have hln : lenAt (bz s) a = at0 (bz s) (a + 1) := by unfold lenAt; rw [bz_len]; omega
   have hx0 := cut_0 (l := bz s) (a := a) hltb
   have hv : vals (pre ++ [⟨a, ha⟩]) = vals pre ++ [a] := vals_snoc _ _
   have HF := Lib.hid (show (vals (pre ++ [⟨a, ha⟩])).foldl (putP bl v e (bz s)) (bz s) = if at0 (bz s) a = 8 then putA (bz s) (putA (bz s) c (a + 2) v) (a + 6) e else if at0 (bz s) a = 5 then putN (bz s) bl c (a + 2) ((at0 (bz s) (a + 1) - 2) / 4) else c by
     rw [hv, List.foldl_append, ← hc]
     rfl)
   have HCP := Lib.hid (fun i (h : i + 4 ≤ lenAt (bz s) a) => cut_part (l := bz s) (i := i) hltb h)
   rw [← hx] at hx0 HCP
   rw [hln] at hxs HCP
   have hk := at_le s a
   dsimp only
   generalize cutS s a = x at hx hxs hx0 HCP ⊢
   generalize at0 (bz s) (a + 1) = n at hr hn2 hln hxs HF han HCP
   generalize at0 (bz s) a = k at hr hk0 hk1 hx0 hk HF
   have hx1 : 0 < x.size := by omega
   have z := at_byte x 0 hx1
   rw [hx0] at z
   have HH := Lib.hid hH
   have H12 := Lib.hid h12
   have H5 := Lib.hid h5
   have H6 := Lib.hid h6
   have H7 := Lib.hid h7
   have HS := Lib.hid hS
   have HB := Lib.hid hB
   have HC8 := Lib.hid hc8
   have HLT : Hid (g + 1 + 1 + 1 ≤ W.heap.size) := Lib.hid hS.1
   clear hH h12 h5 h6 h7 hS hB hc8 hc hv hx0 hx hln
   by_cases c5 : k = 5
   · subst c5
     have hn : n = 10 ∨ n = 18 ∨ n = 26 ∨ n = 34 := by simp [right] at hr; omega
     have HF2 := Lib.hid (show (vals (pre ++ [⟨a, ha⟩])).foldl (putP bl v e (bz s)) (bz s) = putN (bz s) bl c (a + 2) ((n - 2) / 4) by rw [HF.out, if_neg (by decide), if_pos rfl])
     have HMO := Lib.hid (fun i W (h : i + 4 ≤ n) => by
       have h1 := moreP x i bl W (by omega) (by omega) hb
       rw [HCP.out i h] at h1
       exact h1)
     have HTM := Lib.hid (fun i => bz_ofB (w4_le _ (show (v256 (((bz s).drop (a + i)).take 4) + bl) % 4294967296 ≤ 4294967295 by have := Nat.mod_lt (v256 (((bz s).drop (a + i)).take 4) + bl) (show 0 < 4294967296 by decide); omega)))
     clear HF hr HCP
     gi_wp2
     gi_loopw [15] (fun iv wr => ∃ (m i : Nat) (c' : List Nat), iv = .int .i64 (i : Int) ∧ i = 2 + 8 * m ∧ i ≤ n ∧ c' = putN (bz s) bl c (a + 2) (2 * m) ∧ c'.length = s.size ∧ (∀ y ∈ c', y ≤ 255) ∧ Held8 wr g c' ∧ CellsAt wr (g + 1) #[.slice (some ⟨g, 0, none⟩) s.size cap] ∧ CellsAt wr w.heap.size #[.int .u32 (bl : Int)] ∧ CellsAt wr (w.heap.size + 1) #[.int .u32 (v : Int)] ∧ CellsAt wr (w.heap.size + 1 + 1) #[.int .u32 (e : Int)] ∧ CellsAt wr (g + 1 + 1) #[.string s] ∧ Below w.heap.size w wr ∧ KeepsOthers W wr ∧ KeepR (g + 1 + 1) (g + 1 + 1 + 1) W wr)
       (fun iv _ => n - (intOf iv).toNat)
     case atStart => exact ⟨0, 2, c, rfl, rfl, by omega, rfl, hcl, HC8.out, HH.out, H12.out, H5.out, H6.out, H7.out, HS.out, HB.out, KeepsOthers.refl _, KeepR.refl _⟩
     case round =>
       obtain ⟨m, i, c', rfl, him, hin, hc', hcl', hc8', hH', h12, h5, h6, h7, hS, hB, hKO, hKR⟩ := hrel
       have I12 := Lib.hid h12
       have I5 := Lib.hid h5
       have I6 := Lib.hid h6
       have I7 := Lib.hid h7
       have IS := Lib.hid hS
       have IB := Lib.hid hB
       have IKO := Lib.hid hKO
       have IKR := Lib.hid hKR
       have IH := Lib.hid hH'
       have IC := Lib.hid hc'
       have IC8 := Lib.hid hc8'
       have ILT : Hid (g + 1 + 1 + 1 ≤ wr.heap.size) := Lib.hid hS.1
       have HIM := Lib.hid him
       clear h12 h5 h6 h7 hS hB hKO hKR hH' hc' hc8'
       by_cases hli : i < n
       · have hi10 : i + 8 ≤ n := by omega
         obtain ⟨tA, htA⟩ : ∃ tA, ofB (addw (((bz s).drop (a + i)).take 4) bl) = tA := ⟨_, rfl⟩
         obtain ⟨tB, htB⟩ : ∃ tB, ofB (addw (((bz s).drop (a + (i + 4))).take 4) bl) = tB := ⟨_, rfl⟩
         have HBA : Hid (bz tA = addw (((bz s).drop (a + i)).take 4) bl) := Lib.hid (by rw [← htA]; exact HTM.out i)
         have HBB : Hid (bz tB = addw (((bz s).drop (a + (i + 4))).take 4) bl) := Lib.hid (by rw [← htB]; exact HTM.out (i + 4))
         have hzA : tA.size = 4 := by rw [← bz_len, HBA.out, addw_len]
         have hzB : tB.size = 4 := by rw [← bz_len, HBB.out, addw_len]
         have HMA := Lib.hid (fun W => HMO.out i W (by omega))
         have HMB := Lib.hid (fun W => HMO.out (i + 4) W (by omega))
         rw [htA] at HMA
         rw [htB] at HMB
         have ei : ((i + 4 : Nat) : Int) = (i : Int) + 4 := by omega
         rw [ei] at HMB
         clear htA htB
         have li : (i : Int) < (n : Int) := by omega
         have f1 : 0 ≤ (a : Int) + (i : Int) := by omega
         have f2 : ((a : Int) + (i : Int)).toNat = a + i := by omega
         have f3 : IntKind.i64.wrap ((a : Int) + (i : Int)) = (a : Int) + (i : Int) := by rw [IntKind.wrap_i64]; omega
         have f4 : (a : Int) + (i : Int) ≤ (s.size : Int) := by omega
         have f5 : ¬ cap = a + i := by omega
         have f6 : IntKind.i64.wrap (i : Int) = (i : Int) := by rw [IntKind.wrap_i64]; omega
         have f7 : 0 ≤ (a : Int) + (i : Int) + 4 := by omega
         have f8 : ((a : Int) + (i : Int) + 4).toNat = a + (i + 4) := by omega
         have f9 : IntKind.i64.wrap ((a : Int) + (i : Int) + 4) = (a : Int) + (i : Int) + 4 := by rw [IntKind.wrap_i64]; omega
         have f10 : (a : Int) + (i : Int) + 4 ≤ (s.size : Int) := by omega
         have f11 : ¬ cap = a + (i + 4) := by omega
         have g7 : 0 ≤ (a : Int) + ((i : Int) + 4) := by omega
         have g8 : ((a : Int) + ((i : Int) + 4)).toNat = a + (i + 4) := by omega
         have g10 : (a : Int) + ((i : Int) + 4) ≤ (s.size : Int) := by omega
         have f12 : IntKind.i64.wrap ((i : Int) + 4) = (i : Int) + 4 := by rw [IntKind.wrap_i64]; omega
         have f13 : IntKind.i64.wrap ((i : Int) + 8) = (i : Int) + 8 := by rw [IntKind.wrap_i64]; omega
         clear ei him
         gi_wp2
         refine wpIn_region_see_tail 11 84 (relBa s x tA g cap a bl i) rfl (by kernel_rfl) (by kernel_rfl) (by kernel_rfl) (by kernel_rfl) (by kernel_rfl) (relBa_more s x tA g cap a bl i) ?_ ?_
         · intro i' hi
           have hi2 : i' < 11 := by simpa using hi
           clear hi
           match i', hi2 with
           | 0, _ =>
             intro ρ W hb hc hg hf h0 hd
             have t12 := h0 12 (by kernel_rfl)
             have c12 := (I12.out.later hb).cell 0 _ rfl
             clear hd h0
             go_simp
             exact ⟨rfl, Below.refl _ _⟩
           | 1, _ =>
             intro ρ W hb hc hg hf h0 hd
             have t13 := h0 13 (by kernel_rfl)
             clear hd h0
             go_simp
             exact ⟨rfl, Below.refl _ _⟩
           | 2, _ =>
             intro ρ W hb hc hg hf h0 hd
             have t15 := h0 15 (by kernel_rfl)
             clear hd h0
             go_simp
             exact ⟨rfl, Below.refl _ _⟩
           | 3, _ =>
             intro ρ W hb hc hg hf h0 hd
             have d1 : ρ (.tmp 41) = .int .i64 (a : Int) := hd 1 41 (by kernel_rfl) (by kernel_rfl)
             have d2 : ρ (.tmp 42) = .int .i64 (i : Int) := hd 2 42 (by kernel_rfl) (by kernel_rfl)
             clear hd h0
             go_simp
             exact ⟨rfl, Below.refl _ _⟩
           | 4, _ =>
             intro ρ W hb hc hg hf h0 hd
             have d3 : ρ (.tmp 43) = .int .i64 ((a + i : Nat) : Int) := hd 3 43 (by kernel_rfl) (by kernel_rfl)
             clear hd h0
             go_simp
             exact ⟨rfl, Below.refl _ _⟩
           | 5, _ =>
             intro ρ W hb hc hg hf h0 hd
             have d0 : ρ (.tmp 40) = .slice (some ⟨g, 0, none⟩) s.size cap := hd 0 40 (by kernel_rfl) (by kernel_rfl)
             have d4 : ρ (.tmp 44) = .int .i64 ((a + i : Nat) : Int) := hd 4 44 (by kernel_rfl) (by kernel_rfl)
             clear hd h0
             go_simp
             exact ⟨⟨_, rfl⟩, Below.refl _ _⟩
           | 6, _ =>
             intro ρ W hb hc hg hf h0 hd
             have t14 := h0 14 (by kernel_rfl)
             clear hd h0
             go_simp
             exact ⟨rfl, Below.refl _ _⟩
           | 7, _ =>
             intro ρ W hb hc hg hf h0 hd
             have t15 := h0 15 (by kernel_rfl)
             clear hd h0
             go_simp
             exact ⟨rfl, Below.refl _ _⟩
           | 8, _ =>
             intro ρ W hb hc hg hf h0 hd
             have d7 : ρ (.tmp 47) = .int .i64 (i : Int) := hd 7 47 (by kernel_rfl) (by kernel_rfl)
             clear hd h0
             go_simp
             exact ⟨rfl, Below.refl _ _⟩
           | 9, _ =>
             intro ρ W hb hc hg hf h0 hd
             have t5 := h0 5 (by kernel_rfl)
             have cb := (I5.out.later hb).cell 0 _ rfl
             clear hd h0
             go_simp
             exact ⟨rfl, Below.refl _ _⟩
           | 10, _ =>
             intro ρ W hb hc hg hf h0 hd
             have d6 : ρ (.tmp 46) = .string x := hd 6 46 (by kernel_rfl) (by kernel_rfl)
             have d8 : ρ (.tmp 48) = .int .i64 (i : Int) := hd 8 48 (by kernel_rfl) (by kernel_rfl)
             have d9 : ρ (.tmp 49) = .int .u32 (bl : Int) := hd 9 49 (by kernel_rfl) (by kernel_rfl)
             clear hd h0
             go_simp
             exact (HMA.out W).mono fun e w' ⟨he, hb⟩ => ⟨_, he, rfl, hb⟩
           | i' + 11, hlt => exact absurd hlt (by omega)
         · intro vs W1 hb hall
           have hd : ∃ dc, vs 5 = .slice (some ⟨g, a + i, none⟩) (s.size - (a + i)) dc := hall 5 (by omega)
           have hq : vs 10 = .string tA := hall 10 (by omega)
           obtain ⟨dc, hd⟩ := hd
           clear hall
           rw [lexA_slots vs 11 [(some 40, 0), (some 41, 1), (some 42, 2), (some 43, 3), (some 44, 4), (some 45, 5), (some 46, 6), (some 47, 7), (some 48, 8), (some 49, 9), (some 50, 10)] (by kernel_rfl)]
           simp only [List.foldl_cons, List.foldl_nil, hd, hq]
           simp only [put_lit, List.set_cons_succ, List.set_cons_zero]
           show wpListIn _ _ _ _ _ [_] _ _
           obtain ⟨W2, hcp, hH2, hA2, hb2, hk2⟩ := copy_held (held_more IH.out hb) (a + i) (s.size - (a + i)) dc 3 tA (by omega) (by omega)
           rw [HBA.out, hzA, putA_is] at hH2
           have J12 := Lib.hid (cellsAt_apart (I12.out.later hb) (by omega) hA2)
           have J5 := Lib.hid (cellsAt_apart (I5.out.later hb) (by omega) hA2)
           have J6 := Lib.hid (cellsAt_apart (I6.out.later hb) (by omega) hA2)
           have J7 := Lib.hid (cellsAt_apart (I7.out.later hb) (by omega) hA2)
           have JS := Lib.hid (cellsAt_apart (IS.out.later hb) (by omega) hA2)
           have JB := Lib.hid ((IB.out.trans (hb.mono IB.out.size)).trans (hb2.mono (by omega)))
           have JK := Lib.hid (IKO.out.trans ((keeps_of_below hb).trans hk2))
           have JR := Lib.hid (IKR.out.trans ((KeepR.of_below (hb.mono ILT.out)).trans (keepR_apart hA2 (b := g + 1 + 1) (by omega))))
           have JH := Lib.hid hH2
           clear hH2 hA2 hb2 hk2 hd hq
           gi_wp2
           clear hcp
           refine wpIn_region_see_tail 11 84 (relBb s x tB g cap a bl i) rfl (by kernel_rfl) (by kernel_rfl) (by kernel_rfl) (by kernel_rfl) (by kernel_rfl) (relBb_more s x tB g cap a bl i) ?_ ?_
           · intro i' hi
             have hi2 : i' < 11 := by simpa using hi
             clear hi
             match i', hi2 with
             | 0, _ =>
               intro ρ W hb hc hg hf h0 hd
               have t12 := h0 12 (by kernel_rfl)
               have c12 := (J12.out.later hb).cell 0 _ rfl
               clear hd h0
               go_simp
               exact ⟨rfl, Below.refl _ _⟩
             | 1, _ =>
               intro ρ W hb hc hg hf h0 hd
               have t13 := h0 13 (by kernel_rfl)
               clear hd h0
               go_simp
               exact ⟨rfl, Below.refl _ _⟩
             | 2, _ =>
               intro ρ W hb hc hg hf h0 hd
               have t15 := h0 15 (by kernel_rfl)
               clear hd h0
               go_simp
               exact ⟨rfl, Below.refl _ _⟩
             | 3, _ =>
               intro ρ W hb hc hg hf h0 hd
               have d1 : ρ (.tmp 53) = .int .i64 (a : Int) := hd 1 53 (by kernel_rfl) (by kernel_rfl)
               have d2 : ρ (.tmp 54) = .int .i64 (i : Int) := hd 2 54 (by kernel_rfl) (by kernel_rfl)
               clear hd h0
               go_simp
               exact ⟨rfl, Below.refl _ _⟩
             | 4, _ =>
               intro ρ W hb hc hg hf h0 hd
               have d3 : ρ (.tmp 55) = .int .i64 ((a + i : Nat) : Int) := hd 3 55 (by kernel_rfl) (by kernel_rfl)
               clear hd h0
               go_simp
               exact ⟨rfl, Below.refl _ _⟩
             | 5, _ =>
               intro ρ W hb hc hg hf h0 hd
               have d0 : ρ (.tmp 52) = .slice (some ⟨g, 0, none⟩) s.size cap := hd 0 52 (by kernel_rfl) (by kernel_rfl)
               have d4 : ρ (.tmp 56) = .int .i64 ((a + (i + 4) : Nat) : Int) := hd 4 56 (by kernel_rfl) (by kernel_rfl)
               clear hd h0
               go_simp
               exact ⟨⟨_, rfl⟩, Below.refl _ _⟩
             | 6, _ =>
               intro ρ W hb hc hg hf h0 hd
               have t14 := h0 14 (by kernel_rfl)
               clear hd h0
               go_simp
               exact ⟨rfl, Below.refl _ _⟩
             | 7, _ =>
               intro ρ W hb hc hg hf h0 hd
               have t15 := h0 15 (by kernel_rfl)
               clear hd h0
               go_simp
               exact ⟨rfl, Below.refl _ _⟩
             | 8, _ =>
               intro ρ W hb hc hg hf h0 hd
               have d7 : ρ (.tmp 59) = .int .i64 (i : Int) := hd 7 59 (by kernel_rfl) (by kernel_rfl)
               clear hd h0
               go_simp
               exact ⟨rfl, Below.refl _ _⟩
             | 9, _ =>
               intro ρ W hb hc hg hf h0 hd
               have t5 := h0 5 (by kernel_rfl)
               have cb := (J5.out.later hb).cell 0 _ rfl
               clear hd h0
               go_simp
               exact ⟨rfl, Below.refl _ _⟩
             | 10, _ =>
               intro ρ W hb hc hg hf h0 hd
               have d6 : ρ (.tmp 58) = .string x := hd 6 58 (by kernel_rfl) (by kernel_rfl)
               have d8 : ρ (.tmp 60) = .int .i64 ((i + 4 : Nat) : Int) := hd 8 60 (by kernel_rfl) (by kernel_rfl)
               have d9 : ρ (.tmp 61) = .int .u32 (bl : Int) := hd 9 61 (by kernel_rfl) (by kernel_rfl)
               clear hd h0
               go_simp
               exact (HMB.out W).mono fun e w' ⟨he, hb⟩ => ⟨_, he, rfl, hb⟩
             | i' + 11, hlt => exact absurd hlt (by omega)
           · intro vs W3 hb hall
             have hd : ∃ dc, vs 5 = .slice (some ⟨g, a + (i + 4), none⟩) (s.size - (a + (i + 4))) dc := hall 5 (by omega)
             have hq : vs 10 = .string tB := hall 10 (by omega)
             obtain ⟨dc, hd⟩ := hd
             clear hall
             rw [lexA_slots vs 11 [(some 52, 0), (some 53, 1), (some 54, 2), (some 55, 3), (some 56, 4), (some 57, 5), (some 58, 6), (some 59, 7), (some 60, 8), (some 61, 9), (some 62, 10)] (by kernel_rfl)]
             simp only [List.foldl_cons, List.foldl_nil, hd, hq]
             simp only [put_lit, List.set_cons_succ, List.set_cons_zero]
             show wpListIn _ _ _ _ _ [_] _ _
             have hcl2 : (putA (bz s) c' (a + i) bl).length = s.size := by rw [putA_len _ _ _ _ (by omega), hcl']
             obtain ⟨W4, hcp, hH4, hA4, hb4, hk4⟩ := copy_held (held_more JH.out hb) (a + (i + 4)) (s.size - (a + (i + 4))) dc 3 tB (by omega) (by omega)
             rw [HBB.out, hzB, putA_is] at hH4
             have L12 := Lib.hid (cellsAt_apart (J12.out.later hb) (by omega) hA4)
             have L5 := Lib.hid (cellsAt_apart (J5.out.later hb) (by omega) hA4)
             have L6 := Lib.hid (cellsAt_apart (J6.out.later hb) (by omega) hA4)
             have L7 := Lib.hid (cellsAt_apart (J7.out.later hb) (by omega) hA4)
             have LS := Lib.hid (cellsAt_apart (JS.out.later hb) (by omega) hA4)
             have LB := Lib.hid ((JB.out.trans (hb.mono JB.out.size)).trans (hb4.mono (by omega)))
             have LK := Lib.hid ((JK.out.trans (keeps_of_below hb)).trans hk4)
             have LR := Lib.hid ((JR.out.trans (KeepR.of_below (hb.mono JS.out.1))).trans (keepR_apart hA4 (b := g + 1 + 1) (by omega)))
             have LH := Lib.hid hH4
             have LC : Hid (putA (bz s) (putA (bz s) c' (a + i) bl) (a + (i + 4)) bl = putN (bz s) bl c (a + 2) (2 * (m + 1))) := Lib.hid (by
               have := HIM.out
               have e1 : a + i = a + 2 + 4 * (2 * m) := by omega
               have e2 : a + (i + 4) = a + 2 + 4 * (2 * m + 1) := by omega
               have e3 : 2 * (m + 1) = 2 * m + 1 + 1 := by omega
               rw [e3, e1, e2, IC.out]
               rfl)
             clear hH4 hA4 hb4 hk4 hd hq
             gi_wp2
             go_roundw
             case rel => exact ⟨m + 1, i + 8, _, by go_num, by have := HIM.out; omega, by omega, LC.out, by rw [putA_len _ _ _ _ (by omega), hcl2], putA_le _ _ (putA_le _ _ IC8.out), LH.out, L12.out, L5.out, L6.out, L7.out, LS.out, LB.out, LK.out, LR.out⟩
             case measure => simp only [intOf]; omega
       · have HLC : Hid (c' = (vals (pre ++ [⟨a, ha⟩])).foldl (putP bl v e (bz s)) (bz s)) := Lib.hid (by
           have := HIM.out
           rw [HF2.out, IC.out]
           congr 1
           omega)
         have li : ¬ (i : Int) < (n : Int) := by omega
         gi_wp2
         exact ⟨IKO.out, IKR.out, ⟨by rw [← HLC.out]; exact hcl', by rw [← HLC.out]; exact IC8.out, by rw [← HLC.out]; exact IH.out⟩, I12.out, I5.out, I6.out, I7.out, IS.out, IB.out⟩
   by_cases c8 : k = 8
   · subst c8
     have hn : n = 10 := by simpa [right] using hr
     subst hn
     have HF2 := Lib.hid (show (vals (pre ++ [⟨a, ha⟩])).foldl (putP bl v e (bz s)) (bz s) = putA (bz s) (putA (bz s) c (a + 2) v) (a + 6) e by rw [HF.out, if_pos rfl])
     clear HF hr
     have HM2 := Lib.hid (fun W => moreP x 2 v W (by omega) (by omega) hv)
     have HM6 := Lib.hid (fun W => moreP x 6 e W (by omega) (by omega) he)
     rw [HCP.out 2 (by omega)] at HM2
     rw [HCP.out 6 (by omega)] at HM6
     have HT2 := Lib.hid (bz_ofB (w4_le _ (show (v256 (((bz s).drop (a + 2)).take 4) + v) % 4294967296 ≤ 4294967295 by have := Nat.mod_lt (v256 (((bz s).drop (a + 2)).take 4) + v) (show 0 < 4294967296 by decide); omega)))
     have HT6 := Lib.hid (bz_ofB (w4_le _ (show (v256 (((bz s).drop (a + 6)).take 4) + e) % 4294967296 ≤ 4294967295 by have := Nat.mod_lt (v256 (((bz s).drop (a + 6)).take 4) + e) (show 0 < 4294967296 by decide); omega)))
     obtain ⟨t2, ht2⟩ : ∃ t2, ofB (addw (((bz s).drop (a + 2)).take 4) v) = t2 := ⟨_, rfl⟩
     obtain ⟨t6, ht6⟩ : ∃ t6, ofB (addw (((bz s).drop (a + 6)).take 4) e) = t6 := ⟨_, rfl⟩
     have HB2 : Hid (bz t2 = addw (((bz s).drop (a + 2)).take 4) v) := Lib.hid (by rw [← ht2]; exact HT2.out)
     have HB6 : Hid (bz t6 = addw (((bz s).drop (a + 6)).take 4) e) := Lib.hid (by rw [← ht6]; exact HT6.out)
     have hz2 : t2.size = 4 := by rw [← bz_len, HB2.out, addw_len]
     have hz6 : t6.size = 4 := by rw [← bz_len, HB6.out, addw_len]
     rw [ht2] at HM2
     rw [ht6] at HM6
     clear ht2 ht6 HT2 HT6
     have n2 : 0 ≤ (a : Int) + 2 := by omega
     have m2 : ((a : Int) + 2).toNat = a + 2 := by omega
     have o2' : IntKind.i64.wrap ((a : Int) + 2) = (a : Int) + 2 := by rw [IntKind.wrap_i64]; omega
     have l2 : (a : Int) + 2 ≤ (s.size : Int) := by omega
     have n6 : 0 ≤ (a : Int) + 6 := by omega
     have m6 : ((a : Int) + 6).toNat = a + 6 := by omega
     have o6' : IntKind.i64.wrap ((a : Int) + 6) = (a : Int) + 6 := by rw [IntKind.wrap_i64]; omega
     have l6 : (a : Int) + 6 ≤ (s.size : Int) := by omega
     have p2 : ¬ cap = a + 2 := by omega
     have p6 : ¬ cap = a + 6 := by omega
     gi_wp2
     refine wpIn_region_see_tail 7 84 (relS s x t2 g cap a v 2) rfl (by kernel_rfl) (by kernel_rfl) (by kernel_rfl) (by kernel_rfl) (by kernel_rfl) (relS_more s x t2 g cap a v 2) ?_ ?_
     · intro i' hi
       have hi2 : i' < 7 := by simpa using hi
       clear hi
       match i', hi2 with
       | 0, _ =>
         intro ρ W hb hc hg hf h0 hd
         have t12 := h0 12 (by kernel_rfl)
         have c12 := (H12.out.later hb).cell 0 _ rfl
         clear hd h0
         go_simp
         exact ⟨rfl, Below.refl _ _⟩
       | 1, _ =>
         intro ρ W hb hc hg hf h0 hd
         have t13 := h0 13 (by kernel_rfl)
         clear hd h0
         go_simp
         exact ⟨rfl, Below.refl _ _⟩
       | 2, _ =>
         intro ρ W hb hc hg hf h0 hd
         have d1 : ρ (.tmp 67) = .int .i64 (a : Int) := hd 1 67 (by kernel_rfl) (by kernel_rfl)
         clear hd h0
         go_simp
         exact ⟨rfl, Below.refl _ _⟩
       | 3, _ =>
         intro ρ W hb hc hg hf h0 hd
         have d0 : ρ (.tmp 66) = .slice (some ⟨g, 0, none⟩) s.size cap := hd 0 66 (by kernel_rfl) (by kernel_rfl)
         have d2 : ρ (.tmp 68) = .int .i64 ((a + 2 : Nat) : Int) := hd 2 68 (by kernel_rfl) (by kernel_rfl)
         clear hd h0
         go_simp
         exact ⟨⟨_, rfl⟩, Below.refl _ _⟩
       | 4, _ =>
         intro ρ W hb hc hg hf h0 hd
         have t14 := h0 14 (by kernel_rfl)
         clear hd h0
         go_simp
         exact ⟨rfl, Below.refl _ _⟩
       | 5, _ =>
         intro ρ W hb hc hg hf h0 hd
         have t6 := h0 6 (by kernel_rfl)
         have cb := (H6.out.later hb).cell 0 _ rfl
         clear hd h0
         go_simp
         exact ⟨rfl, Below.refl _ _⟩
       | 6, _ =>
         intro ρ W hb hc hg hf h0 hd
         have d4 : ρ (.tmp 70) = .string x := hd 4 70 (by kernel_rfl) (by kernel_rfl)
         have d5 : ρ (.tmp 71) = .int .u32 (v : Int) := hd 5 71 (by kernel_rfl) (by kernel_rfl)
         clear hd h0
         go_simp
         exact (HM2.out W).mono fun e w' ⟨he, hb⟩ => ⟨_, he, rfl, hb⟩
       | i' + 7, hlt => exact absurd hlt (by omega)
     · intro vs W1 hb hall
       have hd : ∃ dc, vs 3 = .slice (some ⟨g, a + 2, none⟩) (s.size - (a + 2)) dc := hall 3 (by omega)
       have hq : vs 6 = .string t2 := hall 6 (by omega)
       obtain ⟨dc, hd⟩ := hd
       clear hall
       rw [lexA_slots vs 7 [(some 66, 0), (some 67, 1), (some 68, 2), (some 69, 3), (some 70, 4), (some 71, 5), (some 72, 6)] (by kernel_rfl)]
       simp only [List.foldl_cons, List.foldl_nil, hd, hq]
       simp only [put_lit, List.set_cons_succ, List.set_cons_zero]
       show wpListIn _ _ _ _ _ [_] _ _
       obtain ⟨W2, hcp, hH2, hA2, hb2, hk2⟩ := copy_held (held_more HH.out hb) (a + 2) (s.size - (a + 2)) dc 3 t2 (by omega) (by omega)
       rw [HB2.out, hz2, putA_is] at hH2
       have J12 := Lib.hid (cellsAt_apart (H12.out.later hb) (by omega) hA2)
       have J5 := Lib.hid (cellsAt_apart (H5.out.later hb) (by omega) hA2)
       have J6 := Lib.hid (cellsAt_apart (H6.out.later hb) (by omega) hA2)
       have J7 := Lib.hid (cellsAt_apart (H7.out.later hb) (by omega) hA2)
       have JS := Lib.hid (cellsAt_apart (HS.out.later hb) (by omega) hA2)
       have JB := Lib.hid ((HB.out.trans (hb.mono HB.out.size)).trans (hb2.mono (by omega)))
       have JK := Lib.hid ((keeps_of_below hb).trans hk2)
       have JR := Lib.hid ((KeepR.of_below (hb.mono HLT.out)).trans (keepR_apart hA2 (b := g + 1 + 1) (by omega)))
       have JH := Lib.hid hH2
       clear hH2 hA2 hb2 hk2 hd hq
       gi_wp2
       clear hcp
       refine wpIn_region_see_tail 7 84 (relS s x t6 g cap a e 6) rfl (by kernel_rfl) (by kernel_rfl) (by kernel_rfl) (by kernel_rfl) (by kernel_rfl) (relS_more s x t6 g cap a e 6) ?_ ?_
       · intro i' hi
         have hi2 : i' < 7 := by simpa using hi
         clear hi
         match i', hi2 with
         | 0, _ =>
           intro ρ W hb hc hg hf h0 hd
           have t12 := h0 12 (by kernel_rfl)
           have c12 := (J12.out.later hb).cell 0 _ rfl
           clear hd h0
           go_simp
           exact ⟨rfl, Below.refl _ _⟩
         | 1, _ =>
           intro ρ W hb hc hg hf h0 hd
           have t13 := h0 13 (by kernel_rfl)
           clear hd h0
           go_simp
           exact ⟨rfl, Below.refl _ _⟩
         | 2, _ =>
           intro ρ W hb hc hg hf h0 hd
           have d1 : ρ (.tmp 75) = .int .i64 (a : Int) := hd 1 75 (by kernel_rfl) (by kernel_rfl)
           clear hd h0
           go_simp
           exact ⟨rfl, Below.refl _ _⟩
         | 3, _ =>
           intro ρ W hb hc hg hf h0 hd
           have d0 : ρ (.tmp 74) = .slice (some ⟨g, 0, none⟩) s.size cap := hd 0 74 (by kernel_rfl) (by kernel_rfl)
           have d2 : ρ (.tmp 76) = .int .i64 ((a + 6 : Nat) : Int) := hd 2 76 (by kernel_rfl) (by kernel_rfl)
           clear hd h0
           go_simp
           exact ⟨⟨_, rfl⟩, Below.refl _ _⟩
         | 4, _ =>
           intro ρ W hb hc hg hf h0 hd
           have t14 := h0 14 (by kernel_rfl)
           clear hd h0
           go_simp
           exact ⟨rfl, Below.refl _ _⟩
         | 5, _ =>
           intro ρ W hb hc hg hf h0 hd
           have t7 := h0 7 (by kernel_rfl)
           have cb := (J7.out.later hb).cell 0 _ rfl
           clear hd h0
           go_simp
           exact ⟨rfl, Below.refl _ _⟩
         | 6, _ =>
           intro ρ W hb hc hg hf h0 hd
           have d4 : ρ (.tmp 78) = .string x := hd 4 78 (by kernel_rfl) (by kernel_rfl)
           have d5 : ρ (.tmp 79) = .int .u32 (e : Int) := hd 5 79 (by kernel_rfl) (by kernel_rfl)
           clear hd h0
           go_simp
           exact (HM6.out W).mono fun e w' ⟨he, hb⟩ => ⟨_, he, rfl, hb⟩
         | i' + 7, hlt => exact absurd hlt (by omega)
       · intro vs W3 hb hall
         have hd : ∃ dc, vs 3 = .slice (some ⟨g, a + 6, none⟩) (s.size - (a + 6)) dc := hall 3 (by omega)
         have hq : vs 6 = .string t6 := hall 6 (by omega)
         obtain ⟨dc, hd⟩ := hd
         clear hall
         rw [lexA_slots vs 7 [(some 74, 0), (some 75, 1), (some 76, 2), (some 77, 3), (some 78, 4), (some 79, 5), (some 80, 6)] (by kernel_rfl)]
         simp only [List.foldl_cons, List.foldl_nil, hd, hq]
         simp only [put_lit, List.set_cons_succ, List.set_cons_zero]
         show wpListIn _ _ _ _ _ [_] _ _
         have hcl2 : (putA (bz s) c (a + 2) v).length = s.size := by rw [putA_len _ _ _ _ (by omega), hcl]
         obtain ⟨W4, hcp, hH4, hA4, hb4, hk4⟩ := copy_held (held_more JH.out hb) (a + 6) (s.size - (a + 6)) dc 3 t6 (by omega) (by omega)
         rw [HB6.out, hz6, putA_is] at hH4
         have L12 := Lib.hid (cellsAt_apart (J12.out.later hb) (by omega) hA4)
         have L5 := Lib.hid (cellsAt_apart (J5.out.later hb) (by omega) hA4)
         have L6 := Lib.hid (cellsAt_apart (J6.out.later hb) (by omega) hA4)
         have L7 := Lib.hid (cellsAt_apart (J7.out.later hb) (by omega) hA4)
         have LS := Lib.hid (cellsAt_apart (JS.out.later hb) (by omega) hA4)
         have LB := Lib.hid ((JB.out.trans (hb.mono JB.out.size)).trans (hb4.mono (by omega)))
         have LK := Lib.hid ((JK.out.trans (keeps_of_below hb)).trans hk4)
         have LR := Lib.hid ((JR.out.trans (KeepR.of_below (hb.mono JS.out.1))).trans (keepR_apart hA4 (b := g + 1 + 1) (by omega)))
         have LH := Lib.hid hH4
         clear hH4 hA4 hb4 hk4 hd hq
         gi_wp2
         exact ⟨LK.out, LR.out, ⟨_, HF2.out.symm, by rw [putA_len _ _ _ _ (by omega), hcl2], putA_le _ _ (putA_le _ _ HC8.out), LH.out⟩, L12.out, L5.out, L6.out, L7.out, LS.out, LB.out⟩
   · have q5 : ((k : Int) == 5) = false := beq_eq_false_iff_ne.2 (by omega)
     have q8 : ((k : Int) == 8) = false := beq_eq_false_iff_ne.2 (by omega)
     have HF2 := Lib.hid (show (vals (pre ++ [⟨a, ha⟩])).foldl (putP bl v e (bz s)) (bz s) = c by rw [HF.out, if_neg c8, if_neg c5])
     clear HF c5 c8
     gi_wp2
     exact ⟨KeepsOthers.refl _, KeepR.refl _, ⟨c, HF2.out.symm, hcl, HC8.out, HH.out⟩, H12.out, H5.out, H6.out, H7.out, HS.out, HB.out⟩
 case done =>
   rintro D ys W hD hys ⟨⟨c, hc, hcl, hc8, hH⟩, h12, h5, h6, h7, hS, hB⟩ hK
   rw [hys] at hc
   have HC := Lib.hid hc
   have HK := Lib.hid hK
   have HB := Lib.hid hB
   have HDD := Lib.hid hD
   have c12 := h12.cell 0 _ rfl
   have hst := held_string hH hc8 cap s.size hcl.symm
   clear hys hc hH h12 h5 h6 h7 hS hB hK hD
   gi_wp2
   refine ⟨by simp, .inl ⟨_, _, rfl, run_takeDeferred HK.out, ?_⟩⟩
   have hB8 := HB.out.trans (belowK_b (w := w) (Nat.le_refl _) W D _ (.deferred none) (by have := HDD.out; omega) HK.out rfl rfl)
   refine ⟨.tuple #[.string (ofB c), .int .i64 0], ?_, ?_, hB8⟩
   · simp [results, Tryz.f18, go_sem]
   · rw [HV.out, HC.out]
 case stop =>
   rintro D c pre W _ _ h _
   exact h.elim
end Go.Proofs.YtpmnmnflaijaaaaGreat.OptPU
namespace Go.Proofs.YtpmnmnflaijaaaaGreat.OptP
open Go.RowKit OptTake5 TupMath SumMath Litb Calm IpMath OptMath OptRef OptPlc OptSame OptMay OptTk OptDec OptTurn
set_option linter.unusedVariables false
theorem mayP (o : Opn) (A : Option Addr) (c : Nat) (w : World) (hbk : BlkR w A o.blocks) (k : o.ok) :
   Calls Tryz.prog 44 #[ov o A c] w fun e w' => e = .returned (.bool (mayO o)) ∧ Below w.heap.size w w' := OptPE.mayP o A c w hbk k
theorem noneP (w : World) : Calls Tryz.prog 14 #[] w fun e w' => e = .returned (ov none0 none 0) ∧ Below w.heap.size w w' := OptPT.noneP w
theorem encP7 (o : Opn) (A : Option Addr) (c : Nat) (w : World) (hbk : BlkR w A o.blocks) (k : o.ok) :
   Calls Tryz.prog 36 #[ov o A c] w fun e w' => e = .returned (encV7 o) ∧ Below w.heap.size w w' := OptPE.encP7 o A c w hbk k
theorem turnP7 (s : ByteArray) (bl v e : Nat) (w : World) (hs : s.size ≤ 1000000) (hb : bl ≤ 4294967295) (hv : v ≤ 4294967295) (he : e ≤ 4294967295) :
   Calls Tryz.prog 18 #[.string s, .int .u32 (bl : Int), .int .u32 (v : Int), .int .u32 (e : Int)] w fun r w' => r = .returned (turnV bl v e (bz s)) ∧ Below w.heap.size w w' := OptPU.turnP7 s bl v e w hs hb hv he
theorem decP7 (s : ByteArray) (w : World) (hs : s.size ≤ 1000000) : Calls Tryz.prog 41 #[.string s] w (DecOut (bz s) w) := OptPD.decP7 s w hs
theorem sameP (o p : Opn) (Ao : Option Addr) (co : Nat) (Ap : Option Addr) (cp : Nat) (w : World) (ho : BlkR w Ao o.blocks) (hp : BlkR w Ap p.blocks) (lo : o.blocks.length ≤ 1000000) (lp : p.blocks.length ≤ 1000000) :
   Calls Tryz.prog 43 #[ov o Ao co, ov p Ap cp] w fun e w' => e = .returned (.bool (decide (o = p))) ∧ Below w.heap.size w w' := OptPS.sameP o p Ao co Ap cp w ho hp lo lp
end Go.Proofs.YtpmnmnflaijaaaaGreat.OptP
