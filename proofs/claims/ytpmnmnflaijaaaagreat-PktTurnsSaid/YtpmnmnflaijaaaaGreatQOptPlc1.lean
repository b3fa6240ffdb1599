/-
  Laws for a proof of package pkt: 1 texts in one.
-/
import Derived.Test.YtpmnmnflaijaaaaGreatQOptAdd3
import Derived.Test.YtpmnmnflaijaaaaGreatQOwn1
import Derived.Deep.LoopGhost
namespace Go.Proofs.YtpmnmnflaijaaaaGreat.OptPlc
open Go.RowKit Own TupMath SumMath Litb Calm Rel IpMath IpRef OptMath OptRef
set_option linter.unusedVariables false
set_option maxRecDepth 100000
theorem info_int : (Tryz.prog.info? 3).map (fun i => (i.zero, i.size, i.bytes)) = some (some (.int .i64 0), 1, 8) := by kernel_rfl
def encI (L : List Nat) : List Value := L.map fun x : Nat => Value.int .i64 (x : Int)
theorem encI_app (L M : List Nat) : encI (L ++ M) = encI L ++ encI M := List.map_append
def OwnI (w : World) (base : Nat) (v : Value) (L : List Nat) : Prop := w.ownsRow base 3 1 v L.length (encI L)
theorem ownI_nil (w : World) (base : Nat) : OwnI w base (.slice none 0 0) [] := World.ownsRow_nil _ _ _ _
theorem OwnI.stays {w w' base v L} (h : OwnI w base v L) (hb : Below w.heap.size w w') : OwnI w' base v L := own_stays h hb
theorem appI {ops : Array Oper} {rest : List Oper} {o : Oper} {a : Act} {Q : Exit → Act → World → Prop} (W : World) (hgd : o.guard = none) (s x : Operand)
   (ho : o.op = .call { callee := .builtin .append, args := #[s, x], argTypes := #[102, 102] })
   (base : Nat) (v : Value) (L : List Nat) (hs : a.eval s = v) (hown : OwnI W base v L)
   (p : Nat) (B : Nat) (hB : W.heap.size = B) (hx : a.eval x = .slice (some ⟨B, 0, none⟩) 1 1) (hbase : base ≤ W.heap.size) (hn : L.length + 1 ≤ 1099511627776)
   (h : ∀ A' c' w', OwnI w' base (.slice A' (L.length + 1) c') (L ++ [p]) → Below base W w' → wpList Tryz.prog ops Q rest (a.put o.dst (.slice A' (L.length + 1) c')) w') :
   wpList Tryz.prog ops Q (o :: rest) a (W.alloc (.cells #[.int .i64 (p : Int)] 3)) := by
 obtain ⟨i0, hi, hz0, hz1, hz2⟩ := info_parts info_int
 refine wpList_app W hgd s x 102 ho base 3 i0 _ 1 8 Tryz.underlying102 hi hz0 hz1 hz2 rfl (by decide) v L.length _ hs hown 1 #[.int .i64 (p : Int)] B hB hx rfl (by intro u hu; simp at hu; subst hu; rfl) hbase hn (by decide) ?_
 intro A' c' w' h1 h2
 refine h A' c' w' ?_ h2
 unfold OwnI
 rw [List.length_append, List.length_singleton, encI_app]
 exact h1
def IntsR (w : World) (v : Value) (L : List Nat) : Prop := ∃ A c, v = .slice A L.length c ∧ (0 < L.length → ∃ g, A = some ⟨g, 0, none⟩ ∧ g < w.heap.size ∧ ∀ (j x : Nat), L[j]? = some x → w.cell? ⟨g, j, none⟩ = some (.int .i64 (x : Int)))
theorem OwnI.reads {w : World} {base : Nat} {v : Value} {L : List Nat} (h : OwnI w base v L) : IntsR w v L := by
 obtain ⟨A, c, rfl⟩ := own_form h
 refine ⟨A, c, rfl, fun hn => ?_⟩
 obtain ⟨g, rfl, _, hg, hc, _⟩ := own_at h hn
 refine ⟨g, rfl, hg, fun j x hx => ?_⟩
 have := hc j (.int .i64 (x : Int)) (by unfold encI; rw [List.getElem?_map, hx]; rfl)
 rw [Nat.zero_add] at this
 exact this
theorem IntsR.more {w w' : World} {v : Value} {L : List Nat} (h : IntsR w v L) (hb : Below w.heap.size w w') : IntsR w' v L := by
 obtain ⟨A, c, rfl, h⟩ := h
 refine ⟨A, c, rfl, fun hn => ?_⟩
 obtain ⟨g, rfl, hg, hc⟩ := h hn
 exact ⟨g, rfl, Nat.lt_of_lt_of_le hg hb.size, fun j x hx => (hb.cell (p := ⟨g, j, none⟩) hg).trans (hc j x hx)⟩
def MetR (w : World) (g : Nat) (met : List Nat) : Prop := g < w.heap.size ∧ ∀ k, k < 256 → w.cell? ⟨g, k, none⟩ = some (.bool (decide (k ∈ met))) ∧ w.frozen? ⟨g, k, none⟩ = false
theorem MetR.more {w w' : World} {g : Nat} {met : List Nat} (h : MetR w g met) {n : Nat} (hn : g < n) (hb : Below n w w') : MetR w' g met :=
 ⟨Nat.lt_of_lt_of_le h.1 hb.size, fun k hk => ⟨(hb.cell (p := ⟨g, k, none⟩) hn).trans (h.2 k hk).1, (hb.frozen (p := ⟨g, k, none⟩) hn).trans (h.2 k hk).2⟩⟩
theorem MetR.put {w : World} {g k : Nat} {met : List Nat} (h : MetR w g met) (hk : k < 256) : MetR (w.setCell ⟨g, k, none⟩ (.bool true)) g (k :: met) := by
 refine ⟨by simpa using h.1, fun j hj => ?_⟩
 by_cases e : j = k
 · subst e
   refine ⟨?_, by simpa using (h.2 j hj).2⟩
   rw [World.cell?_setCell_same' _ _ _ (by rw [(h.2 j hj).1]; rfl)]
   simp
 · refine ⟨?_, by simpa using (h.2 j hj).2⟩
   rw [World.cell?_setCell_other _ _ _ _ (fun q => by injection q with _ q; exact e q.symm), (h.2 j hj).1]
   have : (j ∈ k :: met) ↔ j ∈ met := by simp [e]
   rw [decide_eq_decide.2 this]
theorem own_set {w : World} {base e size : Nat} {v : Value} {n : Nat} {xs : List Value} (h : w.ownsRow base e size v n xs) (g k : Nat) (u : Value) (hg : g < base) : (w.setCell ⟨g, k, none⟩ u).ownsRow base e size v n xs := by
 refine ⟨h.1, ?_⟩
 rcases h.2 with h2 | ⟨b, cap, cur, hv, hb, hh, rest⟩
 · exact .inl h2
 · refine .inr ⟨b, cap, cur, hv, hb, ?_, rest⟩
   rw [← hh]
   simp only [World.setCell, Array.getElem?_modify]
   rw [if_neg (by show ¬ g = b; omega)]
def M256 : Array Value := Array.replicate 256 (.bool false)
theorem met_new (w : World) (T : TypeId) : MetR (w.alloc (.cells M256 T)) w.heap.size [] := by
 refine ⟨by simp, fun k hk => ⟨?_, World.frozen?_alloc_new _ _ _ _⟩⟩
 refine (World.cell?_alloc_mark w M256 T (0, 0) k).trans ?_
 unfold M256
 rw [Array.getElem?_replicate, if_pos hk]
 rfl
def PlOut (l : List Nat) (w : World) (e : Ending) (w' : World) : Prop :=
 (match plc l 0 [] with
   | some ps => ∃ v, e = .returned (.tuple #[v, .bool true]) ∧ IntsR w' v ps
   | none => e = .returned (.tuple #[.slice none 0 0, .bool false])) ∧ Below w.heap.size w w'
theorem mk256 (w : World) : (Instr.makeSlice 139 (.int .i64 256) (.int .i64 256)).run Tryz.prog w = .ok (.slice (some ⟨w.heap.size, 0, none⟩) 256 256) (w.alloc (.cells M256 4)) := by kernel_rfl
theorem map_pre {ps : List Nat} {X : Option (List Nat)} {a : Nat} : (X.map (a :: ·)).map (ps ++ ·) = X.map ((ps ++ [a]) ++ ·) := by cases X <;> simp
set_option maxHeartbeats 16000000 in
theorem placesR (s : ByteArray) (w : World) (hs : s.size ≤ 1000000) : Calls Tryz.prog 57 #[.string s] w (PlOut (bz s) w) := by
 have hmk := mk256
 go_enter Tryz.func57, Tryz.ntmps57
 go_wp2_with fail
 clear hmk
 have hmet := met_new w 4
 have hbel := st_alloc (Below.refl _ w) (.cells M256 4)
 have hsz : (w.alloc (.cells M256 4)).heap.size = w.heap.size + 1 := World.size_alloc _ _
 generalize w.alloc (.cells M256 4) = w1 at hmet hbel hsz ⊢
 have HB1 := Lib.hid hbel
 have HM1 := Lib.hid hmet
 have HS1 := Lib.hid hsz
 clear hbel hmet hsz
 go_loopg [4, 6] s.size (fun g v i wr => ∃ (a : Nat) (A : Option Addr) (c : Nat) (ps met : List Nat), i = .int .i64 (a : Int) ∧ a ≤ s.size ∧ g = s.size - a ∧ v = .slice A ps.length c ∧ ps.length ≤ a ∧ OwnI wr (w.heap.size + 1) (.slice A ps.length c) ps ∧ MetR wr w.heap.size met ∧ plc (bz s) 0 [] = (plc (bz s) a met).map (ps ++ ·) ∧ Below w.heap.size w wr)
 case atStart => exact ⟨0, none, 0, [], [], rfl, by omega, by omega, rfl, by simp, ownI_nil _ _, HM1.out, by cases plc (bz s) 0 [] <;> rfl, HB1.out⟩
 case round =>
   obtain ⟨a, A, c, ps, met, rfl, ha, hg, rfl, hpa, hO, hM, hP, hB⟩ := hrel
   have HG := Lib.hid hg
   have HO := Lib.hid hO
   have HM := Lib.hid hM
   have HP := Lib.hid hP
   have HB := Lib.hid hB
   clear hg hO hM hP hB
   by_cases hlt : a < s.size
   · have hlti : (a : Int) < (s.size : Int) := by omega
     have zk := at_byte s a hlt
     have qk := at_le s a
     obtain ⟨k, hk⟩ : ∃ k, at0 (bz s) a = k := ⟨_, rfl⟩
     rw [hk] at zk qk
     have HK := Lib.hid hk
     have hal : a < (bz s).length := by rw [bz_len]; exact hlt
     clear hk
     by_cases k0 : k = 0
     · subst k0
       have HE := Lib.hid (show plc (bz s) 0 [] = some ps by rw [HP.out, plc_zero hal HK.out]; simp)
       go_wp2_with fail
       go_ret2
       refine ⟨?_, HB.out⟩
       rw [HE.out]
       exact ⟨_, rfl, HO.out.reads⟩
     by_cases k1 : k = 1
     · subst k1
       have HE := Lib.hid (show plc (bz s) 0 [] = (plc (bz s) (a + 1) met).map (ps ++ ·) by rw [HP.out, plc_one hal HK.out])
       go_wp2_with fail
       go_roundg (s.size - (a + 1))
       case measure => have := HG.out; omega
       case rel => exact ⟨a + 1, A, c, ps, met, by go_num, by omega, rfl, rfl, by omega, HO.out, HM.out, HE.out, HB.out⟩
     have HEb : Hid (¬ (a + 1 < (bz s).length ∧ right (at0 (bz s) a) (at0 (bz s) (a + 1)) = true ∧ a + at0 (bz s) (a + 1) ≤ (bz s).length ∧ ¬ (at0 (bz s) a ∈ met ∧ known (at0 (bz s) a) = true)) → plc (bz s) 0 [] = none) := Lib.hid fun hno => by
       rw [HP.out, plc_bad hal (by rw [HK.out]; exact k0) (by rw [HK.out]; exact k1) hno]
       rfl
     have q0 : ((k : Int) == 0) = false := beq_eq_false_iff_ne.2 (by omega)
     have q1 : ((k : Int) == 1) = false := beq_eq_false_iff_ne.2 (by omega)
     by_cases c1 : a + 1 < s.size
     rotate_left
     · have HE := Lib.hid (HEb.out (fun h => c1 (by have := h.1; rw [bz_len] at this; exact this)))
       have i1 : (s.size : Int) ≤ (a : Int) + 1 := by omega
       go_wp2_with fail
       go_ret2
       refine ⟨?_, HB.out⟩
       rw [HE.out]
       rfl
     have i1 : ¬ (s.size : Int) ≤ (a : Int) + 1 := by omega
     have i1b : (a : Int) + 1 < (s.size : Int) := by omega
     have zn := at_byte s (a + 1) c1
     have qn := at_le s (a + 1)
     obtain ⟨n, hn⟩ : ∃ n, at0 (bz s) (a + 1) = n := ⟨_, rfl⟩
     rw [hn] at zn qn
     have HN := Lib.hid hn
     clear hn
     have HX : Hid (∀ (P : Prop), (right k n = true ∧ a + n ≤ s.size ∧ ¬ (k ∈ met ∧ known k = true) → P) → (a + 1 < (bz s).length ∧ right (at0 (bz s) a) (at0 (bz s) (a + 1)) = true ∧ a + at0 (bz s) (a + 1) ≤ (bz s).length ∧ ¬ (at0 (bz s) a ∈ met ∧ known (at0 (bz s) a) = true) → P)) := Lib.hid fun P h q => h (by rw [HK.out, HN.out, bz_len] at q; exact q.2)
     by_cases c2 : right k n = true
     rotate_left
     · have HE := Lib.hid (HEb.out (HX.out False fun h => c2 h.1))
       have hr := rightR k n wr qk qn
       rw [Bool.eq_false_iff.2 c2] at hr
       have HRR := Lib.hid hr
       clear hr
       go_wp2_with (go_at_call 93; refine HRR.out.mono ?_; rintro e w' ⟨rfl, hw⟩; rw [hw])
       go_ret2
       refine ⟨?_, HB.out⟩
       rw [HE.out]
       rfl
     have hr := rightR k n wr qk qn
     rw [c2] at hr
     have HRR := Lib.hid hr
     have HC2 := Lib.hid c2
     have hn2 := right_ge c2
     clear hr c2
     by_cases c3 : a + n ≤ s.size
     rotate_left
     · have HE := Lib.hid (HEb.out (HX.out False fun h => c3 h.2.1))
       have i3 : (s.size : Int) < (a : Int) + (n : Int) := by omega
       go_wp2_with (go_at_call 93; refine HRR.out.mono ?_; rintro e w' ⟨rfl, hw⟩; rw [hw])
       go_ret2
       refine ⟨?_, HB.out⟩
       rw [HE.out]
       rfl
     have i3 : ¬ (s.size : Int) < (a : Int) + (n : Int) := by omega
     have d0 := (HM.out.2 k (by omega)).1
     have f0 := (HM.out.2 k (by omega)).2
     have HKN := Lib.hid (knownR k wr qk)
     have HOK : Hid (¬ (k ∈ met ∧ known k = true) → plc (bz s) 0 [] = (plc (bz s) (a + n) (k :: met)).map ((ps ++ [a]) ++ ·)) := Lib.hid fun hno => by
       rw [HP.out, plc_ok hal (by rw [HK.out]; exact k0) (by rw [HK.out]; exact k1) ⟨by rw [bz_len]; exact c1, by rw [HK.out, HN.out]; exact HC2.out, by rw [HN.out, bz_len]; exact c3, by rw [HK.out]; exact hno⟩, map_pre, HK.out, HN.out]
     by_cases c4 : k ∈ met
     · rw [decide_eq_true c4] at d0
       cases hkn : known k
       · have hk2 := HKN.out
         rw [hkn] at hk2
         have HK2 := Lib.hid hk2
         have HE := Lib.hid (HOK.out (fun h => by rw [hkn] at h; cases h.2))
         clear hk2 hkn
         go_wp2_with (first | (go_at_call 93; refine HRR.out.mono ?_; rintro e w' ⟨rfl, hw⟩; rw [hw]) | (go_at_call 94; refine HK2.out.mono ?_; rintro e w' ⟨rfl, hw⟩; rw [hw]) | (at_builtin; refine stop_here ?_))
         have hM2 := HM.out.put (k := k) (by omega)
         have hO2 : OwnI (wr.setCell ⟨w.heap.size, k, none⟩ (.bool true)) (w.heap.size + 1) (.slice A ps.length c) ps := own_set HO.out w.heap.size k (.bool true) (by omega)
         have hB2 : Below w.heap.size w (wr.setCell ⟨w.heap.size, k, none⟩ (.bool true)) := HB.out.setCell (Nat.le_refl _) _
         have hs1 : w.heap.size + 1 ≤ (wr.setCell ⟨w.heap.size, k, none⟩ (.bool true)).heap.size := hM2.1
         refine stop_go (appI _ rfl _ _ rfl (w.heap.size + 1) _ ps rfl hO2 a wr.heap.size (by simp) rfl hs1 (by omega) ?_)
         intro A' c' w' hO' hB'
         have hM3 := hM2.more (Nat.lt_succ_self _) hB'
         have hB3 := hB2.trans (hB'.mono (Nat.le_succ _))
         clear hM2 hO2 hB2 hs1 d0 f0
         go_wp2_with fail
         go_roundg (s.size - (a + n))
         case measure => have := HG.out; omega
         case rel => exact ⟨a + n, A', c', ps ++ [a], k :: met, by go_num, c3, rfl, by simp, by simp; omega, by simpa using hO', hM3, HE.out, hB3⟩
       · have hk2 := HKN.out
         rw [hkn] at hk2
         have HK2 := Lib.hid hk2
         have HE := Lib.hid (HEb.out (HX.out False fun h => h.2.2 ⟨c4, hkn⟩))
         clear hk2 hkn
         go_wp2_with (first | (go_at_call 93; refine HRR.out.mono ?_; rintro e w' ⟨rfl, hw⟩; rw [hw]) | (go_at_call 94; refine HK2.out.mono ?_; rintro e w' ⟨rfl, hw⟩; rw [hw]))
         go_ret2
         refine ⟨?_, HB.out⟩
         rw [HE.out]
         rfl
     · rw [decide_eq_false c4] at d0
       have HE := Lib.hid (HOK.out (fun h => c4 h.1))
       go_wp2_with (first | (go_at_call 93; refine HRR.out.mono ?_; rintro e w' ⟨rfl, hw⟩; rw [hw]) | (at_builtin; refine stop_here ?_))
       have hM2 := HM.out.put (k := k) (by omega)
       have hO2 : OwnI (wr.setCell ⟨w.heap.size, k, none⟩ (.bool true)) (w.heap.size + 1) (.slice A ps.length c) ps := own_set HO.out w.heap.size k (.bool true) (by omega)
       have hB2 : Below w.heap.size w (wr.setCell ⟨w.heap.size, k, none⟩ (.bool true)) := HB.out.setCell (Nat.le_refl _) _
       have hs1 : w.heap.size + 1 ≤ (wr.setCell ⟨w.heap.size, k, none⟩ (.bool true)).heap.size := hM2.1
       refine stop_go (appI _ rfl _ _ rfl (w.heap.size + 1) _ ps rfl hO2 a wr.heap.size (by simp) rfl hs1 (by omega) ?_)
       intro A' c' w' hO' hB'
       have hM3 := hM2.more (Nat.lt_succ_self _) hB'
       have hB3 := hB2.trans (hB'.mono (Nat.le_succ _))
       clear hM2 hO2 hB2 hs1 d0 f0
       go_wp2_with fail
       go_roundg (s.size - (a + n))
       case measure => have := HG.out; omega
       case rel => exact ⟨a + n, A', c', ps ++ [a], k :: met, by go_num, c3, rfl, by simp, by simp; omega, by simpa using hO', hM3, HE.out, hB3⟩
   · have hlti : ¬ (a : Int) < (s.size : Int) := by omega
     have HE := Lib.hid (show plc (bz s) 0 [] = some ps by rw [HP.out, plc_end (by rw [bz_len]; exact hlt)]; simp)
     go_wp2_with fail
     go_ret2
     refine ⟨?_, HB.out⟩
     rw [HE.out]
     exact ⟨_, rfl, HO.out.reads⟩
end Go.Proofs.YtpmnmnflaijaaaaGreat.OptPlc
