/-
  The program's own iterator over options.
-/
import Derived.Test.YtgpkckaojcodmaaOptPI
namespace Go.Proofs.Ytgpkckaojcodmaa.OptPO
open Go.RowKit Go.Shelf TupMath SumMath Litb Calm IpMath IpRef Rel Num OptMath OptRef OptPlc OptSame OptMay OptTk OptQ OptPT OptPI
set_option linter.unusedVariables false
set_option maxRecDepth 100000
attribute [local go_sem] Oper.semAt_some

/-- the boxes from B1 to B2 hold what they held -/
def KeepR (B1 B2 : Nat) (A W : World) : Prop := ∀ b, B1 ≤ b → b < B2 → W.cell? ⟨b, 0, none⟩ = A.cell? ⟨b, 0, none⟩
theorem KeepR.refl {B1 B2 : Nat} (W : World) : KeepR B1 B2 W W := fun _ _ _ => rfl
theorem KeepR.trans {B1 B2 : Nat} {A B C : World} (h : KeepR B1 B2 A B) (h' : KeepR B1 B2 B C) : KeepR B1 B2 A C := fun b h1 h2 => (h' b h1 h2).trans (h b h1 h2)
theorem KeepR.of_below {B1 B2 : Nat} {A W : World} (h : Below B2 A W) : KeepR B1 B2 A W := fun b _ h2 => h.cell (p := ⟨b, 0, none⟩) h2
theorem lt_of_cell {w : World} {p : Addr} {v : Value} (h : w.cell? p = some v) : p.block < w.heap.size := by
  obtain ⟨o, ho, _⟩ := cells_of_cell h
  exact (Array.getElem?_eq_some_iff.1 ho).1
theorem grown_of_below {W W' : World} (h : Below W.heap.size W W') : W.grownBy W' none := ⟨h.os, h.tape, h.output, h.size, fun k hk _ => h.block k hk⟩
theorem keeps_of_below {W W' : World} (h : Below W.heap.size W W') : KeepsOthers W W' := ⟨h.size, fun k o hk _ => (h.block k (Array.getElem?_eq_some_iff.1 hk).1).trans hk⟩

set_option maxHeartbeats 4000000 in
theorem options1_in (m : Nat) (hm : 2 ≤ m) (l Bs : Nat) (s : ByteArray) (hs : s.size ≤ 1000000) (J Jx : List Nat → World → Prop)
    (hY : ∀ pre a W, a ∈ opts (bz s) 0 → pre ++ [a] <+: opts (bz s) 0 → J pre W → pre.length < (bz s).length + 1 → YieldAt Fence.wide (m - 1) Try.prog l #[.int .i64 (a : Int), .string (cutS s a)] W fun e W' =>
      (e = .returned (.bool true) ∧ J (pre ++ [a]) W' ∧ KeepR Bs (Bs + 1) W W') ∨ (e = .returned (.bool false) ∧ Jx (pre ++ [a]) W'))
    (hJ : ∀ pre W W', J pre W → Below W.heap.size W W' → J pre W')
    (W : World) (hBs : W.cell? ⟨Bs, 0, none⟩ = some (.string s)) (h0 : J [] W) :
    CallsIn Fence.wide m Try.prog 36 #[.func (.yield l) #[] #[], .pointer (some ⟨Bs, 0, none⟩)] W fun e W' => (∃ v, e = .returned v) ∧
      ((∃ ys, ys = opts (bz s) 0 ∧ J ys W') ∨ (∃ pre, pre <+: opts (bz s) 0 ∧ Jx pre W')) := by
  have HY := Lib.hid hY
  have HJ := Lib.hid hJ
  clear hY hJ
  refine callsIn_of_wp Try.func36 rfl trivial ?_ rfl
  simp only [Try.ntmps36, List.size_toArray, List.length_cons, List.length_nil, Nat.reduceAdd, Nat.reduceSub, Array.replicate_succ, Array.replicate_zero, List.push_toArray, List.append_toArray, List.nil_append, List.cons_append]
  gi_wp2
  gi_loopw [3] (fun i wr => ∃ (a : Nat) (pre : List Nat), i = .int .i64 (a : Int) ∧ a ≤ s.size ∧ opts (bz s) 0 = pre ++ opts (bz s) a ∧ J pre wr ∧ KeepR Bs (Bs + 1) W wr)
    (fun i _ => s.size - (intOf i).toNat)
  case atStart => exact ⟨0, [], rfl, by omega, rfl, h0, KeepR.refl _⟩
  case round =>
    obtain ⟨a, pre, rfl, ha, hp, hj, hK⟩ := hrel
    have hc := (hK Bs (Nat.le_refl _) (Nat.lt_succ_self _)).trans hBs
    have HP := Lib.hid hp
    have HK := Lib.hid hK
    have HJ0 := Lib.hid hj
    clear hp hK hj
    by_cases hlt : a < s.size
    · have hltb : a < (bz s).length := by rw [bz_len]; exact hlt
      have z := at_byte s a hlt
      have hk := at_le s a
      have hlti : (a : Int) < (s.size : Int) := by omega
      obtain ⟨k, hkk⟩ : ∃ k, at0 (bz s) a = k := ⟨_, rfl⟩
      rw [hkk] at z hk
      by_cases c0 : k = 0
      · subst c0
        have HE := Lib.hid (show pre = opts (bz s) 0 by rw [HP.out, opts_zero hltb hkk, List.append_nil])
        clear hkk
        gi_wp2
        go_end0
        exact ⟨⟨_, rfl⟩, .inl ⟨pre, HE.out, HJ0.out⟩⟩
      by_cases c1 : k = 1
      · subst c1
        have HE := Lib.hid (show opts (bz s) 0 = pre ++ opts (bz s) (a + 1) by rw [HP.out, opts_one hltb hkk])
        clear hkk c0
        gi_wp2
        go_roundw
        case rel => exact ⟨a + 1, pre, by go_num, by omega, HE.out, HJ0.out, HK.out⟩
        case measure => simp only [intOf]; omega
      have HE := Lib.hid (show opts (bz s) 0 = (pre ++ [a]) ++ opts (bz s) (a + lenAt (bz s) a) by rw [HP.out, opts_some hltb (by rw [hkk]; exact c0) (by rw [hkk]; exact c1)]; simp)
      have q0 : ((k : Int) == 0) = false := beq_eq_false_iff_ne.2 (by omega)
      have r0 : ((k : Int) != 0) = true := by rw [bne, q0]; rfl
      have q1 : ((k : Int) == 1) = false := beq_eq_false_iff_ne.2 (by omega)
      have hsz := cutS_size s a hlt
      have hl1 := lenAt_pos hltb
      have hl2 := lenAt_le hltb
      rw [bz_len] at hl2
      have HF := Lib.hid (fun W => firstAt s a W hlt hs)
      have hmem : a ∈ opts (bz s) 0 := by rw [HE.out]; simp
      have hpl : pre.length < (bz s).length + 1 := by
        have h1 := opts_few (bz s) (bz s).length 0 (by omega)
        have h2 := congrArg List.length HE.out
        simp only [List.length_append, List.length_cons, List.length_nil] at h2
        omega
      have HYY := Lib.hid (fun W hj => HY.out pre a W hmem ⟨_, HE.out.symm⟩ hj hpl)
      clear hkk c0 c1 hmem hpl
      generalize cutS s a = x at hsz HF HYY
      generalize lenAt (bz s) a = n at hsz hl1 hl2 HE
      gi_wp2
      refine ⟨trivial, fun _ => by omega, ?_⟩
      refine (callsIn_wide.2 (HF.out _)).mono ?_
      rintro e w1 ⟨rfl, hb⟩
      have HB := Lib.hid hb
      have hc1 := (hb.cell (p := ⟨Bs, 0, none⟩) (lt_of_cell hc)).trans hc
      obtain ⟨fn, tmps, assign, body, hyy, hR⟩ := HYY.out w1 (HJ.out pre _ w1 HJ0.out hb)
      clear hb
      gi_wp2
      refine ⟨fun _ => by omega, hR.mono ?_⟩
      rintro e W3 (⟨rfl, hJ3, hk3⟩ | ⟨rfl, hJx3⟩)
      · have hc3 := (hk3 Bs (Nat.le_refl _) (Nat.lt_succ_self _)).trans hc1
        have HK3 := Lib.hid (HK.out.trans ((KeepR.of_below (HB.out.mono (lt_of_cell hc))).trans hk3))
        have HJ3 := Lib.hid hJ3
        clear hyy hk3 hJ3
        gi_wp2
        go_roundw
        case rel => exact ⟨a + n, pre ++ [a], by go_num, by omega, HE.out, HJ3.out, HK3.out⟩
        case measure => simp only [intOf]; omega
      · clear hyy
        gi_wp2
        refine bodyPost_ret (results_none rfl _ _ _) rfl ?_
        exact ⟨⟨_, rfl⟩, .inr ⟨_, ⟨_, HE.out.symm⟩, hJx3⟩⟩
    · obtain rfl : a = s.size := by omega
      have HE := Lib.hid (show pre = opts (bz s) 0 by rw [HP.out, opts_end (by rw [bz_len]; omega), List.append_nil])
      gi_wp2
      go_end0
      exact ⟨⟨_, rfl⟩, .inl ⟨pre, HE.out, HJ0.out⟩⟩

/-- A place where an option begins. -/
abbrev Plc (s : ByteArray) := { a : Nat // a ∈ opts (bz s) 0 }
def vals {s : ByteArray} (l : List (Plc s)) : List Nat := l.map (·.1)
theorem vals_snoc {s : ByteArray} (l : List (Plc s)) (x : Plc s) : vals (l ++ [x]) = vals l ++ [x.1] := by simp [vals]
theorem vals_len {s : ByteArray} (l : List (Plc s)) : (vals l).length = l.length := by simp [vals]
theorem place_lt {s : ByteArray} (x : Plc s) : x.1 < s.size ∧ at0 (bz s) x.1 ≠ 0 ∧ at0 (bz s) x.1 ≠ 1 := by
  have h := opts_in (bz s) (bz s).length 0 (by omega) x.1 x.2
  rw [bz_len] at h
  exact h.2

/-- **The options of bytes, one behind the other.** -/
theorem options_stops (m : Nat) (hm : 2 ≤ m) (Bs : Nat) (s : ByteArray) (hs : s.size ≤ 1000000) (w : World) (hB : Bs < w.heap.size) (hc : w.cell? ⟨Bs, 0, none⟩ = some (.string s)) :
    SeqStopsK Fence.wide m Try.prog 36 #[.pointer (some ⟨Bs, 0, none⟩)] (fun x : Plc s => #[Value.int .i64 (x.1 : Int), Value.string (cutS s x.1)]) (KeepR Bs (Bs + 1))
      (fun ys => vals ys = opts (bz s) 0) (fun pre => vals pre <+: opts (bz s) 0) ((bz s).length + 1) w := fun l J Jx W hW hJ _ hY h0 => by
  refine (options1_in m hm l Bs s hs (fun pre W' => ∃ xs : List (Plc s), vals xs = pre ∧ J xs W') (fun pre W' => ∃ xs : List (Plc s), vals xs = pre ∧ Jx xs W') ?_ ?_ W ((hW.cell (p := ⟨Bs, 0, none⟩) hB).trans hc) ⟨[], rfl, h0⟩).mono ?_
  · rintro pre a W1 ha hpre ⟨xs, rfl, hj⟩ hl
    obtain ⟨fn, tmps, assign, body, hyy, hR⟩ := hY xs ⟨a, ha⟩ W1 hj (by rw [vals_len] at hl; exact hl)
    refine ⟨fn, tmps, assign, body, hyy, hR.mono ?_⟩
    rintro e W' (⟨he, hj, hk⟩ | ⟨he, hj⟩)
    · exact .inl ⟨he, ⟨_, vals_snoc _ _, hj⟩, hk⟩
    · exact .inr ⟨he, ⟨_, vals_snoc _ _, hj⟩⟩
  · rintro pre W1 W2 ⟨xs, e, hj⟩ hb
    exact ⟨xs, e, hJ xs W1 W2 none hj (grown_of_below hb) (fun r e => by cases e)⟩
  · rintro e W' ⟨he, ⟨ys, rfl, xs, hx, hj⟩ | ⟨pre, hpre, xs, hx, hj⟩⟩
    · exact ⟨he, .inl ⟨xs, hx, hj⟩⟩
    · exact ⟨he, .inr ⟨xs, by subst hx; exact hpre, hj⟩⟩

set_option maxHeartbeats 1000000 in
/-- options(s): the text is boxed; the function value captures the box. -/
theorem options_in (m : Nat) (s : ByteArray) (w : World) :
    CallsIn Fence.wide m Try.prog 24 #[.string s] w fun e w' => e = .returned (.func (.func 36) #[] #[.pointer (some ⟨w.heap.size, 0, none⟩)]) ∧ w' = w.alloc (.cells #[.string s] 9) := by
  refine callsIn_of_wp Try.func24 rfl trivial ?_ rfl
  simp only [Try.ntmps24, List.size_toArray, List.length_cons, List.length_nil, Nat.reduceAdd, Nat.reduceSub, Array.replicate_succ, Array.replicate_zero, List.push_toArray, List.append_toArray, List.nil_append, List.cons_append]
  gi_wp2
  go_ret
  exact ⟨rfl, rfl⟩
end Go.Proofs.Ytgpkckaojcodmaa.OptPO
