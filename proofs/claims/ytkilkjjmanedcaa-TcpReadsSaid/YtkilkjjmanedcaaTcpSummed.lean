/-
  Package tcp: what a checksum is of (summed).
-/
import Derived.Test.YtkilkjjmanedcaaNum16
import Derived.Test.YtkilkjjmanedcaaNum32
import Derived.Test.YtkilkjjmanedcaaSumStrs
import Derived.Test.YtkilkjjmanedcaaTcpRef
namespace Go.Proofs.Ytkilkjjmanedcaa.TcpSummed
open Go.RowKit TupMath SumMath IpMath IpRef TcpMath TcpRef Litb Rel Num SumWords SumStrs Go.Proofs.Ytkilkjjmanedcaa.Own
set_option linter.unusedVariables false
set_option maxRecDepth 100000

theorem info_str : (Try.prog.info? 9).map (fun i => (i.zero, i.size, i.bytes)) = some (some (.string ⟨#[]⟩), 1, 16) := by kernel_rfl

theorem app_strs {ops : Array Oper} {rest : List Oper} {o : Oper} {a : Act} {Q : Exit → Act → World → Prop} (W : World) (hgd : o.guard = none) (s x : Operand)
    (ho : o.op = .call { callee := .builtin .append, args := #[s, x], argTypes := #[46, 46] })
    (base : Nat) (y : ByteArray) (B : Nat) (hB : W.heap.size = B) (hs : a.eval s = .slice (some ⟨B, 0, none⟩) 1 1) (hbase : base ≤ W.heap.size)
    (A : Option Addr) (n c : Nat) (L : List ByteArray) (hx : a.eval x = .slice A n c) (hr : StrR W W.heap.size A n L) (h0 : 0 < n) (hn : n ≤ 1000)
    (h : ∀ A' c' w', StrR w' w'.heap.size A' (1 + n) (y :: L) → Below base W w' → wpList Try.prog ops Q rest (a.put o.dst (.slice A' (1 + n) c')) w') :
    wpList Try.prog ops Q (o :: rest) a (W.alloc (.cells #[.string y] 9)) := by
  subst hB
  obtain ⟨i0, hi, hz0, hz1, hz2⟩ := info_parts info_str
  have hown : (W.alloc (.cells #[.string y] 9)).ownsRow base 9 1 (.slice (some ⟨W.heap.size, 0, none⟩) 1 1) 1 [.string y] :=
    ⟨rfl, .inr ⟨W.heap.size, 1, #[.string y], rfl, hbase, heap_alloc_new W _, Nat.le_refl _, by unfold maxLen; omega, rfl, rfl⟩⟩
  have hr2 := strs_alloc hr (.cells #[.string y] 9)
  obtain ⟨b, off, rfl, hb, hc⟩ := hr2.at_ h0
  have hlen := hr.len
  refine wpList_append_own _ hgd s x 46 ho base 9 i0 _ 1 16 Try.underlying46 hi hz0 hz1 hz2 rfl (by decide) _ 1 [.string y] hs hown ⟨b, off, none⟩ n c (L.map Value.string) hx (by simp [hlen]) ?_ ?_ (by unfold maxLen; omega) (by omega) (by simp; omega) ?_
  · intro j u hj
    have e : (⟨b, off, none⟩ : Addr).add j = ⟨b, off + j, none⟩ := by
      unfold Addr.add
      split <;> simp_all
    rw [List.getElem?_map] at hj
    by_cases hjl : j < L.length
    · rw [List.getElem?_eq_getElem hjl] at hj
      rw [e, hc j hjl]
      exact hj
    · rw [List.getElem?_eq_none (by omega)] at hj; cases hj
  · intro u hu
    obtain ⟨z, _, rfl⟩ := List.mem_map.1 hu
    rfl
  · intro v' w' h2 h3 _
    obtain ⟨A', c', rfl⟩ := own_form h2
    obtain ⟨g, rfl, hg1, hg2, hcell, _⟩ := own_at h2 (by omega)
    refine h _ c' w' ⟨by rw [List.length_cons]; omega, fun _ => ⟨g, 0, rfl, hg2, fun j hj => ?_⟩⟩ ?_
    · refine hcell j _ ?_
      match j, hj with
      | 0, _ => rfl
      | j + 1, hj =>
        rw [List.cons_append, List.nil_append, List.getElem?_cons_succ, List.getElem?_map, List.getElem?_eq_getElem (by simpa using hj)]
        rfl
    · refine (((Below.refl base W).alloc hbase _).grown h3 (by simp; omega) fun k hk => ?_)
      exact (hown.lt k hk).1

theorem lay32s (x y : Nat) (w : World) (hx : x ≤ 4294967295) (hy : y ≤ 4294967295) : Calls Try.prog 13 #[.slice (some ⟨w.heap.size, 0, none⟩) 2 2] (w.alloc (.cells #[.int .u32 (x : Int), .int .u32 (y : Int)] 22)) fun e w' => e = .returned (.string (ofB (w4s [x, y]))) ∧ Below (w.alloc (.cells #[.int .u32 (x : Int), .int .u32 (y : Int)] 22)).heap.size (w.alloc (.cells #[.int .u32 (x : Int), .int .u32 (y : Int)] 22)) w' :=
  layH32 (HoldK.new .u32 w [x, y] _) (by simp) (by simp) (by intro z hz; simp at hz; omega)
theorem lay16s (y : Nat) (w : World) (hy : y ≤ 65535) : Calls Try.prog 12 #[.slice (some ⟨w.heap.size, 0, none⟩) 2 2] (w.alloc (.cells #[.int .u16 6, .int .u16 (y : Int)] 23)) fun e w' => e = .returned (.string (ofB (w2s [6, y]))) ∧ Below (w.alloc (.cells #[.int .u16 6, .int .u16 (y : Int)] 23)).heap.size (w.alloc (.cells #[.int .u16 6, .int .u16 (y : Int)] 23)) w' :=
  layH16 (HoldK.new .u16 w [6, y] _) (by simp) (by simp) (by intro z hz; simp at hz; omega)
theorem ps_words (src dst n : Nat) : w4s [src, dst] ++ w2s [6, n] = ps src dst n := rfl

set_option maxHeartbeats 16000000 in
theorem summed_any (src dst : Nat) (A : Option Addr) (n c : Nat) (L : List ByteArray) (w : World) (hs : src ≤ 4294967295) (hd : dst ≤ 4294967295) (hr : StrR w w.heap.size A n L) (h0 : 0 < n) (hn : n ≤ 1000) (hl : (cat L).length ≤ 65535) :
    Calls Try.prog 16 #[.int .u32 (src : Int), .int .u32 (dst : Int), .slice A n c] w fun e w' => ∃ A' c', e = .returned (.slice A' (1 + n) c') ∧ StrR w' w'.heap.size A' (1 + n) (ofB (ps src dst (cat L).length) :: L) ∧ Below w.heap.size w w' := by
  have HR := Lib.hid hr
  have hlen := hr.len
  clear hr
  subst hlen
  go_enter Try.func16, Try.ntmps16
  go_wp2
  go_loopw [7, 13] (fun v i wr => ∃ k : Nat, i = .int .i64 (k : Int) ∧ k ≤ L.length ∧ v = .int .i64 ((cat (L.take k)).length : Int) ∧ Below w.heap.size w wr) (fun _ i _ => L.length - (intOf i).toNat)
  case atStart => exact ⟨0, rfl, by omega, rfl, Below.refl _ _⟩
  case round =>
    obtain ⟨k, rfl, hk, rfl, hB⟩ := hrel
    have HB := Lib.hid hB
    clear hB
    by_cases hlt : k < L.length
    · obtain ⟨b, off, rfl, hb, hc⟩ := HR.out.at_ hlt
      have hkl := hlt
      have hcx : wr.cell? ⟨b, off + k, none⟩ = some (.string L[k]) := (HB.out.cell (p := ⟨b, off + k, none⟩) hb).trans (hc k hkl)
      have e1 := congrArg List.length (cat_take L k hkl)
      have e2 := sub_len L k L[k].size hkl
      rw [List.length_append, List.length_take, SumPlain.bz_len] at e2
      rw [List.length_append, SumPlain.bz_len] at e1
      clear hc
      generalize L[k] = s at hcx e1 e2
      generalize (cat (L.take k)).length = q at e1 e2
      have E1 := Lib.hid e1
      have hq : q + s.size ≤ 65535 := by omega
      clear e1 e2
      go_wp2
      go_roundw
      case rel => exact ⟨k + 1, by go_num, by omega, by rw [E1.out]; rfl, HB.out⟩
      case measure => simp [intOf]; omega
    · obtain rfl : k = L.length := by omega
      have e : (cat (L.take L.length)).length = (cat L).length := by rw [List.take_of_length_le (Nat.le_refl _)]
      rw [e]
      clear e
      generalize hq : (cat L).length = q at hl
      have HQ := Lib.hid hq
      have e16 : IntKind.u16.wrap (q : Int) = (q : Int) := by rw [IntKind.wrap_u16]; omega
      clear hq
      go_wp2_with fail
      refine (lay32s src dst wr hs hd).mono ?_
      rintro e w1 ⟨rfl, hb1⟩
      have B1 := Lib.hid (st_call (st_alloc HB.out _) hb1)
      clear hb1
      go_wp2_with fail
      refine (lay16s q w1 hl).mono ?_
      rintro e w2 ⟨rfl, hb2⟩
      have B2 := Lib.hid (st_call (st_alloc B1.out _) hb2)
      have hsz := B2.out.size
      have hz := app_size (a := w4s [src, dst]) (b := w2s [6, q]) (Nat.le_of_ble_eq_true rfl)
      clear hb2
      go_wp2_with (at_builtin; refine stop_here ?_)
      refine stop_go (app_strs _ rfl _ _ rfl w.heap.size _ _ rfl rfl hsz A L.length c L rfl ?_ h0 hn ?_)
      · exact (HR.out.below B2.out).mono B2.out.size
      · intro A' c' w' hS hB'
        go_wp2
        go_ret
        refine ⟨A', c', rfl, ?_, B2.out.trans hB'⟩
        rw [HQ.out, ← ps_words, ← ofB_app]
        exact hS
end Go.Proofs.Ytkilkjjmanedcaa.TcpSummed
