/-
  What the document's own answers of layer 2 come to: a number put into rising ones.
-/
import Derived.Test.YtpglooaebndbiaaSpanLay
import Derived.Test.YtpglooaebndbiaaSpanPlain
namespace Go.Proofs.Ytpglooaebndbiaa.SpanRef4
open Go.RowKit SpanLay SpanPlain

theorem info_u64 : (Try.prog.info? 28).map (fun i => (i.zero, i.size, i.bytes)) = some (some (.int .u64 0), 1, 8) := by kernel_rfl

theorem app_u64 {ops : Array Oper} {rest : List Oper} {o : Oper} {a : Act} {Q : Exit → Act → World → Prop} (W : World) (hgd : o.guard = none) (s x : Operand)
    (ho : o.op = .call { callee := .builtin .append, args := #[s, x], argTypes := #[62, 62] })
    (base : Nat) (v : Value) (n : Nat) (N : List Int) (hs : a.eval s = v) (hown : W.ownsRow base 28 1 v n (N.flatMap encN))
    (y : Int) (B : Nat) (hB : W.heap.size = B) (hx : a.eval x = .slice (some ⟨B, 0, none⟩) 1 1) (hbase : base ≤ W.heap.size) (hn : n + 1 ≤ 1099511627776)
    (h : ∀ A' c' w', w'.ownsRow base 28 1 (.slice A' (n + 1) c') (n + 1) ((N ++ [y]).flatMap encN) → Below base W w' → wpList Try.prog ops Q rest (a.put o.dst (.slice A' (n + 1) c')) w') :
    wpList Try.prog ops Q (o :: rest) a (W.alloc (.cells #[.int .u64 y] 28)) := by
  obtain ⟨i0, hi, hz0, hz1, hz2⟩ := info_parts info_u64
  refine wpList_app W hgd s x 62 ho base 28 i0 _ 1 8 Try.underlying62 hi hz0 hz1 hz2 rfl (by decide) v n _ hs hown 1 #[.int .u64 y] B hB hx rfl (by intro u hu; simp at hu; subst hu; rfl) hbase hn (by decide) ?_
  intro A' c' w' h1 h2
  refine h A' c' w' ?_ h2
  rw [encN_snoc]
  exact h1

set_option maxHeartbeats 1000000 in
theorem put_any (A : Option Addr) (n c : Nat) (N : List Int) (x : Int) (w : World) (hr : NmR w w.heap.size A n N) (hm : n ≤ 1000000000) :
    Calls Try.prog 56 #[.slice A n c, .int .u64 x] w (NmOut w (putI N x)) := by
  have Hr := Lib.hid hr
  clear hr
  go_enter Try.func56, Try.ntmps56
  go_wp2
  go_loopw [5, 6, 7] (fun o d i wr => ∃ k : Nat, k ≤ n ∧ i = .int .i64 k ∧ (∃ b : Bool, d = .bool b ∧ doneTo N x k = b) ∧ (∃ A' c' m, o = .slice A' m c' ∧ wr.ownsRow w.heap.size 28 1 (.slice A' m c') m ((outTo N x k).flatMap encN)) ∧ (x ∉ N.take k) ∧ Below w.heap.size w wr) (fun _ _ i _ => n - (intOf i).toNat)
  case atStart => exact ⟨0, Nat.zero_le _, rfl, ⟨false, rfl, rfl⟩, ⟨none, 0, 0, rfl, World.ownsRow_nil _ _ _ _⟩, by simp, Below.refl _ _⟩
  case round =>
    obtain ⟨k, hk, rfl, ⟨d, rfl, hd⟩, ⟨A', c', m, rfl, hown⟩, hni, hbw⟩ := hrel
    have Hd := Lib.hid hd
    have Hn := Lib.hid hni
    have HB := Lib.hid hbw
    have HO := Lib.hid hown
    have hsz : w.heap.size ≤ wr.heap.size := hbw.size
    clear hd hni hbw hown
    have hml : m = (outTo N x k).length := by have := HO.out.1; rw [encN_len] at this; omega
    have hm1 : m ≤ k + 1 := by have := outTo_len N x k; omega
    clear hml
    by_cases hlt : k < n
    · obtain ⟨b, off, rfl, hb, hc⟩ := (Hr.out.below HB.out).at_ hlt
      have hkl : k < N.length := by have := Hr.out.len; omega
      have hc1 := hc k hkl
      obtain ⟨y, hy⟩ : ∃ y, N[k] = y := ⟨_, rfl⟩
      rw [hy] at hc1
      have HY := Lib.hid hy
      clear hy hc
      have hbn : b < wr.heap.size := by omega
      by_cases he : y = x
      · subst he
        go_wp2_with fail
        go_ret
        exact ⟨_, _, _, rfl, by rw [putI_there hkl HY.out]; exact (Hr.out.below HB.out).mono HB.out.size, HB.out⟩
      · have he1 : (y == x) = false := by simpa using he
        have HNX := Lib.hid (not_mem_succ hkl (by rw [HY.out]; exact he) Hn.out)
        rcases d with _ | _
        · by_cases hx : x < y
          · obtain ⟨e1, e2⟩ := outTo_first hkl Hd.out (by rw [HY.out]; exact hx)
            rw [HY.out] at e1
            have E1 := Lib.hid e1
            have E2 := Lib.hid e2
            clear e1 e2
            go_wp2_with (at_builtin; refine stop_here ?_)
            refine stop_go (app_u64 _ rfl _ _ rfl w.heap.size _ m _ rfl HO.out x _ rfl rfl hsz (by omega) ?_)
            intro A1 c1 w1 h1 hb1
            have H1 := Lib.hid h1
            have HB1 := Lib.hid hb1
            have hc2 : w1.cell? ⟨b, off + k, none⟩ = some (.int .u64 y) := (hb1.cell (p := ⟨b, off + k, none⟩) hb).trans hc1
            have hsz1 : w.heap.size ≤ w1.heap.size := by have := hb1.size; omega
            clear h1 hb1
            go_wp2_with (at_builtin; refine stop_here ?_)
            refine stop_go (app_u64 _ rfl _ _ rfl w.heap.size _ _ _ rfl H1.out y _ rfl rfl hsz1 (by omega) ?_)
            intro A2 c2 w2 h2 hb2
            have H2 := Lib.hid h2
            have HB2 := Lib.hid hb2
            clear h2 hb2
            go_wp2_with fail
            go_roundw
            case rel => exact ⟨k + 1, by omega, by go_num, ⟨true, rfl, E2.out⟩, ⟨A2, c2, _, rfl, by rw [E1.out]; exact H2.out⟩, HNX.out, HB.out.trans (HB1.out.trans HB2.out)⟩
            case measure => simp [intOf]; omega
          · obtain ⟨e1, e2⟩ := outTo_low hkl Hd.out (by rw [HY.out]; exact hx)
            rw [HY.out] at e1
            have E1 := Lib.hid e1
            have E2 := Lib.hid e2
            clear e1 e2
            go_wp2_with (at_builtin; refine stop_here ?_)
            refine stop_go (app_u64 _ rfl _ _ rfl w.heap.size _ m _ rfl HO.out y _ rfl rfl hsz (by omega) ?_)
            intro A1 c1 w1 h1 hb1
            have H1 := Lib.hid h1
            have HB1 := Lib.hid hb1
            clear h1 hb1
            go_wp2_with fail
            go_roundw
            case rel => exact ⟨k + 1, by omega, by go_num, ⟨false, rfl, E2.out⟩, ⟨A1, c1, _, rfl, by rw [E1.out]; exact H1.out⟩, HNX.out, HB.out.trans HB1.out⟩
            case measure => simp [intOf]; omega
        · obtain ⟨e1, e2⟩ := outTo_done (x := x) hkl Hd.out
          rw [HY.out] at e1
          have E1 := Lib.hid e1
          have E2 := Lib.hid e2
          clear e1 e2
          go_wp2_with (at_builtin; refine stop_here ?_)
          refine stop_go (app_u64 _ rfl _ _ rfl w.heap.size _ m _ rfl HO.out y _ rfl rfl hsz (by omega) ?_)
          intro A1 c1 w1 h1 hb1
          have H1 := Lib.hid h1
          have HB1 := Lib.hid hb1
          clear h1 hb1
          go_wp2_with fail
          go_roundw
          case rel => exact ⟨k + 1, by omega, by go_num, ⟨true, rfl, E2.out⟩, ⟨A1, c1, _, rfl, by rw [E1.out]; exact H1.out⟩, HNX.out, HB.out.trans HB1.out⟩
          case measure => simp [intOf]; omega
    · have hkn : N.length ≤ k := by have := Hr.out.len; omega
      rcases d with _ | _
      · go_wp2_with (at_builtin; refine stop_here ?_)
        refine stop_go (app_u64 _ rfl _ _ rfl w.heap.size _ m _ rfl HO.out x _ rfl rfl hsz (by omega) ?_)
        intro A1 c1 w1 h1 hb1
        have H1 := Lib.hid h1
        have HB1 := Lib.hid hb1
        clear h1 hb1
        go_wp2_with fail
        go_ret
        exact ⟨_, _, _, rfl, by rw [putI_end hkn Hn.out Hd.out]; exact NmR.of_own H1.out, HB.out.trans HB1.out⟩
      · go_wp2_with fail
        go_ret
        exact ⟨_, _, _, rfl, by rw [putI_done hkn Hn.out Hd.out]; exact NmR.of_own HO.out, HB.out⟩
end Go.Proofs.Ytpglooaebndbiaa.SpanRef4
