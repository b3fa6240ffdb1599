/-
  What the functions of package span answer: a copy of a list, the span of two, a list in its order with neighbours made one.
-/
import Derived.Test.YtpglooaebndbiaaSpanSort
import Derived.Test.YtpglooaebndbiaaSpanSet
import Derived.Test.YtpglooaebndbiaaSpanAt
import Derived.Test.YtpglooaebndbiaaSpanApp
import Derived.Deep.RegionHeld3
import Derived.WalkLawsBesides
import Derived.WalkSpells
import Derived.Deep.DeepCutAuto
import Derived.Deep.LoopGhost
namespace Go.Proofs.Ytpglooaebndbiaa.SpanJoin
open Go.Shelf Go.RowKit SpanLay SpanPlain SpanPlain2 SpanSort SpanSet SpanApp SpanAt

/-- What a call hands back that makes a list of spans of its own. -/
def OwnOut (w : World) (L : List (Int × Int)) (e : Ending) (w' : World) : Prop := ∃ A n c, e = .returned (.slice A n c) ∧ w'.ownsRow w.heap.size 35 2 (.slice A n c) n (L.flatMap encS) ∧ Below w.heap.size w w'

theorem clone_any (A : Option Addr) (n c : Nat) (L : List (Int × Int)) (w : World) (hr : SpR w w.heap.size A n L) (hm : n ≤ 1000000000) :
    Calls Try.prog 45 #[.slice A n c] w (OwnOut w L) := by
  have q22 : ∀ (w : World) (a : Option Addr) (n c n' c' : Nat), (binOp .eql 33 (.slice a n c) (.slice none n' c')).run Try.prog w = .ok (.bool a.isNone) w := fun w a n c n' c' => Lib.run_eql_slice_nil w _ _ a n c n' c' Try.underlying33
  have Hr := Lib.hid hr
  clear hr
  rcases A with _ | ad
  · go_enter Try.func45, Try.ntmps45
    go_wp2
    go_ret
    have h0 : n = 0 := by
      rcases Nat.eq_zero_or_pos n with h | h
      · exact h
      · obtain ⟨b, off, e, _⟩ := Hr.out.at_ h
        cases e
    obtain rfl : L = [] := List.eq_nil_of_length_eq_zero (by have := Hr.out.len; omega)
    exact ⟨none, 0, 0, rfl, World.ownsRow_nil _ _ _ _, Below.refl _ _⟩
  · obtain ⟨i0, hi, hz0, hz1, hz2⟩ := info_parts info_span
    have hc : ∀ o : Obj, ∀ j u, (L.flatMap encS)[j]? = some u → (w.alloc o).cell? (ad.add j) = some u := by
      intro o j u hj
      have hlt : j < (L.flatMap encS).length := (List.getElem?_eq_some_iff.1 hj).1
      rw [encS_len] at hlt
      obtain ⟨b, off, e, hb, hc⟩ := Hr.out.at_ (k := j / 2) (by have := Hr.out.len; omega)
      injection e with e
      subst e
      rw [Addr.add_lit]
      refine Lib.cell?_alloc_some _ ?_
      have hd : j / 2 < L.length := by omega
      obtain ⟨e1, e2⟩ := encS_at L (j / 2) hd
      obtain ⟨c1, c2⟩ := hc (j / 2) hd
      rcases Nat.mod_two_eq_zero_or_one j with hm | hm
      · rw [show j / 2 * 2 = j from by omega] at e1 c1
        rw [c1, ← e1, hj]
      · rw [Nat.add_assoc, show j / 2 * 2 + 1 = j from by omega] at c2
        rw [show j / 2 * 2 + 1 = j from by omega] at e2
        rw [c2, ← e2, hj]
    have HC := Lib.hid hc
    clear hc
    go_enter Try.func45, Try.ntmps45
    go_wp2_with (at_builtin; refine stop_here ?_)
    refine stop_go (wpList_append_own _ rfl _ _ 33 rfl w.heap.size 35 i0 _ 2 16 Try.underlying33 hi hz0 hz1 hz2 rfl (by decide) _ _ _ rfl (World.ownsRow_made w #[] 0 (Nat.le_refl _) (Nat.zero_le _) (by simp)) ad n c (L.flatMap encS) rfl (by rw [encS_len]; have := Hr.out.len; omega) (HC.out _) (fun u hu => ?_) (by unfold maxLen; omega) (by omega) (by simp) ?_)
    · obtain ⟨s, _, hs⟩ := List.mem_flatMap.1 hu
      simp [encS] at hs
      rcases hs with rfl | rfl <;> rfl
    · intro v' w1 hown hgrow _
      obtain ⟨A', c', rfl⟩ := own_form hown
      have HO := Lib.hid hown
      have HB := Lib.hid (((Below.refl _ w).alloc (Nat.le_refl _) _).grown hgrow (by simp) (by intro k hk; have hk' : (some w.heap.size : Option Nat) = some k := hk; injection hk' with e; omega))
      clear hown hgrow q22
      go_wp2
      go_ret
      exact ⟨A', n, c', rfl, by have := HO.out; simpa using this, HB.out⟩

def oneV (a b : Int × Int) : Int × Int := if a.2 < b.1 then (0, 0) else (a.1, max a.2 b.2)
def oneB (a b : Int × Int) : Bool := decide (¬ a.2 < b.1)

theorem one_no {p q r s : Int} (h : q < r) : oneV (p, q) (r, s) = (0, 0) ∧ oneB (p, q) (r, s) = false := by
  unfold oneV oneB
  exact ⟨if_pos h, decide_eq_false (by simpa using h)⟩
theorem one_yes {p q r s : Int} (h : ¬ q < r) : oneV (p, q) (r, s) = (p, max q s) ∧ oneB (p, q) (r, s) = true := by
  unfold oneV oneB
  exact ⟨if_neg h, decide_eq_true (by simpa using h)⟩

theorem one_any (p q r s : Int) (w : World) :
    Calls Try.prog 50 #[.agg #[.int .u64 p, .int .u64 q], .agg #[.int .u64 r, .int .u64 s]] w fun e w' =>
      e = .returned (.tuple #[.agg #[.int .u64 (oneV (p, q) (r, s)).1, .int .u64 (oneV (p, q) (r, s)).2], .bool (oneB (p, q) (r, s))]) ∧ Below w.heap.size w w' := by
  by_cases h : q < r
  · go_enter Try.func50, Try.ntmps50
    go_wp2
    refine bodyPost_ret (v := .tuple #[.agg #[.int .u64 0, .int .u64 0], .bool false]) (by simp [results, Try.results50, go_sem]) rfl ⟨by rw [(one_no h).1, (one_no h).2], ?_⟩
    exact (((Below.refl _ _).alloc (Nat.le_refl _) _).alloc (by simp) _).alloc (by simp; omega) _
  · go_enter Try.func50, Try.ntmps50
    go_wp2
    refine bodyPost_ret (v := .tuple #[.agg #[.int .u64 p, .int .u64 (max q s)], .bool true]) (by simp [results, Try.results50, go_sem]) rfl ⟨by rw [(one_yes (by omega)).1, (one_yes (by omega)).2], ?_⟩
    exact (((Below.refl _ _).alloc (Nat.le_refl _) _).alloc (by simp) _).alloc (by simp; omega) _

theorem encS_last2 (M : List (Int × Int)) (s t u v : Int) : (((M ++ [(s, t)]).flatMap encS).set (M.length * 2) (.int .u64 u)).set (M.length * 2 + 1) (.int .u64 v) = (M ++ [(u, v)]).flatMap encS := by
  rw [encS_snoc, encS_snoc, List.set_append_right _ _ (by rw [encS_len]; omega), encS_len, show M.length * 2 - M.length * 2 = 0 from by omega, List.set_append_right _ _ (by rw [encS_len]; omega), encS_len, show M.length * 2 + 1 - M.length * 2 = 1 from by omega]
  rfl
theorem jstep_joins (M : List (Int × Int)) (s x : Int × Int) (h : oneB s x = true) : jstep (M ++ [s]) x = M ++ [oneV s x] := by
  have h' : ¬ s.2 < x.1 := by simpa [oneB] using h
  rw [jstep_snoc, if_neg h']
  unfold oneV
  rw [if_neg h']
theorem jstep_apart (M : List (Int × Int)) (s x : Int × Int) (h : oneB s x = false) : jstep (M ++ [s]) x = M ++ [s] ++ [x] := by
  have h' : s.2 < x.1 := by simpa [oneB] using h
  rw [jstep_snoc, if_pos h']
theorem jstep_len (out : List (Int × Int)) (x : Int × Int) : (jstep out x).length ≤ out.length + 1 := by
  rcases nil_or_snoc out with rfl | ⟨M, s, rfl⟩
  · simp [jstep_nil]
  · rw [jstep_snoc]
    split <;> simp
theorem joinTo_len (D : List (Int × Int)) : ∀ k, k ≤ D.length → (joinTo D k).length ≤ k
  | 0, _ => by simp [joinTo]
  | k + 1, h => by
    rw [joinTo_succ (show k < D.length from h)]
    have := joinTo_len D k (by omega)
    have := jstep_len (joinTo D k) D[k]
    omega

theorem own_mono {w : World} {base base' e size : Nat} {v : Value} {n : Nat} {xs : List Value} (h : w.ownsRow base e size v n xs) (hb : base' ≤ base) : w.ownsRow base' e size v n xs := by
  refine ⟨h.1, ?_⟩
  rcases h.2 with h' | ⟨g, cap, cur, hv, hg, r⟩
  · exact .inl h'
  · exact .inr ⟨g, cap, cur, hv, Nat.le_trans hb hg, r⟩
theorem own_below {w w' : World} {base e size : Nat} {v : Value} {n : Nat} {xs : List Value} (h : w.ownsRow base e size v n xs) (hb : Below w.heap.size w w') : w'.ownsRow base e size v n xs := by
  refine ⟨h.1, ?_⟩
  rcases h.2 with h' | ⟨g, cap, cur, hv, hg, hh, r⟩
  · exact .inl h'
  · have hlt : g < w.heap.size := by
      rcases Nat.lt_or_ge g w.heap.size with hlt | hge
      · exact hlt
      · rw [Array.getElem?_eq_none hge] at hh; cases hh
    exact .inr ⟨g, cap, cur, hv, hg, by rw [hb.block g hlt]; exact hh, r⟩
theorem lt_of_cell {W : World} {b o : Nat} {v : Value} (h : W.cell? ⟨b, o, none⟩ = some v) : b < W.heap.size := by
  rcases Nat.lt_or_ge b W.heap.size with hlt | hge
  · exact hlt
  · simp [World.cell?, Array.getElem?_eq_none hge] at h
theorem keepJ {B g m : Nat} {s t p q : Value} {W w' : World} (hS : W.cell? ⟨g, m * 2, none⟩ = some s ∧ W.cell? ⟨g, m * 2 + 1, none⟩ = some t ∧ W.cell? ⟨B, 0, none⟩ = some p ∧ W.cell? ⟨B, 1, none⟩ = some q) (hb : Below W.heap.size W w') :
    w'.cell? ⟨g, m * 2, none⟩ = some s ∧ w'.cell? ⟨g, m * 2 + 1, none⟩ = some t ∧ w'.cell? ⟨B, 0, none⟩ = some p ∧ w'.cell? ⟨B, 1, none⟩ = some q := by
  obtain ⟨h1, h2, h3, h4⟩ := hS
  exact ⟨(hb.cell (p := ⟨g, m * 2, none⟩) (lt_of_cell h1)).trans h1, (hb.cell (p := ⟨g, m * 2 + 1, none⟩) (lt_of_cell h2)).trans h2, (hb.cell (p := ⟨B, 0, none⟩) (lt_of_cell h3)).trans h3, (hb.cell (p := ⟨B, 1, none⟩) (lt_of_cell h4)).trans h4⟩

theorem newJ {X w' : World} {u v : Value} {T : TypeId} {n : Nat} (hb : Below n (X.alloc (.cells #[u, v] T)).drew w') (hn : n = (X.alloc (.cells #[u, v] T)).drew.heap.size := by rfl) :
    w'.cell? ⟨X.heap.size, 0, none⟩ = some u ∧ w'.cell? ⟨X.heap.size, 1, none⟩ = some v ∧ w'.frozen? ⟨X.heap.size, 0, none⟩ = false ∧ w'.frozen? ⟨X.heap.size, 1, none⟩ = false := by
  subst hn
  exact ⟨(hb.cell (p := ⟨X.heap.size, 0, none⟩) (by simp)).trans (by simp), (hb.cell (p := ⟨X.heap.size, 1, none⟩) (by simp)).trans (by simp), (hb.frozen (p := ⟨X.heap.size, 0, none⟩) (by simp)).trans (by simp), (hb.frozen (p := ⟨X.heap.size, 1, none⟩) (by simp)).trans (by simp)⟩
theorem keepA {B g m : Nat} {s t p q : Value} {W : World} (o : Obj) (hS : W.cell? ⟨g, m * 2, none⟩ = some s ∧ W.cell? ⟨g, m * 2 + 1, none⟩ = some t ∧ W.cell? ⟨B, 0, none⟩ = some p ∧ W.cell? ⟨B, 1, none⟩ = some q) :
    (W.alloc o).cell? ⟨g, m * 2, none⟩ = some s ∧ (W.alloc o).cell? ⟨g, m * 2 + 1, none⟩ = some t ∧ (W.alloc o).cell? ⟨B, 0, none⟩ = some p ∧ (W.alloc o).cell? ⟨B, 1, none⟩ = some q := by
  obtain ⟨h1, h2, h3, h4⟩ := hS
  exact ⟨Lib.cell?_alloc_some _ h1, Lib.cell?_alloc_some _ h2, Lib.cell?_alloc_some _ h3, Lib.cell?_alloc_some _ h4⟩

set_option maxRecDepth 100000 in
set_option maxHeartbeats 4000000 in
theorem joined_any (A : Option Addr) (n c : Nat) (parts : List (Int × Int)) (w : World) (hr : SpR w w.heap.size A n (someI parts)) (hm : n ≤ 100000000) :
    Calls Try.prog 48 #[.slice A n c, .func (.func 49) #[] #[], .func (.func 50) #[] #[]] w (OwnOut w (normI parts)) := by
  have HC := Lib.hid (clone_any A n c _ w hr (by omega))
  have hn := hr.len
  have Hn := Lib.hid hn
  clear hr hn
  go_enter Try.func48, Try.ntmps48
  go_wp2_with fail
  refine HC.out.mono ?_
  rintro e w1 ⟨A1, n1, c1, rfl, hown1, hb1⟩
  have hn1 : n1 = n := by have := hown1.1; rw [encS_len] at this; have := Hn.out; omega
  have HN1 := Lib.hid hn1
  have HO1 := Lib.hid hown1
  have HB1 := Lib.hid hb1
  clear hn1 hown1 hb1 HC
  go_wp2_with fail
  refine (sort_any w.heap.size A1 n1 c1 _ w1 HO1.out (by have := HN1.out; omega) HB1.out.size).mono ?_
  rintro e w2 ⟨rfl, D, hp, hs, hr2, hb2⟩
  have HP := Lib.hid hp
  have HS := Lib.hid hs
  have H2 := Lib.hid hr2
  have HB2 := Lib.hid (HB1.out.trans hb2)
  have hm1 : n1 ≤ 100000000 := by have := HN1.out; omega
  clear hp hs hr2 hb2
  go_wp2_with fail
  go_loopg [8, 21] n1 (fun g o i wr => ∃ k : Nat, k ≤ n1 ∧ g = n1 - k ∧ i = .int .i64 k ∧ (∃ A' j c', o = .slice A' j c' ∧ wr.ownsRow w2.heap.size 35 2 (.slice A' j c') j ((joinTo D k).flatMap encS)) ∧ Below w2.heap.size w2 wr)
  case atStart => exact ⟨0, Nat.zero_le _, rfl, rfl, ⟨none, 0, 0, rfl, World.ownsRow_nil _ _ _ _⟩, Below.refl _ _⟩
  case round =>
    obtain ⟨k, hk, hg, rfl, ⟨A', j, c', rfl, hown⟩, hbw⟩ := hrel
    have HG := Lib.hid hg
    have HO := Lib.hid hown
    have HB := Lib.hid hbw
    have hsz : w2.heap.size ≤ wr.heap.size := hbw.size
    clear hg hown hbw
    by_cases hlt : k < n1
    · obtain ⟨b, off, rfl, hb, hc⟩ := (H2.out.below HB.out).at_ hlt
      have hkl : k < D.length := by have := H2.out.len; omega
      have hj : j ≤ k := by have := HO.out.1; rw [encS_len] at this; have := joinTo_len D k (by omega); omega
      have hbn : b < wr.heap.size := by omega
      obtain ⟨hc1, hc2⟩ := hc k hkl
      have HJ := Lib.hid (joinTo_succ hkl)
      generalize D[k] = x at hc1 hc2 HJ
      obtain ⟨p, q⟩ := x
      obtain ⟨Lo, hLo⟩ : ∃ Lo, joinTo D k = Lo := ⟨_, rfl⟩
      have HO' := HO.out
      have HJ' := HJ.out
      rw [hLo] at HO' HJ'
      have HJ2 := Lib.hid HJ'
      clear hc HJ HJ' HO hLo
      rcases nil_or_snoc Lo with rfl | ⟨M, ⟨s, t⟩, rfl⟩
      · obtain rfl : j = 0 := by have := HO'.1; simp at this; omega
        have HO2 := Lib.hid HO'
        clear HO'
        go_wp2_with (at_builtin; refine stop_here ?_)
        refine stop_go (app_span _ rfl _ _ rfl w2.heap.size _ 0 [] rfl (HO2.out.alloc _) p q _ (by simp) rfl (by simp; omega) (by omega) ?_)
        intro A3 c3 w3 h3 hb3
        have H3 := Lib.hid h3
        have HB3 := Lib.hid (((HB.out.alloc hsz _).trans ((Below.refl _ _).mono (Nat.le_refl _))).trans hb3)
        clear h3 hb3
        go_wp2
        go_roundg (n1 - (k + 1))
        case measure => have := HG.out; omega
        case rel => exact ⟨k + 1, by omega, rfl, by go_num, ⟨_, _, _, rfl, by rw [HJ2.out]; exact H3.out⟩, HB3.out⟩
      · obtain rfl : j = M.length + 1 := by have := HO'.1; rw [encS_len] at this; simp at this; omega
        obtain ⟨g, rfl, hg1, hg2, hgc, hgf⟩ := own_at HO' (by omega)
        obtain ⟨es, et⟩ := encS_at (M ++ [(s, t)]) M.length (by simp)
        rw [List.getElem_concat_length (by rfl)] at es et
        have hl0 : wr.cell? ⟨g, M.length * 2, none⟩ = some (.int .u64 s) := by
          have := hgc _ _ es
          rwa [Nat.zero_add] at this
        have hl1 : wr.cell? ⟨g, M.length * 2 + 1, none⟩ = some (.int .u64 t) := by
          have := hgc _ _ et
          rwa [Nat.zero_add] at this
        have hml : M.length < M.length + 1 := by omega
        have hmi : (M.length : Int) < (M.length : Int) + 1 := by omega
        have hmz : (0 : Int) ≤ (M.length : Int) := by omega
        have HO2 := Lib.hid HO'
        clear HO' hgc es et
        have hone := fun W => one_any s t p q W
        obtain ⟨v, hv⟩ : ∃ v, oneV (s, t) (p, q) = v := ⟨_, rfl⟩
        obtain ⟨ok, hok⟩ : ∃ ok, oneB (s, t) (p, q) = ok := ⟨_, rfl⟩
        rw [hv, hok] at hone
        have HV := Lib.hid hv
        have HOK := Lib.hid hok
        have H1 := Lib.hid hone
        clear hv hok hone
        go_upto_region 9 with (fail)
        go_cut [12, 13] (fun a d wx => ∃ g', a = .pointer (some ⟨g', 0, none⟩) ∧ d = .bool ok ∧ wr.heap.size < g' ∧ g' < wx.heap.size ∧ Below (wr.heap.size + 1) (wr.alloc (.cells #[.int .u64 p, .int .u64 q] 35)) wx ∧ wx.cell? ⟨g', 0, none⟩ = some (.int .u64 v.1) ∧ wx.cell? ⟨g', 1, none⟩ = some (.int .u64 v.2))
        case first =>
          have hS0 : (wr.alloc (.cells #[.int .u64 p, .int .u64 q] 35)).drew.cell? ⟨g, M.length * 2, none⟩ = some (.int .u64 s) ∧ (wr.alloc (.cells #[.int .u64 p, .int .u64 q] 35)).drew.cell? ⟨g, M.length * 2 + 1, none⟩ = some (.int .u64 t) ∧
              (wr.alloc (.cells #[.int .u64 p, .int .u64 q] 35)).drew.cell? ⟨wr.heap.size, 0, none⟩ = some (.int .u64 p) ∧ (wr.alloc (.cells #[.int .u64 p, .int .u64 q] 35)).drew.cell? ⟨wr.heap.size, 1, none⟩ = some (.int .u64 q) :=
            ⟨Lib.cell?_alloc_some _ hl0, Lib.cell?_alloc_some _ hl1, by simp, by simp⟩
          have HS0 := Lib.hid hS0
          have hne1 : wr.heap.size + 1 ≠ g := by omega
          have hne2 : wr.heap.size + 1 ≠ wr.heap.size := by omega
          clear hS0
          go_region_held3 (fun W => W.cell? ⟨g, M.length * 2, none⟩ = some (.int .u64 s) ∧ W.cell? ⟨g, M.length * 2 + 1, none⟩ = some (.int .u64 t) ∧ W.cell? ⟨wr.heap.size, 0, none⟩ = some (.int .u64 p) ∧ W.cell? ⟨wr.heap.size, 1, none⟩ = some (.int .u64 q)) (first | exact keepJ HS0.out hb | exact keepJ (keepA _ HS0.out) hb | exact keepA _ (keepJ HS0.out hb) | go_keep) (first | (go_at_call 50; refine (H1.out _).mono ?_; rintro e w' ⟨rfl, hb⟩; obtain ⟨z0, z1, f0, f1⟩ := newJ hb; (try simp at z0); (try simp at z1); (try simp at f0); (try simp at f1)))
          · have hs := hb.size
            simp at hs
            have hB : Below (wr.heap.size + 1) (wr.alloc (.cells #[.int .u64 p, .int .u64 q] 35)) w' := by
              have h := hb.mono (B' := wr.heap.size + 1) (by simp)
              exact ⟨h.os, h.tape, h.output, h.size, h.block⟩
            have HBw := Lib.hid hB
            clear hb hB z0 z1 f0 f1
            go_wp2
            go_meet
            exact ⟨_, rfl, rfl, by omega, by simp, HBw.out.alloc (by omega) _, by simp, by simp⟩
          · have hs := hb.size
            simp at hs
            have hB : Below (wr.heap.size + 1) (wr.alloc (.cells #[.int .u64 p, .int .u64 q] 35)) w' := by
              have h := hb.mono (B' := wr.heap.size + 1) (by simp)
              have h2 := ((Below.refl (wr.heap.size + 1) (wr.alloc (.cells #[.int .u64 p, .int .u64 q] 35))).alloc (by simp) (.cells #[.int .u64 0, .int .u64 0] 35))
              exact h2.trans ⟨h.os, h.tape, h.output, h.size, h.block⟩
            have HBw := Lib.hid hB
            obtain ⟨e1, e2⟩ := two_stored (.int .u64 v.1) (.int .u64 v.2) z0 z1
            clear hb hB z0 z1 f0 f1
            go_wp2
            go_meet
            exact ⟨_, rfl, rfl, by omega, by simp; omega, (HBw.out.setCell (by simp) _).setCell (by simp) _, e1, e2⟩
        case rest =>
          obtain ⟨g', rfl, rfl, hg3, hg4, hbx, hv1, hv2⟩ := hcut
          have HBX := Lib.hid (((Below.refl wr.heap.size wr).alloc (Nat.le_refl _) _).trans (hbx.mono (by omega)))
          have hx0 : wc.cell? ⟨wr.heap.size, 0, none⟩ = some (.int .u64 p) := (hbx.cell (p := ⟨wr.heap.size, 0, none⟩) (by simp)).trans (by simp)
          have hx1 : wc.cell? ⟨wr.heap.size, 1, none⟩ = some (.int .u64 q) := (hbx.cell (p := ⟨wr.heap.size, 1, none⟩) (by simp)).trans (by simp)
          have HO3 := Lib.hid (own_below HO2.out HBX.out)
          have hs3 : wr.heap.size ≤ wc.heap.size := HBX.out.size
          clear hbx hl0 hl1 hgf
          obtain ⟨v1, v2⟩ := v
          rcases ok with _ | _
          · clear hv1 hv2
            go_wp2_with (at_builtin; refine stop_here ?_)
            refine stop_go (app_span _ rfl _ _ rfl w2.heap.size _ (M.length + 1) (M ++ [(s, t)]) rfl HO3.out p q _ rfl rfl (by omega) (by omega) ?_)
            intro A3 c3 w3 h3 hb3
            have H3 := Lib.hid h3
            have HB3 := Lib.hid (HB.out.trans ((HBX.out.mono hsz).trans hb3))
            clear h3 hb3
            go_wp2
            go_roundg (n1 - (k + 1))
            case measure => have := HG.out; omega
            case rel => exact ⟨k + 1, by omega, rfl, by go_num, ⟨_, _, _, rfl, by rw [HJ2.out, jstep_apart M (s, t) (p, q) HOK.out]; exact H3.out⟩, HB3.out⟩
          · obtain ⟨g'', eg, _, _, hgc, hgf⟩ := own_at HO3.out (by omega)
            injection eg with eg
            injection eg with eg
            subst eg
            obtain ⟨es, et⟩ := encS_at (M ++ [(s, t)]) M.length (by simp)
            have hl0 := hgc _ _ es
            have hl1 := hgc _ _ et
            have hf0 := hgf (M.length * 2)
            have hf1 := hgf (M.length * 2 + 1)
            rw [Nat.zero_add] at hl0 hl1
            clear es et hgc hgf
            go_wp2
            go_roundg (n1 - (k + 1))
            case measure => have := HG.out; omega
            case rel => exact ⟨k + 1, by omega, rfl, by go_num, ⟨_, _, _, rfl, by rw [HJ2.out, jstep_joins M (s, t) (p, q) HOK.out, HV.out, ← encS_last2 M s t v1 v2]; exact ((HO3.out.stored _ _).1.stored _ _).1⟩, (HB.out.trans (HBX.out.mono hsz)).setCell (by exact hg1) _ |>.setCell (by exact hg1) _⟩
    · have hkD : D.length = k := by have := H2.out.len; omega
      have HK := Lib.hid hkD
      clear hkD
      go_wp2
      go_ret
      exact ⟨_, _, _, rfl, by rw [← join_norm HP.out HS.out, HK.out]; exact own_mono HO.out HB2.out.size, HB2.out.trans (HB.out.mono HB2.out.size)⟩
end Go.Proofs.Ytpglooaebndbiaa.SpanJoin
