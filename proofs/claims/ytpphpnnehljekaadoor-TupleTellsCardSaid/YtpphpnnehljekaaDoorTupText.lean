/-
  The program's Bytes and Text.
-/
import Derived.Test.YtpphpnnehljekaaDoorTupOrd
import Derived.Test.YtpphpnnehljekaaDoorCalm
import Derived.Test.YtpphpnnehljekaaDoorRel
namespace Go.Proofs.YtpphpnnehljekaaDoor.TupText
open Go.RowKit Own TupMath TupMath2 Bytes TupLib TupLay TupRef TupRef2 TupRef3 TupOrd Calm Rel
open Num (HoldK)
set_option linter.unusedVariables false
set_option maxRecDepth 100000

theorem b32_le (n : Nat) (h : n ≤ 4294967295) : ∀ x ∈ b32 n, x ≤ 255 := by intro x hx; simp [b32] at hx; omega
theorem b16_le (n : Nat) (h : n ≤ 65535) : ∀ x ∈ b16 n, x ≤ 255 := by intro x hx; simp [b16] at hx; omega
/-- one box, in whatever world behind it -/
abbrev Box1 (w : World) (x0 x1 : Value) (W : World) : Prop :=
  W.cell? ⟨w.heap.size, 0, none⟩ = some x0 ∧ W.cell? ⟨w.heap.size, 1, none⟩ = some x1 ∧ Below w.heap.size w W ∧ w.heap.size + 1 ≤ W.heap.size
theorem box1_more {w : World} {x0 x1 : Value} {W W' : World} (h : Box1 w x0 x1 W) (hb : Below (w.heap.size + 1) W W') : Box1 w x0 x1 W' := by
  obtain ⟨a, b, e, f⟩ := h
  exact ⟨(hb.cell (p := ⟨w.heap.size, 0, none⟩) (by show w.heap.size < _; omega)).trans a, (hb.cell (p := ⟨w.heap.size, 1, none⟩) (by show w.heap.size < _; omega)).trans b, e.trans (hb.mono (by omega)), Nat.le_trans f hb.size⟩
theorem box1_call {w : World} {x0 x1 : Value} {W W' : World} (h : Box1 w x0 x1 W) (hb : Below W.heap.size W W') : Box1 w x0 x1 W' := box1_more h (hb.mono h.2.2.2)
theorem box1_start (w : World) (x0 x1 : Value) (T : TypeId) : Box1 w x0 x1 (w.alloc (.cells #[x0, x1] T)) := by
  have h := fun j => World.cell?_alloc_mark w #[x0, x1] T (0, 0) j
  exact ⟨h 0, h 1, st_alloc (Below.refl _ _) _, by simp⟩
theorem box1_drew {w : World} {x0 x1 : Value} {W : World} (h : Box1 w x0 x1 W) : Box1 w x0 x1 W.drew := box1_call h (Below.refl _ _).drew
theorem box1_below {w : World} {x0 x1 : Value} {W : World} (h : Box1 w x0 x1 W) : Below w.heap.size w W := h.2.2.1

theorem hold_e (κ : IntKind) (w : World) (L : List Nat) (T : TypeId) (B : Nat) (hB : w.heap.size = B) : HoldK κ L (.slice (some ⟨B, 0, none⟩) L.length L.length) (w.alloc (.cells (L.map fun x : Nat => Value.int κ (x : Int)).toArray T)) := by
  subst hB
  exact Num.HoldK.new κ w L T
theorem ofB_two (a b : List Nat) : ofB a ++ ofB b = ofB (a ++ b) := by
  apply ByteArray.ext
  rw [ByteArray.data_append]
  simp [ofB]
def relB (ip po b : Nat) : Nat → Value → World → Prop
  | 0 => fun v _ => v = .pointer (some ⟨b, 0, none⟩)
  | 1 => fun v _ => v = .int .u32 (ip : Int)
  | 2 => HoldK .u32 [ip]
  | 3 => fun v _ => v = .string (ofB (b32 ip))
  | 4 => fun v _ => v = .pointer (some ⟨b, 1, none⟩)
  | 5 => fun v _ => v = .int .u16 (po : Int)
  | 6 => HoldK .u16 [po]
  | 7 => fun v _ => v = .string (ofB (b16 po))
  | 8 => fun v _ => v = .string (ofB (b32 ip ++ b16 po))
  | 9 => fun v _ => v = .string (ofB (b32 ip ++ b16 po))
  | _ => fun _ _ => True
theorem relB_more (ip po b : Nat) (i : Nat) (v : Value) (w w' : World) (hr : relB ip po b i v w) (hb : Below w.heap.size w w') : relB ip po b i v w' := by
  unfold relB at hr ⊢
  split at hr <;> first | exact hr | exact hr.more hb
attribute [local go_sem] relUpon

set_option maxHeartbeats 8000000 in
theorem bytes_any (ip po : Nat) (w : World) (hi : ip ≤ 4294967295) (hp : po ≤ 65535) : Calls Tryd.prog 12 #[.agg #[.int .u32 (ip : Int), .int .u16 (po : Int)]] w fun e w' => (∃ S, e = .returned (.string S) ∧ bz S = b32 ip ++ b16 po ∧ S.size = 6) ∧ Below w.heap.size w w' := by
  have hle : ∀ x ∈ b32 ip ++ b16 po, x ≤ 255 := by
    intro x hx
    rcases List.mem_append.1 hx with h | h
    · exact b32_le ip hi x h
    · exact b16_le po hp x h
  have HLE := Lib.hid hle
  clear hle
  go_enter Tryd.func12, Tryd.ntmps12
  go_wp2_with fail
  have cells : ∀ W, Below (w.alloc (.cells #[.int .u32 (ip : Int), .int .u16 (po : Int)] 25)).heap.size (w.alloc (.cells #[.int .u32 (ip : Int), .int .u16 (po : Int)] 25)) W → ∀ (j : Nat) (v : Value), (#[.int .u32 (ip : Int), .int .u16 (po : Int)] : Array Value)[j]? = some v → W.cell? ⟨w.heap.size, j, none⟩ = some v := fun W hb j v hv =>
    ((hb.cell (p := ⟨w.heap.size, j, none⟩) (by simp)).trans (World.cell?_alloc_mark w _ _ (0, 0) j)).trans hv
  refine wp_region_see 12 (relB ip po w.heap.size) rfl (by kernel_rfl) (by kernel_rfl) (by kernel_rfl) (relB_more ip po w.heap.size) ?_ ?_
  · intro i hi
    have hi2 : i < 10 := by simpa using hi
    clear hi
    match i, hi2 with
    | 0, _ =>
      intro ρ W hb hc hg hf h0 hd
      have t1 := h0 1 (by kernel_rfl)
      clear hd h0
      go_simp
      exact ⟨rfl, Below.refl _ _⟩
    | 1, _ =>
      intro ρ W hb hc hg hf h0 hd
      have d0 : ρ (.tmp 3) = .pointer (some ⟨w.heap.size, 0, none⟩) := hd 0 3 (by kernel_rfl) (by kernel_rfl)
      have c0 := cells W hb 0 _ rfl
      clear hd h0
      go_simp
      exact ⟨rfl, Below.refl _ _⟩
    | 2, _ =>
      intro ρ W hb hc hg hf h0 hd
      have d1 : ρ (.tmp 4) = .int .u32 (ip : Int) := hd 1 4 (by kernel_rfl) (by kernel_rfl)
      clear hd h0
      go_simp
      exact ⟨HoldK.new .u32 W [ip] _, st_alloc (Below.refl _ _) _⟩
    | 3, _ =>
      intro ρ W hb hc hg hf h0 hd
      have dh2 : HoldK .u32 [ip] (ρ (.tmp 5)) W := hd 2 5 (by kernel_rfl) (by kernel_rfl)
      clear hd h0
      go_simp
      exact (layB32 dh2 hi).mono fun e w' ⟨he, hb⟩ => ⟨_, he, rfl, hb⟩
    | 4, _ =>
      intro ρ W hb hc hg hf h0 hd
      have t1 := h0 1 (by kernel_rfl)
      clear hd h0
      go_simp
      exact ⟨rfl, Below.refl _ _⟩
    | 5, _ =>
      intro ρ W hb hc hg hf h0 hd
      have d4 : ρ (.tmp 7) = .pointer (some ⟨w.heap.size, 1, none⟩) := hd 4 7 (by kernel_rfl) (by kernel_rfl)
      have c1 := cells W hb 1 _ rfl
      clear hd h0
      go_simp
      exact ⟨rfl, Below.refl _ _⟩
    | 6, _ =>
      intro ρ W hb hc hg hf h0 hd
      have d5 : ρ (.tmp 8) = .int .u16 (po : Int) := hd 5 8 (by kernel_rfl) (by kernel_rfl)
      clear hd h0
      go_simp
      exact ⟨HoldK.new .u16 W [po] _, st_alloc (Below.refl _ _) _⟩
    | 7, _ =>
      intro ρ W hb hc hg hf h0 hd
      have dh6 : HoldK .u16 [po] (ρ (.tmp 9)) W := hd 6 9 (by kernel_rfl) (by kernel_rfl)
      clear hd h0
      go_simp
      exact (layB16 dh6 hp).mono fun e w' ⟨he, hb⟩ => ⟨_, he, rfl, hb⟩
    | 8, _ =>
      intro ρ W hb hc hg hf h0 hd
      have d3 : ρ (.tmp 6) = .string (ofB (b32 ip)) := hd 3 6 (by kernel_rfl) (by kernel_rfl)
      have d7 : ρ (.tmp 10) = .string (ofB (b16 po)) := hd 7 10 (by kernel_rfl) (by kernel_rfl)
      have hz : (ofB (b32 ip)).size + (ofB (b16 po)).size ≤ 9223372036854775807 := by rw [ofB_size, ofB_size]; simp [b32, b16]
      clear hd h0
      go_simp
      exact ⟨congrArg Value.string (ofB_two _ _), Below.refl _ _⟩
    | 9, _ =>
      intro ρ W hb hc hg hf h0 hd
      have d8 : ρ (.tmp 11) = .string (ofB (b32 ip ++ b16 po)) := hd 8 11 (by kernel_rfl) (by kernel_rfl)
      clear hd h0
      go_simp
      exact ⟨rfl, Below.refl _ _⟩
    | i + 10, hlt => exact absurd hlt (by omega)
  · intro vs W hb hall
    have h9 : vs 9 = .string (ofB (b32 ip ++ b16 po)) := hall 9 (of_decide_eq_true (by kernel_rfl))
    have HB := Lib.hid (st_call (st_alloc (Below.refl _ _) _) hb)
    clear hall cells hb
    go_wp2
    refine bodyPost_ret (v := .string (ofB (b32 ip ++ b16 po))) ?_ rfl ⟨⟨ofB (b32 ip ++ b16 po), rfl, bz_ofB HLE.out, by rw [ofB_size]; rfl⟩, HB.out⟩
    rw [← h9]
    exact (results_tmp rfl _ _ _).trans (congrArg (Result.ok · W) (lexA_get (N := 12) (by kernel_rfl) rfl vs 2 9 _ (by kernel_rfl) (of_decide_eq_true (by kernel_rfl))))
theorem both_call {w a : World} {x0 x1 : Value} {W W' : World} (h : Box1 w x0 x1 W ∧ Below a.heap.size a W) (hb : Below W.heap.size W W') : Box1 w x0 x1 W' ∧ Below a.heap.size a W' := ⟨box1_call h.1 hb, st_call h.2 hb⟩
theorem both_drew {w a : World} {x0 x1 : Value} {W : World} (h : Box1 w x0 x1 W ∧ Below a.heap.size a W) : Box1 w x0 x1 W.drew ∧ Below a.heap.size a W.drew := both_call h (Below.refl _ _).drew
theorem both_right {w a : World} {x0 x1 : Value} {W : World} (h : Box1 w x0 x1 W ∧ Below a.heap.size a W) : Below a.heap.size a W := h.2
theorem both_below {w a : World} {x0 x1 : Value} {W : World} (h : Box1 w x0 x1 W ∧ Below a.heap.size a W) : Below w.heap.size w W := box1_below h.1
/-- four numerals joined -/
theorem join_four {P : List ByteArray} {ip : Nat} (h : P.map bz = (b32 ip).map dec) : nb (Lib.join (P.map (·.data.toList)) [46]) = txt4 ip := by
  simp only [b32, List.map_cons, List.map_nil] at h
  have hl := congrArg List.length h
  simp only [List.length_map, List.length_cons, List.length_nil] at hl
  match P, hl with
  | [a, b, c, d], _ =>
    simp only [List.map_cons, List.map_nil, List.cons.injEq, and_true] at h
    have := join_txt a.data.toList b.data.toList c.data.toList d.data.toList
    simp only [List.map_cons, List.map_nil]
    refine this.trans ?_
    rw [← bz_nb, ← bz_nb, ← bz_nb, ← bz_nb, h.1, h.2.1, h.2.2.1, h.2.2.2]
    unfold txt4
    rfl
theorem txt4_le (ip : Nat) (hi : ip ≤ 4294967295) : (txt4 ip).length ≤ 15 := by
  unfold txt4
  have a := dec_len (n := ip / 16777216) (k := 3) (by decide) (by omega)
  have b := dec_len (n := ip / 65536 % 256) (k := 3) (by decide) (by omega)
  have c := dec_len (n := ip / 256 % 256) (k := 3) (by decide) (by omega)
  have d := dec_len (n := ip % 256) (k := 3) (by decide) (by omega)
  simp only [List.length_append, List.length_singleton]
  omega

set_option maxHeartbeats 8000000 in
theorem text_any (ip po : Nat) (w : World) (hi : ip ≤ 4294967295) (hp : po ≤ 65535) (E : Env w) : Calls Tryd.prog 10 #[.agg #[.int .u32 (ip : Int), .int .u16 (po : Int)]] w fun e w' => (∃ S, e = .returned (.string S) ∧ bz S = txt ip po ∧ S.size ≤ 100) ∧ Below w.heap.size w w' := by
  have hle := b32_le ip hi
  have hlen : (b32 ip).length = 4 := rfl
  go_enter Tryd.func10, Tryd.ntmps10
  have hst := box1_start w (.int .u32 (ip : Int)) (.int .u16 (po : Int)) 25
  go_wp2_with fail
  refine (layB32 (hold_e .u32 (w.alloc (.cells #[.int .u32 (ip : Int), .int .u16 (po : Int)] 25)) [ip] _ (w.heap.size + 1) (World.size_alloc _ _)) hi).mono ?_
  rintro e w0 ⟨rfl, hb⟩
  have hst0 := box1_call (box1_more hst (((Below.refl _ _).alloc (by simp) (.cells #[.int .u32 (ip : Int)] 22)))) hb
  obtain ⟨cap, w1, hconv, hcells, hbel⟩ := Litb.bytes_of Tryd.prog 9 41 5 Tryd.underlying9 Tryd.underlying41 Tryd.underlying5 (ofB (b32 ip)) w0
  have hst1 := box1_call hst0 hbel
  have hsz4 : (ofB (b32 ip)).size = 4 := ofB_size _
  have hbz4 := bz_ofB hle
  have hcell : ∀ (k x : Nat), (b32 ip)[k]? = some x → w1.cell? ⟨w0.heap.size, k, none⟩ = some (.int .u8 (x : Int)) := fun k x hx => by
    have hk : k < (ofB (b32 ip)).size := by rw [hsz4]; exact (List.getElem?_eq_some_iff.1 hx).1
    have h1 := (hcells k hk).1
    have h2 := bz_at (ofB (b32 ip)) k hk
    rw [hbz4, hx] at h2
    rw [Option.some.inj h2]
    exact h1
  have hg2 : w0.heap.size < w1.heap.size := by
    rcases Nat.lt_or_ge w0.heap.size w1.heap.size with h | h
    · exact h
    · have := hcell 0 _ rfl
      rw [World.cell?, Array.getElem?_eq_none h] at this
      cases this
  rw [hsz4] at hconv
  have HST1 := Lib.hid hst1
  have HC := Lib.hid hcell
  have HLE := Lib.hid hle
  have HLEN := Lib.hid hlen
  clear hst hst0 hst1 hb hcells hbel hcell hle hlen hsz4 hbz4
  go_wp2_with fail
  go_loopw [3, 12] (fun v i wr => ∃ (k : Nat) (A : Option Addr) (c : Nat) (P : List ByteArray), i = .int .i64 (k : Int) ∧ k ≤ 4 ∧ v = .slice A k c ∧ P.length = k ∧ P.map bz = ((b32 ip).take k).map dec ∧ OwnS wr w1.heap.size (.slice A k c) P ∧ Below w1.heap.size w1 wr) (fun _ i _ => 4 - (intOf i).toNat)
  case atStart => exact ⟨0, none, 0, [], rfl, by omega, rfl, rfl, rfl, ownS_nil _ _, Below.refl _ _⟩
  case round =>
    obtain ⟨k, A, c, P, rfl, hk, rfl, hPl, hP, hO, hB⟩ := hrel
    have HP := Lib.hid hP
    have HPL := Lib.hid hPl
    have HO := Lib.hid hO
    have HB := Lib.hid hB
    clear hP hPl hO hB
    by_cases h4 : k < 4
    · obtain ⟨x, hx⟩ : ∃ x, (b32 ip)[k]? = some x := ⟨_, List.getElem?_eq_getElem (show k < (b32 ip).length by rw [HLEN.out]; exact h4)⟩
      have hxl := HLE.out x (List.mem_of_getElem? hx)
      have hcx : wr.cell? ⟨w0.heap.size, k, none⟩ = some (.int .u8 (x : Int)) := (HB.out.cell (p := ⟨w0.heap.size, k, none⟩) hg2).trans (HC.out k _ hx)
      have hts := take_snoc hx
      have HTS := Lib.hid hts
      clear hx hts
      go_wp2_with (go_at_call 26; refine (decimal8 x _ hxl (E.stays ((box1_below HST1.out).trans (HB.out.mono (box1_below HST1.out).size)))).mono ?_; rintro e w2 ⟨⟨S, rfl, hS, _⟩, hb2⟩; refine stop_here ?_)
      have HS := Lib.hid hS
      have HO2 := Lib.hid (HO.out.stays hb2)
      have HB2 := Lib.hid (HB.out.trans (hb2.mono HB.out.size))
      have hs2 : w1.heap.size ≤ w2.heap.size := HB2.out.size
      clear hS hb2
      refine stop_go ?_
      go_wp2_with (at_builtin; refine stop_here ?_)
      refine stop_go (appS _ rfl _ _ rfl w1.heap.size _ P rfl HO2.out S _ rfl rfl hs2 (by rw [HPL.out]; omega) ?_)
      rw [HPL.out]
      intro A' c' w' hO' hB'
      go_wp2
      go_roundw
      case rel => exact ⟨k + 1, A', c', P ++ [S], by go_num, by omega, rfl, by simp [HPL.out], by rw [HTS.out, List.map_append, List.map_append, HP.out, List.map_cons, List.map_nil, HS.out]; rfl, hO', HB2.out.trans hB'⟩
      case measure => simp only [intOf]; omega
    · obtain rfl : k = 4 := by omega
      have hP4 : P.map bz = (b32 ip).map dec := by rw [HP.out, List.take_of_length_le (by rw [HLEN.out]; omega)]
      have hJ := join_four hP4
      have hO4 : wr.ownsRow w1.heap.size 9 1 (.slice A 4 c) 4 (encS P) := by
        have h := HO.out
        unfold OwnS at h
        rw [HPL.out] at h
        exact h
      obtain ⟨g2, rfl, _, hg22, hcS, _⟩ := own_at hO4 (by decide)
      have hstr := box1_call HST1.out HB.out
      have hJl : (Lib.join (P.map (·.data.toList)) [46]).length ≤ 15 := by rw [← nb_len, hJ]; exact txt4_le ip hi
      have hjoin : ∀ W, Below wr.heap.size wr W → Calls Tryd.prog 27 #[.slice (some ⟨g2, 0, none⟩) 4 c, .string ⟨#[46]⟩] W fun e w' => e = .returned (.string ⟨(Lib.join (P.map (·.data.toList)) (ByteArray.mk #[46]).data.toList).toArray⟩) ∧ Below W.heap.size W w' := fun W hW => by
        have h := join_any g2 c P ⟨#[46]⟩ W (fun j x hx => (hW.cell (p := ⟨g2, 0 + j, none⟩) hg22).trans (hcS j _ (encS_at hx))) (Nat.lt_of_lt_of_le hg22 hW.size) (by rw [HPL.out]; omega) (by rw [HPL.out]; exact own_cap hO4 (by decide)) (by show (Lib.join _ [46]).length ≤ _; omega)
        rw [HPL.out] at h
        exact h
      obtain ⟨J, hJe⟩ : ∃ J : ByteArray, (⟨(Lib.join (P.map (·.data.toList)) (ByteArray.mk #[46]).data.toList).toArray⟩ : ByteArray) = J := ⟨_, rfl⟩
      rw [hJe] at hjoin
      have hJb : bz J = txt4 ip := by rw [← hJe, bz_mk]; exact hJ
      have hJs : J.size ≤ 15 := by rw [← bz_len, hJb]; exact txt4_le ip hi
      have HJ := Lib.hid hJb
      have HJN := Lib.hid hjoin
      clear hJ hJl hJe hJb hP4 hO4 hcS hjoin
      have hs1 : J.size + 1 ≤ 9223372036854775807 := by omega
      have hD : ∀ i : Later wr.heap.size wr, Calls Tryd.prog 28 #[.int .u16 (po : Int)] i.w fun e w' => e = .returned (.string (ofB (dec po))) ∧ Below i.w.heap.size i.w w' := fun i =>
        (decimal16 po i.w hp (E.stays (st_call (box1_below hstr) i.h))).mono fun e w' ⟨⟨S, he, hS, _⟩, hb⟩ => ⟨by rw [he, str_is hS], hb⟩
      have hc1 : ∀ i : Later wr.heap.size wr, i.w.cell? ⟨w.heap.size, 1, none⟩ = some (.int .u16 (po : Int)) := fun i => (box1_call hstr i.h).2.1
      have hDs : (ofB (dec po)).size ≤ 5 := by rw [ofB_size]; exact dec_len (by decide) (by omega)
      obtain ⟨D, hDe⟩ : ∃ D, ofB (dec po) = D := ⟨_, rfl⟩
      rw [hDe] at hDs hD
      have HD := Lib.hid hDe
      have HDC := Lib.hid hD
      clear hDe hD
      have hs2 : J.size + 1 + D.size ≤ 9223372036854775807 := by omega
      go_wp2_with fail
      refine wp_region_later (n := wr.heap.size) wr (Below.refl _ _) (by kernel_rfl) (by kernel_rfl) ?_
      repeat (first | go_big_quiet_step ((first | (go_at_call 27; exact later_calls (Nat.le_refl _) _ (HJN.out _ (Later.h _))) | (go_at_call 28; exact later_calls (Nat.le_refl _) _ (HDC.out _)))) | quiet_step ((first | (go_at_call 27; exact later_calls (Nat.le_refl _) _ (HJN.out _ (Later.h _))) | (go_at_call 28; exact later_calls (Nat.le_refl _) _ (HDC.out _)))))
      refine wpQuiet_nil ?_
      rintro W ⟨⟨wj, hj⟩, rfl⟩
      go_wp2
      go_ret
      refine ⟨⟨_, rfl, ?_, ?_⟩, st_call (box1_below hstr) hj⟩
      · rw [bz_append, bz_append, HJ.out, ← HD.out, bz_ofB (fun x hx => Nat.le_trans (dec_le po x hx) (by decide))]
        rfl
      · rw [ByteArray.size_append, ByteArray.size_append]
        show _ + 1 + _ ≤ _
        omega
end Go.Proofs.YtpphpnnehljekaaDoor.TupText
