/-
  The program's Parse.
-/
import Derived.Test.YtpphpnnehljekaaDoorTupText
import Derived.Test.YtpphpnnehljekaaDoorRelT
namespace Go.Proofs.YtpphpnnehljekaaDoor.TupParse
open Go.RowKit Own TupMath TupMath2 Bytes TupLib TupLay TupTake TupRead TupRef TupRef2 TupRef3 TupOrd TupText Rel RelT
open Num (HoldK)
set_option linter.unusedVariables false
set_option maxRecDepth 100000

/-- a numeral up to M, or none -/
def PdOut (k : IntKind) (M : Nat) (l : List Nat) (w : World) (e : Ending) (w' : World) : Prop :=
  ((∃ v : Nat, v ≤ M ∧ l = dec v ∧ e = .returned (.tuple #[.int k (v : Int), .bool true])) ∨ ((∀ v, v ≤ M → l ≠ dec v) ∧ e = .returned (.tuple #[.int k 0, .bool false]))) ∧ Below w.heap.size w w'

set_option maxHeartbeats 8000000 in
theorem parsed8 (s : ByteArray) (w : World) (hs : s.size ≤ 1000000) (E : Env w) : Calls Tryd.prog 19 #[.string s] w (PdOut .u8 255 (bz s) w) := by
  unfold PdOut
  go_enter Tryd.func19, Tryd.ntmps19
  go_wp2_with fail
  refine (pu_any s _ hs E).mono ?_
  rintro e w1 ⟨h, hb⟩
  have HB := Lib.hid hb
  have E1 := E.stays hb
  clear hb
  rcases h with ⟨u, hu, hul, rfl⟩ | ⟨hno, u, t, p, hul, rfl⟩
  · obtain ⟨x, hx, hx2⟩ : ∃ x : Nat, (u : Int) % 256 = (x : Int) ∧ x = u % 256 := ⟨u % 256, rfl, rfl⟩
    have hx3 : x ≤ 255 := by omega
    have HU := Lib.hid hu
    have HX2 := Lib.hid hx2
    clear hu hx2
    go_wp2_with (go_at_call 26; refine (decimal8 x _ hx3 E1).mono ?_; rintro e w2 ⟨⟨S, rfl, hS, _⟩, hb2⟩; refine stop_here ?_)
    have HS := Lib.hid hS
    have HB2 := Lib.hid (st_call HB.out hb2)
    clear hS hb2
    refine stop_go ?_
    by_cases c : S = s
    · subst c
      go_wp2
      go_ret2
      exact ⟨.inl ⟨x, hx3, HS.out, by show Ending.returned (.tuple #[.int .u8 ((u : Int) % 256), .bool true]) = _; rw [hx]⟩, HB2.out⟩
    · have hne := list_ne c
      have HC := Lib.hid c
      clear c
      go_wp2
      go_ret2
      refine ⟨.inr ⟨fun v hv hd => HC.out ?_, rfl⟩, HB2.out⟩
      have hp := parse_dec (l := s.data.toList) (v := v) (by omega) hd
      rw [HU.out] at hp
      injection hp with hp
      apply bz_inj
      rw [HS.out, hd, HX2.out, hp]
      congr 1
      omega
  · have HN := Lib.hid hno
    clear hno
    go_wp2
    go_ret2
    refine ⟨.inr ⟨fun v hv hd => HN.out v (parse_dec (by omega) hd), rfl⟩, HB.out⟩
set_option maxHeartbeats 8000000 in
theorem parsed16 (s : ByteArray) (w : World) (hs : s.size ≤ 1000000) (E : Env w) : Calls Tryd.prog 20 #[.string s] w (PdOut .u16 65535 (bz s) w) := by
  unfold PdOut
  go_enter Tryd.func20, Tryd.ntmps20
  go_wp2_with fail
  refine (pu_any s _ hs E).mono ?_
  rintro e w1 ⟨h, hb⟩
  have HB := Lib.hid hb
  have E1 := E.stays hb
  clear hb
  rcases h with ⟨u, hu, hul, rfl⟩ | ⟨hno, u, t, p, hul, rfl⟩
  · obtain ⟨x, hx, hx2⟩ : ∃ x : Nat, IntKind.u16.wrap (u : Int) = (x : Int) ∧ x = u % 65536 := ⟨u % 65536, by rw [IntKind.wrap_u16]; rfl, rfl⟩
    have hx3 : x ≤ 65535 := by omega
    have HU := Lib.hid hu
    have HX2 := Lib.hid hx2
    clear hu hx2
    go_wp2_with (go_at_call 28; refine (decimal16 x _ hx3 E1).mono ?_; rintro e w2 ⟨⟨S, rfl, hS, _⟩, hb2⟩; refine stop_here ?_)
    have HS := Lib.hid hS
    have HB2 := Lib.hid (st_call HB.out hb2)
    clear hS hb2
    refine stop_go ?_
    by_cases c : S = s
    · subst c
      go_wp2
      go_ret2
      exact ⟨.inl ⟨x, hx3, HS.out, rfl⟩, HB2.out⟩
    · have hne := list_ne c
      have HC := Lib.hid c
      clear c
      go_wp2
      go_ret2
      refine ⟨.inr ⟨fun v hv hd => HC.out ?_, rfl⟩, HB2.out⟩
      have hp := parse_dec (l := s.data.toList) (v := v) (by omega) hd
      rw [HU.out] at hp
      injection hp with hp
      apply bz_inj
      rw [HS.out, hd, HX2.out, hp]
      congr 1
      omega
  · have HN := Lib.hid hno
    clear hno
    go_wp2
    go_ret2
    refine ⟨.inr ⟨fun v hv hd => HN.out v (parse_dec (by omega) hd), rfl⟩, HB.out⟩

/-! what a text's pieces are -/
theorem jn_le : ∀ (L : List (List Nat)) (x : List Nat), x ∈ L → x.length ≤ (jn L).length
  | [y], x, h => by simp at h; subst h; exact Nat.le_refl _
  | y :: z :: r, x, h => by
    rw [jn_cons y (z :: r) (by simp), List.length_append, List.length_cons]
    rcases List.mem_cons.1 h with h | h
    · subst h; omega
    · have := jn_le (z :: r) x h; omega
/-- the pieces that Parse looks at -/
def pcs (X : ByteArray) : List ByteArray := Lib.splitB ⟨#[46]⟩ 0 (min 4 (X.size + 1) - 1) X
theorem pcs_bz (X : ByteArray) : (pcs X).map bz = (Lib.splitK [UInt8.ofNat 46] 0 (min 4 (X.size + 1) - 1) X.data.toList).map nb := by
  have h := Lib.splitB_data ⟨#[46]⟩ 0 (min 4 (X.size + 1) - 1) X
  have h2 := congrArg (List.map nb) h
  rw [List.map_map] at h2
  exact h2
theorem pcs_jn (X : ByteArray) : jn ((pcs X).map bz) = bz X := by rw [pcs_bz]; exact split_back _ _
theorem pcs_len (X : ByteArray) : (pcs X).length ≤ 4 := by
  have := Lib.splitB_length_le ⟨#[46]⟩ 0 (min 4 (X.size + 1) - 1) X
  unfold pcs
  omega
theorem pcs_size (X x : ByteArray) (h : x ∈ pcs X) : x.size ≤ X.size := by
  rw [← bz_len, ← bz_len X, ← pcs_jn X]
  exact jn_le _ _ (List.mem_map.2 ⟨x, h, rfl⟩)
/-- what Cut leaves ahead of the colon, and behind it -/
def cutA (s : ByteArray) : ByteArray := ⟨(Lib.cut s.data.toList (ByteArray.mk #[58]).data.toList).1.toArray⟩
def cutB (s : ByteArray) : ByteArray := ⟨(Lib.cut s.data.toList (ByteArray.mk #[58]).data.toList).2.1.toArray⟩
theorem cutA_bz (s : ByteArray) : bz (cutA s) = nb (Lib.cut s.data.toList [UInt8.ofNat 58]).1 := bz_mk _
theorem cutB_bz (s : ByteArray) : bz (cutB s) = nb (Lib.cut s.data.toList [UInt8.ofNat 58]).2.1 := bz_mk _
theorem cutA_size (s : ByteArray) : (cutA s).size ≤ s.size := by
  unfold cutA
  rw [TupMath2.size_mk]
  unfold Lib.cut
  split
  · simp only [List.length_take]; have : s.data.toList.length = s.size := Array.length_toList; omega
  · have : s.data.toList.length = s.size := Array.length_toList; simp only; omega
theorem cutB_size (s : ByteArray) : (cutB s).size ≤ s.size := by
  unfold cutB
  rw [TupMath2.size_mk]
  unfold Lib.cut
  split
  · simp only [List.length_drop]; have : s.data.toList.length = s.size := Array.length_toList; omega
  · simp
/-- an address's text: its pieces -/
theorem pieces {s : ByteArray} {ip po : Nat} (h : parP (bz s) = some (ip, po)) : (pcs (cutA s)).map bz = (b32 ip).map dec ∧ bz (cutB s) = dec po ∧ ip ≤ 4294967295 ∧ po ≤ 65535 := by
  obtain ⟨he, hi, hp⟩ := par_some h
  obtain ⟨h1, h2⟩ := txt_cut (l := s.data.toList) he
  rw [← cutA_bz] at h1
  rw [← cutB_bz] at h2
  refine ⟨?_, h2, hi, hp⟩
  have hl : 7 ≤ (cutA s).size := by rw [← bz_len, h1]; exact txt4_len ip
  rw [pcs_bz, show min 4 ((cutA s).size + 1) - 1 = 3 by omega, split_txt h1]
  rfl
/-- .. and back -/
theorem pieces_back {s : ByteArray} {ip po p : Nat} {vs : List Nat} (hP : (pcs (cutA s)).map bz = vs.map dec) (hB : bz (cutB s) = dec p) (hv : vs ++ b16 p = b32 ip ++ b16 po) (hi : ip ≤ 4294967295) (hpo : po ≤ 65535) (h4 : vs.length = 4) : parP (bz s) = some (ip, po) := by
  obtain ⟨hvs, hp⟩ : vs = b32 ip ∧ b16 p = b16 po := List.append_inj hv h4
  have hpp : p = po := by
    simp only [b16, List.cons.injEq, and_true] at hp
    omega
  subst hvs hpp
  have hne : (Lib.cut s.data.toList [UInt8.ofNat 58]).2.1 ≠ [] := by
    intro h0
    rw [cutB_bz, h0] at hB
    exact dec_ne p hB.symm
  have hs : bz s = bz (cutA s) ++ 58 :: bz (cutB s) := by rw [cutA_bz, cutB_bz]; exact cut_back (by decide) hne
  have hA : bz (cutA s) = txt4 ip := by
    rw [← pcs_jn, hP]
    unfold txt4
    simp [b32, jn]
  have : bz s = txt ip p := by
    rw [hs, hA, hB]
    unfold txt
    simp
  rw [this]
  exact par_txt ip p hi hpo

theorem take_snoc' {α : Type} {l : List α} {k : Nat} {x : α} (h : l[k]? = some x) : l.take (k + 1) = l.take k ++ [x] := by
  obtain ⟨hk, hx⟩ := List.getElem?_eq_some_iff.1 h
  rw [List.take_succ_eq_append_getElem hk, hx]
theorem splitB_pos (sep : ByteArray) (save : Nat) : ∀ (k : Nat) (s : ByteArray), 0 < (Lib.splitB sep save k s).length
  | 0, s => by simp [Lib.splitB]
  | k + 1, s => by unfold Lib.splitB; split <;> simp
theorem pcs_pos (X : ByteArray) : 0 < (pcs X).length := splitB_pos _ _ _ _
def relP (sl : Value) (vs : List Nat) (n ip po er : Nat) (Z : ByteArray) : Nat → Value → World → Prop
  | 0 => fun v _ => v = sl
  | 1 => fun v _ => v = .string (ofB vs)
  | 2 => fun v _ => v = .int .u16 (n : Int)
  | 3 => HoldK .u16 [n]
  | 4 => fun v _ => v = .string (ofB (b16 n))
  | 5 => fun v _ => v = .string Z
  | 6 => fun v _ => v = .tuple #[.agg #[.int .u32 (ip : Int), .int .u16 (po : Int)], .int .i64 (er : Int)]
  | 7 => fun v _ => v = .agg #[.int .u32 (ip : Int), .int .u16 (po : Int)]
  | 8 => fun v _ => v = .int .i64 (er : Int)
  | _ => fun _ _ => True
theorem relP_more (sl : Value) (vs : List Nat) (n ip po er : Nat) (Z : ByteArray) (i : Nat) (v : Value) (w w' : World) (hr : relP sl vs n ip po er Z i v w) (hb : Below w.heap.size w w') : relP sl vs n ip po er Z i v w' := by
  unfold relP at hr ⊢
  split at hr <;> first | exact hr | exact hr.more hb
attribute [local go_sem] relUpon
/-- six bytes, as an address -/
theorem six_of {l : List Nat} (h : l.length = 6) (hl : ∀ x ∈ l, x ≤ 255) : ∃ ip po, l = b32 ip ++ b16 po ∧ ip ≤ 4294967295 ∧ po ≤ 65535 := by
  match l, h with
  | [y0, y1, y2, y3, y4, y5], _ =>
    have q0 : y0 ≤ 255 := hl _ (by simp)
    have q1 : y1 ≤ 255 := hl _ (by simp)
    have q2 : y2 ≤ 255 := hl _ (by simp)
    have q3 : y3 ≤ 255 := hl _ (by simp)
    have q4 : y4 ≤ 255 := hl _ (by simp)
    have q5 : y5 ≤ 255 := hl _ (by simp)
    refine ⟨y0 * 16777216 + y1 * 65536 + y2 * 256 + y3, y4 * 256 + y5, ?_, by omega, by omega⟩
    simp only [b32, b16, List.cons_append, List.nil_append, List.cons.injEq, and_true]
    omega
theorem piece_dec {L : List ByteArray} {M : List Nat} {k : Nat} {x : ByteArray} (h : L.map bz = M.map dec) (hx : L[k]? = some x) : ∃ v ∈ M, bz x = dec v := by
  have h1 : (L.map bz)[k]? = some (bz x) := by rw [List.getElem?_map, hx]; rfl
  rw [h, List.getElem?_map] at h1
  obtain ⟨v, hv, he⟩ := Option.map_eq_some_iff.1 h1
  exact ⟨v, List.mem_of_getElem? hv, he.symm⟩
theorem cut_call (s : ByteArray) (w : World) (hs : s.size ≤ 1000000) (E : Env w) : Calls Tryd.prog 17 #[.string s, .string ⟨#[58]⟩] w fun e w' => (∃ b, e = .returned (.tuple #[.string (cutA s), .string (cutB s), .bool b])) ∧ Below w.heap.size w w' := by
  refine (cut_any s ⟨#[58]⟩ w hs E).mono ?_
  rintro e w' ⟨he, n, rfl⟩
  exact ⟨⟨_, he⟩, below_drewN (Below.refl _ _) n⟩
theorem split_call (X : ByteArray) (w : World) (hs : X.size ≤ 1000000) (E : Env w) : Calls Tryd.prog 18 #[.string X, .string ⟨#[46]⟩, .int .i64 4] w fun e w' =>
    ∃ B : Nat, e = .returned (.slice (some ⟨B, 0, none⟩) (pcs X).length (min 4 (X.size + 1))) ∧ w.heap.size ≤ B ∧ B < w'.heap.size ∧ (∀ j x, (pcs X)[j]? = some x → w'.cell? ⟨B, j, none⟩ = some (.string x)) ∧ Below w.heap.size w w' := by
  refine (splitN_any X ⟨#[46]⟩ 4 w hs (by decide) (by decide) (by decide) E).mono ?_
  rintro e w' ⟨he, rfl⟩
  refine ⟨w.heap.size, he, Nat.le_refl _, by simp, ?_, (Below.refl _ w).alloc (Nat.le_refl _) _⟩
  intro j x hx
  refine (World.cell?_alloc_mark w _ _ (0, 0) j).trans ?_
  obtain ⟨hj, hx2⟩ := List.getElem?_eq_some_iff.1 hx
  show (Lib.cellsOf (pcs X) _)[j]? = _
  unfold Lib.cellsOf
  rw [List.getElem?_toArray, List.getElem?_append_left (by simpa using hj), List.getElem?_map, hx]
  rfl
/-- the result's box, nought as it was laid -/
structure Bx (w : World) (W : World) : Prop where
  c0 : W.cell? ⟨w.heap.size, 0, none⟩ = some (.int .u32 0)
  c1 : W.cell? ⟨w.heap.size, 1, none⟩ = some (.int .u16 0)
  f0 : W.frozen? ⟨w.heap.size, 0, none⟩ = false
  f1 : W.frozen? ⟨w.heap.size, 1, none⟩ = false
  lt : w.heap.size + 1 ≤ W.heap.size
  bel : Below w.heap.size w W
theorem Bx.start (w : World) : Bx w (w.alloc (.cells #[.int .u32 0, .int .u16 0] 25)) :=
  ⟨by simp, by simp, by simp, by simp, by simp, st_alloc (Below.refl _ _) _⟩
theorem Bx.more {w W W' : World} (h : Bx w W) {n : Nat} (hn : w.heap.size + 1 ≤ n) (hb : Below n W W') : Bx w W' :=
  ⟨(hb.cell (p := ⟨w.heap.size, 0, none⟩) (by show w.heap.size < n; omega)).trans h.c0, (hb.cell (p := ⟨w.heap.size, 1, none⟩) (by show w.heap.size < n; omega)).trans h.c1,
    (hb.frozen (p := ⟨w.heap.size, 0, none⟩) (by show w.heap.size < n; omega)).trans h.f0, (hb.frozen (p := ⟨w.heap.size, 1, none⟩) (by show w.heap.size < n; omega)).trans h.f1,
    Nat.le_trans h.lt hb.size, h.bel.trans (hb.mono (by omega))⟩
theorem Bx.call {w W W' : World} (h : Bx w W) (hb : Below W.heap.size W W') : Bx w W' := h.more h.lt hb

set_option maxHeartbeats 16000000 in
theorem parse_any (s : ByteArray) (w : World) (hs : s.size ≤ 1000000) (E : Env w) : Calls Tryd.prog 6 #[.string s] w (ParOut (bz s) w) := by
  have hAs := cutA_size s
  have hBs := cutB_size s
  have hcut := fun W EW => cut_call s W hs EW
  have HPC := Lib.hid (fun ip po => pieces (s := s) (ip := ip) (po := po))
  have HPB := Lib.hid (fun ip po p vs => pieces_back (s := s) (ip := ip) (po := po) (p := p) (vs := vs))
  generalize cutA s = X at hAs hcut HPC HPB
  generalize cutB s = Y at hBs hcut HPC HPB
  have HCUT := Lib.hid hcut
  have hL4 := pcs_len X
  have hLs := pcs_size X
  have hLp := pcs_pos X
  have hsp := fun W EW => split_call X W (by omega) EW
  generalize pcs X = L at hL4 hLs hLp hsp HPC HPB
  have HSP := Lib.hid hsp
  have HLS := Lib.hid hLs
  clear hcut hsp hLs
  go_enter Tryd.func6, Tryd.ntmps6
  go_wp2_with fail
  have hbx := Bx.start w
  refine (HCUT.out _ (E.stays hbx.bel)).mono ?_
  rintro e w1 ⟨⟨b, rfl⟩, hb1⟩
  have HBX1 := Lib.hid (hbx.call hb1)
  clear hb1 hbx
  go_wp2_with fail
  refine (HSP.out _ (E.stays HBX1.out.bel)).mono ?_
  rintro e w2 ⟨B, rfl, hB1, hB2, hcl, hb2⟩
  have HBX := Lib.hid (HBX1.out.call hb2)
  have HCL := Lib.hid hcl
  clear hcl hb2 HBX1
  go_wp2_with fail
  go_loopw [7, 23] (fun v i wr => ∃ (k : Nat) (A : Option Addr) (c : Nat) (vs : List Nat), i = .int .i64 (k : Int) ∧ k ≤ L.length ∧ v = .slice A k c ∧ vs.length = k ∧ (L.take k).map bz = vs.map dec ∧ (∀ x ∈ vs, x ≤ 255) ∧ Own8 wr w2.heap.size (.slice A k c) vs ∧ Below w2.heap.size w2 wr) (fun _ i _ => L.length - (intOf i).toNat)
  case atStart => exact ⟨0, none, 0, [], rfl, by omega, rfl, rfl, rfl, by simp, own8_nil _ _, Below.refl _ _⟩
  case round =>
    obtain ⟨k, A, c, vs, rfl, hk, rfl, hvl, hvs, hle, hO, hB⟩ := hrel
    have HVL := Lib.hid hvl
    have HVS := Lib.hid hvs
    have HLE := Lib.hid hle
    have HO := Lib.hid hO
    have HB := Lib.hid hB
    have HBXR := Lib.hid (HBX.out.call hB)
    clear hvl hvs hle hO hB
    by_cases hlt : k < L.length
    · have hlti : (k : Int) < (L.length : Int) := by omega
      obtain ⟨x, hx⟩ : ∃ x, L[k]? = some x := ⟨_, List.getElem?_eq_getElem hlt⟩
      have hcx : wr.cell? ⟨B, k, none⟩ = some (.string x) := (HB.out.cell (p := ⟨B, k, none⟩) hB2).trans (HCL.out k x hx)
      have hxs : x.size ≤ 1000000 := by have := HLS.out x (List.mem_of_getElem? hx); omega
      have hts := take_snoc' hx
      have HTS := Lib.hid hts
      have HX := Lib.hid hx
      clear hx hts
      go_wp2_with fail
      refine (parsed8 x _ hxs (E.stays HBXR.out.bel)).mono ?_
      rintro e w3 ⟨h, hb3⟩
      have HBX3 := Lib.hid (HBXR.out.call hb3)
      have HO3 := Lib.hid (HO.out.stays hb3)
      have HB3 := Lib.hid (HB.out.trans (hb3.mono HB.out.size))
      have hs3 : w2.heap.size ≤ w3.heap.size := HB3.out.size
      clear hb3
      rcases h with ⟨n, hn, hxd, rfl⟩ | ⟨hno, rfl⟩
      · have HXD := Lib.hid hxd
        clear hxd
        have hvk : vs.length + 1 ≤ 1099511627776 := by rw [HVL.out]; omega
        go_wp2_with (at_builtin; refine stop_here ?_)
        refine stop_go (app8 _ rfl _ _ rfl w2.heap.size _ vs rfl HO3.out n _ rfl _ rfl rfl hs3 hvk ?_)
        rw [HVL.out]
        intro A' c' w4 hO4 hb4
        go_wp2
        go_roundw
        case rel => 
          refine ⟨k + 1, A', c', vs ++ [n], by go_num, by omega, rfl, by simp [HVL.out], ?_, ?_, hO4, HB3.out.trans hb4⟩
          · rw [HTS.out, List.map_append, List.map_append, HVS.out]; simp [HXD.out]
          · intro y hy
            rcases List.mem_append.1 hy with hy | hy
            · exact HLE.out y hy
            · simp at hy; omega
        case measure => simp only [intOf]; omega
      · have hno2 : parP (bz s) = none := by
          cases hp : parP (bz s) with
          | none => rfl
          | some q =>
            obtain ⟨ip, po⟩ := q
            obtain ⟨h1, _, hi, _⟩ := HPC.out ip po hp
            obtain ⟨v, hv, hvx⟩ := piece_dec h1 HX.out
            have hvl : v ≤ 255 := b32_le ip hi v hv
            exact absurd hvx (hno v hvl)
        have NO := Lib.hid hno2
        clear hno hno2
        have d0 := HBX3.out.c0
        have d1 := HBX3.out.c1
        have g0 := HBX3.out.f0
        have g1 := HBX3.out.f1
        go_wp2_with fail
        obtain ⟨e0, e1, hWB⟩ := box_set (wr := w3) (.int .u32 0) (.int .u16 0) _ _ HBX3.out.bel d0 d1
        generalize (w3.setCell ⟨w.heap.size, 0, none⟩ (.int .u32 0)).setCell ⟨w.heap.size, 1, none⟩ (.int .u16 0) = W at e0 e1 hWB ⊢
        refine bodyPost_ret (v := .tuple #[.agg #[.int .u32 0, .int .u16 0], .int .i64 8]) ?_ rfl ?_
        · simp [results, Tryd.f6, go_sem, e0, e1]
        · exact ⟨⟨0, 0, 8, rfl, .inr ⟨NO.out, rfl, rfl, rfl⟩⟩, hWB⟩
    · obtain rfl : k = L.length := by omega
      have hYs : Y.size ≤ 1000000 := by omega
      go_wp2_with fail
      refine (parsed16 Y _ hYs (E.stays HBXR.out.bel)).mono ?_
      rintro e w3 ⟨h, hb3⟩
      have HBX3 := Lib.hid (HBXR.out.call hb3)
      have HO3 := Lib.hid (HO.out.stays hb3)
      have hs3 : w2.heap.size ≤ w3.heap.size := Nat.le_trans HB.out.size hb3.size
      have hn2 : w.heap.size + 1 ≤ w2.heap.size := HBX.out.lt
      clear hb3
      rcases h with ⟨n, hn, hxd, rfl⟩ | ⟨hno, rfl⟩
      · have HXD := Lib.hid hxd
        clear hxd
        have hall : ∀ x ∈ vs ++ b16 n, x ≤ 255 := by
          intro y hy
          rcases List.mem_append.1 hy with hy | hy
          · exact HLE.out y hy
          · exact b16_le n hn y hy
        have HLEN2 := Lib.hid (show L.length + 2 = (vs ++ b16 n).length by simp [HVL.out, b16])
        have hsz : (ofB (vs ++ b16 n)).size ≤ 1000000 := by rw [ofB_size]; have := HLEN2.out; omega
        have hbzo := bz_ofB hall
        have hvpos : 0 < vs.length := by have := HVL.out; omega
        have hzz : (ofB vs).size + (ofB (b16 n)).size ≤ 9223372036854775807 := by rw [ofB_size, ofB_size, HVL.out]; show _ + 2 ≤ _; omega
        obtain ⟨Z, hZ⟩ : ∃ Z, ofB (vs ++ b16 n) = Z := ⟨_, rfl⟩
        have hZ2 : ofB vs ++ ofB (b16 n) = Z := by rw [ofB_two]; exact hZ
        rw [hZ] at hsz hbzo
        have HZ := Lib.hid hZ2
        obtain ⟨ip, po, er, hrd, hpar⟩ : ∃ ip po er : Nat, (∀ W, Calls Tryd.prog 8 #[.string Z] W fun e w' => e = .returned (.tuple #[.agg #[.int .u32 (ip : Int), .int .u16 (po : Int)], .int .i64 (er : Int)]) ∧ Below W.heap.size W w') ∧ (parP (bz s) = some (ip, po) ∧ er = 0 ∨ parP (bz s) = none ∧ ip = 0 ∧ po = 0 ∧ er = 8) := by
          by_cases h6 : (vs ++ b16 n).length = 6
          · obtain ⟨ip, po, hv, hi, hpo⟩ := six_of h6 hall
            have hvs4 : vs.length = 4 := by have a := HLEN2.out; have b := HVL.out; omega
            refine ⟨ip, po, 0, fun W => (read_any Z W hsz).mono fun e w' hr => ?_, .inl ⟨HPB.out ip po n vs (by rw [← HVS.out, List.take_length]) HXD.out hv hi hpo hvs4, rfl⟩⟩
            rw [hbzo, hv] at hr
            exact read_is hr hi hpo
          · refine ⟨0, 0, 8, fun W => (read_any Z W hsz).mono fun e w' hr => ?_, .inr ⟨?_, rfl, rfl, rfl⟩⟩
            · rw [hbzo] at hr
              have h1 := hr.1
              rw [if_neg h6] at h1
              exact ⟨h1, hr.2⟩
            · cases hp : parP (bz s) with
              | none => rfl
              | some q =>
                obtain ⟨ip, po⟩ := q
                obtain ⟨h1, _, _, _⟩ := HPC.out ip po hp
                have := congrArg List.length h1
                simp only [List.length_map] at this
                exact absurd (show (vs ++ b16 n).length = 6 by rw [← HLEN2.out, this]; rfl) h6
        have HRD := Lib.hid hrd
        have HPAR := Lib.hid hpar
        clear hall hZ hZ2 hbzo hrd hpar
        go_wp2_with fail
        refine wp_region_see_tail 9 57 (relP (.slice A L.length c) vs n ip po er Z) rfl (by kernel_rfl) (by kernel_rfl) (by kernel_rfl) (by kernel_rfl) (relP_more _ vs n ip po er Z) ?_ ?_
        · intro i hi
          have hi2 : i < 9 := by simpa using hi
          clear hi
          match i, hi2 with
          | 0, _ =>
            intro ρ W hb hc hg hf h0 hd
            have t7 := h0 7 (by kernel_rfl)
            clear hd h0
            go_simp
            exact ⟨rfl, Below.refl _ _⟩
          | 1, _ =>
            intro ρ W hb hc hg hf h0 hd
            have d0 : ρ (.tmp 48) = .slice A L.length c := hd 0 48 (by kernel_rfl) (by kernel_rfl)
            have hcv := str8 (HO3.out.stays hb) HVL.out.symm hvpos HLE.out
            clear hd h0
            go_simp
            exact ⟨rfl, Below.refl _ _⟩
          | 2, _ =>
            intro ρ W hb hc hg hf h0 hd
            have t12 := h0 12 (by kernel_rfl)
            clear hd h0
            go_simp
            exact ⟨rfl, Below.refl _ _⟩
          | 3, _ =>
            intro ρ W hb hc hg hf h0 hd
            have d2 : ρ (.tmp 50) = .int .u16 (n : Int) := hd 2 50 (by kernel_rfl) (by kernel_rfl)
            clear hd h0
            go_simp
            exact ⟨HoldK.new .u16 W [n] _, st_alloc (Below.refl _ _) _⟩
          | 4, _ =>
            intro ρ W hb hc hg hf h0 hd
            have dh3 : HoldK .u16 [n] (ρ (.tmp 51)) W := hd 3 51 (by kernel_rfl) (by kernel_rfl)
            clear hd h0
            go_simp
            exact (layB16 dh3 hn).mono fun e w' ⟨he, hb⟩ => ⟨_, he, rfl, hb⟩
          | 5, _ =>
            intro ρ W hb hc hg hf h0 hd
            have d1 : ρ (.tmp 49) = .string (ofB vs) := hd 1 49 (by kernel_rfl) (by kernel_rfl)
            have d4 : ρ (.tmp 52) = .string (ofB (b16 n)) := hd 4 52 (by kernel_rfl) (by kernel_rfl)
            clear hd h0
            go_simp
            rw [if_neg (Nat.not_lt.2 hzz)]
            exact ⟨congrArg Value.string HZ.out, Below.refl _ _⟩
          | 6, _ =>
            intro ρ W hb hc hg hf h0 hd
            have d5 : ρ (.tmp 53) = .string Z := hd 5 53 (by kernel_rfl) (by kernel_rfl)
            clear hd h0
            go_simp
            exact (HRD.out W).mono fun e w' ⟨he, hb⟩ => ⟨_, he, rfl, hb⟩
          | 7, _ =>
            intro ρ W hb hc hg hf h0 hd
            have d6 : ρ (.tmp 54) = .tuple #[.agg #[.int .u32 (ip : Int), .int .u16 (po : Int)], .int .i64 (er : Int)] := hd 6 54 (by kernel_rfl) (by kernel_rfl)
            clear hd h0
            go_simp
            exact ⟨rfl, Below.refl _ _⟩
          | 8, _ =>
            intro ρ W hb hc hg hf h0 hd
            have d6 : ρ (.tmp 54) = .tuple #[.agg #[.int .u32 (ip : Int), .int .u16 (po : Int)], .int .i64 (er : Int)] := hd 6 54 (by kernel_rfl) (by kernel_rfl)
            clear hd h0
            go_simp
            exact ⟨rfl, Below.refl _ _⟩
          | i + 9, hlt => exact absurd hlt (by omega)
        · intro VS W hb hall
          have v7 : VS 7 = .agg #[.int .u32 (ip : Int), .int .u16 (po : Int)] := hall 7 (by omega)
          have v8 : VS 8 = .int .i64 (er : Int) := hall 8 (by omega)
          clear hall
          rw [lexA_slots VS 9 [(some 48, 0), (some 49, 1), (some 50, 2), (some 51, 3), (some 52, 4), (some 53, 5), (some 54, 6), (some 55, 7), (some 56, 8)] (by kernel_rfl)]
          simp only [List.foldl_cons, List.foldl_nil, v7, v8]
          show wpList _ _ _ [_, _] _ _
          have HBX5 := Lib.hid (HBX3.out.call hb)
          have d0 := HBX5.out.c0
          have d1 := HBX5.out.c1
          have g0 := HBX5.out.f0
          have g1 := HBX5.out.f1
          clear hb
          go_wp2_with fail
          obtain ⟨e0, e1, hWB⟩ := box_set (wr := W) (.int .u32 (ip : Int)) (.int .u16 (po : Int)) _ _ HBX5.out.bel d0 d1
          generalize (W.setCell ⟨w.heap.size, 0, none⟩ (.int .u32 (ip : Int))).setCell ⟨w.heap.size, 1, none⟩ (.int .u16 (po : Int)) = W1 at e0 e1 hWB ⊢
          refine bodyPost_ret (v := .tuple #[.agg #[.int .u32 (ip : Int), .int .u16 (po : Int)], .int .i64 (er : Int)]) ?_ rfl ?_
          · simp [results, Tryd.f6, go_sem, e0, e1]
          · refine ⟨⟨ip, po, er, rfl, ?_⟩, hWB⟩
            rcases HPAR.out with ⟨hp, rfl⟩ | ⟨hp, rfl, rfl, rfl⟩
            · exact .inl ⟨hp, rfl⟩
            · exact .inr ⟨hp, rfl, rfl, rfl⟩
      · have hno2 : parP (bz s) = none := by
          cases hp : parP (bz s) with
          | none => rfl
          | some q =>
            obtain ⟨ip, po⟩ := q
            obtain ⟨_, h2, _, hpo⟩ := HPC.out ip po hp
            exact absurd h2 (hno po hpo)
        have NO := Lib.hid hno2
        clear hno hno2
        have d0 := HBX3.out.c0
        have d1 := HBX3.out.c1
        have g0 := HBX3.out.f0
        have g1 := HBX3.out.f1
        go_wp2_with fail
        obtain ⟨e0, e1, hWB⟩ := box_set (wr := w3) (.int .u32 0) (.int .u16 0) _ _ HBX3.out.bel d0 d1
        generalize (w3.setCell ⟨w.heap.size, 0, none⟩ (.int .u32 0)).setCell ⟨w.heap.size, 1, none⟩ (.int .u16 0) = W at e0 e1 hWB ⊢
        refine bodyPost_ret (v := .tuple #[.agg #[.int .u32 0, .int .u16 0], .int .i64 8]) ?_ rfl ?_
        · simp [results, Tryd.f6, go_sem, e0, e1]
        · exact ⟨⟨0, 0, 8, rfl, .inr ⟨NO.out, rfl, rfl, rfl⟩⟩, hWB⟩
end Go.Proofs.YtpphpnnehljekaaDoor.TupParse
