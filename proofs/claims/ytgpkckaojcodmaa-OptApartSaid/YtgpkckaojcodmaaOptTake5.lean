/-
  The document's own answers of layer 7: take, of a row of blocks.
-/
import Derived.Test.YtgpkckaojcodmaaOptTake
import Derived.Test.YtgpkckaojcodmaaCells
namespace Go.Proofs.Ytgpkckaojcodmaa.OptTake5
open Go.RowKit Own TupMath SumMath Litb Calm Rel RelT IpMath IpRef OptMath OptRef OptPlc OptSame Boxes OptRaw OptMay OptTake
open Cells (CellsAt set7 put_lit)
set_option linter.unusedVariables false
set_option maxRecDepth 100000

/-! a row of blocks that the call owns -/
theorem info_blk : (Try.prog.info? 62).map (fun i => (i.zero, i.size, i.bytes)) = some (some (.agg #[.int .u32 0, .int .u32 0]), 2, 8) := by kernel_rfl
def encB (L : List (Nat × Nat)) : List Value := L.flatMap fun p => [Value.int .u32 (p.1 : Int), Value.int .u32 (p.2 : Int)]
theorem encB_snoc (L : List (Nat × Nat)) (p q : Nat) : encB (L ++ [(p, q)]) = encB L ++ [Value.int .u32 (p : Int), Value.int .u32 (q : Int)] := by unfold encB; rw [List.flatMap_append]; rfl
theorem encB_at : ∀ (L : List (Nat × Nat)) (j : Nat) (p : Nat × Nat), L[j]? = some p → (encB L)[j * 2]? = some (.int .u32 (p.1 : Int)) ∧ (encB L)[j * 2 + 1]? = some (.int .u32 (p.2 : Int))
  | [], j, p, h => by simp at h
  | x :: L, 0, p, h => by
    simp at h
    subst h
    exact ⟨rfl, rfl⟩
  | x :: L, j + 1, p, h => by
    have ih := encB_at L j p (by simpa using h)
    have e : (j + 1) * 2 = j * 2 + 2 := by omega
    rw [e]
    exact ih
def OwnB (w : World) (base : Nat) (v : Value) (L : List (Nat × Nat)) : Prop := w.ownsRow base 62 2 v L.length (encB L)
theorem ownB_nil (w : World) (base : Nat) : OwnB w base (.slice none 0 0) [] := World.ownsRow_nil _ _ _ _
theorem OwnB.stays {w w' base v L} (h : OwnB w base v L) (hb : Below w.heap.size w w') : OwnB w' base v L := own_stays h hb
theorem OwnB.put {w base v L} (h : OwnB w base v L) (g k : Nat) (u : Value) (hg : g < base) : OwnB (w.setCell ⟨g, k, none⟩ u) base v L := own_set h g k u hg
/-- a row of blocks, from the beginning of a block of memory on, of which P holds -/
def Row (P : Nat → Prop) (w : World) (A : Option Addr) (L : List (Nat × Nat)) : Prop := 0 < L.length → ∃ b, A = some ⟨b, 0, none⟩ ∧ P b ∧ b < w.heap.size ∧ ∀ (j : Nat) (p : Nat × Nat), L[j]? = some p → w.cell? ⟨b, j * 2, none⟩ = some (.int .u32 (p.1 : Int)) ∧ w.cell? ⟨b, j * 2 + 1, none⟩ = some (.int .u32 (p.2 : Int))
theorem Row.nil (P : Nat → Prop) (w : World) (A : Option Addr) : Row P w A [] := fun h => absurd h (by simp)
theorem Row.blk {P : Nat → Prop} {w : World} {A : Option Addr} {L : List (Nat × Nat)} (h : Row P w A L) : BlkR w A L := fun h0 => by
  obtain ⟨b, e, _, hb, hc⟩ := h h0
  exact ⟨b, 0, e, hb, fun j p hp => by rw [Nat.zero_add]; exact hc j p hp⟩
theorem Row.more {P : Nat → Prop} {w w' : World} {A : Option Addr} {L : List (Nat × Nat)} (h : Row P w A L) (hb : Below w.heap.size w w') : Row P w' A L := fun h0 => by
  obtain ⟨b, e, hp, hlt, hc⟩ := h h0
  exact ⟨b, e, hp, Nat.lt_of_lt_of_le hlt hb.size, fun j p hp => ⟨(hb.cell (p := ⟨b, j * 2, none⟩) hlt).trans (hc j p hp).1, (hb.cell (p := ⟨b, j * 2 + 1, none⟩) hlt).trans (hc j p hp).2⟩⟩
theorem Row.imp {P Q : Nat → Prop} {w : World} {A : Option Addr} {L : List (Nat × Nat)} (h : Row P w A L) (hq : ∀ b, P b → Q b) : Row Q w A L := fun h0 => by
  obtain ⟨b, e, hp, r⟩ := h h0
  exact ⟨b, e, hq b hp, r⟩
/-- another block is written -/
theorem Row.apart {P : Nat → Prop} {w w' : World} {A : Option Addr} {L : List (Nat × Nat)} (h : Row P w A L) (g : Nat) (hg : ∀ b, P b → b ≠ g) (ha : Cells.Apart g w w') : Row P w' A L := fun h0 => by
  obtain ⟨b, e, hp, hlt, hc⟩ := h h0
  exact ⟨b, e, hp, Nat.lt_of_lt_of_le hlt ha.1, fun j p hj => ⟨(ha.2 ⟨b, j * 2, none⟩ (hg b hp)).1.trans (hc j p hj).1, (ha.2 ⟨b, j * 2 + 1, none⟩ (hg b hp)).1.trans (hc j p hj).2⟩⟩
/-- a block that is no row of blocks is written -/
theorem Row.apartZ {P : Nat → Prop} {w w' : World} {A : Option Addr} {L : List (Nat × Nat)} (h : Row P w A L) (g : Nat) (x : Int) (hz : w.cell? ⟨g, 0, none⟩ = some (.int .u16 x)) (ha : Cells.Apart g w w') : Row P w' A L := fun h0 => by
  obtain ⟨b, e, hp, hlt, hc⟩ := h h0
  have hne : b ≠ g := fun q => by
    subst q
    have h1 := (hc 0 _ (List.getElem?_eq_getElem h0)).1
    rw [Nat.zero_mul, hz] at h1
    cases h1
  exact ⟨b, e, hp, Nat.lt_of_lt_of_le hlt ha.1, fun j p hj => ⟨(ha.2 ⟨b, j * 2, none⟩ hne).1.trans (hc j p hj).1, (ha.2 ⟨b, j * 2 + 1, none⟩ hne).1.trans (hc j p hj).2⟩⟩
theorem OwnB.row {w : World} {base : Nat} {A : Option Addr} {n c : Nat} {L : List (Nat × Nat)} (h : OwnB w base (.slice A n c) L) (hn : n = L.length) : Row (fun b => base ≤ b) w A L := by
  subst hn
  intro h0
  obtain ⟨g, rfl, hb, hg, hc, _⟩ := own_at h h0
  refine ⟨g, rfl, hb, hg, fun j p hp => ?_⟩
  obtain ⟨e1, e2⟩ := encB_at L j p hp
  exact ⟨by have := hc _ _ e1; rwa [Nat.zero_add] at this, by have := hc _ _ e2; rwa [Nat.zero_add] at this⟩
theorem OwnB.reads {w : World} {base : Nat} {A : Option Addr} {n c : Nat} {L : List (Nat × Nat)} (h : OwnB w base (.slice A n c) L) (hn : n = L.length) : BlkR w A L := by
  subst hn
  intro h0
  obtain ⟨g, rfl, _, hg, hc, _⟩ := own_at h h0
  refine ⟨g, 0, rfl, hg, fun j p hp => ?_⟩
  obtain ⟨e1, e2⟩ := encB_at L j p hp
  exact ⟨hc _ _ e1, by have := hc _ _ e2; rwa [← Nat.add_assoc] at this⟩
theorem app_blk {ops : Array Oper} {rest : List Oper} {o : Oper} {a : Act} {Q : Exit → Act → World → Prop} (W : World) (hgd : o.guard = none) (s x : Operand)
    (ho : o.op = .call { callee := .builtin .append, args := #[s, x], argTypes := #[23, 23] })
    (base : Nat) (v : Value) (L : List (Nat × Nat)) (hs : a.eval s = v) (hown : OwnB W base v L)
    (p q : Nat) (B : Nat) (hx : a.eval x = .slice (some ⟨B, 0, none⟩) 1 1) (hblk : W.heap[B]? = some (.cells #[.int .u32 (p : Int), .int .u32 (q : Int)] 62 (0, 0))) (hbase : base ≤ W.heap.size) (hn : L.length + 1 ≤ 1099511627776)
    (h : ∀ A' c' w', OwnB w' base (.slice A' (L.length + 1) c') (L ++ [(p, q)]) → Below base W w' → wpList Try.prog ops Q rest (a.put o.dst (.slice A' (L.length + 1) c')) w') :
    wpList Try.prog ops Q (o :: rest) a W := by
  obtain ⟨i0, hi, hz0, hz1, hz2⟩ := info_parts info_blk
  refine wpList_append_own _ hgd s x 23 ho base 62 i0 _ 2 8 Try.underlying23 hi hz0 hz1 hz2 rfl (by decide) v L.length _ hs hown ⟨B, 0, none⟩ 1 1 [.int .u32 (p : Int), .int .u32 (q : Int)] hx rfl ?_ ?_ (by unfold maxLen; omega) (by omega) hbase ?_
  · intro j u hj
    have : (⟨B, 0, none⟩ : Addr).add j = ⟨B, j, none⟩ := by
      unfold Addr.add
      split <;> simp_all
    rw [this, cell_of_row _ _ _ _ _ _ hblk]
    simpa using hj
  · intro u hu
    simp at hu
    rcases hu with rfl | rfl <;> rfl
  · intro v' w' h2 h3 _
    obtain ⟨A', c', rfl⟩ := own_form h2
    refine h A' c' w' ?_ ((Below.refl base W).grown h3 hbase fun k hk => (hown.lt k hk).1)
    unfold OwnB
    rw [List.length_append, List.length_singleton, encB_snoc]
    exact h2

/-! the numbers of a row of blocks -/
theorem prs_len : ∀ (m : Nat) (l : List Nat), l.length = 8 * m → (prs l).length = m
  | 0, l, h => by rw [List.eq_nil_of_length_eq_zero (show l.length = 0 by omega)]; rfl
  | m + 1, l, h => by
    match l, h with
    | a :: b :: c :: d :: e :: f :: g :: x :: r, h =>
      show (prs r).length + 1 = m + 1
      rw [prs_len m r (by simp at h; omega)]
    | [], h => simp at h
    | [_], h => simp at h; omega
    | [_, _], h => simp at h; omega
    | [_, _, _], h => simp at h; omega
    | [_, _, _, _], h => simp at h; omega
    | [_, _, _, _, _], h => simp at h; omega
    | [_, _, _, _, _, _], h => simp at h; omega
    | [_, _, _, _, _, _, _], h => simp at h; omega
theorem prs_at : ∀ (k : Nat) (l : List Nat), 8 * k + 8 ≤ l.length → (prs l)[k]? = some (v256 ((l.drop (8 * k)).take 4), v256 ((l.drop (8 * k + 4)).take 4))
  | k, a :: b :: c :: d :: e :: f :: g :: x :: r, h => by
    have hv : ∀ a b c d : Nat, v256 [a, b, c, d] = a * 16777216 + b * 65536 + c * 256 + d := fun a b c d => by simp only [v256, List.foldl_cons, List.foldl_nil]; omega
    match k with
    | 0 =>
      show some (_, _) = some (v256 [a, b, c, d], v256 [e, f, g, x])
      rw [hv, hv]
    | k + 1 =>
      have ih := prs_at k r (by simp at h; omega)
      have e1 : 8 * (k + 1) = 8 * k + 8 := by omega
      have e2 : 8 * k + 8 + 4 = 8 * k + 4 + 8 := by omega
      rw [e1, e2]
      exact ih
  | k, [], h => by simp at h
  | k, [_], h => by simp at h
  | k, [_, _], h => by simp at h
  | k, [_, _, _], h => by simp at h
  | k, [_, _, _, _], h => by simp at h
  | k, [_, _, _, _, _], h => by simp at h
  | k, [_, _, _, _, _, _], h => by simp at h
  | k, [_, _, _, _, _, _, _], h => by simp at h

def relT5 (s : ByteArray) (A : Option Addr) (n c a p q b0 : Nat) : Nat → Value → World → Prop
  | 0 => fun v _ => v = .pointer (some ⟨b0, 3, none⟩)
  | 1 => fun v _ => v = .slice A n c
  | 2 => fun v _ => v = .string s
  | 3 => fun v _ => v = .int .i64 (a : Int)
  | 4 => fun v _ => v = .int .i64 (a : Int)
  | 5 => fun v _ => v = .int .i64 ((a : Int) + 4)
  | 6 => fun v _ => v = .string (s.extract a (a + 4))
  | 7 => fun v _ => v = .int .u32 (p : Int)
  | 8 => fun v _ => v = .string s
  | 9 => fun v _ => v = .int .i64 (a : Int)
  | 10 => fun v _ => v = .int .i64 ((a : Int) + 4)
  | 11 => fun v _ => v = .int .i64 (a : Int)
  | 12 => fun v _ => v = .int .i64 ((a : Int) + 8)
  | 13 => fun v _ => v = .string (s.extract (a + 4) (a + 8))
  | 14 => fun v _ => v = .int .u32 (q : Int)
  | 15 => fun v _ => v = .agg #[.int .u32 (p : Int), .int .u32 (q : Int)]
  | 16 => fun v W => ∃ B, v = .slice (some ⟨B, 0, none⟩) 1 1 ∧ W.heap[B]? = some (.cells #[.int .u32 (p : Int), .int .u32 (q : Int)] 62 (0, 0))
  | _ => fun _ _ => True
theorem relT5_more (s : ByteArray) (A : Option Addr) (n c a p q b0 : Nat) (i : Nat) (v : Value) (w w' : World) (hr : relT5 s A n c a p q b0 i v w) (hb : Below w.heap.size w w') : relT5 s A n c a p q b0 i v w' := by
  unfold relT5 at hr ⊢
  split at hr <;> first
    | exact hr
    | (obtain ⟨B, e, h⟩ := hr
       exact ⟨B, e, box_more h hb⟩)
attribute [local go_sem] relUpon

set_option maxHeartbeats 16000000 in
theorem take5 (o : Opn) (s : ByteArray) (w : World) (hbl : o.blocks = []) (h8 : s.size % 8 = 0) (hs : s.size ≤ 32) :
    Calls Try.prog 29 #[ov o none 0, .int .i64 5, .string s] w fun e w' => ∃ A' c', e = .returned (.tuple #[ov { o with blocks := prs (bz s) } A' c', .bool true]) ∧ Row (fun b => w.heap.size ≤ b) w' A' (prs (bz s)) ∧ Below w.heap.size w w' := by
  obtain ⟨M, hM⟩ : ∃ M, prs (bz s) = M := ⟨_, rfl⟩
  have hMl : M.length = s.size / 8 := by rw [← hM]; exact prs_len _ _ (by rw [bz_len]; omega)
  have HA : Hid (∀ k, 8 * k + 8 ≤ s.size → M[k]? = some (v256 (((bz s).drop (8 * k)).take 4), v256 (((bz s).drop (8 * k + 4)).take 4))) := Lib.hid (fun k hk => by rw [← hM]; exact prs_at k (bz s) (by rw [bz_len]; exact hk))
  rw [hM]
  clear hM
  obtain ⟨mss, scale, sack, blocks, time, val, echo⟩ := o
  simp only at hbl
  subst hbl
  have C0 : CellsAt ((w.alloc (.cells (oc ⟨mss, scale, sack, [], time, val, echo⟩ none 0) 26)).alloc (.cells #[.int .u16 0, .int .i64 0, .bool false, .slice none 0 0, .bool false, .int .u32 0, .int .u32 0] 26)) w.heap.size (oc ⟨mss, scale, sack, [], time, val, echo⟩ none 0) :=
    (CellsAt.new w (oc ⟨mss, scale, sack, [], time, val, echo⟩ none 0) 26).later ((Below.refl _ _).alloc (Nat.le_refl _) _)
  have D0 := CellsAt.new (w.alloc (.cells (oc ⟨mss, scale, sack, [], time, val, echo⟩ none 0) 26)) #[.int .u16 0, .int .i64 0, .bool false, .slice none 0 0, .bool false, .int .u32 0, .int .u32 0] 26
  rw [World.size_alloc] at D0
  have B0 := st_alloc (st_alloc (Below.refl _ w) (.cells (oc ⟨mss, scale, sack, [], time, val, echo⟩ none 0) 26)) (.cells #[.int .u16 0, .int .i64 0, .bool false, .slice none 0 0, .bool false, .int .u32 0, .int .u32 0] 26)
  have HC0 := Lib.hid C0
  have HD0 := Lib.hid D0
  have HB0 := Lib.hid B0
  have HL := Lib.hid hMl
  clear C0 D0 B0 hMl
  go_enter Try.func29, Try.ntmps29
  go_wp2_with fail
  go_loopw [8] (fun i wr => ∃ (k a : Nat) (A : Option Addr) (c : Nat) (L : List (Nat × Nat)), i = .int .i64 (a : Int) ∧ a = 8 * k ∧ a ≤ s.size ∧ L = M.take k ∧ CellsAt wr w.heap.size (oc ⟨mss, scale, sack, L, time, val, echo⟩ A c) ∧ CellsAt wr (w.heap.size + 1) #[.int .u16 0, .int .i64 0, .bool false, .slice none 0 0, .bool false, .int .u32 0, .int .u32 0] ∧ OwnB wr (w.heap.size + 2) (.slice A L.length c) L ∧ Below w.heap.size w wr) (fun i _ => s.size - (intOf i).toNat)
  case atStart => exact ⟨0, 0, none, 0, [], rfl, rfl, by omega, rfl, HC0.out, HD0.out, ownB_nil _ _, HB0.out⟩
  case round =>
    obtain ⟨k, a, A, c, L, rfl, hak, hk, hL, hC, hD, hO, hB⟩ := hrel
    have HLk := Lib.hid hL
    have hLl : L.length = min k M.length := by rw [hL, List.length_take]
    have HC := Lib.hid hC
    have HD := Lib.hid hD
    have HO := Lib.hid hO
    have HB := Lib.hid hB
    have HAK := Lib.hid hak
    have hd1 := hD.lt
    clear hL hC hD hO hB
    by_cases hlt : a < s.size
    · have hli : (a : Int) < (s.size : Int) := by omega
      have hk8 : 8 * k + 8 ≤ s.size := by omega
      have hMk := HA.out k hk8
      have hk4 : L.length ≤ 4 := by have := HL.out; omega
      have e4 : bz (s.extract a (a + 4)) = ((bz s).drop (8 * k)).take 4 := by rw [bz_extract s _ _ (by omega), List.drop_take, hak]; congr 1; omega
      have e8 : bz (s.extract (a + 4) (a + 8)) = ((bz s).drop (8 * k + 4)).take 4 := by rw [bz_extract s _ _ (by omega), List.drop_take, hak]; congr 1; omega
      have np := fun W => numR (s.extract a (a + 4)) W (by rw [ByteArray.size_extract]; omega)
      have nq := fun W => numR (s.extract (a + 4) (a + 8)) W (by rw [ByteArray.size_extract]; omega)
      rw [e4] at np
      rw [e8] at nq
      generalize v256 (((bz s).drop (8 * k)).take 4) = p at np hMk
      generalize v256 (((bz s).drop (8 * k + 4)).take 4) = q at nq hMk
      have HP := Lib.hid np
      have HQ := Lib.hid nq
      have HMK := Lib.hid hMk
      have i4 : (a : Int) + 4 ≤ (s.size : Int) := by omega
      have i8 : (a : Int) + 8 ≤ (s.size : Int) := by omega
      have i04 : (a : Int) ≤ (a : Int) + 4 := by omega
      have i48 : (a : Int) + 4 ≤ (a : Int) + 8 := by omega
      have i40 : 0 ≤ (a : Int) + 4 := by omega
      have i80 : 0 ≤ (a : Int) + 8 := by omega
      have t4 : ((a : Int) + 4).toNat = a + 4 := by omega
      have t8 : ((a : Int) + 8).toNat = a + 8 := by omega
      have w4 : IntKind.i64.wrap ((a : Int) + 4) = (a : Int) + 4 := by rw [IntKind.wrap_i64]; omega
      have w8 : IntKind.i64.wrap ((a : Int) + 8) = (a : Int) + 8 := by rw [IntKind.wrap_i64]; omega
      have HLL := Lib.hid hLl
      have HK8 := Lib.hid hk8
      clear np nq hMk e4 e8 hLl hak hk8
      go_wp2_with fail
      refine wp_region_see_tail 17 69 (relT5 s A L.length c a p q w.heap.size) rfl (by kernel_rfl) (by kernel_rfl) (by kernel_rfl) (by kernel_rfl) (relT5_more s A L.length c a p q w.heap.size) ?_ ?_
      · intro i hi
        have hi2 : i < 17 := by simpa using hi
        clear hi
        match i, hi2 with
        | 0, _ =>
          intro ρ W hb hc hg hf h0 hd
          have t3 := h0 3 (by kernel_rfl)
          clear hd h0
          go_simp
          exact ⟨rfl, Below.refl _ _⟩
        | 1, _ =>
          intro ρ W hb hc hg hf h0 hd
          have d0 : ρ (.tmp 38) = .pointer (some ⟨w.heap.size, 3, none⟩) := hd 0 38 (by kernel_rfl) (by kernel_rfl)
          have c3 := (HC.out.later hb).cell 3 _ rfl
          clear hd h0
          go_simp
          exact ⟨rfl, Below.refl _ _⟩
        | 2, _ =>
          intro ρ W hb hc hg hf h0 hd
          have t2 := h0 2 (by kernel_rfl)
          clear hd h0
          go_simp
          exact ⟨rfl, Below.refl _ _⟩
        | 3, _ =>
          intro ρ W hb hc hg hf h0 hd
          have t8 := h0 8 (by kernel_rfl)
          clear hd h0
          go_simp
          exact ⟨rfl, Below.refl _ _⟩
        | 4, _ =>
          intro ρ W hb hc hg hf h0 hd
          have t8 := h0 8 (by kernel_rfl)
          clear hd h0
          go_simp
          exact ⟨rfl, Below.refl _ _⟩
        | 5, _ =>
          intro ρ W hb hc hg hf h0 hd
          have d4 : ρ (.tmp 42) = .int .i64 (a : Int) := hd 4 42 (by kernel_rfl) (by kernel_rfl)
          clear hd h0
          go_simp
          exact ⟨rfl, Below.refl _ _⟩
        | 6, _ =>
          intro ρ W hb hc hg hf h0 hd
          have d2 : ρ (.tmp 40) = .string s := hd 2 40 (by kernel_rfl) (by kernel_rfl)
          have d3 : ρ (.tmp 41) = .int .i64 (a : Int) := hd 3 41 (by kernel_rfl) (by kernel_rfl)
          have d5 : ρ (.tmp 43) = .int .i64 ((a : Int) + 4) := hd 5 43 (by kernel_rfl) (by kernel_rfl)
          clear hd h0
          go_simp
          exact ⟨rfl, Below.refl _ _⟩
        | 7, _ =>
          intro ρ W hb hc hg hf h0 hd
          have d6 : ρ (.tmp 44) = .string (s.extract a (a + 4)) := hd 6 44 (by kernel_rfl) (by kernel_rfl)
          clear hd h0
          go_simp
          exact (HP.out W).mono fun e w' ⟨he, hw⟩ => ⟨_, he, rfl, by rw [hw]; exact Below.refl _ _⟩
        | 8, _ =>
          intro ρ W hb hc hg hf h0 hd
          have t2 := h0 2 (by kernel_rfl)
          clear hd h0
          go_simp
          exact ⟨rfl, Below.refl _ _⟩
        | 9, _ =>
          intro ρ W hb hc hg hf h0 hd
          have t8 := h0 8 (by kernel_rfl)
          clear hd h0
          go_simp
          exact ⟨rfl, Below.refl _ _⟩
        | 10, _ =>
          intro ρ W hb hc hg hf h0 hd
          have d9 : ρ (.tmp 47) = .int .i64 (a : Int) := hd 9 47 (by kernel_rfl) (by kernel_rfl)
          clear hd h0
          go_simp
          exact ⟨rfl, Below.refl _ _⟩
        | 11, _ =>
          intro ρ W hb hc hg hf h0 hd
          have t8 := h0 8 (by kernel_rfl)
          clear hd h0
          go_simp
          exact ⟨rfl, Below.refl _ _⟩
        | 12, _ =>
          intro ρ W hb hc hg hf h0 hd
          have d11 : ρ (.tmp 49) = .int .i64 (a : Int) := hd 11 49 (by kernel_rfl) (by kernel_rfl)
          clear hd h0
          go_simp
          exact ⟨rfl, Below.refl _ _⟩
        | 13, _ =>
          intro ρ W hb hc hg hf h0 hd
          have d8 : ρ (.tmp 46) = .string s := hd 8 46 (by kernel_rfl) (by kernel_rfl)
          have d10 : ρ (.tmp 48) = .int .i64 ((a : Int) + 4) := hd 10 48 (by kernel_rfl) (by kernel_rfl)
          have d12 : ρ (.tmp 50) = .int .i64 ((a : Int) + 8) := hd 12 50 (by kernel_rfl) (by kernel_rfl)
          clear hd h0
          go_simp
          exact ⟨rfl, Below.refl _ _⟩
        | 14, _ =>
          intro ρ W hb hc hg hf h0 hd
          have d13 : ρ (.tmp 51) = .string (s.extract (a + 4) (a + 8)) := hd 13 51 (by kernel_rfl) (by kernel_rfl)
          clear hd h0
          go_simp
          exact (HQ.out W).mono fun e w' ⟨he, hw⟩ => ⟨_, he, rfl, by rw [hw]; exact Below.refl _ _⟩
        | 15, _ =>
          intro ρ W hb hc hg hf h0 hd
          have d7 : ρ (.tmp 45) = .int .u32 (p : Int) := hd 7 45 (by kernel_rfl) (by kernel_rfl)
          have d14 : ρ (.tmp 52) = .int .u32 (q : Int) := hd 14 52 (by kernel_rfl) (by kernel_rfl)
          clear hd h0
          go_simp
          exact ⟨rfl, Below.refl _ _⟩
        | 16, _ =>
          intro ρ W hb hc hg hf h0 hd
          have d15 : ρ (.tmp 53) = .agg #[.int .u32 (p : Int), .int .u32 (q : Int)] := hd 15 53 (by kernel_rfl) (by kernel_rfl)
          clear hd h0
          go_simp
          exact ⟨⟨_, rfl, box_new _ _⟩, st_alloc (Below.refl _ _) _⟩
        | i + 17, hlt => exact absurd hlt (by omega)
      · intro vs W hb hall
        have h1 : vs 1 = .slice A L.length c := hall 1 (by omega)
        obtain ⟨B, h16, hblk⟩ : ∃ B, vs 16 = .slice (some ⟨B, 0, none⟩) 1 1 ∧ W.heap[B]? = some (.cells #[.int .u32 (p : Int), .int .u32 (q : Int)] 62 (0, 0)) := hall 16 (by omega)
        clear hall
        rw [lexA_slots vs 17 [(some 38, 0), (some 39, 1), (some 40, 2), (some 41, 3), (some 42, 4), (some 43, 5), (some 44, 6), (some 45, 7), (some 46, 8), (some 47, 9), (some 48, 10), (some 49, 11), (some 50, 12), (some 51, 13), (some 52, 14), (some 53, 15), (some 54, 16)] (by kernel_rfl)]
        simp only [List.foldl_cons, List.foldl_nil, h1, h16]
        show wpList _ _ _ [_, _, _] _ _
        simp only [put_lit, List.set_cons_succ, List.set_cons_zero]
        have C1 := HC.out.later hb
        have D1 := HD.out.later hb
        have O1 := HO.out.stays hb
        have B1 := st_call HB.out hb
        have hsz := D1.lt
        refine app_blk W rfl _ _ rfl (w.heap.size + 2) _ L rfl O1 p q B rfl hblk (by omega) (by omega) ?_
        intro A' c' w' hO' hB'
        have C2 := Lib.hid (C1.more (by omega) hB')
        have D2 := Lib.hid (D1.more (by omega) hB')
        have O2 := Lib.hid hO'
        have B2 := Lib.hid (B1.trans (hB'.mono (by omega)))
        have c3 := C2.out.cell 3 _ rfl
        have f3 := C2.out.free 3 (show 3 < 7 by decide)
        clear C1 D1 O1 B1 hO' hB' hblk h1 h16 hb
        have C3 : CellsAt (w'.setCell ⟨w.heap.size, 3, none⟩ (.slice A' (L.length + 1) c')) w.heap.size (oc ⟨mss, scale, sack, L ++ [(p, q)], time, val, echo⟩ A' c') := by
          have h := C2.out.put 3 (.slice A' (L.length + 1) c') (show 3 < 7 by decide)
          have e : (L ++ [(p, q)]).length = L.length + 1 := by simp
          show CellsAt _ _ #[_, _, _, .slice A' (L ++ [(p, q)]).length c', _, _, _]
          rw [e]
          exact h
        have HC3 := Lib.hid C3
        clear C3
        go_wp2_with fail
        have hL2 : L ++ [(p, q)] = M.take (k + 1) := by rw [take_snocG HMK.out, HLk.out]
        go_roundw
        case rel => exact ⟨k + 1, a + 8, A', c', L ++ [(p, q)], by go_num, by have := HAK.out; omega, by omega, hL2, HC3.out, D2.out.other _ _ _ (by omega), by rw [List.length_append]; exact O2.out.put _ _ _ (by omega), B2.out.setCell (Nat.le_refl _) _⟩
        case measure => simp [intOf]; omega
    · obtain rfl : L = M := by rw [HLk.out, List.take_of_length_le (by have := HL.out; omega)]
      have hli : ¬ (a : Int) < (s.size : Int) := by omega
      have c0 := HC.out.cell 0 _ rfl
      have d0 := HD.out.cell 0 _ rfl
      have f0 := HD.out.free 0 (by decide)
      have c1 := HC.out.cell 1 _ rfl
      have d1 := HD.out.cell 1 _ rfl
      have f1 := HD.out.free 1 (by decide)
      have c2 := HC.out.cell 2 _ rfl
      have d2 := HD.out.cell 2 _ rfl
      have f2 := HD.out.free 2 (by decide)
      have c3 := HC.out.cell 3 _ rfl
      have d3 := HD.out.cell 3 _ rfl
      have f3 := HD.out.free 3 (by decide)
      have c4 := HC.out.cell 4 _ rfl
      have d4 := HD.out.cell 4 _ rfl
      have f4 := HD.out.free 4 (by decide)
      have c5 := HC.out.cell 5 _ rfl
      have d5 := HD.out.cell 5 _ rfl
      have f5 := HD.out.free 5 (by decide)
      have c6 := HC.out.cell 6 _ rfl
      have d6 := HD.out.cell 6 _ rfl
      have f6 := HD.out.free 6 (by decide)
      clear hLl
      go_wp2_with fail
      obtain ⟨W9, hW9, ez, hb9⟩ := set7 wr (w.heap.size + 1) (.int .u16 (mss : Int)) (.int .i64 scale) (.bool sack) (.slice A L.length c) (.bool time) (.int .u32 (val : Int)) (.int .u32 (echo : Int)) (fun j hj => HD.out.some_ j hj)
      rw [hW9]
      have e0 := ez 0 _ rfl
      have e1 := ez 1 _ rfl
      have e2 := ez 2 _ rfl
      have e3 := ez 3 _ rfl
      have e4 := ez 4 _ rfl
      have e5 := ez 5 _ rfl
      have e6 := ez 6 _ rfl
      have B9 := Lib.hid (HB.out.trans (hb9.mono (by omega)))
      have R9 : Row (fun b => w.heap.size ≤ b) W9 A L := by
        rw [← hW9]
        refine Row.imp (OwnB.row (base := w.heap.size + 2) ((((((((HO.out.put (w.heap.size + 1) 0 _ (by omega)).put (w.heap.size + 1) 1 _ (by omega)).put (w.heap.size + 1) 2 _ (by omega)).put (w.heap.size + 1) 3 _ (by omega)).put (w.heap.size + 1) 4 _ (by omega)).put (w.heap.size + 1) 5 _ (by omega)).put (w.heap.size + 1) 6 _ (by omega))) rfl) (fun b hb => by omega)
      refine bodyPost_ret (v := .tuple #[ov ⟨mss, scale, sack, L, time, val, echo⟩ A c, .bool true]) ?_ rfl ⟨A, ⟨c, rfl⟩, R9, B9.out⟩
      simp [results, Try.f29, go_sem, e0, e1, e2, e3, e4, e5, e6]
end Go.Proofs.Ytgpkckaojcodmaa.OptTake5
