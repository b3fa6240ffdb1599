/-
  Proved: the statement 'Rows.IpBackSaid': for every input the Go function transomlaw05.IpBack returns true, and each argument reads behind the call as it read before. Conditions: none of our own; those of the given row.
-/
import Derived.Test.YtlpfnndmkfkjaaaRows
import Derived.Test.YtlpfnndmkfkjaaaIpOpen
import Derived.Test.YtlpfnndmkfkjaaaIpAlive
import Derived.Deep.DeepCutAuto
import Derived.Laws.IdiomStrings
import Derived.BigQuiet
import Derived.WalkKit
import Derived.ProofKit
import Derived.OpenShut
import Derived.ShutString
import Derived.ChangeOld
import Derived.Below
namespace Go.Proofs.Ytlpfnndmkfkjaaa.ipBack
open Go.ChangeShapes Go.WideShapes Go.ChangeAt Go.RowKit
open Go.ChangeMaps (open_string shut_string)
open TupMath SumMath IpMath Litb Calm Rel IpRef IpHead IpEnc IpDec IpP IpD IpDD IpAlive
set_option linter.unusedVariables false

theorem own : ownKnob Try.prog.godebug = none := by kernel_rfl
theorem laidOut : laidOutB Try.prog = true := by kernel_rfl

/-- What '[]byte(s)' lays, and two bytes of it written. -/
theorem row_cells (w : World) (s : ByteArray) (cap : Nat) (T : TypeId) (m : Nat) (hm : s.size ≤ m) (j : Nat) (h : j < s.size) :
    (w.drew.alloc (.cells (bytesRow s cap) T (m, m + 1))).cell? ⟨w.heap.size, j, none⟩ = some (.int .u8 ((s[j].toNat : Nat) : Int)) ∧ (w.drew.alloc (.cells (bytesRow s cap) T (m, m + 1))).frozen? ⟨w.heap.size, j, none⟩ = false := by
  refine ⟨?_, ?_⟩
  · have h1 := World.cell?_alloc_mark w.drew (bytesRow s cap) T (m, m + 1) j
    have h2 := bytesRow_at s cap j h
    exact h1.trans h2
  · have h1 := World.frozen?_alloc_mark w.drew (bytesRow s cap) T m (m + 1) j
    refine Eq.trans h1 ?_
    have : ¬ m ≤ j := by omega
    simp [this]
/-- '[]byte(s)', its row behind a name. -/
theorem bytes_of (P : Program) (src dst e : TypeId) (hs : P.underlying src = some .string) (hd : P.underlying dst = some (.slice e)) (he : P.underlying e = some (.int .u8)) (S : ByteArray) (w : World) :
    ∃ cap w1, (convert src dst (.string S)).run P w = .ok (.slice (some ⟨w.heap.size, 0, none⟩) S.size cap) w1 ∧ (∀ j (h : j < S.size), w1.cell? ⟨w.heap.size, j, none⟩ = some (.int .u8 ((S[j].toNat : Nat) : Int)) ∧ w1.frozen? ⟨w.heap.size, j, none⟩ = false) ∧ Below w.heap.size w w1 := by
  refine ⟨_, _, run_bytes_of_string w src dst e S hs hd he, fun j h => ?_, ?_⟩
  · refine row_cells w S _ e _ ?_ j h
    unfold bytesRow
    simp only [Array.size_append, Array.size_map]
    show S.data.size ≤ _
    omega
  · exact ((Below.refl _ w).drew).alloc (Nat.le_refl _) _

theorem set_le {l : List Nat} {i y : Nat} (h : ∀ x ∈ l, x ≤ 255) (hy : y ≤ 255) : ∀ x ∈ l.set i y, x ≤ 255 := by
  intro x hx
  rcases List.mem_or_eq_of_mem_set hx with hx | rfl
  · exact h x hx
  · exact hy
/-- one bit turned -/
theorem back_turned (h : Hd) (l : ByteArray) (k : h.ok) (hn : 20 + l.size ≤ 65535) (i j y : Nat) (hi : i < 20) (hj : j < 8) (hy : (pkt h (bz l))[i]? = some y) :
    ∃ (R : ByteArray) (n : Nat), R = ofB ((pkt h (bz l)).set i (y ^^^ 2 ^ j)) ∧ R.size = 20 + l.size ∧ decV R = refV n ∧ 0 < n := by
  have hle := pkt_le h k (bz l) (bz_le l) (by rw [bz_len]; exact hn)
  have hy2 : y ≤ 255 := hle y (List.mem_of_getElem? hy)
  have hx := (xor_bit ⟨y, by omega⟩ ⟨j, hj⟩).2
  have he := err_bit h (bz l) i j k (bz_le l) (by rw [bz_len]; exact hn) hi hj y hy
  have hb : bz (ofB ((pkt h (bz l)).set i (y ^^^ 2 ^ j))) = (pkt h (bz l)).set i (y ^^^ 2 ^ j) := bz_ofB (set_le hle hx)
  refine ⟨_, _, rfl, ?_, decV_bad (by rw [hb]; exact he), ?_⟩
  · rw [ofB_size, List.length_set, pkt_len, bz_len]
  · rw [hb]; exact Nat.pos_of_ne_zero he
theorem back_cut (h : Hd) (l : ByteArray) (k : h.ok) (hn : 20 + l.size ≤ 65535) (m : Nat) (hm : m < 20 + l.size) :
    ∃ n : Nat, decV ((ofB (pkt h (bz l))).extract 0 m) = refV n ∧ 0 < n := by
  have he := err_cut h (bz l) m k (by rw [bz_len]; exact hn) (by rw [bz_len]; exact hm)
  have hb : bz ((ofB (pkt h (bz l))).extract 0 m) = (pkt h (bz l)).take m := by
    rw [bz_extract _ _ _ (by rw [size_pkt]; omega), bz_pkt h l k hn, List.drop_zero]
  refine ⟨_, decV_bad (by rw [hb]; exact he), ?_⟩
  rw [hb]; exact Nat.pos_of_ne_zero he
/-- the row of a slice of bytes, read -/
def Turned (B : Nat) (T : List Nat) (w wx : World) : Prop := (∀ (j x : Nat), T[j]? = some x → wx.cell? ⟨B, j, none⟩ = some (.int .u8 (x : Int))) ∧ Below w.heap.size w wx
theorem turned_mk {w w1 : World} {B i v : Nat} {S : ByteArray} {P : List Nat} (hc : ∀ (j : Nat) (h : j < S.size), w1.cell? ⟨B, j, none⟩ = some (.int .u8 ((S[j].toNat : Nat) : Int)) ∧ w1.frozen? ⟨B, j, none⟩ = false) (hP : bz S = P) (hi : i < S.size) (hB : w.heap.size ≤ B) (hb : Below w.heap.size w w1) :
    Turned B (P.set i v) w (w1.setCell ⟨B, i, none⟩ (.int .u8 (v : Int))) := by
  refine ⟨fun j x hj => ?_, hb.setCell hB _⟩
  by_cases h : i = j
  · subst h
    rw [List.getElem?_set_self (by rw [← hP, bz_len]; exact hi)] at hj
    obtain rfl := Option.some.inj hj
    exact World.cell?_setCell_same' _ _ _ (by rw [(hc i hi).1]; rfl)
  · rw [List.getElem?_set_ne h] at hj
    have hjs : j < S.size := by
      rw [← bz_len, hP]
      exact (List.getElem?_eq_some_iff.1 hj).1
    rw [World.cell?_setCell_other _ _ _ _ (fun e => by injection e with _ e; exact h e), (hc j hjs).1]
    have h1 := bz_at S j hjs
    rw [hP, hj] at h1
    rw [Option.some.inj h1]

/-! The walk: the Go text returns true, and writes nothing that was there. -/
set_option maxRecDepth 100000 in
set_option maxHeartbeats 16000000 in
theorem walk (sr0 ds0 pr0 tt0 to0 id0 : Nat) (df0 : Bool) (a1 : ByteArray) (a2 : Int) (a3 : Int) (w : World) (g0 : sr0 ≤ 4294967295 ∧ ds0 ≤ 4294967295 ∧ pr0 ≤ 255 ∧ tt0 ≤ 255 ∧ to0 ≤ 255 ∧ id0 ≤ 65535) (w1 : a1.size ≤ maxLen) (w2 : (Lit.int .u8 a2).wf = true) (w3 : (Lit.int .u16 a3).wf = true) :
    Calls Try.prog 5 #[.agg #[.int .u32 (sr0 : Int), .int .u32 (ds0 : Int), .int .u8 (pr0 : Int), .int .u8 (tt0 : Int), .int .u8 (to0 : Int), .int .u16 (id0 : Int), .bool df0], .string a1, .int .u8 a2, .int .u16 a3] w fun e w' => e = .returned (.bool true) ∧ Below w.heap.size w w' := by
  unfold maxLen at w1
  have ⟨b2, b2'⟩ := bounds_u8 w2
  have ⟨b3, b3'⟩ := bounds_u16 w3
  obtain ⟨bit, rfl⟩ := Int.eq_ofNat_of_zero_le b2
  obtain ⟨cut, rfl⟩ := Int.eq_ofNat_of_zero_le b3
  clear w2 w3 b2 b3
  have k0 : (⟨sr0, ds0, pr0, tt0, to0, id0, df0⟩ : Hd).ok := ⟨g0.1, g0.2.1, g0.2.2.1, g0.2.2.2.1, g0.2.2.2.2.1, g0.2.2.2.2.2⟩
  clear g0
  by_cases hx : 2048 < a1.size
  · go_enter Try.func5, Try.ntmps5
    go_wp2_with fail
    refine (alive_any _).mono ?_
    rintro e w' ⟨rfl, hb⟩
    have HB := Lib.hid (st_call (st_alloc (Below.refl _ _) _) hb)
    clear hb
    go_wp2_with fail
    go_ret
    exact ⟨rfl, HB.out⟩
  have hn : 20 + a1.size ≤ 65535 := by omega
  have C1 := fun W => encP (⟨sr0, ds0, pr0, tt0, to0, id0, df0⟩ : Hd) a1 W k0 (by omega)
  rw [encV_ok _ _ hn] at C1
  have C2 := fun W => decP (ofB (pkt (⟨sr0, ds0, pr0, tt0, to0, id0, df0⟩ : Hd) (bz a1))) W (by rw [size_pkt]; omega)
  rw [decV_pkt (⟨sr0, ds0, pr0, tt0, to0, id0, df0⟩ : Hd) a1 k0 hn] at C2
  have C5 := fun W => decP (ofB (pkt (⟨sr0, ds0, pr0, tt0, to0, id0, df0⟩ : Hd) (bz a1)) ++ ⟨#[0]⟩) W (by rw [ByteArray.size_append, size_pkt]; show _ + 1 ≤ _; omega)
  rw [decV_longer (⟨sr0, ds0, pr0, tt0, to0, id0, df0⟩ : Hd) a1 0 k0 hn] at C5
  obtain ⟨K, hK⟩ : ∃ K, bit % 160 = K := ⟨_, rfl⟩
  have hK1 : K < 160 := by omega
  have eK : (bit : Int) % 160 = (K : Int) := by omega
  obtain ⟨i, hi⟩ : ∃ i, K / 8 = i := ⟨_, rfl⟩
  have hi20 : i < 20 := by omega
  have ei : (K : Int) / 8 = (i : Int) := by omega
  obtain ⟨m, hm⟩ : ∃ m, cut % (20 + a1.size) = m := ⟨_, rfl⟩
  have hm1 : m < 20 + a1.size := by rw [← hm]; exact Nat.mod_lt _ (by omega)
  have em0 : (cut : Int) % ((20 + a1.size : Nat) : Int) = (m : Int) := by omega
  obtain ⟨y, hy⟩ : ∃ y, (pkt (⟨sr0, ds0, pr0, tt0, to0, id0, df0⟩ : Hd) (bz a1))[i]? = some y := ⟨_, List.getElem?_eq_getElem (by rw [pkt_len, bz_len]; omega)⟩
  obtain ⟨R, n3, hR, hRs, hdR, hn3⟩ := back_turned (⟨sr0, ds0, pr0, tt0, to0, id0, df0⟩ : Hd) a1 k0 hn i (K % 8) y hi20 (Nat.mod_lt _ (by decide)) hy
  obtain ⟨n4, hdC, hn4⟩ := back_cut (⟨sr0, ds0, pr0, tt0, to0, id0, df0⟩ : Hd) a1 k0 hn m hm1
  have C3 := fun W => decP R W (by omega)
  rw [hdR] at C3
  have C4 := fun W => decP ((ofB (pkt (⟨sr0, ds0, pr0, tt0, to0, id0, df0⟩ : Hd) (bz a1))).extract 0 m) W (by rw [ByteArray.size_extract, size_pkt]; omega)
  rw [hdC] at C4
  have hyS := bz_pkt (⟨sr0, ds0, pr0, tt0, to0, id0, df0⟩ : Hd) a1 k0 hn
  have hsz := size_pkt (⟨sr0, ds0, pr0, tt0, to0, id0, df0⟩ : Hd) a1
  have hpl : ∀ x ∈ pkt (⟨sr0, ds0, pr0, tt0, to0, id0, df0⟩ : Hd) (bz a1), x ≤ 255 := pkt_le _ k0 (bz a1) (bz_le a1) (by rw [bz_len]; exact hn)
  have hy255 : y ≤ 255 := hpl y (List.mem_of_getElem? hy)
  have hTle := set_le (i := i) hpl (xor_bit ⟨y, by omega⟩ ⟨K % 8, Nat.mod_lt _ (by decide)⟩).2
  obtain ⟨P, hP⟩ : ∃ P, pkt (⟨sr0, ds0, pr0, tt0, to0, id0, df0⟩ : Hd) (bz a1) = P := ⟨_, rfl⟩
  rw [hP] at C1 C2 C4 C5 hy hR hyS hsz hTle
  obtain ⟨S, hS⟩ : ∃ S, ofB P = S := ⟨_, rfl⟩
  rw [hS] at C1 C2 C4 C5 hyS hsz
  simp only at hTle
  have hSi : i < S.size := by omega
  have hyi : S[i].toNat = y := by
    have h1 := bz_at S i hSi
    rw [hyS, hy] at h1
    exact (Option.some.inj h1).symm
  have em : (cut : Int) % (S.size : Int) = (m : Int) := by rw [hsz]; exact em0
  have H1 : Hid (∀ W, Calls Try.prog 8 #[.agg #[.int .u32 (sr0 : Int), .int .u32 (ds0 : Int), .int .u8 (pr0 : Int), .int .u8 (tt0 : Int), .int .u8 (to0 : Int), .int .u16 (id0 : Int), .bool df0], .string a1] W fun e w' => e = .returned (.tuple #[.string S, .int .i64 0]) ∧ Below W.heap.size W w') := Lib.hid C1
  have H2 : Hid (∀ W, Calls Try.prog 10 #[.string S] W fun e w' => e = .returned (.tuple #[.agg #[.int .u32 (sr0 : Int), .int .u32 (ds0 : Int), .int .u8 (pr0 : Int), .int .u8 (tt0 : Int), .int .u8 (to0 : Int), .int .u16 (id0 : Int), .bool df0], .string a1, .int .i64 0]) ∧ Below W.heap.size W w') := Lib.hid C2
  have H3 : Hid (∀ W, Calls Try.prog 10 #[.string R] W fun e w' => e = .returned (.tuple #[.agg #[.int .u32 0, .int .u32 0, .int .u8 0, .int .u8 0, .int .u8 0, .int .u16 0, .bool false], .string ⟨#[]⟩, .int .i64 (n3 : Int)]) ∧ Below W.heap.size W w') := Lib.hid C3
  have H4 : Hid (∀ W, Calls Try.prog 10 #[.string (S.extract 0 m)] W fun e w' => e = .returned (.tuple #[.agg #[.int .u32 0, .int .u32 0, .int .u8 0, .int .u8 0, .int .u8 0, .int .u16 0, .bool false], .string ⟨#[]⟩, .int .i64 (n4 : Int)]) ∧ Below W.heap.size W w') := Lib.hid C4
  have H5 : Hid (∀ W, Calls Try.prog 10 #[.string (S ++ ⟨#[0]⟩)] W fun e w' => e = .returned (.tuple #[.agg #[.int .u32 0, .int .u32 0, .int .u8 0, .int .u8 0, .int .u8 0, .int .u16 0, .bool false], .string ⟨#[]⟩, .int .i64 53]) ∧ Below W.heap.size W w') := Lib.hid C5
  clear C1 C2 C3 C4 C5 em0 hdR hdC
  have hmS : (m : Int) ≤ (S.size : Int) := by omega
  have hpos : (0 : Int) < (S.size : Int) := by omega
  have h20 : (20 : Int) ≤ (S.size : Int) := by omega
  have hiS : (i : Int) < (S.size : Int) := by omega
  have hz0 : S.size + 1 ≤ 9223372036854775807 := by omega
  have HPS := Lib.hid hS
  have HR := Lib.hid hR
  have HT := Lib.hid hTle
  have HYS := Lib.hid hyS
  have HSZ := Lib.hid hsz
  have HY := Lib.hid hy
  have HPL := Lib.hid hpl
  have HM := Lib.hid hm1
  have HRS := Lib.hid hRs
  clear hS hR hTle hyS hsz hy hP hpl hm1 k0 hm hi hK hRs
  have X0 := Lib.hid (Box.new w #[.int .u32 (sr0 : Int), .int .u32 (ds0 : Int), .int .u8 (pr0 : Int), .int .u8 (tt0 : Int), .int .u8 (to0 : Int), .int .u16 (id0 : Int), .bool df0])
  have B0 := Lib.hid (st_alloc (Below.refl _ w) (.cells #[.int .u32 (sr0 : Int), .int .u32 (ds0 : Int), .int .u8 (pr0 : Int), .int .u8 (tt0 : Int), .int .u8 (to0 : Int), .int .u16 (id0 : Int), .bool df0] 25))
  go_enter Try.func5, Try.ntmps5
  go_wp2_with fail
  refine (H1.out _).mono ?_
  rintro e wA ⟨rfl, hb1⟩
  have X1 := Lib.hid (X0.out.more hb1)
  have B1 := Lib.hid (st_call B0.out hb1)
  clear hb1
  go_wp2_with fail
  refine (H2.out _).mono ?_
  rintro e wB ⟨rfl, hb2⟩
  have X2 := (X1.out.more hb2).alloc (.cells #[.int .u32 (sr0 : Int), .int .u32 (ds0 : Int), .int .u8 (pr0 : Int), .int .u8 (tt0 : Int), .int .u8 (to0 : Int), .int .u16 (id0 : Int), .bool df0] 25)
  have Y2 := Box.new wB #[.int .u32 (sr0 : Int), .int .u32 (ds0 : Int), .int .u8 (pr0 : Int), .int .u8 (tt0 : Int), .int .u8 (to0 : Int), .int .u16 (id0 : Int), .bool df0]
  have B2 := Lib.hid (st_alloc (st_call B1.out hb2) (.cells #[.int .u32 (sr0 : Int), .int .u32 (ds0 : Int), .int .u8 (pr0 : Int), .int .u8 (tt0 : Int), .int .u8 (to0 : Int), .int .u16 (id0 : Int), .bool df0] 25))
  clear hb2
  have c0 : (wB.alloc (.cells #[.int .u32 (sr0 : Int), .int .u32 (ds0 : Int), .int .u8 (pr0 : Int), .int .u8 (tt0 : Int), .int .u8 (to0 : Int), .int .u16 (id0 : Int), .bool df0] 25)).cell? ⟨w.heap.size, 0, none⟩ = some (.int .u32 (sr0 : Int)) := X2.cell 0 _ rfl
  have c1 : (wB.alloc (.cells #[.int .u32 (sr0 : Int), .int .u32 (ds0 : Int), .int .u8 (pr0 : Int), .int .u8 (tt0 : Int), .int .u8 (to0 : Int), .int .u16 (id0 : Int), .bool df0] 25)).cell? ⟨w.heap.size, 1, none⟩ = some (.int .u32 (ds0 : Int)) := X2.cell 1 _ rfl
  have c2 : (wB.alloc (.cells #[.int .u32 (sr0 : Int), .int .u32 (ds0 : Int), .int .u8 (pr0 : Int), .int .u8 (tt0 : Int), .int .u8 (to0 : Int), .int .u16 (id0 : Int), .bool df0] 25)).cell? ⟨w.heap.size, 2, none⟩ = some (.int .u8 (pr0 : Int)) := X2.cell 2 _ rfl
  have c3 : (wB.alloc (.cells #[.int .u32 (sr0 : Int), .int .u32 (ds0 : Int), .int .u8 (pr0 : Int), .int .u8 (tt0 : Int), .int .u8 (to0 : Int), .int .u16 (id0 : Int), .bool df0] 25)).cell? ⟨w.heap.size, 3, none⟩ = some (.int .u8 (tt0 : Int)) := X2.cell 3 _ rfl
  have c4 : (wB.alloc (.cells #[.int .u32 (sr0 : Int), .int .u32 (ds0 : Int), .int .u8 (pr0 : Int), .int .u8 (tt0 : Int), .int .u8 (to0 : Int), .int .u16 (id0 : Int), .bool df0] 25)).cell? ⟨w.heap.size, 4, none⟩ = some (.int .u8 (to0 : Int)) := X2.cell 4 _ rfl
  have c5 : (wB.alloc (.cells #[.int .u32 (sr0 : Int), .int .u32 (ds0 : Int), .int .u8 (pr0 : Int), .int .u8 (tt0 : Int), .int .u8 (to0 : Int), .int .u16 (id0 : Int), .bool df0] 25)).cell? ⟨w.heap.size, 5, none⟩ = some (.int .u16 (id0 : Int)) := X2.cell 5 _ rfl
  have c6 : (wB.alloc (.cells #[.int .u32 (sr0 : Int), .int .u32 (ds0 : Int), .int .u8 (pr0 : Int), .int .u8 (tt0 : Int), .int .u8 (to0 : Int), .int .u16 (id0 : Int), .bool df0] 25)).cell? ⟨w.heap.size, 6, none⟩ = some (.bool df0) := X2.cell 6 _ rfl
  have d0 : (wB.alloc (.cells #[.int .u32 (sr0 : Int), .int .u32 (ds0 : Int), .int .u8 (pr0 : Int), .int .u8 (tt0 : Int), .int .u8 (to0 : Int), .int .u16 (id0 : Int), .bool df0] 25)).cell? ⟨wB.heap.size, 0, none⟩ = some (.int .u32 (sr0 : Int)) := Y2.cell 0 _ rfl
  have d1 : (wB.alloc (.cells #[.int .u32 (sr0 : Int), .int .u32 (ds0 : Int), .int .u8 (pr0 : Int), .int .u8 (tt0 : Int), .int .u8 (to0 : Int), .int .u16 (id0 : Int), .bool df0] 25)).cell? ⟨wB.heap.size, 1, none⟩ = some (.int .u32 (ds0 : Int)) := Y2.cell 1 _ rfl
  have d2 : (wB.alloc (.cells #[.int .u32 (sr0 : Int), .int .u32 (ds0 : Int), .int .u8 (pr0 : Int), .int .u8 (tt0 : Int), .int .u8 (to0 : Int), .int .u16 (id0 : Int), .bool df0] 25)).cell? ⟨wB.heap.size, 2, none⟩ = some (.int .u8 (pr0 : Int)) := Y2.cell 2 _ rfl
  have d3 : (wB.alloc (.cells #[.int .u32 (sr0 : Int), .int .u32 (ds0 : Int), .int .u8 (pr0 : Int), .int .u8 (tt0 : Int), .int .u8 (to0 : Int), .int .u16 (id0 : Int), .bool df0] 25)).cell? ⟨wB.heap.size, 3, none⟩ = some (.int .u8 (tt0 : Int)) := Y2.cell 3 _ rfl
  have d4 : (wB.alloc (.cells #[.int .u32 (sr0 : Int), .int .u32 (ds0 : Int), .int .u8 (pr0 : Int), .int .u8 (tt0 : Int), .int .u8 (to0 : Int), .int .u16 (id0 : Int), .bool df0] 25)).cell? ⟨wB.heap.size, 4, none⟩ = some (.int .u8 (to0 : Int)) := Y2.cell 4 _ rfl
  have d5 : (wB.alloc (.cells #[.int .u32 (sr0 : Int), .int .u32 (ds0 : Int), .int .u8 (pr0 : Int), .int .u8 (tt0 : Int), .int .u8 (to0 : Int), .int .u16 (id0 : Int), .bool df0] 25)).cell? ⟨wB.heap.size, 5, none⟩ = some (.int .u16 (id0 : Int)) := Y2.cell 5 _ rfl
  have d6 : (wB.alloc (.cells #[.int .u32 (sr0 : Int), .int .u32 (ds0 : Int), .int .u8 (pr0 : Int), .int .u8 (tt0 : Int), .int .u8 (to0 : Int), .int .u16 (id0 : Int), .bool df0] 25)).cell? ⟨wB.heap.size, 6, none⟩ = some (.bool df0) := Y2.cell 6 _ rfl
  obtain ⟨cap, w1, hconv, hcells, hbel⟩ := bytes_of Try.prog 9 38 5 Try.underlying9 Try.underlying38 Try.underlying5 S (wB.alloc (.cells #[.int .u32 (sr0 : Int), .int .u32 (ds0 : Int), .int .u8 (pr0 : Int), .int .u8 (tt0 : Int), .int .u8 (to0 : Int), .int .u16 (id0 : Int), .bool df0] 25))
  rw [World.size_alloc] at hconv hcells
  obtain ⟨B, hB⟩ : ∃ B, wB.heap.size + 1 = B := ⟨_, rfl⟩
  rw [hB] at hconv hcells
  obtain ⟨k0, f0⟩ := hcells i hSi
  rw [hyi] at k0
  have HCL := Lib.hid hcells
  have B3 := Lib.hid (st_call B2.out hbel)
  have HBB := Lib.hid hB
  clear hcells hbel hB X2 Y2
  go_upto_region 9 with (fail)
  have hBle : w.heap.size ≤ B := by
    have h1 := B1.out.size
    have h2 := B2.out.size
    rw [World.size_alloc] at h2
    rw [← HBB.out]
    exact h2
  go_cut [69] (fun _ wx => Turned B (P.set i (y ^^^ 2 ^ (K % 8))) w wx)
  case first =>
    obtain e8 | e8 | e8 | e8 | e8 | e8 | e8 | e8 : (K : Int) % 8 = 0 ∨ (K : Int) % 8 = 1 ∨ (K : Int) % 8 = 2 ∨ (K : Int) % 8 = 3 ∨ (K : Int) % 8 = 4 ∨ (K : Int) % 8 = 5 ∨ (K : Int) % 8 = 6 ∨ (K : Int) % 8 = 7 := by omega
    · have hxor : bits .xor .u8 (y : Int) 1 = ((y ^^^ 1 : Nat) : Int) := by have h := u8_xor_nat y 1 (by omega) (by omega); simpa using h
      have e2 : P.set i (y ^^^ 2 ^ (K % 8)) = P.set i (y ^^^ 1) := by rw [show K % 8 = 0 by omega]
      have E2 := Lib.hid e2
      clear e2
      go_wp2_with fail
      go_meet
      rw [E2.out]
      exact turned_mk HCL.out HYS.out hSi hBle B3.out
    · have hxor : bits .xor .u8 (y : Int) 2 = ((y ^^^ 2 : Nat) : Int) := by have h := u8_xor_nat y 2 (by omega) (by omega); simpa using h
      have e2 : P.set i (y ^^^ 2 ^ (K % 8)) = P.set i (y ^^^ 2) := by rw [show K % 8 = 1 by omega]
      have E2 := Lib.hid e2
      clear e2
      go_wp2_with fail
      go_meet
      rw [E2.out]
      exact turned_mk HCL.out HYS.out hSi hBle B3.out
    · have hxor : bits .xor .u8 (y : Int) 4 = ((y ^^^ 4 : Nat) : Int) := by have h := u8_xor_nat y 4 (by omega) (by omega); simpa using h
      have e2 : P.set i (y ^^^ 2 ^ (K % 8)) = P.set i (y ^^^ 4) := by rw [show K % 8 = 2 by omega]
      have E2 := Lib.hid e2
      clear e2
      go_wp2_with fail
      go_meet
      rw [E2.out]
      exact turned_mk HCL.out HYS.out hSi hBle B3.out
    · have hxor : bits .xor .u8 (y : Int) 8 = ((y ^^^ 8 : Nat) : Int) := by have h := u8_xor_nat y 8 (by omega) (by omega); simpa using h
      have e2 : P.set i (y ^^^ 2 ^ (K % 8)) = P.set i (y ^^^ 8) := by rw [show K % 8 = 3 by omega]
      have E2 := Lib.hid e2
      clear e2
      go_wp2_with fail
      go_meet
      rw [E2.out]
      exact turned_mk HCL.out HYS.out hSi hBle B3.out
    · have hxor : bits .xor .u8 (y : Int) 16 = ((y ^^^ 16 : Nat) : Int) := by have h := u8_xor_nat y 16 (by omega) (by omega); simpa using h
      have e2 : P.set i (y ^^^ 2 ^ (K % 8)) = P.set i (y ^^^ 16) := by rw [show K % 8 = 4 by omega]
      have E2 := Lib.hid e2
      clear e2
      go_wp2_with fail
      go_meet
      rw [E2.out]
      exact turned_mk HCL.out HYS.out hSi hBle B3.out
    · have hxor : bits .xor .u8 (y : Int) 32 = ((y ^^^ 32 : Nat) : Int) := by have h := u8_xor_nat y 32 (by omega) (by omega); simpa using h
      have e2 : P.set i (y ^^^ 2 ^ (K % 8)) = P.set i (y ^^^ 32) := by rw [show K % 8 = 5 by omega]
      have E2 := Lib.hid e2
      clear e2
      go_wp2_with fail
      go_meet
      rw [E2.out]
      exact turned_mk HCL.out HYS.out hSi hBle B3.out
    · have hxor : bits .xor .u8 (y : Int) 64 = ((y ^^^ 64 : Nat) : Int) := by have h := u8_xor_nat y 64 (by omega) (by omega); simpa using h
      have e2 : P.set i (y ^^^ 2 ^ (K % 8)) = P.set i (y ^^^ 64) := by rw [show K % 8 = 6 by omega]
      have E2 := Lib.hid e2
      clear e2
      go_wp2_with fail
      go_meet
      rw [E2.out]
      exact turned_mk HCL.out HYS.out hSi hBle B3.out
    · have hxor : bits .xor .u8 (y : Int) 128 = ((y ^^^ 128 : Nat) : Int) := by have h := u8_xor_nat y 128 (by omega) (by omega); simpa using h
      have e2 : P.set i (y ^^^ 2 ^ (K % 8)) = P.set i (y ^^^ 128) := by rw [show K % 8 = 7 by omega]
      have E2 := Lib.hid e2
      clear e2
      go_wp2_with fail
      go_meet
      rw [E2.out]
      exact turned_mk HCL.out HYS.out hSi hBle B3.out
  case rest =>
    have hbz : (convert 38 9 (.slice (some ⟨B, 0, none⟩) S.size cap)).run Try.prog wc = .ok (.string R) wc := by
      rw [HR.out, show S.size = (P.set i (y ^^^ 2 ^ (K % 8))).length by rw [List.length_set, ← HYS.out, bz_len]]
      exact held_back Try.prog 38 9 5 Try.underlying38 Try.underlying5 Try.underlying9 _ HT.out wc B cap hcut.1
    have B4 := Lib.hid hcut.2
    clear hcut
    go_wp2_with fail
    refine (H3.out _).mono ?_
    rintro e wC ⟨rfl, hb3⟩
    have B5 := Lib.hid (st_alloc (st_call B4.out hb3) (.cells #[.int .u32 0, .int .u32 0, .int .u8 0, .int .u8 0, .int .u8 0, .int .u16 0, .bool false] 25))
    clear hb3 hbz
    go_wp2_with fail
    refine (H4.out _).mono ?_
    rintro e wD ⟨rfl, hb4⟩
    have B6 := Lib.hid (st_alloc (st_call B5.out hb4) (.cells #[.int .u32 0, .int .u32 0, .int .u8 0, .int .u8 0, .int .u8 0, .int .u16 0, .bool false] 25))
    clear hb4
    go_wp2_with fail
    refine (H5.out _).mono ?_
    rintro e wE ⟨rfl, hb5⟩
    have B7 := Lib.hid (st_alloc (st_call B6.out hb5) (.cells #[.int .u32 0, .int .u32 0, .int .u8 0, .int .u8 0, .int .u8 0, .int .u16 0, .bool false] 25))
    clear hb5
    have q3 : ((n3 : Int) != 0) = true := bne_iff_ne.2 (by omega)
    have q4 : ((n4 : Int) != 0) = true := bne_iff_ne.2 (by omega)
    go_wp2_with fail
    refine (alive_any _).mono ?_
    rintro e wF ⟨rfl, hb6⟩
    have B8 := Lib.hid (st_call B7.out hb6)
    clear hb6
    go_wp2_with fail
    go_ret
    exact ⟨rfl, B8.out⟩

/-! The row's step, after the guide's own way. -/
set_option maxRecDepth 100000 in
theorem lifted (os : Os) (started : os.Started) (H : Type) (enc : TypeId × Value → H) :
    ReturnsInHanded {} Try.checked os 5 .any (Rows.ipBackSpec.pre6 enc Try.prog Try.f5 Rows.ipBackRow.domain false) (Rows.ipBackSpec.post enc Try.prog Try.f5 false true false false) := by
  refine returnsInHanded_of_change (C := Try.checked) own started (by kernel_rfl) Try.func5
    (ChangeSpec.witness6 (enc := enc) (C := Try.checked) false ⟨#[], #[.agg #[.int .u32 0, .int .u32 0, .int .u8 0, .int .u8 0, .int .u8 0, .int .u16 0, .bool false], .string ByteArray.empty, .int .u8 0, .int .u16 0], []⟩ 8 (by kernel_rfl) (by kernel_rfl) (by kernel_rfl) (by kernel_rfl)) ?_
  intro W base args ds gs before hval0 hW hcnd _
  have hval : ∀ (j : Nat) t v, Try.f5.params[j]? = some t → args[j]? = some v → Value.okWide Try.prog W .any base t v := hval0
  have hW' := hW
  obtain ⟨p, q, hA0, hV, rfl, hfz, hnd⟩ := hW
  have hA : DataW.TrodAll enc Try.prog W 0 (fun _ => true) true Try.f5.params.toList args.toList ds p := hA0
  rw [Try.params5] at hA hval
  obtain ⟨v0, vs0, d0, ds0, p0, q0, hargs, rfl, rfl, h0, r0⟩ := trodAll_cons hA
  obtain ⟨v1, vs1, d1, ds1, p1, q1, rfl, rfl, rfl, h1, r1⟩ := trodAll_cons r0
  obtain ⟨v2, vs2, d2, ds2, p2, q2, rfl, rfl, rfl, h2, r2⟩ := trodAll_cons r1
  obtain ⟨v3, vs3, d3, ds3, p3, q3, rfl, rfl, rfl, h3, r3⟩ := trodAll_cons r2
  obtain ⟨rfl, rfl, rfl⟩ := trodAll_nil r3
  obtain rfl : args = #[v0, v1, v2, v3] := by cases args; simp_all
  obtain ⟨rfl, rfl⟩ := trodVars_none hV
  have k0 := h0
  have lt0 : ∀ x ∈ p0, x.block < W.heap.size := by obtain ⟨m, hm⟩ := k0; exact DataW.trod_lt m _ _ _ hm
  obtain ⟨sr0, ds0, pr0, tt0, to0, id0, df0, rfl, g0⟩ := IpOpen.open_ip (hval 0 25 v0 rfl rfl) h0
  have k1 := h1
  have lt1 : ∀ x ∈ p1, x.block < W.heap.size := by obtain ⟨m, hm⟩ := k1; exact DataW.trod_lt m _ _ _ hm
  obtain ⟨a1, rfl, _, _, w1⟩ := open_string Try.underlying9 (hval 1 9 v1 rfl rfl) h1
  have k2 := h2
  have lt2 : ∀ x ∈ p2, x.block < W.heap.size := by obtain ⟨m, hm⟩ := k2; exact DataW.trod_lt m _ _ _ hm
  obtain ⟨a2, rfl, _, _, w2⟩ := open_int Try.underlying5 (hval 2 5 v2 rfl rfl) h2
  have k3 := h3
  have lt3 : ∀ x ∈ p3, x.block < W.heap.size := by obtain ⟨m, hm⟩ := k3; exact DataW.trod_lt m _ _ _ hm
  obtain ⟨a3, rfl, _, _, w3⟩ := open_int Try.underlying23 (hval 3 23 v3 rfl rfl) h3
  clear hA0 hval0
  refine (walk sr0 ds0 pr0 tt0 to0 id0 df0 a1 a2 a3 W g0 w1 w2 w3).mono fun e W' ⟨he, bel⟩ => ?_
  subst he
  exact ⟨_, rfl, _, _, _, [], _, [], hW', trodAll_mk1 (shut_bool Try.underlying4 _), (trodAll_cons_mk (Below.trod laidOut (by kernel_rfl) (of_decide_eq_true (by kernel_rfl)) k0 bel lt0) (trodAll_cons_mk (Below.trod laidOut (by kernel_rfl) (of_decide_eq_true (by kernel_rfl)) k1 bel lt1) (trodAll_cons_mk (Below.trod laidOut (by kernel_rfl) (of_decide_eq_true (by kernel_rfl)) k2 bel lt2) (trodAll_cons_mk (Below.trod laidOut (by kernel_rfl) (of_decide_eq_true (by kernel_rfl)) k3 bel lt3) trodAll_mk0)))), rfl, bel.frame _, fun h => by cases h⟩

theorem over : Rows.ipBackRow.holds Try.pinned (OpenSpec.ofChange Rows.ipBackSpec) :=
  OpenClaim.holds_of_wide 5 Try.f5 rfl rfl rfl rfl rfl rfl rfl ⟨rfl, rfl, rfl, rfl, rfl⟩ rfl rfl rfl rfl rfl (by kernel_rfl) Try.func5 (by kernel_rfl)
    (of_decide_eq_true (by kernel_rfl)) (by unfold Func.isWrapper; first | (rw [if_pos (by decide +kernel)]; kernel_rfl) | (rw [if_neg (by decide +kernel)]; exact ⟨rfl, rfl⟩))
    (fun os started H enc _ => lifted os started H enc)

/-- The statement. -/
theorem proved : Rows.IpBackSaid := over
#print axioms proved
end Go.Proofs.Ytlpfnndmkfkjaaa.ipBack
