/-
  Calls into the library, in the words of our contracts: numbers as digits, digits as numbers, widths, cut, split, join.
-/
import Derived.Test.YtpphpnnehljekaaDoorTupShelf
import Derived.Test.YtpphpnnehljekaaDoorTupMath2
import Derived.Test.YtpphpnnehljekaaDoorBytes
import Derived.Lib.SmallJoins
import Derived.Lib.ItoaMem
import Derived.Lib.ItoaLen
import Derived.Lib.ParseIntBCases
import Derived.BigCall
import Derived.BigGuard
namespace Go.Proofs.YtpphpnnehljekaaDoor.TupLib
open Go.RowKit Own TupMath TupMath2 Bytes Go.Sort Go.Lib
set_option linter.unusedVariables false
set_option maxRecDepth 100000

/-- What the library's own variables hold. -/
structure Env (w : World) : Prop where
  tab : TabIs Tryd.prog w "internal/strconv.uint64pow10" .u64 pow10Tab
  maxLen : ∃ m, w.cell? ⟨0, 0, none⟩ = some (.int .i64 m)
  syn : ∃ tp p, w.var? Tryd.prog "strconv.ErrSyntax" = some #[.iface tp p]
  rng : ∃ tp p, w.var? Tryd.prog "strconv.ErrRange" = some #[.iface tp p]
theorem gTab : Tryd.prog.globalNamed "internal/strconv.uint64pow10" = some 3 := by kernel_rfl
theorem gSyn : Tryd.prog.globalNamed "strconv.ErrSyntax" = some 1 := by kernel_rfl
theorem gRng : Tryd.prog.globalNamed "strconv.ErrRange" = some 2 := by kernel_rfl
theorem Env.stays {w w' : World} (h : Env w) (hb : Below w.heap.size w w') : Env w' := by
  refine ⟨Joins.tab_stays gTab h.tab hb (Nat.le_refl _), ?_, ?_, ?_⟩
  · obtain ⟨m, hm⟩ := h.maxLen
    exact ⟨m, (hb.cell (World.block_lt_of_cell? _ _ hm)).trans hm⟩
  · obtain ⟨t, p, hp⟩ := h.syn
    exact ⟨t, p, Joins.var_stays gSyn hp hb (Nat.le_refl _)⟩
  · obtain ⟨t, p, hp⟩ := h.rng
    exact ⟨t, p, Joins.var_stays gRng hp hb (Nat.le_refl _)⟩

/-! numbers as digits -/
theorem small_any (i : Nat) (h : i < 100) (w : World) : Calls Tryd.prog 70 #[.int .i64 (i : Int)] w fun e w' => e = .returned (.string ⟨(decDigits i).toArray⟩) ∧ w' = w :=
  Any.internal_strconv_small Tryd.laySmall i h w
theorem digits_any (u : Nat) (h1 : 1 ≤ u) (h2 : u < 18446744073709551616) (w : World) (htab : TabIs Tryd.prog w "internal/strconv.uint64pow10" .u64 pow10Tab) :
    Calls Tryd.prog 71 #[.int .u64 (u : Int)] w fun e w' => e = .returned (.int .i64 (nDigits u : Int)) ∧ w' = w :=
  Any.internal_strconv_numDigits Tryd.layDigits u h1 h2 w htab
theorem base10_any (blk off cap : Nat) (u : Nat) (d : Array UInt8) (w : World) (hH : Holds (fun (b : UInt8) => Value.int .u8 (b.toNat : Int)) w blk off d) (hu : u < 10 ^ d.size) (hu64 : u < 18446744073709551616) (hsz : d.size < 4611686018427387904) :
    Calls Tryd.prog 72 #[.slice (some ⟨blk, off, none⟩) d.size cap, .int .u64 (u : Int)] w fun e w' =>
      e = .returned (.tuple #[]) ∧ ∃ (n v' : Nat) (dk : Array UInt8), w' = (putRow (fun (b : UInt8) => Value.int .u8 (b.toNat : Int)) w blk off dk).drewN n ∧ FmtInv d.size u 0 v' dk :=
  Any.internal_strconv_formatBase10 Tryd.layBase10 blk off cap u d w hH hu hu64 hsz
theorem holds_zero0 (w : World) (T : TypeId) (nd : Nat) (hs : nd ≤ 24) : Holds (fun (b : UInt8) => Value.int .u8 (b.toNat : Int)) (w.alloc (.cells zeros24 T)) w.heap.size 0 (Array.replicate nd (0 : UInt8)) := fun j hj => by
  have hj' : j < nd := by simpa using hj
  refine ⟨?_, World.frozen?_alloc_new _ _ _ _⟩
  rw [World.cell?_alloc_new, zeros24_at _ (by omega), getElem!_pos _ j hj]
  simp

theorem below_grow (w : World) (os : Array Obj) (k : Nat) : Below w.heap.size w (grow (w.drewN k) os) :=
  ⟨rfl, rfl, rfl, by rw [size_grow]; exact Nat.le_add_right _ _, fun j hj => by
    show (w.heap ++ os)[j]? = w.heap[j]?
    rw [Array.getElem?_append_left hj]⟩
theorem fin0 (w : World) (o : Obj) (dk : Array UInt8) (k : Nat) : Below w.heap.size w ((putRow (fun (b : UInt8) => Value.int .u8 (b.toNat : Int)) (w.alloc o) w.heap.size 0 dk).drewN k) := by
  rw [alloc_eq_grow]
  obtain ⟨os', _, e⟩ := putRow_grow_new (fun (b : UInt8) => Value.int .u8 (b.toNat : Int)) w #[o] w.heap.size 0 dk (Nat.le_refl _)
  rw [e]
  exact below_grow w os' k

set_option maxHeartbeats 4000000 in
theorem fmtI_any (u : Nat) (w : World) (hu64 : u < 18446744073709551616) (htab : TabIs Tryd.prog w "internal/strconv.uint64pow10" .u64 pow10Tab) :
    Calls Tryd.prog 52 #[.int .u64 (u : Int), .int .i64 10] w fun e w' => e = .returned (.string ⟨(decDigits u).toArray⟩) ∧ Below w.heap.size w w' := by
  by_cases hs : u < 100
  · go_enter Tryd.func52, Tryd.ntmps52
    go_wp2_with (go_at_call 70; refine (small_any u hs _).mono ?_; rintro e w' ⟨rfl, hw⟩; rw [hw])
    go_ret
    exact ⟨rfl, Below.refl _ _⟩
  · have hu1 : 1 ≤ u := by omega
    have hnd20 : nDigits u ≤ 20 := nDigits_le20 u hu64
    have hb3 : nDigits u ≤ 24 := by omega
    have hal : Tryd.prog.arrayLen 101 = 24 := by simp [Program.arrayLen, Tryd.underlying101]
    have hsl1 : ∀ W, (Instr.sliceAt 101 (.pointer (some ⟨w.heap.size, 0, none⟩)) none (some (.int .i64 (nDigits u : Int))) none).run Tryd.prog W = .ok (.slice (some ⟨w.heap.size, 0, none⟩) (nDigits u) 24) W := fun W => by
      rw [run_sliceAt_array_h W 101 ⟨w.heap.size, 0, none⟩ (by simp [Program.arrayLen, Program.elem, Tryd.underlying101]) .i64 (nDigits u : Int) (by omega) (by rw [hal]; omega)]
      go_simp
    have hH0 := holds_zero0 w 101 (nDigits u) hb3
    have hfmt := base10_any w.heap.size 0 24 u (Array.replicate (nDigits u) 0) (w.alloc (.cells zeros24 101)) hH0 (by rw [Array.size_replicate]; exact lt_pow_nDigits u) hu64 (by rw [Array.size_replicate]; omega)
    rw [Array.size_replicate] at hfmt
    have HH0 := Lib.hid hH0
    clear hH0 hal
    go_enter Tryd.func52, Tryd.ntmps52
    go_wp2_with (first
      | (go_at_call 71; refine (digits_any u hu1 hu64 _ (tabIs_alloc htab _)).mono ?_; rintro e w' ⟨rfl, hw⟩; rw [hw]))
    go_at_call 72
    refine hfmt.mono ?_
    rintro e w' ⟨rfl, k, v', dk, rfl, hF⟩
    have hcv : (convert 41 9 (.slice (some ⟨w.heap.size, 0, none⟩) (nDigits u) 24)).run Tryd.prog ((putRow (fun (b : UInt8) => Value.int .u8 (b.toNat : Int)) (w.alloc (.cells zeros24 101)) w.heap.size 0 dk).drewN k) = .ok (.string ⟨(decDigits u).toArray⟩) ((putRow (fun (b : UInt8) => Value.int .u8 (b.toNat : Int)) (w.alloc (.cells zeros24 101)) w.heap.size 0 dk).drewN k) := by
      have h := run_convert_bytes_back (P := Tryd.prog) ((putRow (fun (b : UInt8) => Value.int .u8 (b.toNat : Int)) (w.alloc (.cells zeros24 101)) w.heap.size 0 dk).drewN k) 41 9 5 ⟨w.heap.size, 0, none⟩ 24 (decDigits u) Tryd.underlying41 Tryd.underlying5 Tryd.underlying9 (fun j hj => by
        rw [row_is_numeral hF j hj, Lib.add_plain, World.cell?_drewN]
        exact cell?_putRow (fun (b : UInt8) => Value.int .u8 (b.toNat : Int)) _ w.heap.size 0 _ dk HH0.out (by rw [hF.size, Array.size_replicate]) j (by rw [hF.size]; rw [decDigits_length] at hj; exact hj))
      rw [decDigits_length] at h
      exact h
    have HF := Lib.hid hF
    clear hF
    go_wp2
    go_ret
    exact ⟨rfl, fin0 w _ dk k⟩
theorem fmt_any (u : Nat) (w : World) (hu64 : u < 18446744073709551616) (htab : TabIs Tryd.prog w "internal/strconv.uint64pow10" .u64 pow10Tab) :
    Calls Tryd.prog 39 #[.int .u64 (u : Int), .int .i64 10] w fun e w' => e = .returned (.string ⟨(decDigits u).toArray⟩) ∧ Below w.heap.size w w' := by
  go_enter Tryd.func39, Tryd.ntmps39
  go_wp2_with (go_at_call 52; refine (fmtI_any u _ hu64 htab).mono ?_; rintro e w' ⟨rfl, hb⟩)
  go_ret
  exact ⟨rfl, hb⟩
/-- the decimal digits of a number -/
def DecOut (u : Nat) (w : World) (e : Ending) (w' : World) : Prop := (∃ S, e = .returned (.string S) ∧ bz S = dec u ∧ S.size ≤ 20) ∧ Below w.heap.size w w'
theorem dec_out {u : Nat} {w w' : World} {e : Ending} (hu : u ≤ 65535) (h : e = .returned (.string ⟨(decDigits u).toArray⟩) ∧ Below w.heap.size w w') : DecOut u w e w' := by
  refine ⟨⟨_, h.1, by rw [bz_mk, nb_dec], ?_⟩, h.2⟩
  rw [TupMath2.size_mk, decDigits_length]
  exact nDigits_le20 u (by omega)
theorem ofB_bz (s : ByteArray) : ofB (bz s) = s := bz_inj (bz_ofB (bz_le s))
theorem str_is {S : ByteArray} {L : List Nat} (h : bz S = L) : S = ofB L := by rw [← h, ofB_bz]
theorem decimal8 (u : Nat) (w : World) (hu : u ≤ 255) (E : Env w) : Calls Tryd.prog 26 #[.int .u8 (u : Int)] w (DecOut u w) := by
  go_enter Tryd.func26, Tryd.ntmps26
  go_wp2_with (go_at_call 39; refine (fmt_any u _ (by omega) E.tab).mono ?_; rintro e w' ⟨rfl, hb⟩)
  go_ret
  exact dec_out (by omega) ⟨rfl, hb⟩
theorem decimal16 (u : Nat) (w : World) (hu : u ≤ 65535) (E : Env w) : Calls Tryd.prog 28 #[.int .u16 (u : Int)] w (DecOut u w) := by
  go_enter Tryd.func28, Tryd.ntmps28
  go_wp2_with (go_at_call 39; refine (fmt_any u _ (by omega) E.tab).mono ?_; rintro e w' ⟨rfl, hb⟩)
  go_ret
  exact dec_out hu ⟨rfl, hb⟩

/-! digits as numbers -/
def PuOut (s : ByteArray) (w : World) (e : Ending) (w' : World) : Prop :=
  ((∃ u : Nat, Lib.parseUintB 64 s.data.toList = .ok u ∧ u ≤ 18446744073709551615 ∧ e = .returned (.tuple #[.int .u64 (u : Int), .nilIface])) ∨
   ((∀ u, Lib.parseUintB 64 s.data.toList ≠ .ok u) ∧ ∃ (u : Nat) (t : TypeId) (p : Option Addr), u ≤ 18446744073709551615 ∧ e = .returned (.tuple #[.int .u64 (u : Int), .iface t (.pointer p)]))) ∧ Below w.heap.size w w'
theorem pu_any (s : ByteArray) (w : World) (hs : s.size ≤ 1000000) (E : Env w) : Calls Tryd.prog 34 #[.string s, .int .i64 10, .int .i64 64] w (PuOut s w) := by
  rcases h : Lib.parseUintB 64 s.data.toList with u | _ | _
  · refine (Any.strconv_ParseUint_10_at64_ok Tryd.layPu s (by omega) u h w).mono ?_
    rintro e w' ⟨rfl, hw⟩
    refine ⟨.inl ⟨u, h, ?_, rfl⟩, ?_⟩
    · have := Lib.parseUintB_le h
      have e : (2 : Nat) ^ 64 - 1 = 18446744073709551615 := by decide
      omega
    · rcases hw with rfl | rfl
      · exact Below.refl _ _
      · exact Lib.bytesWorld_below _ _ _
  · obtain ⟨tp, p, hp⟩ := E.syn
    refine (Any.strconv_ParseUint_10_at64_syntax_var Tryd.layPu s (by omega) h tp p w hp).mono ?_
    rintro e w' ⟨N, rfl, _, _, hb⟩
    exact ⟨.inr ⟨fun u hu => (by rw [h] at hu; cases hu), 0, _, _, by omega, rfl⟩, hb⟩
  · obtain ⟨tp, p, hp⟩ := E.rng
    refine (Any.strconv_ParseUint_10_at64_range_var Tryd.layPu s (by omega) h tp p w hp).mono ?_
    rintro e w' ⟨N, rfl, _, _, hb⟩
    exact ⟨.inr ⟨fun u hu => (by rw [h] at hu; cases hu), 18446744073709551615, _, _, by omega, rfl⟩, hb⟩

/-! cut, split, join -/
theorem cut_any (s sep : ByteArray) (w : World) (hs : s.size ≤ 1000000) (E : Env w) : Calls Tryd.prog 17 #[.string s, .string sep] w fun e w' =>
    e = .returned (.tuple #[.string ⟨(Lib.cut s.data.toList sep.data.toList).1.toArray⟩, .string ⟨(Lib.cut s.data.toList sep.data.toList).2.1.toArray⟩, .bool (Lib.cut s.data.toList sep.data.toList).2.2]) ∧ ∃ n, w' = w.drewN n := by
  obtain ⟨m, hm⟩ := E.maxLen
  exact Any.strings_Cut Tryd.layCut s sep m w (by omega) hm
theorem splitN_any (s sep : ByteArray) (n : Nat) (w : World) (hs : s.size ≤ 1000000) (h1 : 1 ≤ sep.size) (hn : 1 ≤ n) (hn63 : n ≤ 1000000) (E : Env w) : Calls Tryd.prog 18 #[.string s, .string sep, .int .i64 n] w fun e w' =>
      e = .returned (.slice (some ⟨w.heap.size, 0, none⟩) (Lib.splitB sep 0 (min n (s.size + 1) - 1) s).length (min n (s.size + 1))) ∧ w' = w.alloc (.cells (Lib.cellsOf (Lib.splitB sep 0 (min n (s.size + 1) - 1) s) (min n (s.size + 1))) 9) := by
  obtain ⟨m, hm⟩ := E.maxLen
  exact Any.strings_SplitN { Tryd.laySplitN with } Tryd.laySplitN.i9 s sep n m w (by omega) hm h1 hn (by omega)
theorem joinX : Builder.Extra Tryd.prog Tryd.layJoin_ren := {
  sizeBuilder := by kernel_rfl
  liesBuilder := by kernel_rfl
  t5 := Tryd.underlying5
  a5 := Tryd.isAgg5
  z5 := Tryd.sizeOf5
  v5 := Tryd.zeroValue5
  infoByte := by kernel_rfl
  cellsByte := by kernel_rfl
  sizeByte := by kernel_rfl
  neB5 := by decide }
theorem join_any (bk c : Nat) (xs : List ByteArray) (sep : ByteArray) (w : World) (hcells : ∀ (j : Nat) x, xs[j]? = some x → w.cell? ⟨bk, 0 + j, none⟩ = some (.string x)) (hbk : bk < w.heap.size) (hN : xs.length ≤ 1000000) (hcap : xs.length ≤ c)
    (hlen : (Lib.join (xs.map (·.data.toList)) sep.data.toList).length ≤ 1000000) :
    Calls Tryd.prog 27 #[.slice (some ⟨bk, 0, none⟩) xs.length c, .string sep] w fun e w' => e = .returned (.string ⟨(Lib.join (xs.map (·.data.toList)) sep.data.toList).toArray⟩) ∧ Below w.heap.size w w' :=
  Any.strings_Join Tryd.layJoin joinX bk 0 c xs sep w hcells hbk (by omega) hcap (by omega)
end Go.Proofs.YtpphpnnehljekaaDoor.TupLib
