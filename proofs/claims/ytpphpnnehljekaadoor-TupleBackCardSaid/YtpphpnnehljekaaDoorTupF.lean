/-
  The contracts of layer 4 as functions; boxes that stand; the known answers.
-/
import Derived.Test.YtpphpnnehljekaaDoorTupParse
namespace Go.Proofs.YtpphpnnehljekaaDoor.TupF
open Go.RowKit Own TupMath TupMath2 Bytes TupLib TupLay TupTake TupRead TupRef TupRef2 TupRef3 TupOrd TupText TupParse Calm
set_option linter.unusedVariables false
set_option maxRecDepth 100000

abbrev adr (ip po : Nat) : Value := .agg #[.int .u32 (ip : Int), .int .u16 (po : Int)]
abbrev par (a b c d : Nat) : Value := .agg #[.int .u32 (a : Int), .int .u16 (b : Int), .int .u32 (c : Int), .int .u16 (d : Int)]
def tx (ip po : Nat) : ByteArray := ofB (txt ip po)
def by6 (ip po : Nat) : ByteArray := ofB (b32 ip ++ b16 po)
theorem b6_le (ip po : Nat) (hi : ip ≤ 4294967295) (hp : po ≤ 65535) : ∀ x ∈ b32 ip ++ b16 po, x ≤ 255 := by
  intro x hx
  rcases List.mem_append.1 hx with h | h
  · exact b32_le ip hi x h
  · exact b16_le po hp x h
theorem txt_le (ip po : Nat) : ∀ x ∈ txt ip po, x ≤ 255 := by
  intro x hx
  have d : ∀ n, ∀ y ∈ dec n, y ≤ 255 := fun n y hy => Nat.le_trans (dec_le n y hy) (by decide)
  unfold txt txt4 at hx
  simp only [List.mem_append, List.mem_singleton] at hx
  rcases hx with ((((((((h | h) | h) | h) | h) | h) | h) | h) | h)
  all_goals first | exact d _ _ h | omega
theorem bz_tx (ip po : Nat) : bz (tx ip po) = txt ip po := bz_ofB (txt_le ip po)
theorem bz_by6 (ip po : Nat) (hi : ip ≤ 4294967295) (hp : po ≤ 65535) : bz (by6 ip po) = b32 ip ++ b16 po := bz_ofB (b6_le ip po hi hp)
theorem tx_size (ip po : Nat) (hi : ip ≤ 4294967295) (hp : po ≤ 65535) : (tx ip po).size ≤ 100 := by
  unfold tx
  rw [ofB_size]
  unfold txt
  have := txt4_le ip hi
  have := dec_len (n := po) (k := 5) (by decide) (by omega)
  simp only [List.length_append, List.length_singleton]
  omega
theorem by6_size (ip po : Nat) : (by6 ip po).size = 6 := by unfold by6; rw [ofB_size]; rfl

theorem textF (ip po : Nat) (w : World) (hi : ip ≤ 4294967295) (hp : po ≤ 65535) (E : Env w) : Calls Tryd.prog 10 #[adr ip po] w fun e w' => e = .returned (.string (tx ip po)) ∧ Below w.heap.size w w' :=
  (text_any ip po w hi hp E).mono fun e w' ⟨⟨S, he, hS, _⟩, hb⟩ => ⟨by rw [he, str_is hS]; rfl, hb⟩
theorem bytesF (ip po : Nat) (w : World) (hi : ip ≤ 4294967295) (hp : po ≤ 65535) : Calls Tryd.prog 12 #[adr ip po] w fun e w' => e = .returned (.string (by6 ip po)) ∧ Below w.heap.size w w' :=
  (bytes_any ip po w hi hp).mono fun e w' ⟨⟨S, he, hS, _⟩, hb⟩ => ⟨by rw [he, str_is hS]; rfl, hb⟩
theorem cmpF (a b c d p q r s : Nat) (w : World) : Calls Tryd.prog 14 #[par a b c d, par p q r s] w fun e w' => e = .returned (.int .i64 (cmpL [a, b, c, d] [p, q, r, s])) ∧ Below w.heap.size w w' :=
  (cmpP_any a b c d p q r s w).mono fun e w' ⟨he, hb⟩ => ⟨by rw [he, ord_cmpL], hb⟩
theorem textRF (ip po : Nat) (w : World) (hi : ip ≤ 4294967295) (hp : po ≤ 65535) : Calls Tryd.prog 11 #[adr ip po] w fun e w' => e = .returned (.string (tx ip po)) ∧ Below w.heap.size w w' :=
  (textR_any ip po w hi hp).mono fun e w' ⟨⟨S, he, hS, _⟩, hb⟩ => ⟨by rw [he, str_is hS]; rfl, hb⟩
theorem bytesRF (ip po : Nat) (w : World) (hi : ip ≤ 4294967295) (hp : po ≤ 65535) : Calls Tryd.prog 13 #[adr ip po] w fun e w' => e = .returned (.string (by6 ip po)) ∧ Below w.heap.size w w' :=
  (bytesR_any ip po w hi hp).mono fun e w' ⟨⟨S, he, hS⟩, hb⟩ => ⟨by rw [he, str_is hS]; rfl, hb⟩

/-- a block that holds these values, and stands -/
def At (W : World) (b : Nat) (vs : List Value) : Prop := b < W.heap.size ∧ ∀ (j : Nat) (v : Value), vs[j]? = some v → W.cell? ⟨b, j, none⟩ = some v
theorem At.new (w : World) (cs : Array Value) (T : TypeId) : At (w.alloc (.cells cs T)) w.heap.size cs.toList :=
  ⟨by simp, fun j v h => (World.cell?_alloc_mark w cs T (0, 0) j).trans (by simpa using h)⟩
theorem At.more {W W' : World} {b : Nat} {vs : List Value} (h : At W b vs) (hb : Below W.heap.size W W') : At W' b vs :=
  ⟨Nat.lt_of_lt_of_le h.1 hb.size, fun j v hv => (hb.cell (p := ⟨b, j, none⟩) h.1).trans (h.2 j v hv)⟩
theorem below_alloc (w : World) (o : Obj) : Below w.heap.size w (w.alloc o) := (Below.refl _ w).alloc (Nat.le_refl _) o

/-! the known answers -/
def lit1 : ByteArray := ⟨#[49, 48, 46, 48, 46, 48, 46, 49, 58, 56, 48]⟩
def lit2 : ByteArray := ⟨#[49, 48, 46, 48, 46, 48, 46, 48, 49, 58, 56, 48]⟩
def lit3 : ByteArray := ⟨#[10, 0, 0, 1, 0, 80]⟩
theorem t1 : txt 167772161 80 = [49, 48, 46, 48, 46, 48, 46, 49, 58, 56, 48] := by
  have e10 : dec 10 = [49, 48] := by rw [dec_big (by decide), dec_small (by decide)]; rfl
  have e80 : dec 80 = [56, 48] := by rw [dec_big (by decide), dec_small (by decide)]; rfl
  have e0 : dec 0 = [48] := by rw [dec_small (by decide)]
  have e1 : dec 1 = [49] := by rw [dec_small (by decide)]
  unfold txt txt4
  simp only [show 167772161 / 16777216 = 10 from rfl, show 167772161 / 65536 % 256 = 0 from rfl, show 167772161 % 256 = 1 from rfl, e10, e80, e0, e1]
  rfl
theorem b1 : bz lit1 = txt 167772161 80 := by rw [t1]; rfl
theorem tx1 : tx 167772161 80 = lit1 := by unfold tx; rw [← b1, ofB_bz]
theorem p1 : parP (bz lit1) = some (167772161, 80) := by rw [b1]; exact par_txt _ _ (by decide) (by decide)
theorem p2 : parP (bz lit2) = none := by
  cases h : parP (bz lit2) with
  | none => rfl
  | some q =>
    obtain ⟨ip, po⟩ := q
    have hr : runP (bz lit2) 4 = some (167772161, [56, 48]) := by decide
    unfold parP at h
    rw [hr] at h
    simp only [Option.bind_some, endP] at h
    split at h
    · rename_i hc
      have := hc.2.2.2
      rw [show val (pre 6 [56, 48]) = 80 from rfl, t1] at this
      exact absurd this (by decide)
    · cases h
theorem b3 : bz lit3 = b32 167772161 ++ b16 80 := by decide
theorem by1 : by6 167772161 80 = lit3 := by unfold by6; rw [← b3, ofB_bz]
end Go.Proofs.YtpphpnnehljekaaDoor.TupF
