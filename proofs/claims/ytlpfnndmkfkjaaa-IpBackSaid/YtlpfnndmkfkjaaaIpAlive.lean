/-
  The known answers of layer 5's statements, and what reading a written packet, a longer one, a cut one, a turned one tells.
-/
import Derived.Test.YtlpfnndmkfkjaaaIpDD
namespace Go.Proofs.Ytlpfnndmkfkjaaa.IpAlive
open Go.RowKit TupMath SumMath IpMath Litb Calm Rel IpRef IpHead IpEnc IpDec IpP IpD IpDD
set_option linter.unusedVariables false
set_option maxRecDepth 100000

theorem encV_ok (h : Hd) (l : ByteArray) (hn : 20 + l.size ≤ 65535) : encV h l = .tuple #[.string (ofB (pkt h (bz l))), .int .i64 0] := by unfold encV; rw [if_pos hn]
theorem bz_pkt (h : Hd) (l : ByteArray) (k : h.ok) (hn : 20 + l.size ≤ 65535) : bz (ofB (pkt h (bz l))) = pkt h (bz l) := bz_ofB (pkt_le h k (bz l) (bz_le l) (by rw [bz_len]; exact hn))
theorem size_pkt (h : Hd) (l : ByteArray) : (ofB (pkt h (bz l))).size = 20 + l.size := by rw [ofB_size, pkt_len, bz_len]
theorem decV_pkt (h : Hd) (l : ByteArray) (k : h.ok) (hn : 20 + l.size ≤ 65535) : decV (ofB (pkt h (bz l))) = .tuple #[hv h, .string l, .int .i64 0] := by
  have hb := bz_pkt h l k hn
  have hs := size_pkt h l
  have he : (ofB (pkt h (bz l))).extract 20 (ofB (pkt h (bz l))).size = l := by
    apply bz_inj
    rw [bz_extract _ _ _ (Nat.le_refl _), List.take_of_length_le (by rw [bz_len]; exact Nat.le_refl _), hb, pkt_drop]
  unfold decV
  rw [he, hb, pkt_err h (bz l) k (by rw [bz_len]; exact hn), if_pos rfl, pkt_rd h (bz l) k]
/-- what a reading that is refused answers -/
def refV (n : Nat) : Value := .tuple #[hv zero, .string ⟨#[]⟩, .int .i64 (n : Int)]
theorem decV_bad {s : ByteArray} (h : err (bz s) ≠ 0) : decV s = refV (err (bz s)) := by unfold decV refV; rw [if_neg h]
theorem decV_longer (h : Hd) (l : ByteArray) (x : UInt8) (k : h.ok) (hn : 20 + l.size ≤ 65535) : decV (ofB (pkt h (bz l)) ++ ⟨#[x]⟩) = refV 53 := by
  have e : err (bz (ofB (pkt h (bz l)) ++ ⟨#[x]⟩)) = 53 := by
    rw [bz_append, bz_pkt h l k hn]
    exact err_longer h (bz l) x.toNat k (by rw [bz_len]; exact hn)
  rw [decV_bad (by rw [e]; decide), e]

def ah : Hd := ⟨167772161, 167772162, 6, 64, 0, 0, false⟩
def aload : ByteArray := ⟨#[108, 111, 97, 100]⟩
def abare : ByteArray := ⟨#[69, 0, 0, 20, 0, 0, 0, 0, 64, 6, 102, 226, 10, 0, 0, 1, 10, 0, 0, 2]⟩
theorem ah_ok : ah.ok := ⟨by decide, by decide, by decide, by decide, by decide, by decide⟩
theorem abare_is : ofB (pkt ah (bz ⟨#[]⟩)) = abare := by
  have e : pkt ah (bz ⟨#[]⟩) = [69, 0, 0, 20, 0, 0, 0, 0, 64, 6, 102, 226, 10, 0, 0, 1, 10, 0, 0, 2] := by decide +kernel
  rw [e]
  rfl
theorem ashort : decV ⟨#[69]⟩ = refV 50 := by
  have e : err (bz ⟨#[69]⟩) = 50 := by decide +kernel
  rw [decV_bad (by rw [e]; decide), e]

/-- a struct's box, known whole -/
def Box (b : Nat) (cs : Array Value) (W : World) : Prop := W.heap[b]? = some (.cells cs 25 (0, 0))
theorem Box.new (W : World) (cs : Array Value) : Box W.heap.size cs (W.alloc (.cells cs 25)) := alloc_own W _
theorem Box.more {b : Nat} {cs : Array Value} {W W' : World} (h : Box b cs W) (hb : Below W.heap.size W W') : Box b cs W' := (hb.block b (Array.getElem?_eq_some_iff.1 h).1).trans h
theorem Box.alloc {b : Nat} {cs : Array Value} {W : World} (h : Box b cs W) (o : Obj) : Box b cs (W.alloc o) := h.more ((Below.refl _ W).alloc (Nat.le_refl _) o)
theorem Box.cell {b : Nat} {cs : Array Value} {W : World} (h : Box b cs W) (j : Nat) (v : Value) (hv : cs[j]? = some v) : W.cell? ⟨b, j, none⟩ = some v := by
  unfold Box at h
  rw [World.cell?, h]
  simpa using hv

set_option maxHeartbeats 16000000 in
theorem alive_any (w : World) : Calls Try.prog 7 #[] w fun e w' => e = .returned (.bool true) ∧ Below w.heap.size w w' := by
  obtain ⟨S, hS⟩ : ∃ S, ofB (pkt ah (bz aload)) = S := ⟨_, rfl⟩
  have C1 := fun W => encP ah aload W ah_ok (by decide)
  rw [encV_ok ah aload (by decide), hS] at C1
  have hS1 : S.size = 24 := by rw [← hS]; exact size_pkt ah aload
  have C2 := fun W => decP S W (by omega)
  rw [← hS, decV_pkt ah aload ah_ok (by decide), hS] at C2
  have C3 := fun W => decP (S ++ ⟨#[120]⟩) W (by rw [ByteArray.size_append, hS1]; decide)
  rw [← hS, decV_longer ah aload 120 ah_ok (by decide), hS] at C3
  have C4 := fun W => decP ⟨#[69]⟩ W (by decide)
  rw [ashort] at C4
  have C5 := fun W => encP ah ⟨#[]⟩ W ah_ok (by decide)
  rw [encV_ok ah ⟨#[]⟩ (by decide), abare_is] at C5
  have H1 : Hid (∀ W, Calls Try.prog 8 #[.agg #[.int .u32 167772161, .int .u32 167772162, .int .u8 6, .int .u8 64, .int .u8 0, .int .u16 0, .bool false], .string ⟨#[108, 111, 97, 100]⟩] W fun e w' => e = .returned (.tuple #[.string S, .int .i64 0]) ∧ Below W.heap.size W w') := Lib.hid C1
  have H2 : Hid (∀ W, Calls Try.prog 10 #[.string S] W fun e w' => e = .returned (.tuple #[.agg #[.int .u32 167772161, .int .u32 167772162, .int .u8 6, .int .u8 64, .int .u8 0, .int .u16 0, .bool false], .string ⟨#[108, 111, 97, 100]⟩, .int .i64 0]) ∧ Below W.heap.size W w') := Lib.hid C2
  have H3 : Hid (∀ W, Calls Try.prog 10 #[.string (S ++ ⟨#[120]⟩)] W fun e w' => e = .returned (.tuple #[.agg #[.int .u32 0, .int .u32 0, .int .u8 0, .int .u8 0, .int .u8 0, .int .u16 0, .bool false], .string ⟨#[]⟩, .int .i64 53]) ∧ Below W.heap.size W w') := Lib.hid C3
  have H4 : Hid (∀ W, Calls Try.prog 10 #[.string ⟨#[69]⟩] W fun e w' => e = .returned (.tuple #[.agg #[.int .u32 0, .int .u32 0, .int .u8 0, .int .u8 0, .int .u8 0, .int .u16 0, .bool false], .string ⟨#[]⟩, .int .i64 50]) ∧ Below W.heap.size W w') := Lib.hid C4
  have H5 : Hid (∀ W, Calls Try.prog 8 #[.agg #[.int .u32 167772161, .int .u32 167772162, .int .u8 6, .int .u8 64, .int .u8 0, .int .u16 0, .bool false], .string ⟨#[]⟩] W fun e w' => e = .returned (.tuple #[.string ⟨#[69, 0, 0, 20, 0, 0, 0, 0, 64, 6, 102, 226, 10, 0, 0, 1, 10, 0, 0, 2]⟩, .int .i64 0]) ∧ Below W.heap.size W w') := Lib.hid C5
  have hz : S.size + 1 ≤ 9223372036854775807 := by omega
  have HS := Lib.hid hS1
  clear C1 C2 C3 C4 C5 hS hS1
  go_enter Try.func7, Try.ntmps7
  go_wp2_with fail
  have X0 := Lib.hid (Box.new w #[.int .u32 167772161, .int .u32 167772162, .int .u8 6, .int .u8 64, .int .u8 0, .int .u16 0, .bool false])
  have B0 := Lib.hid (st_alloc (Below.refl _ w) (.cells #[.int .u32 167772161, .int .u32 167772162, .int .u8 6, .int .u8 64, .int .u8 0, .int .u16 0, .bool false] 25))
  refine (H1.out _).mono ?_
  rintro e w1 ⟨rfl, hb1⟩
  have X1 := Lib.hid (X0.out.more hb1)
  have B1 := Lib.hid (st_call B0.out hb1)
  clear hb1
  go_wp2_with fail
  refine (H2.out _).mono ?_
  rintro e w2 ⟨rfl, hb2⟩
  have X2 := Lib.hid ((X1.out.more hb2).alloc (.cells #[.int .u32 167772161, .int .u32 167772162, .int .u8 6, .int .u8 64, .int .u8 0, .int .u16 0, .bool false] 25))
  have Y2 := Lib.hid (Box.new w2 #[.int .u32 167772161, .int .u32 167772162, .int .u8 6, .int .u8 64, .int .u8 0, .int .u16 0, .bool false])
  have B2 := Lib.hid (st_alloc (st_call B1.out hb2) (.cells #[.int .u32 167772161, .int .u32 167772162, .int .u8 6, .int .u8 64, .int .u8 0, .int .u16 0, .bool false] 25))
  clear hb2
  go_wp2_with fail
  refine (H3.out _).mono ?_
  rintro e w3 ⟨rfl, hb3⟩
  have X3 := Lib.hid ((X2.out.more hb3).alloc (.cells #[.int .u32 0, .int .u32 0, .int .u8 0, .int .u8 0, .int .u8 0, .int .u16 0, .bool false] 25))
  have Y3 := Lib.hid ((Y2.out.more hb3).alloc (.cells #[.int .u32 0, .int .u32 0, .int .u8 0, .int .u8 0, .int .u8 0, .int .u16 0, .bool false] 25))
  have B3 := Lib.hid (st_alloc (st_call B2.out hb3) (.cells #[.int .u32 0, .int .u32 0, .int .u8 0, .int .u8 0, .int .u8 0, .int .u16 0, .bool false] 25))
  clear hb3
  go_wp2_with fail
  refine (H4.out _).mono ?_
  rintro e w4 ⟨rfl, hb4⟩
  have X4 := (X3.out.more hb4).alloc (.cells #[.int .u32 0, .int .u32 0, .int .u8 0, .int .u8 0, .int .u8 0, .int .u16 0, .bool false] 25)
  have Y4 := Lib.hid ((Y3.out.more hb4).alloc (.cells #[.int .u32 0, .int .u32 0, .int .u8 0, .int .u8 0, .int .u8 0, .int .u16 0, .bool false] 25))
  have B4 := Lib.hid (st_alloc (st_call B3.out hb4) (.cells #[.int .u32 0, .int .u32 0, .int .u8 0, .int .u8 0, .int .u8 0, .int .u16 0, .bool false] 25))
  clear hb4
  have c0 : (w4.alloc (.cells #[.int .u32 0, .int .u32 0, .int .u8 0, .int .u8 0, .int .u8 0, .int .u16 0, .bool false] 25)).cell? ⟨w.heap.size, 0, none⟩ = some (.int .u32 167772161) := X4.cell 0 _ rfl
  have c1 : (w4.alloc (.cells #[.int .u32 0, .int .u32 0, .int .u8 0, .int .u8 0, .int .u8 0, .int .u16 0, .bool false] 25)).cell? ⟨w.heap.size, 1, none⟩ = some (.int .u32 167772162) := X4.cell 1 _ rfl
  have c2 : (w4.alloc (.cells #[.int .u32 0, .int .u32 0, .int .u8 0, .int .u8 0, .int .u8 0, .int .u16 0, .bool false] 25)).cell? ⟨w.heap.size, 2, none⟩ = some (.int .u8 6) := X4.cell 2 _ rfl
  have c3 : (w4.alloc (.cells #[.int .u32 0, .int .u32 0, .int .u8 0, .int .u8 0, .int .u8 0, .int .u16 0, .bool false] 25)).cell? ⟨w.heap.size, 3, none⟩ = some (.int .u8 64) := X4.cell 3 _ rfl
  have c4 : (w4.alloc (.cells #[.int .u32 0, .int .u32 0, .int .u8 0, .int .u8 0, .int .u8 0, .int .u16 0, .bool false] 25)).cell? ⟨w.heap.size, 4, none⟩ = some (.int .u8 0) := X4.cell 4 _ rfl
  have c5 : (w4.alloc (.cells #[.int .u32 0, .int .u32 0, .int .u8 0, .int .u8 0, .int .u8 0, .int .u16 0, .bool false] 25)).cell? ⟨w.heap.size, 5, none⟩ = some (.int .u16 0) := X4.cell 5 _ rfl
  have c6 : (w4.alloc (.cells #[.int .u32 0, .int .u32 0, .int .u8 0, .int .u8 0, .int .u8 0, .int .u16 0, .bool false] 25)).cell? ⟨w.heap.size, 6, none⟩ = some (.bool false) := X4.cell 6 _ rfl
  have X5 := Lib.hid X4
  clear X4
  go_wp2_with fail
  clear c0 c1 c2 c3 c4 c5 c6
  refine (H5.out _).mono ?_
  rintro e w5 ⟨rfl, hb5⟩
  have X6 := X5.out.more hb5
  have Y6 := Y4.out.more hb5
  have B6 := Lib.hid (st_call B4.out hb5)
  have HS2 := HS.out
  clear hb5
  have c0 : (w5).cell? ⟨w.heap.size, 0, none⟩ = some (.int .u32 167772161) := X6.cell 0 _ rfl
  have c1 : (w5).cell? ⟨w.heap.size, 1, none⟩ = some (.int .u32 167772162) := X6.cell 1 _ rfl
  have c2 : (w5).cell? ⟨w.heap.size, 2, none⟩ = some (.int .u8 6) := X6.cell 2 _ rfl
  have c3 : (w5).cell? ⟨w.heap.size, 3, none⟩ = some (.int .u8 64) := X6.cell 3 _ rfl
  have c4 : (w5).cell? ⟨w.heap.size, 4, none⟩ = some (.int .u8 0) := X6.cell 4 _ rfl
  have c5 : (w5).cell? ⟨w.heap.size, 5, none⟩ = some (.int .u16 0) := X6.cell 5 _ rfl
  have c6 : (w5).cell? ⟨w.heap.size, 6, none⟩ = some (.bool false) := X6.cell 6 _ rfl
  have d0 : (w5).cell? ⟨w2.heap.size, 0, none⟩ = some (.int .u32 167772161) := Y6.cell 0 _ rfl
  have d1 : (w5).cell? ⟨w2.heap.size, 1, none⟩ = some (.int .u32 167772162) := Y6.cell 1 _ rfl
  have d2 : (w5).cell? ⟨w2.heap.size, 2, none⟩ = some (.int .u8 6) := Y6.cell 2 _ rfl
  have d3 : (w5).cell? ⟨w2.heap.size, 3, none⟩ = some (.int .u8 64) := Y6.cell 3 _ rfl
  have d4 : (w5).cell? ⟨w2.heap.size, 4, none⟩ = some (.int .u8 0) := Y6.cell 4 _ rfl
  have d5 : (w5).cell? ⟨w2.heap.size, 5, none⟩ = some (.int .u16 0) := Y6.cell 5 _ rfl
  have d6 : (w5).cell? ⟨w2.heap.size, 6, none⟩ = some (.bool false) := Y6.cell 6 _ rfl
  clear X6 Y6
  go_wp2_with fail
  go_ret
  exact ⟨rfl, B6.out⟩
end Go.Proofs.Ytlpfnndmkfkjaaa.IpAlive
