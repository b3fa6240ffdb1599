/-
  The known answers of layer 6's statements, and what reading a written segment, a turned one, one by another address tells.
-/
import Derived.Test.YtkilkjjmanedcaaTcpD
namespace Go.Proofs.Ytkilkjjmanedcaa.TcpAlive
open Go.RowKit TupMath SumMath IpMath Litb Calm Rel IpRef TcpMath TcpRef TcpEnc TcpP TcpDec TcpD Boxes
set_option linter.unusedVariables false
set_option maxRecDepth 100000

theorem bz_seg (src dst : Nat) (h : Th) (d : ByteArray) (k : h.ok) (m : h.may) : bz (ofB (seg src dst h (bz d))) = seg src dst h (bz d) := bz_ofB (seg_le src dst h k m (bz d) (bz_le d))
theorem size_seg (src dst : Nat) (h : Th) (d : ByteArray) : (ofB (seg src dst h (bz d))).size = 20 + h.opts.size + d.size := by rw [ofB_size, seg_len, bz_len]
theorem decV6_seg (src dst : Nat) (h : Th) (d : ByteArray) (k : h.ok) (m : h.may) (hn : 20 + h.opts.size + d.size ≤ 65515) : decV6 src dst (ofB (seg src dst h (bz d))) = .tuple #[tv h, .string d, .int .i64 0] := by
  have hb := bz_seg src dst h d k m
  obtain ⟨h1, h2⟩ := raw_trd h k m (bz d) (tsum src dst (raw h (bz d) 0)) (ofB (seg src dst h (bz d))) hb
  unfold decV6
  rw [h1, bz_inj h2, hb, seg_err src dst h m (bz d) (by rw [bz_len]; exact hn), if_pos rfl]
/-- what a reading that is refused answers -/
def refV6 (n : Nat) : Value := .tuple #[tv zeroT, .string ⟨#[]⟩, .int .i64 (n : Int)]
theorem decV6_bad {src dst : Nat} {s : ByteArray} (h : terr src dst (bz s) ≠ 0) : decV6 src dst s = refV6 (terr src dst (bz s)) := by unfold decV6 refV6; rw [if_neg h]
theorem decV6_55 {src dst : Nat} {s : ByteArray} (h : terr src dst (bz s) = 55) : decV6 src dst s = refV6 55 := by rw [decV6_bad (by rw [h]; decide), h]

def ah : Th := ⟨1, 2, 3, 0, 2, 4, 0, ⟨#[]⟩⟩
def ax : Th := ⟨0, 0, 0, 0, 0, 0, 0, ⟨#[120]⟩⟩
theorem ah_ok : ah.ok := ⟨by decide, by decide, by decide, by decide, by decide, by decide, by decide⟩
theorem ax_ok : ax.ok := ⟨by decide, by decide, by decide, by decide, by decide, by decide, by decide⟩
theorem ah_may : ah.may := ⟨by decide, by decide, by decide⟩
theorem ax_may : ¬ ax.may := fun m => absurd m.four (by decide)
theorem ah_seg : seg 167772161 167772162 ah (bz ⟨#[]⟩) = [0, 1, 0, 2, 0, 0, 0, 3, 0, 0, 0, 0, 80, 2, 0, 4, 155, 214, 0, 0] := by decide +kernel
theorem ah_other : terr 167772161 167772163 [0, 1, 0, 2, 0, 0, 0, 3, 0, 0, 0, 0, 80, 2, 0, 4, 155, 214, 0, 0] = 55 := by decide +kernel

/-- a struct's box, known whole -/
def Box (b : Nat) (cs : Array Value) (W : World) : Prop := W.heap[b]? = some (.cells cs 25 (0, 0))
theorem Box.new (W : World) (cs : Array Value) : Box W.heap.size cs (W.alloc (.cells cs 25)) := box_new W _
theorem Box.more {b : Nat} {cs : Array Value} {W W' : World} (h : Box b cs W) (hb : Below W.heap.size W W') : Box b cs W' := box_more h hb
theorem Box.alloc {b : Nat} {cs : Array Value} {W : World} (h : Box b cs W) (o : Obj) : Box b cs (W.alloc o) := h.more ((Below.refl _ W).alloc (Nat.le_refl _) o)
theorem Box.cell {b : Nat} {cs : Array Value} {W : World} (h : Box b cs W) (j : Nat) (v : Value) (hv : cs[j]? = some v) : W.cell? ⟨b, j, none⟩ = some v := by
  unfold Box at h
  rw [World.cell?, h]
  simpa using hv

set_option maxHeartbeats 16000000 in
theorem alive_any (w : World) : Calls Try.prog 7 #[] w fun e w' => e = .returned (.bool true) ∧ Below w.heap.size w w' := by
  obtain ⟨S, hS⟩ : ∃ S, ofB (seg 167772161 167772162 ah (bz ⟨#[]⟩)) = S := ⟨_, rfl⟩
  have hSb : bz S = [0, 1, 0, 2, 0, 0, 0, 3, 0, 0, 0, 0, 80, 2, 0, 4, 155, 214, 0, 0] := by rw [← hS, bz_seg _ _ _ _ ah_ok ah_may, ah_seg]
  have hS1 : S.size = 20 := by rw [← bz_len, hSb]; rfl
  have C1 := fun W => encP6 167772161 167772162 ah ⟨#[]⟩ W (by decide) (by decide) ah_ok (by decide) (by decide)
  have C5 := fun W => encR6 167772161 167772162 ah ⟨#[]⟩ W (by decide) (by decide) ah_ok (by decide) (by decide)
  rw [encV6_ok ah_may (by decide), hS] at C1 C5
  have C2 := fun W => decP6 167772161 167772162 S W (by decide) (by decide) (by omega)
  rw [← hS, decV6_seg _ _ ah ⟨#[]⟩ ah_ok ah_may (by decide), hS] at C2
  have C3 := fun W => decP6 167772161 167772163 S W (by decide) (by decide) (by omega)
  rw [decV6_55 (by rw [hSb]; exact ah_other)] at C3
  have C4 := fun W => encP6 0 0 ax ⟨#[]⟩ W (by decide) (by decide) ax_ok (by decide) (by decide)
  rw [encV6_arg ax_may] at C4
  have H1 : Hid (∀ W, Calls Try.prog 8 #[.int .u32 167772161, .int .u32 167772162, .agg #[.int .u16 1, .int .u16 2, .int .u32 3, .int .u32 0, .int .u8 2, .int .u16 4, .int .u16 0, .string ⟨#[]⟩], .string ⟨#[]⟩] W fun e w' => e = .returned (.tuple #[.string S, .int .i64 0]) ∧ Below W.heap.size W w') := Lib.hid C1
  have H2 : Hid (∀ W, Calls Try.prog 10 #[.int .u32 167772161, .int .u32 167772162, .string S] W fun e w' => e = .returned (.tuple #[.agg #[.int .u16 1, .int .u16 2, .int .u32 3, .int .u32 0, .int .u8 2, .int .u16 4, .int .u16 0, .string ⟨#[]⟩], .string ⟨#[]⟩, .int .i64 0]) ∧ Below W.heap.size W w') := Lib.hid C2
  have H3 : Hid (∀ W, Calls Try.prog 10 #[.int .u32 167772161, .int .u32 167772163, .string S] W fun e w' => e = .returned (.tuple #[.agg #[.int .u16 0, .int .u16 0, .int .u32 0, .int .u32 0, .int .u8 0, .int .u16 0, .int .u16 0, .string ⟨#[]⟩], .string ⟨#[]⟩, .int .i64 55]) ∧ Below W.heap.size W w') := Lib.hid C3
  have H4 : Hid (∀ W, Calls Try.prog 8 #[.int .u32 0, .int .u32 0, .agg #[.int .u16 0, .int .u16 0, .int .u32 0, .int .u32 0, .int .u8 0, .int .u16 0, .int .u16 0, .string ⟨#[120]⟩], .string ⟨#[]⟩] W fun e w' => e = .returned (.tuple #[.string ⟨#[]⟩, .int .i64 2]) ∧ Below W.heap.size W w') := Lib.hid C4
  have H5 : Hid (∀ W, Calls Try.prog 9 #[.int .u32 167772161, .int .u32 167772162, .agg #[.int .u16 1, .int .u16 2, .int .u32 3, .int .u32 0, .int .u8 2, .int .u16 4, .int .u16 0, .string ⟨#[]⟩], .string ⟨#[]⟩] W fun e w' => e = .returned (.tuple #[.string S, .int .i64 0]) ∧ Below W.heap.size W w') := Lib.hid C5
  have hz : S.size ≤ 9223372036854775807 := by omega
  have z13 : S[13].toNat = 2 := by rw [at_byte S 13 (by omega), hSb]; rfl
  have k13 : (13 : Int) < (S.size : Int) := by omega
  have HS := Lib.hid hS1
  clear C1 C2 C3 C4 C5 hS hSb
  have X0 := Lib.hid (Box.new w #[.int .u16 1, .int .u16 2, .int .u32 3, .int .u32 0, .int .u8 2, .int .u16 4, .int .u16 0, .string ⟨#[]⟩])
  have B0 := Lib.hid (st_alloc (Below.refl _ w) (.cells #[.int .u16 1, .int .u16 2, .int .u32 3, .int .u32 0, .int .u8 2, .int .u16 4, .int .u16 0, .string ⟨#[]⟩] 25))
  go_enter Try.func7, Try.ntmps7
  go_wp2_with fail
  refine (H1.out _).mono ?_
  rintro e w1 ⟨rfl, hb⟩
  have X1 := Lib.hid (X0.out.more hb)
  have B1 := Lib.hid (st_call B0.out hb)
  clear hb
  go_wp2_with fail
  refine (H2.out _).mono ?_
  rintro e w2 ⟨rfl, hb⟩
  have X2 := Lib.hid ((X1.out.more hb).alloc (.cells #[.int .u16 1, .int .u16 2, .int .u32 3, .int .u32 0, .int .u8 2, .int .u16 4, .int .u16 0, .string ⟨#[]⟩] 25))
  have Y2 := Lib.hid (Box.new w2 #[.int .u16 1, .int .u16 2, .int .u32 3, .int .u32 0, .int .u8 2, .int .u16 4, .int .u16 0, .string ⟨#[]⟩])
  have B2 := Lib.hid (st_alloc (st_call B1.out hb) (.cells #[.int .u16 1, .int .u16 2, .int .u32 3, .int .u32 0, .int .u8 2, .int .u16 4, .int .u16 0, .string ⟨#[]⟩] 25))
  clear hb
  go_wp2_with fail
  refine (H3.out _).mono ?_
  rintro e w3 ⟨rfl, hb⟩
  have X3 := Lib.hid ((X2.out.more hb).alloc (.cells #[.int .u16 0, .int .u16 0, .int .u32 0, .int .u32 0, .int .u8 0, .int .u16 0, .int .u16 0, .string ⟨#[]⟩] 25))
  have Y3 := Lib.hid ((Y2.out.more hb).alloc (.cells #[.int .u16 0, .int .u16 0, .int .u32 0, .int .u32 0, .int .u8 0, .int .u16 0, .int .u16 0, .string ⟨#[]⟩] 25))
  have B3 := Lib.hid (st_alloc (st_call B2.out hb) (.cells #[.int .u16 0, .int .u16 0, .int .u32 0, .int .u32 0, .int .u8 0, .int .u16 0, .int .u16 0, .string ⟨#[]⟩] 25))
  clear hb
  go_wp2_with fail
  refine (H4.out _).mono ?_
  rintro e w4 ⟨rfl, hb⟩
  have X4 := X3.out.more hb
  have Y4 := Lib.hid (Y3.out.more hb)
  have B4 := Lib.hid (st_call B3.out hb)
  clear hb
  have c0 : (w4).cell? ⟨w.heap.size, 0, none⟩ = some (.int .u16 1) := X4.cell 0 _ rfl
  have c1 : (w4).cell? ⟨w.heap.size, 1, none⟩ = some (.int .u16 2) := X4.cell 1 _ rfl
  have c2 : (w4).cell? ⟨w.heap.size, 2, none⟩ = some (.int .u32 3) := X4.cell 2 _ rfl
  have c3 : (w4).cell? ⟨w.heap.size, 3, none⟩ = some (.int .u32 0) := X4.cell 3 _ rfl
  have c4 : (w4).cell? ⟨w.heap.size, 4, none⟩ = some (.int .u8 2) := X4.cell 4 _ rfl
  have c5 : (w4).cell? ⟨w.heap.size, 5, none⟩ = some (.int .u16 4) := X4.cell 5 _ rfl
  have c6 : (w4).cell? ⟨w.heap.size, 6, none⟩ = some (.int .u16 0) := X4.cell 6 _ rfl
  have c7 : (w4).cell? ⟨w.heap.size, 7, none⟩ = some (.string ⟨#[]⟩) := X4.cell 7 _ rfl
  have X5 := Lib.hid X4
  clear X4
  go_wp2_with fail
  clear c0 c1 c2 c3 c4 c5 c6 c7
  refine (H5.out _).mono ?_
  rintro e w5 ⟨rfl, hb⟩
  have X6 := X5.out.more hb
  have Y6 := Y4.out.more hb
  have B6 := Lib.hid (st_call B4.out hb)
  clear hb
  have c0 : (w5).cell? ⟨w.heap.size, 0, none⟩ = some (.int .u16 1) := X6.cell 0 _ rfl
  have c1 : (w5).cell? ⟨w.heap.size, 1, none⟩ = some (.int .u16 2) := X6.cell 1 _ rfl
  have c2 : (w5).cell? ⟨w.heap.size, 2, none⟩ = some (.int .u32 3) := X6.cell 2 _ rfl
  have c3 : (w5).cell? ⟨w.heap.size, 3, none⟩ = some (.int .u32 0) := X6.cell 3 _ rfl
  have c4 : (w5).cell? ⟨w.heap.size, 4, none⟩ = some (.int .u8 2) := X6.cell 4 _ rfl
  have c5 : (w5).cell? ⟨w.heap.size, 5, none⟩ = some (.int .u16 4) := X6.cell 5 _ rfl
  have c6 : (w5).cell? ⟨w.heap.size, 6, none⟩ = some (.int .u16 0) := X6.cell 6 _ rfl
  have c7 : (w5).cell? ⟨w.heap.size, 7, none⟩ = some (.string ⟨#[]⟩) := X6.cell 7 _ rfl
  have d0 : (w5).cell? ⟨w2.heap.size, 0, none⟩ = some (.int .u16 1) := Y6.cell 0 _ rfl
  have d1 : (w5).cell? ⟨w2.heap.size, 1, none⟩ = some (.int .u16 2) := Y6.cell 1 _ rfl
  have d2 : (w5).cell? ⟨w2.heap.size, 2, none⟩ = some (.int .u32 3) := Y6.cell 2 _ rfl
  have d3 : (w5).cell? ⟨w2.heap.size, 3, none⟩ = some (.int .u32 0) := Y6.cell 3 _ rfl
  have d4 : (w5).cell? ⟨w2.heap.size, 4, none⟩ = some (.int .u8 2) := Y6.cell 4 _ rfl
  have d5 : (w5).cell? ⟨w2.heap.size, 5, none⟩ = some (.int .u16 4) := Y6.cell 5 _ rfl
  have d6 : (w5).cell? ⟨w2.heap.size, 6, none⟩ = some (.int .u16 0) := Y6.cell 6 _ rfl
  have d7 : (w5).cell? ⟨w2.heap.size, 7, none⟩ = some (.string ⟨#[]⟩) := Y6.cell 7 _ rfl
  clear X6 Y6
  go_wp2_with fail
  go_ret
  exact ⟨rfl, B6.out⟩
end Go.Proofs.Ytkilkjjmanedcaa.TcpAlive
