/-
  Laws for a proof of package pkt: 4 texts in one.
-/
import Derived.Test.YtpmnmnflaijaaaaGreatQPktRwRM7
import Derived.Test.YtpmnmnflaijaaaaGreatQPktSee2
import Derived.Test.YtpmnmnflaijaaaaGreatQPktTdP2
import Derived.Test.YtpmnmnflaijaaaaGreatQPktDecP4
import Derived.Test.YtpmnmnflaijaaaaGreatQNumA327
namespace Go.Proofs.YtpmnmnflaijaaaaGreat.PktRw
open Go.Proofs.YtpmnmnflaijaaaaGreat.Own
open Cells (CellsAt Apart put_lit)
open Go.RowKit Go.Shelf TupMath SumMath Litb Calm Rel RelT IpMath IpHead IpRef IpDec TcpMath TcpRef TcpDec Num OptMath OptSame OptTake5 OptTk OptTurn OptPU PktMath PktVal PktCom PktDecC PktOp Pkt16 PktKp PktAl PktLay PktRwM PktBox
set_option linter.unusedVariables false
set_option linter.unusedSimpArgs false
set_option maxRecDepth 100000
attribute [local go_sem] Oper.semAt_some
theorem alongN (b n cap : Nat) (i : Int) (w : World) : Calls Tryz.prog 19 #[.slice (some ⟨b, 0, none⟩) n cap, .int .i64 i] w fun e w' => e = .returned (.func (.func 47) #[] #[.pointer (some ⟨w.heap.size, 0, none⟩), .pointer (some ⟨w.heap.size + 1, 0, none⟩)]) ∧ w' = (w.alloc (.cells #[.slice (some ⟨b, 0, none⟩) n cap] 50)).alloc (.cells #[.int .i64 i] 3) := by
 go_enter Tryz.func19, Tryz.ntmps19
 go_wp2
 go_ret
 exact ⟨rfl, rfl⟩
set_option maxHeartbeats 2000000 in
theorem lay8none (b c : Nat) (w : World) : Calls Tryz.prog 52 #[.slice (some ⟨b, 0, none⟩) 0 c] w fun e w' => e = .returned (.string ⟨#[]⟩) ∧ Below w.heap.size w w' := by
 have hcv : ∀ W : World, (convert 50 9 (.slice none 0 0)).run Tryz.prog W = .ok (.string ⟨#[]⟩) W := fun W => by kernel_rfl
 go_enter Tryz.func52, Tryz.ntmps52
 go_wp2
 go_loopw [3, 9] (fun v i wr => i = .int .i64 0 ∧ v = .slice none 0 0 ∧ wr = w) (fun _ i _ => 0)
 case atStart => exact ⟨rfl, rfl, rfl⟩
 case round =>
   obtain ⟨rfl, rfl, rfl⟩ := hrel
   go_wp2
   go_ret
   exact ⟨rfl, Below.refl _ _⟩
theorem rd_sok {S : ByteArray} {h : Hd} {c : Nat} {t : Th} {k : Nat} {o : Opn} {d : ByteArray} (r : Rd S h c t k o d) : (sgOf h t o d).ok := ⟨r.hk.src, r.tok.src, r.hk.dst, r.tok.dst, r.tok.seq, r.tok.ack, r.tok.flags, r.tok.win, OptBackM.dec7_ok (bz_le _) r.opts⟩
theorem rd_few {S : ByteArray} {h : Hd} {c : Nat} {t : Th} {k : Nat} {o : Opn} {d : ByteArray} (r : Rd S h c t k o d) : o.blocks.length ≤ 40 := by
 have h1 := OptFew.dec7_few (bz t.opts)
 rw [r.opts] at h1
 exact h1
set_option maxHeartbeats 8000000 in
theorem rewP_err (S : ByteArray) (x : Sh) (w : World) (hs : S.size ≤ 1000000) (h0 : (dec8 S).1 ≠ 0) :
   Calls Tryz.prog 6 #[.string S, xv x] w fun e w' => e = .returned (rwV S x) ∧ Below w.heap.size w w' := by
 have HV : Hid (rwV S x = .tuple #[.string ⟨#[]⟩, .int .i64 ((dec8 S).1 : Int)]) := Lib.hid (if_neg h0)
 have HD := Lib.hid (fun W => PktDecP.decP8 S W hs)
 have B0 := Lib.hid (st_alloc (Below.refl _ w) (.cells (xc x) 32))
 unfold DecOut8 at HD
 generalize (dec8 S).1 = n at HD HV h0
 generalize (dec8 S).2 = s at HD
 have q1 : ((n : Int) != 0) = true := bne_iff_ne.2 (by omega)
 go_enter Tryz.func6, Tryz.ntmps6
 go_wp2_with fail
 refine (HD.out _).mono ?_
 rintro e wA ⟨⟨A, c, rfl, hrow⟩, hb⟩
 have BA := Lib.hid (st_alloc (st_call B0.out hb) (.cells (sc s A c) 30))
 clear hrow hb
 go_wp2_with fail
 go_ret2
 exact ⟨by rw [HV.out]; rfl, BA.out⟩
end Go.Proofs.YtpmnmnflaijaaaaGreat.PktRw
namespace Go.Proofs.YtpmnmnflaijaaaaGreat.PktRwS
open Go.Proofs.YtpmnmnflaijaaaaGreat.Own
open Cells (CellsAt Apart)
open Go.RowKit Go.Shelf TupMath SumMath Litb Rel IpMath IpRef Num OptMath OptPU PktMath PktVal PktKp PktAl PktLay PktRwM PktRw
set_option linter.unusedVariables false
set_option maxRecDepth 100000
abbrev fal (a b : Nat) : Value := .func (.func 47) #[] #[.pointer (some ⟨a, 0, none⟩), .pointer (some ⟨b, 0, none⟩)]
abbrev fbo (B : Nat) : Value := .func (.func 20) #[] #[.pointer (some ⟨B + 1 + 1 + 1 + 1 + 1, 0, none⟩), .pointer (some ⟨B + 1 + 1 + 1 + 1 + 1 + 1, 0, none⟩)]
structure St (w W : World) (g B n cap : Nat) (s2 : Sg) (A2 : Option Addr) (cp2 : Nat) (c : List Nat) : Prop where
 held : Held8 W B c
 k1 : CellsAt W (B + 1) #[.slice (some ⟨B, 0, none⟩) n cap]
 k2 : CellsAt W (B + 1 + 1) #[.int .i64 10]
 k3 : CellsAt W (B + 1 + 1 + 1) #[.slice (some ⟨B, 0, none⟩) n cap]
 k4 : CellsAt W (B + 1 + 1 + 1 + 1) #[.int .i64 36]
 k5 : CellsAt W (B + 1 + 1 + 1 + 1 + 1) #[fal (B + 1) (B + 1 + 1)]
 k6 : CellsAt W (B + 1 + 1 + 1 + 1 + 1 + 1) #[fal (B + 1 + 1 + 1) (B + 1 + 1 + 1 + 1)]
 seg : CellsAt W g (sc s2 A2 cp2)
 below : Below w.heap.size w W
 len : n = c.length
 le : ∀ z ∈ c, z ≤ 255
 hcap : n ≤ cap
 lo : 40 ≤ n
 hi : n ≤ 1000000
 ne : g ≠ B
 base : w.heap.size ≤ B
theorem St.kept {w W W' : World} {g B n cap : Nat} {s2 : Sg} {A2 : Option Addr} {cp2 : Nat} {c c' : List Nat} (h : St w W g B n cap s2 A2 cp2 c) (hK : Kept B W W') (hH : Held8 W' B c') (hl : c'.length = c.length) (hc : ∀ z ∈ c', z ≤ 255) : St w W' g B n cap s2 A2 cp2 c' :=
 { held := hH, k1 := hK.cells h.k1 (by omega), k2 := hK.cells h.k2 (by omega), k3 := hK.cells h.k3 (by omega), k4 := hK.cells h.k4 (by omega), k5 := hK.cells h.k5 (by omega), k6 := hK.cells h.k6 (by omega), seg := hK.cells h.seg h.ne,
   below := h.below.trans (hK.below.mono h.base), len := h.len.trans hl.symm, le := hc, hcap := h.hcap, lo := h.lo, hi := h.hi, ne := h.ne, base := h.base }
theorem St.more {w W W' : World} {g B n cap : Nat} {s2 : Sg} {A2 : Option Addr} {cp2 : Nat} {c : List Nat} (h : St w W g B n cap s2 A2 cp2 c) (hb : Below W.heap.size W W') : St w W' g B n cap s2 A2 cp2 c :=
 h.kept (Kept.of_below hb (Nat.le_of_lt h.held.1)) (held_more h.held hb) rfl h.le
def oneL (c : List Nat) (i : Nat) (y : List Nat) : List Nat := alongL (putL c i y) 36 ((c.drop i).take y.length) y
def twoL (c : List Nat) (y : List Nat) : List Nat := alongL (alongL (putL c 12 y) 10 ((c.drop 12).take y.length) y) 36 ((c.drop 12).take y.length) y
theorem oneL_len {c : List Nat} {i : Nat} {y : List Nat} (h : i + y.length ≤ c.length) (h36 : 38 ≤ c.length) : (oneL c i y).length = c.length := by
 have p1 : (putL c i y).length = c.length := putL_len h
 unfold oneL
 rw [alongL_len (by omega), p1]
theorem twoL_len {c y : List Nat} (h : 12 + y.length ≤ c.length) (h36 : 38 ≤ c.length) : (twoL c y).length = c.length := by
 have p1 : (putL c 12 y).length = c.length := putL_len h
 unfold twoL
 rw [alongL_len (by rw [alongL_len (by omega)]; omega), alongL_len (by omega), p1]
theorem oneL_le {c y : List Nat} (hc : ∀ z ∈ c, z ≤ 255) (hy : ∀ z ∈ y, z ≤ 255) (i : Nat) : ∀ z ∈ oneL c i y, z ≤ 255 := alongL_le (putL_le hc hy i) _ _ _
theorem twoL_le {c y : List Nat} (hc : ∀ z ∈ c, z ≤ 255) (hy : ∀ z ∈ y, z ≤ 255) : ∀ z ∈ twoL c y, z ≤ 255 := alongL_le (alongL_le (putL_le hc hy 12) _ _ _) _ _ _
theorem lay32two (a b : Nat) (w : World) (B : Nat) (hB : w.heap.size = B) (ha : a ≤ 4294967295) (hb : b ≤ 4294967295) : Calls Tryz.prog 51 #[.slice (some ⟨B, 0, none⟩) 2 2] (w.alloc (.cells #[.int .u32 (a : Int), .int .u32 (b : Int)] 22)) fun e w' => e = .returned (.string (ofB (w4 a ++ w4 b))) ∧ Below (w.alloc (.cells #[.int .u32 (a : Int), .int .u32 (b : Int)] 22)).heap.size (w.alloc (.cells #[.int .u32 (a : Int), .int .u32 (b : Int)] 22)) w' := by
 subst hB
 have h := layH32 (HoldK.new .u32 w [a, b] 22) (by simp) (by simp) (by intro x hx; simp at hx; omega)
 have e : w4s [a, b] = w4 a ++ w4 b := by show w4 a ++ (w4 b ++ []) = _; rw [List.append_nil]
 rw [e] at h
 exact h
theorem lay16two (a b : Nat) (w : World) (B : Nat) (hB : w.heap.size = B) (ha : a ≤ 65535) (hb : b ≤ 65535) : Calls Tryz.prog 49 #[.slice (some ⟨B, 0, none⟩) 2 2] (w.alloc (.cells #[.int .u16 (a : Int), .int .u16 (b : Int)] 23)) fun e w' => e = .returned (.string (ofB (w2 a ++ w2 b))) ∧ Below (w.alloc (.cells #[.int .u16 (a : Int), .int .u16 (b : Int)] 23)).heap.size (w.alloc (.cells #[.int .u16 (a : Int), .int .u16 (b : Int)] 23)) w' := by
 subst hB
 have h := layH16 (HoldK.new .u16 w [a, b] 23) (by simp) (by simp) (by intro x hx; simp at hx; omega)
 have e : w2s [a, b] = w2 a ++ w2 b := by show w2 a ++ (w2 b ++ []) = _; rw [List.append_nil]
 rw [e] at h
 exact h
theorem lay16one (a : Nat) (w : World) (B : Nat) (hB : w.heap.size = B) (ha : a ≤ 65535) : Calls Tryz.prog 49 #[.slice (some ⟨B, 0, none⟩) 1 1] (w.alloc (.cells #[.int .u16 (a : Int)] 23)) fun e w' => e = .returned (.string (ofB (w2 a))) ∧ Below (w.alloc (.cells #[.int .u16 (a : Int)] 23)).heap.size (w.alloc (.cells #[.int .u16 (a : Int)] 23)) w' := by
 subst hB
 have h := layH16 (HoldK.new .u16 w [a] 23) (by simp) (by simp) (by intro x hx; simp at hx; omega)
 have e : w2s [a] = w2 a := by show w2 a ++ [] = _; rw [List.append_nil]
 rw [e] at h
 exact h
section
variable {w W : World} {g B n cap : Nat} {s2 : Sg} {A2 : Option Addr} {cp2 : Nat} {c : List Nat}
theorem stB32 (st : St w W g B n cap s2 A2 cp2 c) (a b : Nat) (Bn : Nat) (hBn : W.heap.size = Bn) (ha : a ≤ 4294967295) (hb : b ≤ 4294967295) :
   Calls Tryz.prog 21 #[.slice (some ⟨B, 0, none⟩) n cap, .int .i64 12, fbo B, .slice (some ⟨Bn, 0, none⟩) 2 2] (W.alloc (.cells #[.int .u32 (a : Int), .int .u32 (b : Int)] 22))
     fun e w' => e = .returned (.tuple #[]) ∧ St w w' g B n cap s2 A2 cp2 (twoL c (w4 a ++ w4 b)) := by
 have hbz : bz (ofB (w4 a ++ w4 b)) = w4 a ++ w4 b := bz_ofB (app_le (w4_le2 ha) (w4_le2 hb))
 have hzs : (ofB (w4 a ++ w4 b)).size = 8 := by rw [ofB_size]; rfl
 have s1 := st.more (st_alloc (Below.refl _ W) (.cells #[.int .u32 (a : Int), .int .u32 (b : Int)] 22))
 have := st.lo; have := st.hcap
 have hl := st.len
 refine (layB32 B _ _ _ _ _ _ 12 10 36 n cap c _ (ofB (w4 a ++ w4 b)) _ (lay32two a b W Bn hBn ha hb) s1.held s1.k5 s1.k6 s1.k1 s1.k2 s1.k3 s1.k4 (by omega) st.len st.hcap (by omega) (by omega) (by omega) st.hi st.le ⟨by omega, by omega, by omega, by omega, by omega, by omega⟩).mono ?_
 rintro e w' ⟨he, hH, hK⟩
 rw [hbz, hzs] at hH
 exact ⟨he, s1.kept hK hH (twoL_len (by show 12 + 8 ≤ _; omega) (by omega)) (twoL_le st.le (app_le (w4_le2 ha) (w4_le2 hb)))⟩
theorem stS32 (st : St w W g B n cap s2 A2 cp2 c) (a b : Nat) (Bn : Nat) (hBn : W.heap.size = Bn) (ha : a ≤ 4294967295) (hb : b ≤ 4294967295) :
   Calls Tryz.prog 21 #[.slice (some ⟨B, 0, none⟩) n cap, .int .i64 24, fal (B + 1 + 1 + 1) (B + 1 + 1 + 1 + 1), .slice (some ⟨Bn, 0, none⟩) 2 2] (W.alloc (.cells #[.int .u32 (a : Int), .int .u32 (b : Int)] 22))
     fun e w' => e = .returned (.tuple #[]) ∧ St w w' g B n cap s2 A2 cp2 (oneL c 24 (w4 a ++ w4 b)) := by
 have hbz : bz (ofB (w4 a ++ w4 b)) = w4 a ++ w4 b := bz_ofB (app_le (w4_le2 ha) (w4_le2 hb))
 have hzs : (ofB (w4 a ++ w4 b)).size = 8 := by rw [ofB_size]; rfl
 have s1 := st.more (st_alloc (Below.refl _ W) (.cells #[.int .u32 (a : Int), .int .u32 (b : Int)] 22))
 have := st.lo; have := st.hcap
 have hl := st.len
 refine (layS32 B _ _ 24 36 n cap c _ (ofB (w4 a ++ w4 b)) _ (lay32two a b W Bn hBn ha hb) s1.held s1.k3 s1.k4 st.len st.hcap (by omega) (by omega) (by omega) st.hi st.le ⟨by omega, by omega⟩).mono ?_
 rintro e w' ⟨he, hH, hK⟩
 rw [hbz, hzs] at hH
 exact ⟨he, s1.kept hK hH (oneL_len (by show 24 + 8 ≤ _; omega) (by omega)) (oneL_le st.le (app_le (w4_le2 ha) (w4_le2 hb)) 24)⟩
theorem stS16 (st : St w W g B n cap s2 A2 cp2 c) (a b : Nat) (Bn : Nat) (hBn : W.heap.size = Bn) (ha : a ≤ 65535) (hb : b ≤ 65535) :
   Calls Tryz.prog 22 #[.slice (some ⟨B, 0, none⟩) n cap, .int .i64 20, fal (B + 1 + 1 + 1) (B + 1 + 1 + 1 + 1), .slice (some ⟨Bn, 0, none⟩) 2 2] (W.alloc (.cells #[.int .u16 (a : Int), .int .u16 (b : Int)] 23))
     fun e w' => e = .returned (.tuple #[]) ∧ St w w' g B n cap s2 A2 cp2 (oneL c 20 (w2 a ++ w2 b)) := by
 have hbz : bz (ofB (w2 a ++ w2 b)) = w2 a ++ w2 b := bz_ofB (app_le (w2_le2 ha) (w2_le2 hb))
 have hzs : (ofB (w2 a ++ w2 b)).size = 4 := by rw [ofB_size]; rfl
 have s1 := st.more (st_alloc (Below.refl _ W) (.cells #[.int .u16 (a : Int), .int .u16 (b : Int)] 23))
 have := st.lo; have := st.hcap
 have hl := st.len
 refine (layS16 B _ _ 20 36 n cap c _ (ofB (w2 a ++ w2 b)) _ (lay16two a b W Bn hBn ha hb) s1.held s1.k3 s1.k4 st.len st.hcap (by omega) (by omega) (by omega) st.hi st.le ⟨by omega, by omega⟩).mono ?_
 rintro e w' ⟨he, hH, hK⟩
 rw [hbz, hzs] at hH
 exact ⟨he, s1.kept hK hH (oneL_len (by show 20 + 4 ≤ _; omega) (by omega)) (oneL_le st.le (app_le (w2_le2 ha) (w2_le2 hb)) 20)⟩
theorem stS16o (st : St w W g B n cap s2 A2 cp2 c) (a : Nat) (Bn : Nat) (hBn : W.heap.size = Bn) (ha : a ≤ 65535) :
   Calls Tryz.prog 22 #[.slice (some ⟨B, 0, none⟩) n cap, .int .i64 34, fal (B + 1 + 1 + 1) (B + 1 + 1 + 1 + 1), .slice (some ⟨Bn, 0, none⟩) 1 1] (W.alloc (.cells #[.int .u16 (a : Int)] 23))
     fun e w' => e = .returned (.tuple #[]) ∧ St w w' g B n cap s2 A2 cp2 (oneL c 34 (w2 a)) := by
 have hbz : bz (ofB (w2 a)) = w2 a := bz_ofB (w2_le2 ha)
 have hzs : (ofB (w2 a)).size = 2 := by rw [ofB_size]; rfl
 have s1 := st.more (st_alloc (Below.refl _ W) (.cells #[.int .u16 (a : Int)] 23))
 have := st.lo; have := st.hcap
 have hl := st.len
 refine (layS16 B _ _ 34 36 n cap c _ (ofB (w2 a)) _ (lay16one a W Bn hBn ha) s1.held s1.k3 s1.k4 st.len st.hcap (by omega) (by omega) (by omega) st.hi st.le ⟨by omega, by omega⟩).mono ?_
 rintro e w' ⟨he, hH, hK⟩
 rw [hbz, hzs] at hH
 exact ⟨he, s1.kept hK hH (oneL_len (by show 34 + 2 ≤ _; omega) (by omega)) (oneL_le st.le (w2_le2 ha) 34)⟩
theorem stS8 (st : St w W g B n cap s2 A2 cp2 c) (z : ByteArray) (Bn dc : Nat) (hz : Held8 W Bn (bz z)) (hz40 : z.size ≤ 40) (hfit : 40 + z.size ≤ n) :
   Calls Tryz.prog 23 #[.slice (some ⟨B, 0, none⟩) n cap, .int .i64 40, fal (B + 1 + 1 + 1) (B + 1 + 1 + 1 + 1), .slice (some ⟨Bn, 0, none⟩) z.size dc] W
     fun e w' => e = .returned (.tuple #[]) ∧ St w w' g B n cap s2 A2 cp2 (oneL c 40 (bz z)) := by
 have := st.lo; have := st.hcap
 have hl := st.len
 have fin : ∀ e w', (e = Ending.returned (.tuple #[]) ∧ Held8 w' B (alongL (putL c 40 (bz z)) 36 ((c.drop 40).take z.size) (bz z)) ∧ Kept B W w') → e = Ending.returned (.tuple #[]) ∧ St w w' g B n cap s2 A2 cp2 (oneL c 40 (bz z)) := by
   rintro e w' ⟨he, hH, hK⟩
   have e8 : oneL c 40 (bz z) = alongL (putL c 40 (bz z)) 36 ((c.drop 40).take z.size) (bz z) := by unfold oneL; rw [bz_len]
   rw [e8]
   exact ⟨he, st.kept hK hH (by rw [← e8]; exact oneL_len (by rw [bz_len]; omega) (by omega)) (by rw [← e8]; exact oneL_le st.le (bz_le z) 40)⟩
 by_cases h0 : z.size = 0
 · have hz0 : z = ⟨#[]⟩ := by
     have hl : z.data.size = 0 := h0
     obtain ⟨d⟩ := z
     simp only [Array.size_eq_zero_iff] at hl
     rw [hl]
   have hL : Calls Tryz.prog 52 #[.slice (some ⟨Bn, 0, none⟩) z.size dc] W fun e w' => e = .returned (.string z) ∧ Below W.heap.size W w' := by rw [hz0]; exact lay8none Bn dc W
   by_cases hc : cap = 40
   · exact (layS8e B _ _ 40 36 n cap c _ z W hL st.held st.k3 st.k4 st.len st.hcap hfit hc h0 (by omega) st.hi st.le ⟨by omega, by omega⟩).mono fin
   · exact (layS8 B _ _ 40 36 n cap c _ z W hL st.held st.k3 st.k4 st.len st.hcap hfit hc (by omega) st.hi st.le ⟨by omega, by omega⟩).mono fin
 · have hL := lay8 Bn dc (bz z) W hz.1 (fun j x hx => (hz.2 j x hx).1) (by rw [bz_len]; omega) (by rw [bz_len]; omega) (bz_le z)
   have ew : ofB (w1s (bz z)) = z := by show ofB (bz z) = z; exact bz_inj (bz_ofB (bz_le z))
   rw [bz_len, ew] at hL
   exact (layS8 B _ _ 40 36 n cap c _ z W hL st.held st.k3 st.k4 st.len st.hcap hfit (by omega) (by omega) st.hi st.le ⟨by omega, by omega⟩).mono fin
end
section
variable {h0 ad po sa fl wi ur op dd : List Nat} {c k : Nat} (p : Pcs h0 ad po sa fl wi ur)
include p
theorem shp1 (hc : c ≤ 65535) (hk : k ≤ 65535) (y : List Nat) (hy : y.length = 8) : twoL (shp h0 c ad po sa fl wi k ur op dd) y = shp h0 (tur c ad y) y po sa fl wi (tur k ad y) ur op dd := by
 have q : Pcs h0 y po sa fl wi ur := ⟨p.h0, hy, p.po, p.sa, p.fl, p.wi, p.ur⟩
 unfold twoL
 rw [hy, (shp_ad p y hy).1, (shp_ad p y hy).2, shp_c q hc, shp_k q hk]
theorem shp2 (hk : k ≤ 65535) (y : List Nat) (hy : y.length = 4) : oneL (shp h0 c ad po sa fl wi k ur op dd) 20 y = shp h0 c ad y sa fl wi (tur k po y) ur op dd := by
 have q : Pcs h0 ad y sa fl wi ur := ⟨p.h0, p.ad, hy, p.sa, p.fl, p.wi, p.ur⟩
 unfold oneL
 rw [hy, (shp_po p y hy).1, (shp_po p y hy).2, shp_k q hk]
theorem shp3 (hk : k ≤ 65535) (y : List Nat) (hy : y.length = 8) : oneL (shp h0 c ad po sa fl wi k ur op dd) 24 y = shp h0 c ad po y fl wi (tur k sa y) ur op dd := by
 have q : Pcs h0 ad po y fl wi ur := ⟨p.h0, p.ad, p.po, hy, p.fl, p.wi, p.ur⟩
 unfold oneL
 rw [hy, (shp_sa p y hy).1, (shp_sa p y hy).2, shp_k q hk]
theorem shp4 (hk : k ≤ 65535) (y : List Nat) (hy : y.length = 2) : oneL (shp h0 c ad po sa fl wi k ur op dd) 34 y = shp h0 c ad po sa fl y (tur k wi y) ur op dd := by
 have q : Pcs h0 ad po sa fl y ur := ⟨p.h0, p.ad, p.po, p.sa, p.fl, hy, p.ur⟩
 unfold oneL
 rw [hy, (shp_wi p y hy).1, (shp_wi p y hy).2, shp_k q hk]
theorem shp5 (hk : k ≤ 65535) (y : List Nat) (hy : y.length = op.length) : oneL (shp h0 c ad po sa fl wi k ur op dd) 40 y = shp h0 c ad po sa fl wi (tur k op y) ur y dd := by
 unfold oneL
 rw [(shp_op p y y.length hy hy).1, (shp_op p y y.length hy hy).2, shp_k p hk]
end
end Go.Proofs.YtpmnmnflaijaaaaGreat.PktRwS
namespace Go.Proofs.YtpmnmnflaijaaaaGreat.PktRw
open Go.Proofs.YtpmnmnflaijaaaaGreat.Own
open Cells (CellsAt Apart put_lit)
open Go.RowKit Go.Shelf TupMath SumMath Litb Calm Rel RelT IpMath IpHead IpRef IpDec TcpMath TcpRef TcpDec Num OptMath OptSame OptTake5 OptTk OptTurn OptPU PktMath PktVal PktCom PktDecC PktOp Pkt16 PktKp PktAl PktLay PktRwM PktBox PktRwS
set_option linter.unusedVariables false
set_option linter.unusedSimpArgs false
set_option maxRecDepth 100000
attribute [local go_sem] Oper.semAt_some
set_option maxHeartbeats 16000000 in
theorem rewP_ok (S : ByteArray) (x : Sh) (w : World) (hs : S.size ≤ 1000000) (xk : x.ok) (u1 : -9223372036854775808 ≤ x.up) (u2 : x.up ≤ 9223372036854775807) (v1 : -9223372036854775808 ≤ x.down) (v2 : x.down ≤ 9223372036854775807) (h0 : (dec8 S).1 = 0) :
   Calls Tryz.prog 6 #[.string S, xv x] w fun e w' => e = .returned (rwV S x) ∧ Below w.heap.size w w' := by
 have HV : Hid (rwV S x = .tuple #[.string (ofB (rewS S x)), .int .i64 0]) := Lib.hid (if_pos h0)
 obtain ⟨ck, kk, r, hdec⟩ := dec_rd h0
 generalize rd (bz S) = h at r hdec
 generalize trd (ld S) = t at r hdec
 generalize (dec7 (bz t.opts)).2 = o at r hdec
 generalize dt S = d at r hdec
 have hsz := r.size
 have hmost := r.tmay.most
 have hfew := r.few
 have HD := Lib.hid (fun W => PktDecP.decP8 S W hs)
 unfold DecOut8 at HD
 rw [hdec] at HD
 simp only at HD
 have sok : (sgOf h t o d).ok := rd_sok r
 have hbl : o.blocks.length ≤ 40 := rd_few r
 obtain ⟨p0, pad, ppo, psa, pfl, pwi, pur, pop, pdd, hp, hS, lop, ldd, lot, hext, hrew⟩ := rew_pcs r xk
 have hle := shp_le r xk
 have HRW := Lib.hid hrew
 have HLE := Lib.hid hle
 have hto : turnV x.ack x.val x.echo (bz t.opts) = .tuple #[.string (ofB (turnS x.ack x.val x.echo (bz t.opts))), .int .i64 0] := if_pos (by rw [r.opts])
 have TU := Lib.hid (fun W => OptP.turnP7 t.opts x.ack x.val x.echo W (by omega) xk.ack xk.val xk.echo)
 rw [hto] at TU
 obtain ⟨s, hse⟩ : ∃ s, sgOf h t o d = s := ⟨_, rfl⟩
 have es : s.data = d := by rw [← hse]; rfl
 rw [hse] at HD sok
 have TD := Lib.hid (fun W (A : Option Addr) (c : Nat) (hB : BlkR W A s.opts.blocks) => PktTdP.turnedP8 s A c x W hB sok (by rw [← hse]; show o.blocks.length ≤ 1000; omega) (by rw [es]; omega) xk u1 u2 v1 v2)
 obtain ⟨s2, hs2⟩ : ∃ s2, turned s x = s2 := ⟨_, rfl⟩
 rw [hs2] at TD
 have HS2 : Hid (s2.sip = x.sip ∧ s2.sport = x.sport ∧ s2.dip = x.dip ∧ s2.dport = x.dport ∧ s2.seq = (t.seq + x.seq) % 4294967296 ∧ s2.ack = ackT t.flags t.ack x.ack ∧ s2.win = winT t.win x.up x.down) := Lib.hid (by rw [← hs2, ← hse]; exact ⟨rfl, rfl, rfl, rfl, rfl, rfl, rfl⟩)
 have k16 := r.k16
 have c16 := r.c16
 have sok2 : s2.ok := by rw [← hs2]; exact turned_ok sok xk
 have HP := Lib.hid hp
 have HS := Lib.hid hS
 have HDS : Hid (s.data.size = d.size) := Lib.hid (by rw [es])
 have HT1 : Hid (turnS x.ack x.val x.echo (bz t.opts) = turnS x.ack x.val x.echo (bz t.opts)) := Lib.hid rfl
 rw [← es] at hext
 clear hp hS hrew hle hto r hdec h0 hse hs2 es
 have B0 := st_alloc (Below.refl _ w) (.cells (xc x) 32)
 have X0 := CellsAt.new w (xc x) 32
 go_enter Tryz.func6, Tryz.ntmps6
 go_wp2_with fail
 refine (HD.out _).mono ?_
 rintro e wA ⟨⟨A, c, rfl, hrow⟩, hb⟩
 have XA := (X0.later hb).later ((Below.refl _ wA).alloc (Nat.le_refl _) (.cells (sc s A c) 30))
 have SA := CellsAt.new wA (sc s A c) 30
 have BA := st_alloc (st_call B0 hb) (.cells (sc s A c) 30)
 have RA := hrow.blk.more ((Below.refl _ wA).alloc (Nat.le_refl _) (.cells (sc s A c) 30))
 have lA : w.heap.size < wA.heap.size := (X0.later hb).lt
 go_wp2_with fail
 obtain ⟨g, hg⟩ : ∃ g, wA.heap.size = g := ⟨_, rfl⟩
 obtain ⟨W1, hW1⟩ : ∃ W1, (wA.alloc (.cells (sc s A c) 30)) = W1 := ⟨_, rfl⟩
 rw [hW1] at XA SA BA RA ⊢
 rw [hg] at SA lA ⊢
 have HXA := Lib.hid XA
 have HSA := Lib.hid SA
 have HBA := Lib.hid BA
 have HRA := Lib.hid RA
 clear XA SA BA RA B0 X0 hb hrow hW1 hg HD wA
 have y15 : ∀ i : Later W1.heap.size W1, i.w.cell? ⟨g, 15, none⟩ = some (.string s.data) := fun i => (HSA.out.later i.h).cell 15 _ rfl
 have y5 : ∀ i : Later W1.heap.size W1, i.w.cell? ⟨w.heap.size, 5, none⟩ = some (.int .u32 (x.ack : Int)) := fun i => (HXA.out.later i.h).cell 5 _ rfl
 have y6 : ∀ i : Later W1.heap.size W1, i.w.cell? ⟨w.heap.size, 6, none⟩ = some (.int .u32 (x.val : Int)) := fun i => (HXA.out.later i.h).cell 6 _ rfl
 have y7 : ∀ i : Later W1.heap.size W1, i.w.cell? ⟨w.heap.size, 7, none⟩ = some (.int .u32 (x.echo : Int)) := fun i => (HXA.out.later i.h).cell 7 _ rfl
 have hds := HDS.out
 have j1 : IntKind.i64.wrap ((S.size : Int) - (s.data.size : Int)) = (S.size : Int) - (s.data.size : Int) := by rw [IntKind.wrap_i64]; omega
 have j2 : ((S.size : Int) - (s.data.size : Int)).toNat = S.size - s.data.size := by omega
 have j3 : 0 ≤ (S.size : Int) - (s.data.size : Int) := by omega
 have j4 : (40 : Int) ≤ (S.size : Int) - (s.data.size : Int) := by omega
 have j5 : (S.size : Int) - (s.data.size : Int) ≤ (S.size : Int) := by omega
 have j6 : S.size ≤ 9223372036854775807 := by omega
 have j7 : s.data.size ≤ 9223372036854775807 := by omega
 obtain ⟨ot, hot⟩ : ∃ ot, ofB (turnS x.ack x.val x.echo (bz t.opts)) = ot := ⟨_, rfl⟩
 rw [hot] at TU
 have KT := Lib.hid (fun i : Later W1.heap.size W1 => TU.out i.w)
 have HOT := Lib.hid hot
 have HSZ := Lib.hid hsz
 clear hot hds hsz
 refine wp_region_later (n := W1.heap.size) W1 (Below.refl _ _) (by kernel_rfl) (by kernel_rfl) ?_
 repeat (first | go_big_quiet_step ((go_at_call 18; exact later_calls (Nat.le_refl _) _ (KT.out _))) | go_big_quiet_step (fail))
 refine wpQuiet_nil ?_
 rintro W ⟨⟨wj, hj⟩, rfl⟩
 have HXB := Lib.hid (HXA.out.later hj)
 have HSB := Lib.hid (HSA.out.later hj)
 have HBB := Lib.hid (st_call HBA.out hj)
 have HRB := Lib.hid (HRA.out.more hj)
 clear hj y5 y6 y7 y15 HXA HSA HBA HRA KT TU j1 j2 j3 j4 j5 hext
 go_upto_region 5 with fail
 refine wp_region_lit ?_
 refine wpList_load_mid rfl 30 _ rfl g 0 rfl (sc s A c).toList _ (rangeAt HSB.out 0 _ (fun j v hv => by rw [Nat.zero_add]; simpa using hv)) Tryz.underlying30 rfl (by kernel_rfl) ?_
 refine wpList_load_mid rfl 32 _ rfl w.heap.size 0 rfl (xc x).toList _ (rangeAt HXB.out 0 _ (fun j v hv => by rw [Nat.zero_add]; simpa using hv)) Tryz.underlying32 rfl (by kernel_rfl) ?_
 go_wp2_with fail
 refine (TD.out _ A c HRB.out).mono ?_
 rintro e wC ⟨⟨A2, cp2, rfl, -⟩, hb⟩
 have HSC := Lib.hid (HSB.out.later hb)
 have HBC := Lib.hid (st_call HBB.out hb)
 have lC := HSC.out.lt
 clear hb HSB HXB HBB HRB TD
 simp only []
 rename_i hK
 refine hK _ _ ?_
 obtain ⟨c9, hA9, hb9⟩ := box_written HSC.out (sc s2 A2 cp2).toList rfl
 refine wpList_store_mid rfl 30 _ _ rfl g 0 (sc s2 A2 cp2) rfl rfl (there HSC.out 0 _ (Nat.le_refl _)) (by kernel_rfl) (by simp [Value.oneCell']) ?_
 obtain ⟨W9, hW9⟩ : ∃ W9, wC.setCells g 0 (sc s2 A2 cp2).toList = W9 := ⟨_, rfl⟩
 rw [hW9] at c9 hA9 hb9 ⊢
 have hC9 : CellsAt W9 g (sc s2 A2 cp2) := c9
 obtain ⟨B, hB⟩ : ∃ B, W9.heap.size = B := ⟨_, rfl⟩
 obtain ⟨cap, w10, hbc, hH10, hz10, hb10, hcap⟩ := bytes_held S W9 B hB
 have lg : g < B := by rw [← hB]; exact hC9.lt
 have HC10 := Lib.hid (hC9.later hb10)
 have HB10 := Lib.hid (st_call (HBC.out.trans (hb9.mono (Nat.le_of_lt lA))) hb10)
 have HH10 := Lib.hid hH10
 clear hC9 c9 hA9 hb9 hb10 hH10 hW9
 go_wp2_with fail
 clear hbc
 refine (alongN B S.size cap 10 w10).mono ?_
 rintro e w' ⟨rfl, rfl⟩
 go_wp2_with fail
 refine (alongN B S.size cap 36 _).mono ?_
 rintro e w' ⟨rfl, rfl⟩
 go_upto_region 9 with fail
 have C1 := ((((((CellsAt.new w10 #[.slice (some ⟨B, 0, none⟩) S.size cap] 50).later ((Below.refl _ (w10.alloc (.cells #[.slice (some ⟨B, 0, none⟩) S.size cap] 50))).alloc (Nat.le_refl _) (.cells #[.int .i64 10] 3))).later ((Below.refl _ ((w10.alloc (.cells #[.slice (some ⟨B, 0, none⟩) S.size cap] 50)).alloc (.cells #[.int .i64 10] 3))).alloc (Nat.le_refl _) (.cells #[.slice (some ⟨B, 0, none⟩) S.size cap] 50))).later ((Below.refl _ (((w10.alloc (.cells #[.slice (some ⟨B, 0, none⟩) S.size cap] 50)).alloc (.cells #[.int .i64 10] 3)).alloc (.cells #[.slice (some ⟨B, 0, none⟩) S.size cap] 50))).alloc (Nat.le_refl _) (.cells #[.int .i64 36] 3))).later ((Below.refl _ ((((w10.alloc (.cells #[.slice (some ⟨B, 0, none⟩) S.size cap] 50)).alloc (.cells #[.int .i64 10] 3)).alloc (.cells #[.slice (some ⟨B, 0, none⟩) S.size cap] 50)).alloc (.cells #[.int .i64 36] 3))).alloc (Nat.le_refl _) (.cells #[fal (B + 1) (B + 1 + 1)] 51))).later ((Below.refl _ (((((w10.alloc (.cells #[.slice (some ⟨B, 0, none⟩) S.size cap] 50)).alloc (.cells #[.int .i64 10] 3)).alloc (.cells #[.slice (some ⟨B, 0, none⟩) S.size cap] 50)).alloc (.cells #[.int .i64 36] 3)).alloc (.cells #[fal (B + 1) (B + 1 + 1)] 51))).alloc (Nat.le_refl _) (.cells #[fal (B + 1 + 1 + 1) (B + 1 + 1 + 1 + 1)] 51)))
 have C2 := (((((CellsAt.new (w10.alloc (.cells #[.slice (some ⟨B, 0, none⟩) S.size cap] 50)) #[.int .i64 10] 3).later ((Below.refl _ ((w10.alloc (.cells #[.slice (some ⟨B, 0, none⟩) S.size cap] 50)).alloc (.cells #[.int .i64 10] 3))).alloc (Nat.le_refl _) (.cells #[.slice (some ⟨B, 0, none⟩) S.size cap] 50))).later ((Below.refl _ (((w10.alloc (.cells #[.slice (some ⟨B, 0, none⟩) S.size cap] 50)).alloc (.cells #[.int .i64 10] 3)).alloc (.cells #[.slice (some ⟨B, 0, none⟩) S.size cap] 50))).alloc (Nat.le_refl _) (.cells #[.int .i64 36] 3))).later ((Below.refl _ ((((w10.alloc (.cells #[.slice (some ⟨B, 0, none⟩) S.size cap] 50)).alloc (.cells #[.int .i64 10] 3)).alloc (.cells #[.slice (some ⟨B, 0, none⟩) S.size cap] 50)).alloc (.cells #[.int .i64 36] 3))).alloc (Nat.le_refl _) (.cells #[fal (B + 1) (B + 1 + 1)] 51))).later ((Below.refl _ (((((w10.alloc (.cells #[.slice (some ⟨B, 0, none⟩) S.size cap] 50)).alloc (.cells #[.int .i64 10] 3)).alloc (.cells #[.slice (some ⟨B, 0, none⟩) S.size cap] 50)).alloc (.cells #[.int .i64 36] 3)).alloc (.cells #[fal (B + 1) (B + 1 + 1)] 51))).alloc (Nat.le_refl _) (.cells #[fal (B + 1 + 1 + 1) (B + 1 + 1 + 1 + 1)] 51)))
 have C3 := ((((CellsAt.new ((w10.alloc (.cells #[.slice (some ⟨B, 0, none⟩) S.size cap] 50)).alloc (.cells #[.int .i64 10] 3)) #[.slice (some ⟨B, 0, none⟩) S.size cap] 50).later ((Below.refl _ (((w10.alloc (.cells #[.slice (some ⟨B, 0, none⟩) S.size cap] 50)).alloc (.cells #[.int .i64 10] 3)).alloc (.cells #[.slice (some ⟨B, 0, none⟩) S.size cap] 50))).alloc (Nat.le_refl _) (.cells #[.int .i64 36] 3))).later ((Below.refl _ ((((w10.alloc (.cells #[.slice (some ⟨B, 0, none⟩) S.size cap] 50)).alloc (.cells #[.int .i64 10] 3)).alloc (.cells #[.slice (some ⟨B, 0, none⟩) S.size cap] 50)).alloc (.cells #[.int .i64 36] 3))).alloc (Nat.le_refl _) (.cells #[fal (B + 1) (B + 1 + 1)] 51))).later ((Below.refl _ (((((w10.alloc (.cells #[.slice (some ⟨B, 0, none⟩) S.size cap] 50)).alloc (.cells #[.int .i64 10] 3)).alloc (.cells #[.slice (some ⟨B, 0, none⟩) S.size cap] 50)).alloc (.cells #[.int .i64 36] 3)).alloc (.cells #[fal (B + 1) (B + 1 + 1)] 51))).alloc (Nat.le_refl _) (.cells #[fal (B + 1 + 1 + 1) (B + 1 + 1 + 1 + 1)] 51)))
 have C4 := (((CellsAt.new (((w10.alloc (.cells #[.slice (some ⟨B, 0, none⟩) S.size cap] 50)).alloc (.cells #[.int .i64 10] 3)).alloc (.cells #[.slice (some ⟨B, 0, none⟩) S.size cap] 50)) #[.int .i64 36] 3).later ((Below.refl _ ((((w10.alloc (.cells #[.slice (some ⟨B, 0, none⟩) S.size cap] 50)).alloc (.cells #[.int .i64 10] 3)).alloc (.cells #[.slice (some ⟨B, 0, none⟩) S.size cap] 50)).alloc (.cells #[.int .i64 36] 3))).alloc (Nat.le_refl _) (.cells #[fal (B + 1) (B + 1 + 1)] 51))).later ((Below.refl _ (((((w10.alloc (.cells #[.slice (some ⟨B, 0, none⟩) S.size cap] 50)).alloc (.cells #[.int .i64 10] 3)).alloc (.cells #[.slice (some ⟨B, 0, none⟩) S.size cap] 50)).alloc (.cells #[.int .i64 36] 3)).alloc (.cells #[fal (B + 1) (B + 1 + 1)] 51))).alloc (Nat.le_refl _) (.cells #[fal (B + 1 + 1 + 1) (B + 1 + 1 + 1 + 1)] 51)))
 have C5 := ((CellsAt.new ((((w10.alloc (.cells #[.slice (some ⟨B, 0, none⟩) S.size cap] 50)).alloc (.cells #[.int .i64 10] 3)).alloc (.cells #[.slice (some ⟨B, 0, none⟩) S.size cap] 50)).alloc (.cells #[.int .i64 36] 3)) #[fal (B + 1) (B + 1 + 1)] 51).later ((Below.refl _ (((((w10.alloc (.cells #[.slice (some ⟨B, 0, none⟩) S.size cap] 50)).alloc (.cells #[.int .i64 10] 3)).alloc (.cells #[.slice (some ⟨B, 0, none⟩) S.size cap] 50)).alloc (.cells #[.int .i64 36] 3)).alloc (.cells #[fal (B + 1) (B + 1 + 1)] 51))).alloc (Nat.le_refl _) (.cells #[fal (B + 1 + 1 + 1) (B + 1 + 1 + 1 + 1)] 51)))
 have C6 := (CellsAt.new (((((w10.alloc (.cells #[.slice (some ⟨B, 0, none⟩) S.size cap] 50)).alloc (.cells #[.int .i64 10] 3)).alloc (.cells #[.slice (some ⟨B, 0, none⟩) S.size cap] 50)).alloc (.cells #[.int .i64 36] 3)).alloc (.cells #[fal (B + 1) (B + 1 + 1)] 51)) #[fal (B + 1 + 1 + 1) (B + 1 + 1 + 1 + 1)] 51)
 simp only [World.size_alloc, hz10] at C1 C2 C3 C4 C5 C6
 have BN := (st_alloc (st_alloc (st_alloc (st_alloc (st_alloc (st_alloc (Below.refl _ w10) (.cells #[.slice (some ⟨B, 0, none⟩) S.size cap] 50)) (.cells #[.int .i64 10] 3)) (.cells #[.slice (some ⟨B, 0, none⟩) S.size cap] 50)) (.cells #[.int .i64 36] 3)) (.cells #[fal (B + 1) (B + 1 + 1)] 51)) (.cells #[fal (B + 1 + 1 + 1) (B + 1 + 1 + 1 + 1)] 51))
 have HE := held_more HH10.out BN
 have CG := HC10.out.later BN
 have BB := st_call HB10.out BN
 obtain ⟨W0, hW0⟩ : ∃ W0, ((((((w10.alloc (.cells #[.slice (some ⟨B, 0, none⟩) S.size cap] 50)).alloc (.cells #[.int .i64 10] 3)).alloc (.cells #[.slice (some ⟨B, 0, none⟩) S.size cap] 50)).alloc (.cells #[.int .i64 36] 3)).alloc (.cells #[fal (B + 1) (B + 1 + 1)] 51)).alloc (.cells #[fal (B + 1 + 1 + 1) (B + 1 + 1 + 1 + 1)] 51)) = W0 := ⟨_, rfl⟩
 rw [hW0] at C1 C2 C3 C4 C5 C6 HE CG BB ⊢
 clear hW0 BN HC10 HB10 HH10
 have hsz := HSZ.out
 have lwg := lA
 have st0 : St w W0 g B S.size cap s2 A2 cp2 (bz S) := ⟨HE, C1, C2, C3, C4, C5, C6, CG, BB, (bz_len S).symm, bz_le S, hcap, by omega, hs, by omega, by omega⟩
 have HST := Lib.hid st0
 clear C1 C2 C3 C4 C5 C6 HE CG BB st0 hz10 hB hsz HDS
 have q0 : W0.cell? ⟨g, 0, none⟩ = some (.int .u32 (s2.sip : Int)) := HST.out.seg.cell 0 _ rfl
 have q2 : W0.cell? ⟨g, 2, none⟩ = some (.int .u32 (s2.dip : Int)) := HST.out.seg.cell 2 _ rfl
 go_wp2_with fail
 refine (stB32 HST.out s2.sip s2.dip _ rfl sok2.sip sok2.dip).mono ?_
 rintro e w11 ⟨rfl, st⟩
 have HST1 := Lib.hid st
 clear st q0 q2 HST
 have q6 : w11.cell? ⟨B + 1 + 1 + 1 + 1 + 1 + 1, 0, none⟩ = some (fal (B + 1 + 1 + 1) (B + 1 + 1 + 1 + 1)) := HST1.out.k6.cell 0 _ rfl
 have q1 : w11.cell? ⟨g, 1, none⟩ = some (.int .u16 (s2.sport : Int)) := HST1.out.seg.cell 1 _ rfl
 have q3 : w11.cell? ⟨g, 3, none⟩ = some (.int .u16 (s2.dport : Int)) := HST1.out.seg.cell 3 _ rfl
 go_wp2_with fail
 refine (stS16 HST1.out s2.sport s2.dport _ rfl sok2.sport sok2.dport).mono ?_
 rintro e w12 ⟨rfl, st⟩
 have HST2 := Lib.hid st
 clear st q6 q1 q3 HST1
 have q6 : w12.cell? ⟨B + 1 + 1 + 1 + 1 + 1 + 1, 0, none⟩ = some (fal (B + 1 + 1 + 1) (B + 1 + 1 + 1 + 1)) := HST2.out.k6.cell 0 _ rfl
 have q4 : w12.cell? ⟨g, 4, none⟩ = some (.int .u32 (s2.seq : Int)) := HST2.out.seg.cell 4 _ rfl
 have q5 : w12.cell? ⟨g, 5, none⟩ = some (.int .u32 (s2.ack : Int)) := HST2.out.seg.cell 5 _ rfl
 go_wp2_with fail
 refine (stS32 HST2.out s2.seq s2.ack _ rfl sok2.seq sok2.ack).mono ?_
 rintro e w13 ⟨rfl, st⟩
 have HST3 := Lib.hid st
 clear st q6 q4 q5 HST2
 have q6 : w13.cell? ⟨B + 1 + 1 + 1 + 1 + 1 + 1, 0, none⟩ = some (fal (B + 1 + 1 + 1) (B + 1 + 1 + 1 + 1)) := HST3.out.k6.cell 0 _ rfl
 have q7 : w13.cell? ⟨g, 7, none⟩ = some (.int .u16 (s2.win : Int)) := HST3.out.seg.cell 7 _ rfl
 go_wp2_with fail
 refine (stS16o HST3.out s2.win _ rfl sok2.win).mono ?_
 rintro e w14 ⟨rfl, st⟩
 have HST4 := Lib.hid st
 clear st q6 q7 HST3
 have q6 : w14.cell? ⟨B + 1 + 1 + 1 + 1 + 1 + 1, 0, none⟩ = some (fal (B + 1 + 1 + 1) (B + 1 + 1 + 1 + 1)) := HST4.out.k6.cell 0 _ rfl
 obtain ⟨Bo, hBo⟩ : ∃ Bo, w14.heap.size = Bo := ⟨_, rfl⟩
 obtain ⟨cpo, w15, hbo, hHo, hzo, hb15, hcpo⟩ := bytes_held ot w14 Bo hBo
 have hbzo : bz ot = turnS x.ack x.val x.echo (bz t.opts) := by rw [← HOT.out]; exact bz_ofB (OptBackM.turnS_le _ _ _ _ (bz t.opts) (Nat.le_refl _) (bz_le _))
 have hoz : ot.size = t.opts.size := by rw [← bz_len, hbzo, lot, lop]
 have hsz := HSZ.out
 have HST5 := Lib.hid (HST4.out.more hb15)
 have q66 := HST5.out.k6.cell 0 _ rfl
 have STE := Lib.hid (stS8 HST5.out ot Bo cpo hHo (by omega) (by omega))
 have HBZ := Lib.hid hbzo
 clear hHo hzo hb15 hcpo hBo hbzo hoz hsz HST4
 go_wp2_with fail
 refine STE.out.mono ?_
 rintro e w16 ⟨rfl, st⟩
 have HL : Hid (oneL (oneL (oneL (oneL (twoL (bz S) (w4 s2.sip ++ w4 s2.dip)) 20 (w2 s2.sport ++ w2 s2.dport)) 24 (w4 s2.seq ++ w4 s2.ack)) 34 (w2 s2.win)) 40 (bz ot) = rewS S x) := Lib.hid (by
   obtain ⟨e1, e2, e3, e4, e5, e6, e7⟩ := HS2.out
   have p := HP.out
   rw [HRW.out, HS.out, HBZ.out, e1, e2, e3, e4, e5, e6, e7]
   have p1 : Pcs p0 (w4 x.sip ++ w4 x.dip) ppo psa pfl pwi pur := ⟨p.h0, rfl, p.po, p.sa, p.fl, p.wi, p.ur⟩
   have p2 : Pcs p0 (w4 x.sip ++ w4 x.dip) (w2 x.sport ++ w2 x.dport) psa pfl pwi pur := ⟨p.h0, rfl, rfl, p.sa, p.fl, p.wi, p.ur⟩
   have p3 : Pcs p0 (w4 x.sip ++ w4 x.dip) (w2 x.sport ++ w2 x.dport) (w4 ((t.seq + x.seq) % 4294967296) ++ w4 (ackT t.flags t.ack x.ack)) pfl pwi pur := ⟨p.h0, rfl, rfl, rfl, p.fl, p.wi, p.ur⟩
   have p4 : Pcs p0 (w4 x.sip ++ w4 x.dip) (w2 x.sport ++ w2 x.dport) (w4 ((t.seq + x.seq) % 4294967296) ++ w4 (ackT t.flags t.ack x.ack)) pfl (w2 (winT t.win x.up x.down)) pur := ⟨p.h0, rfl, rfl, rfl, p.fl, rfl, p.ur⟩
   rw [shp1 p c16 k16 _ rfl, shp2 p1 (tur_le k16 _ _) _ rfl, shp3 p2 (tur_le (tur_le k16 _ _) _ _) _ rfl, shp4 p3 (tur_le (tur_le (tur_le k16 _ _) _ _) _ _) _ rfl, shp5 p4 (tur_le (tur_le (tur_le (tur_le k16 _ _) _ _) _ _) _ _) _ lot])
 rw [HL.out] at st
 have HST6 := Lib.hid st
 have hcv := held_string (b := B) st.held st.le cap S.size st.len
 clear st q6 q66 hbo STE
 go_wp2_with fail
 go_ret2
 exact ⟨by rw [HV.out]; rfl, HST6.out.below⟩
end Go.Proofs.YtpmnmnflaijaaaaGreat.PktRw
namespace Go.Proofs.YtpmnmnflaijaaaaGreat.PktRw
open Go.RowKit PktMath PktVal PktRwM
theorem rewP (S : ByteArray) (x : Sh) (w : World) (hs : S.size ≤ 1000000) (xk : x.ok) (u1 : -9223372036854775808 ≤ x.up) (u2 : x.up ≤ 9223372036854775807) (v1 : -9223372036854775808 ≤ x.down) (v2 : x.down ≤ 9223372036854775807) :
   Calls Tryz.prog 6 #[.string S, xv x] w fun e w' => e = .returned (rwV S x) ∧ Below w.heap.size w w' := by
 by_cases h0 : (dec8 S).1 = 0
 · exact rewP_ok S x w hs xk u1 u2 v1 v2 h0
 · exact rewP_err S x w hs h0
end Go.Proofs.YtpmnmnflaijaaaaGreat.PktRw
