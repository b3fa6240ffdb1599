/-
  Proved: the statement 'Rows.TcpBackSaid': for every input the Go function transomlaw06.TcpBack returns true, and each argument reads behind the call as it read before. Conditions: none of our own; those of the given row.
-/
import Derived.Test.YtkilkjjmanedcaaRows
import Derived.Test.YtkilkjjmanedcaaTcpOpen
import Derived.Test.YtkilkjjmanedcaaTcpAlive
import Derived.Deep.DeepCutAuto
import Derived.Laws.IdiomStrings
import Derived.BigQuiet
import Derived.WalkKit
import Derived.ProofKit
import Derived.OpenShut
import Derived.ShutString
import Derived.ChangeOld
import Derived.Below
namespace Go.Proofs.Ytkilkjjmanedcaa.tcpBack
open Go.ChangeShapes Go.WideShapes Go.ChangeAt Go.RowKit
open Go.ChangeMaps (open_string shut_string)
open TupMath SumMath IpMath Litb Calm Rel IpRef TcpMath TcpRef TcpEnc TcpP TcpDec TcpD TcpAlive
set_option linter.unusedVariables false

theorem own : ownKnob Try.prog.godebug = none := by kernel_rfl
theorem laidOut : laidOutB Try.prog = true := by kernel_rfl

theorem set_le {l : List Nat} {i y : Nat} (h : ∀ x ∈ l, x ≤ 255) (hy : y ≤ 255) : ∀ x ∈ l.set i y, x ≤ 255 := by
  intro x hx
  rcases List.mem_or_eq_of_mem_set hx with hx | rfl
  · exact h x hx
  · exact hy
/-- the row of a slice of bytes, read -/
def Turned (B : Nat) (T : List Nat) (w wx : World) : Prop := (∀ (j x : Nat), T[j]? = some x → wx.cell? ⟨B, j, none⟩ = some (.int .u8 (x : Int))) ∧ Below w.heap.size w wx
theorem turned_mk {w w1 : World} {B i v : Nat} {S : ByteArray} {P : List Nat} (hc : ∀ (j : Nat) (h : j < S.size), w1.cell? ⟨B, j, none⟩ = some (.int .u8 ((S[j].toNat : Nat) : Int)) ∧ w1.frozen? ⟨B, j, none⟩ = false) (hP : bz S = P) (hi : i < S.size) (hB : w.heap.size ≤ B) (hb : Below w.heap.size w w1) :
    Turned B (P.set i v) w (w1.setCell ⟨B, i, none⟩ (.int .u8 (v : Int))) := by
  refine ⟨fun j x hj => ?_, hb.setCell hB _⟩
  by_cases h : i = j
  · subst h
    rw [List.getElem?_set_self (by rw [← hP, bz_len]; exact hi)] at hj
    obtain rfl := Option.some.inj hj
    exact World.cell?_setCell_same' _ _ _ (by rw [(hc i hi).1]; rfl)
  · rw [List.getElem?_set_ne h] at hj
    have hjs : j < S.size := by
      rw [← bz_len, hP]
      exact (List.getElem?_eq_some_iff.1 hj).1
    rw [World.cell?_setCell_other _ _ _ _ (fun e => by injection e with _ e; exact h e), (hc j hjs).1]
    have h1 := bz_at S j hjs
    rw [hP, hj] at h1
    rw [Option.some.inj h1]
theorem pow8 : ∀ j : Fin 8, IntKind.u8.wrap ((2 : Int) ^ j.val) = ((2 ^ j.val : Nat) : Int) ∧ 2 ^ j.val < 256 := by decide +kernel
theorem pow32 : ∀ j : Fin 32, IntKind.u32.wrap ((2 : Int) ^ j.val) = ((2 ^ j.val : Nat) : Int) ∧ 2 ^ j.val < 4294967296 := by decide +kernel

/-! The walk: the Go text returns true, and writes nothing that was there. -/
set_option maxRecDepth 100000 in
set_option maxHeartbeats 16000000 in
theorem walk (a0 : Int) (a1 : Int) (ts2 td2 tq2 ta2 tf2 tw2 tu2 : Nat) (to2 : ByteArray) (a3 : ByteArray) (a4 : Int) (a5 : Int) (w : World) (w0 : (Lit.int .u32 a0).wf = true) (w1 : (Lit.int .u32 a1).wf = true) (g2 : ts2 ≤ 65535 ∧ td2 ≤ 65535 ∧ tq2 ≤ 4294967295 ∧ ta2 ≤ 4294967295 ∧ tf2 ≤ 255 ∧ tw2 ≤ 65535 ∧ tu2 ≤ 65535 ∧ to2.size ≤ maxLen) (w3 : a3.size ≤ maxLen) (w4 : (Lit.int .u16 a4).wf = true) (w5 : (Lit.int .u8 a5).wf = true) :
    Calls Try.prog 5 #[.int .u32 a0, .int .u32 a1, .agg #[.int .u16 (ts2 : Int), .int .u16 (td2 : Int), .int .u32 (tq2 : Int), .int .u32 (ta2 : Int), .int .u8 (tf2 : Int), .int .u16 (tw2 : Int), .int .u16 (tu2 : Int), .string to2], .string a3, .int .u16 a4, .int .u8 a5] w fun e w' => e = .returned (.bool true) ∧ Below w.heap.size w w' := by
  have ⟨b0, b0'⟩ := bounds_u32 w0
  obtain ⟨a0, rfl⟩ := Int.eq_ofNat_of_zero_le b0
  clear w0 b0
  have s0 : a0 ≤ 4294967295 := by omega
  clear b0'
  have ⟨b1, b1'⟩ := bounds_u32 w1
  obtain ⟨a1, rfl⟩ := Int.eq_ofNat_of_zero_le b1
  clear w1 b1
  have s1 : a1 ≤ 4294967295 := by omega
  clear b1'
  unfold maxLen at w3
  have ⟨b4, b4'⟩ := bounds_u16 w4
  have ⟨b5, b5'⟩ := bounds_u8 w5
  obtain ⟨bit, rfl⟩ := Int.eq_ofNat_of_zero_le b4
  obtain ⟨oth, rfl⟩ := Int.eq_ofNat_of_zero_le b5
  clear w4 w5 b4 b5
  have k2 : (⟨ts2, td2, tq2, ta2, tf2, tw2, tu2, to2⟩ : Th).ok := ⟨g2.1, g2.2.1, g2.2.2.1, g2.2.2.2.1, g2.2.2.2.2.1, g2.2.2.2.2.2.1, g2.2.2.2.2.2.2.1⟩
  have o2 := g2.2.2.2.2.2.2.2
  unfold maxLen at o2
  clear g2
  by_cases hx : 2048 < a3.size
  · go_enter Try.func5, Try.ntmps5
    go_wp2_with fail
    refine (alive_any _).mono ?_
    rintro e w' ⟨rfl, hb⟩
    have HB := Lib.hid (st_call (st_alloc (Below.refl _ _) _) hb)
    clear hb
    go_wp2_with fail
    go_ret
    exact ⟨rfl, HB.out⟩
  by_cases hy : 1024 < to2.size
  · go_enter Try.func5, Try.ntmps5
    go_wp2_with fail
    refine (alive_any _).mono ?_
    rintro e w' ⟨rfl, hb⟩
    have HB := Lib.hid (st_call (st_alloc (Below.refl _ _) _) hb)
    clear hb
    go_wp2_with fail
    go_ret
    exact ⟨rfl, HB.out⟩
  have C1 := fun W => encP6 a0 a1 (⟨ts2, td2, tq2, ta2, tf2, tw2, tu2, to2⟩ : Th) a3 W s0 s1 k2 (by show to2.size ≤ _; omega) (by omega)
  have X0 := Lib.hid (Box.new w #[.int .u16 (ts2 : Int), .int .u16 (td2 : Int), .int .u32 (tq2 : Int), .int .u32 (ta2 : Int), .int .u8 (tf2 : Int), .int .u16 (tw2 : Int), .int .u16 (tu2 : Int), .string to2])
  have B0 := Lib.hid (st_alloc (Below.refl _ w) (.cells #[.int .u16 (ts2 : Int), .int .u16 (td2 : Int), .int .u32 (tq2 : Int), .int .u32 (ta2 : Int), .int .u8 (tf2 : Int), .int .u16 (tw2 : Int), .int .u16 (tu2 : Int), .string to2] 25))
  by_cases m2 : ((⟨ts2, td2, tq2, ta2, tf2, tw2, tu2, to2⟩ : Th)).may
  rotate_left
  · rw [encV6_arg m2] at C1
    have H1 : Hid (∀ W, Calls Try.prog 8 #[.int .u32 (a0 : Int), .int .u32 (a1 : Int), .agg #[.int .u16 (ts2 : Int), .int .u16 (td2 : Int), .int .u32 (tq2 : Int), .int .u32 (ta2 : Int), .int .u8 (tf2 : Int), .int .u16 (tw2 : Int), .int .u16 (tu2 : Int), .string to2], .string a3] W fun e w' => e = .returned (.tuple #[.string ⟨#[]⟩, .int .i64 2]) ∧ Below W.heap.size W w') := Lib.hid C1
    clear C1 m2 k2
    go_enter Try.func5, Try.ntmps5
    go_wp2_with fail
    refine (H1.out _).mono ?_
    rintro e wA ⟨rfl, hb⟩
    have B1 := Lib.hid (st_call B0.out hb)
    clear hb
    go_wp2_with fail
    refine (alive_any _).mono ?_
    rintro e wF ⟨rfl, hb6⟩
    have B8 := Lib.hid (st_call B1.out hb6)
    clear hb6
    go_wp2_with fail
    go_ret
    exact ⟨rfl, B8.out⟩
  have hm4 : to2.size ≤ 40 := m2.most
  have hn : 20 + to2.size + a3.size ≤ 65515 := by omega
  rw [encV6_ok m2 hn] at C1
  have hsz : (ofB (seg a0 a1 (⟨ts2, td2, tq2, ta2, tf2, tw2, tu2, to2⟩ : Th) (bz a3))).size = 20 + to2.size + a3.size := size_seg _ _ _ _
  have hyS := bz_seg a0 a1 (⟨ts2, td2, tq2, ta2, tf2, tw2, tu2, to2⟩ : Th) a3 k2 m2
  have C2 := fun W => decP6 a0 a1 (ofB (seg a0 a1 (⟨ts2, td2, tq2, ta2, tf2, tw2, tu2, to2⟩ : Th) (bz a3))) W s0 s1 (by omega)
  rw [decV6_seg a0 a1 (⟨ts2, td2, tq2, ta2, tf2, tw2, tu2, to2⟩ : Th) a3 k2 m2 hn] at C2
  have hpl : ∀ x ∈ (seg a0 a1 (⟨ts2, td2, tq2, ta2, tf2, tw2, tu2, to2⟩ : Th) (bz a3)), x ≤ 255 := seg_le a0 a1 _ k2 m2 (bz a3) (bz_le a3)
  have hs0 := seg_sum a0 a1 (⟨ts2, td2, tq2, ta2, tf2, tw2, tu2, to2⟩ : Th) (bz a3)
  have hlen : (seg a0 a1 (⟨ts2, td2, tq2, ta2, tf2, tw2, tu2, to2⟩ : Th) (bz a3)).length = 20 + to2.size + a3.size := by rw [seg_len, bz_len]
  obtain ⟨P, hP⟩ : ∃ P, (seg a0 a1 (⟨ts2, td2, tq2, ta2, tf2, tw2, tu2, to2⟩ : Th) (bz a3)) = P := ⟨_, rfl⟩
  rw [hP] at C1 C2 hsz hyS hpl hs0 hlen
  obtain ⟨S, hS⟩ : ∃ S, ofB P = S := ⟨_, rfl⟩
  rw [hS] at C1 C2 hsz hyS
  clear hP k2 m2
  obtain ⟨K, hK⟩ : ∃ K, bit % (8 * S.size) = K := ⟨_, rfl⟩
  have hK1 : K < 8 * S.size := by rw [← hK]; exact Nat.mod_lt _ (by omega)
  have eK : (bit : Int) % (8 * (S.size : Int)) = (K : Int) := by
    rw [← hK]
    simp
  obtain ⟨i, hi⟩ : ∃ i, K / 8 = i := ⟨_, rfl⟩
  have hSi : i < S.size := by omega
  have ei : (K : Int) / 8 = (i : Int) := by omega
  obtain ⟨j, hj⟩ : ∃ j, K % 8 = j := ⟨_, rfl⟩
  have hj8 : j < 8 := by omega
  have ej : (K : Int) % 8 = (j : Int) := by omega
  obtain ⟨o, ho⟩ : ∃ o, oth % 32 = o := ⟨_, rfl⟩
  have ho32 : o < 32 := by omega
  have eo : (oth : Int) % 32 = (o : Int) := by omega
  obtain ⟨y, hy0⟩ : ∃ y, P[i]? = some y := ⟨_, List.getElem?_eq_getElem (by omega)⟩
  have hy255 : y ≤ 255 := hpl y (List.mem_of_getElem? hy0)
  have hyi : S[i].toNat = y := by
    have h1 := bz_at S i hSi
    rw [hyS, hy0] at h1
    exact (Option.some.inj h1).symm
  have hb3 := terr_bit a0 a1 P i j y hpl (by omega) (by omega) hs0 hj8 hy0
  have hb4 := terr_src a0 a1 o P (by omega) (by omega) hs0 s0 s1 ho32
  have hb5 := terr_dst a0 a1 o P (by omega) (by omega) hs0 s0 s1 ho32
  have hx4 := (xor32 a0 o ho32 s0).2
  have hx5 := (xor32 a1 o ho32 s1).2
  have hxy := (xor_bit ⟨y, by omega⟩ ⟨j, hj8⟩).2
  simp only at hxy
  have hTle := set_le (i := i) hpl hxy
  obtain ⟨hs8, hq8⟩ := pow8 ⟨j, hj8⟩
  obtain ⟨hs32, hq32⟩ := pow32 ⟨o, ho32⟩
  simp only at hs8 hq8 hs32 hq32
  have hxor8 := u8_xor_nat y (2 ^ j) (by omega) hq8
  have hxor4 := u32_xor_nat a0 (2 ^ o) (by omega) hq32
  have hxor5 := u32_xor_nat a1 (2 ^ o) (by omega) hq32
  obtain ⟨v8, hv8⟩ : ∃ x, y ^^^ (2 ^ j) = x := ⟨_, rfl⟩
  obtain ⟨q4, hq4⟩ : ∃ x, a0 ^^^ (2 ^ o) = x := ⟨_, rfl⟩
  obtain ⟨q5, hq5⟩ : ∃ x, a1 ^^^ (2 ^ o) = x := ⟨_, rfl⟩
  rw [hv8] at hb3 hxor8 hxy hTle
  rw [hq4] at hb4 hx4 hxor4
  rw [hq5] at hb5 hx5 hxor5
  clear hv8 hq4 hq5
  obtain ⟨p8, hp8⟩ : ∃ x, 2 ^ j = x := ⟨_, rfl⟩
  obtain ⟨p32, hp32⟩ : ∃ x, 2 ^ o = x := ⟨_, rfl⟩
  rw [hp8] at hs8 hq8 hxor8
  rw [hp32] at hs32 hq32 hxor4 hxor5
  clear hp8 hp32
  have C4 := fun W => decP6 q4 a1 S W hx4 s1 (by omega)
  rw [decV6_55 (by rw [hyS]; exact hb4)] at C4
  have C5 := fun W => decP6 a0 q5 S W s0 hx5 (by omega)
  rw [decV6_55 (by rw [hyS]; exact hb5)] at C5
  have hRb : bz (ofB (P.set i v8)) = P.set i v8 := bz_ofB hTle
  obtain ⟨R, hR⟩ : ∃ R, ofB (P.set i v8) = R := ⟨_, rfl⟩
  rw [hR] at hRb
  have hRs : R.size = S.size := by rw [← bz_len R, hRb, List.length_set, hlen, hsz]
  have C3 := fun W => decP6 a0 a1 R W s0 s1 (by omega)
  rw [decV6_55 (by rw [hRb]; exact hb3)] at C3
  have H1 : Hid (∀ W, Calls Try.prog 8 #[.int .u32 (a0 : Int), .int .u32 (a1 : Int), .agg #[.int .u16 (ts2 : Int), .int .u16 (td2 : Int), .int .u32 (tq2 : Int), .int .u32 (ta2 : Int), .int .u8 (tf2 : Int), .int .u16 (tw2 : Int), .int .u16 (tu2 : Int), .string to2], .string a3] W fun e w' => e = .returned (.tuple #[.string S, .int .i64 0]) ∧ Below W.heap.size W w') := Lib.hid C1
  have H2 : Hid (∀ W, Calls Try.prog 10 #[.int .u32 (a0 : Int), .int .u32 (a1 : Int), .string S] W fun e w' => e = .returned (.tuple #[.agg #[.int .u16 (ts2 : Int), .int .u16 (td2 : Int), .int .u32 (tq2 : Int), .int .u32 (ta2 : Int), .int .u8 (tf2 : Int), .int .u16 (tw2 : Int), .int .u16 (tu2 : Int), .string to2], .string a3, .int .i64 0]) ∧ Below W.heap.size W w') := Lib.hid C2
  have H3 : Hid (∀ W, Calls Try.prog 10 #[.int .u32 (a0 : Int), .int .u32 (a1 : Int), .string R] W fun e w' => e = .returned (.tuple #[.agg #[.int .u16 0, .int .u16 0, .int .u32 0, .int .u32 0, .int .u8 0, .int .u16 0, .int .u16 0, .string ⟨#[]⟩], .string ⟨#[]⟩, .int .i64 55]) ∧ Below W.heap.size W w') := Lib.hid C3
  have H4 : Hid (∀ W, Calls Try.prog 10 #[.int .u32 (q4 : Int), .int .u32 (a1 : Int), .string S] W fun e w' => e = .returned (.tuple #[.agg #[.int .u16 0, .int .u16 0, .int .u32 0, .int .u32 0, .int .u8 0, .int .u16 0, .int .u16 0, .string ⟨#[]⟩], .string ⟨#[]⟩, .int .i64 55]) ∧ Below W.heap.size W w') := Lib.hid C4
  have H5 : Hid (∀ W, Calls Try.prog 10 #[.int .u32 (a0 : Int), .int .u32 (q5 : Int), .string S] W fun e w' => e = .returned (.tuple #[.agg #[.int .u16 0, .int .u16 0, .int .u32 0, .int .u32 0, .int .u8 0, .int .u16 0, .int .u16 0, .string ⟨#[]⟩], .string ⟨#[]⟩, .int .i64 55]) ∧ Below W.heap.size W w') := Lib.hid C5
  clear C1 C2 C3 C4 C5 hb3 hb4 hb5 hs0
  have hpos : (0 : Int) < (S.size : Int) := by omega
  have h20 : (20 : Int) ≤ (S.size : Int) := by omega
  have hiS : (i : Int) < (S.size : Int) := by omega
  have hz0 : S.size ≤ 5000 := by omega
  have HR := Lib.hid hR
  have HT := Lib.hid hTle
  have HYS := Lib.hid hyS
  have HSZ := Lib.hid hsz
  have HY := Lib.hid hy0
  have HPL := Lib.hid hpl
  have HRS := Lib.hid hRs
  have HLEN := Lib.hid hlen
  have HRB := Lib.hid hRb
  clear hS hR hTle hyS hsz hy0 hpl hi hj ho hK hRs hlen hRb
  go_enter Try.func5, Try.ntmps5
  go_wp2_with fail
  refine (H1.out _).mono ?_
  rintro e wA ⟨rfl, hb⟩
  have X1 := Lib.hid (X0.out.more hb)
  have B1 := Lib.hid (st_call B0.out hb)
  clear hb
  go_wp2_with fail
  refine (H2.out _).mono ?_
  rintro e wB ⟨rfl, hb⟩
  have X2 := (X1.out.more hb).alloc (.cells #[.int .u16 (ts2 : Int), .int .u16 (td2 : Int), .int .u32 (tq2 : Int), .int .u32 (ta2 : Int), .int .u8 (tf2 : Int), .int .u16 (tw2 : Int), .int .u16 (tu2 : Int), .string to2] 25)
  have Y2 := Box.new wB #[.int .u16 (ts2 : Int), .int .u16 (td2 : Int), .int .u32 (tq2 : Int), .int .u32 (ta2 : Int), .int .u8 (tf2 : Int), .int .u16 (tw2 : Int), .int .u16 (tu2 : Int), .string to2]
  have B2 := Lib.hid (st_alloc (st_call B1.out hb) (.cells #[.int .u16 (ts2 : Int), .int .u16 (td2 : Int), .int .u32 (tq2 : Int), .int .u32 (ta2 : Int), .int .u8 (tf2 : Int), .int .u16 (tw2 : Int), .int .u16 (tu2 : Int), .string to2] 25))
  clear hb
  have c0 : (wB.alloc (.cells #[.int .u16 (ts2 : Int), .int .u16 (td2 : Int), .int .u32 (tq2 : Int), .int .u32 (ta2 : Int), .int .u8 (tf2 : Int), .int .u16 (tw2 : Int), .int .u16 (tu2 : Int), .string to2] 25)).cell? ⟨w.heap.size, 0, none⟩ = some (.int .u16 (ts2 : Int)) := X2.cell 0 _ rfl
  have c1 : (wB.alloc (.cells #[.int .u16 (ts2 : Int), .int .u16 (td2 : Int), .int .u32 (tq2 : Int), .int .u32 (ta2 : Int), .int .u8 (tf2 : Int), .int .u16 (tw2 : Int), .int .u16 (tu2 : Int), .string to2] 25)).cell? ⟨w.heap.size, 1, none⟩ = some (.int .u16 (td2 : Int)) := X2.cell 1 _ rfl
  have c2 : (wB.alloc (.cells #[.int .u16 (ts2 : Int), .int .u16 (td2 : Int), .int .u32 (tq2 : Int), .int .u32 (ta2 : Int), .int .u8 (tf2 : Int), .int .u16 (tw2 : Int), .int .u16 (tu2 : Int), .string to2] 25)).cell? ⟨w.heap.size, 2, none⟩ = some (.int .u32 (tq2 : Int)) := X2.cell 2 _ rfl
  have c3 : (wB.alloc (.cells #[.int .u16 (ts2 : Int), .int .u16 (td2 : Int), .int .u32 (tq2 : Int), .int .u32 (ta2 : Int), .int .u8 (tf2 : Int), .int .u16 (tw2 : Int), .int .u16 (tu2 : Int), .string to2] 25)).cell? ⟨w.heap.size, 3, none⟩ = some (.int .u32 (ta2 : Int)) := X2.cell 3 _ rfl
  have c4 : (wB.alloc (.cells #[.int .u16 (ts2 : Int), .int .u16 (td2 : Int), .int .u32 (tq2 : Int), .int .u32 (ta2 : Int), .int .u8 (tf2 : Int), .int .u16 (tw2 : Int), .int .u16 (tu2 : Int), .string to2] 25)).cell? ⟨w.heap.size, 4, none⟩ = some (.int .u8 (tf2 : Int)) := X2.cell 4 _ rfl
  have c5 : (wB.alloc (.cells #[.int .u16 (ts2 : Int), .int .u16 (td2 : Int), .int .u32 (tq2 : Int), .int .u32 (ta2 : Int), .int .u8 (tf2 : Int), .int .u16 (tw2 : Int), .int .u16 (tu2 : Int), .string to2] 25)).cell? ⟨w.heap.size, 5, none⟩ = some (.int .u16 (tw2 : Int)) := X2.cell 5 _ rfl
  have c6 : (wB.alloc (.cells #[.int .u16 (ts2 : Int), .int .u16 (td2 : Int), .int .u32 (tq2 : Int), .int .u32 (ta2 : Int), .int .u8 (tf2 : Int), .int .u16 (tw2 : Int), .int .u16 (tu2 : Int), .string to2] 25)).cell? ⟨w.heap.size, 6, none⟩ = some (.int .u16 (tu2 : Int)) := X2.cell 6 _ rfl
  have c7 : (wB.alloc (.cells #[.int .u16 (ts2 : Int), .int .u16 (td2 : Int), .int .u32 (tq2 : Int), .int .u32 (ta2 : Int), .int .u8 (tf2 : Int), .int .u16 (tw2 : Int), .int .u16 (tu2 : Int), .string to2] 25)).cell? ⟨w.heap.size, 7, none⟩ = some (.string to2) := X2.cell 7 _ rfl
  have d0 : (wB.alloc (.cells #[.int .u16 (ts2 : Int), .int .u16 (td2 : Int), .int .u32 (tq2 : Int), .int .u32 (ta2 : Int), .int .u8 (tf2 : Int), .int .u16 (tw2 : Int), .int .u16 (tu2 : Int), .string to2] 25)).cell? ⟨wB.heap.size, 0, none⟩ = some (.int .u16 (ts2 : Int)) := Y2.cell 0 _ rfl
  have d1 : (wB.alloc (.cells #[.int .u16 (ts2 : Int), .int .u16 (td2 : Int), .int .u32 (tq2 : Int), .int .u32 (ta2 : Int), .int .u8 (tf2 : Int), .int .u16 (tw2 : Int), .int .u16 (tu2 : Int), .string to2] 25)).cell? ⟨wB.heap.size, 1, none⟩ = some (.int .u16 (td2 : Int)) := Y2.cell 1 _ rfl
  have d2 : (wB.alloc (.cells #[.int .u16 (ts2 : Int), .int .u16 (td2 : Int), .int .u32 (tq2 : Int), .int .u32 (ta2 : Int), .int .u8 (tf2 : Int), .int .u16 (tw2 : Int), .int .u16 (tu2 : Int), .string to2] 25)).cell? ⟨wB.heap.size, 2, none⟩ = some (.int .u32 (tq2 : Int)) := Y2.cell 2 _ rfl
  have d3 : (wB.alloc (.cells #[.int .u16 (ts2 : Int), .int .u16 (td2 : Int), .int .u32 (tq2 : Int), .int .u32 (ta2 : Int), .int .u8 (tf2 : Int), .int .u16 (tw2 : Int), .int .u16 (tu2 : Int), .string to2] 25)).cell? ⟨wB.heap.size, 3, none⟩ = some (.int .u32 (ta2 : Int)) := Y2.cell 3 _ rfl
  have d4 : (wB.alloc (.cells #[.int .u16 (ts2 : Int), .int .u16 (td2 : Int), .int .u32 (tq2 : Int), .int .u32 (ta2 : Int), .int .u8 (tf2 : Int), .int .u16 (tw2 : Int), .int .u16 (tu2 : Int), .string to2] 25)).cell? ⟨wB.heap.size, 4, none⟩ = some (.int .u8 (tf2 : Int)) := Y2.cell 4 _ rfl
  have d5 : (wB.alloc (.cells #[.int .u16 (ts2 : Int), .int .u16 (td2 : Int), .int .u32 (tq2 : Int), .int .u32 (ta2 : Int), .int .u8 (tf2 : Int), .int .u16 (tw2 : Int), .int .u16 (tu2 : Int), .string to2] 25)).cell? ⟨wB.heap.size, 5, none⟩ = some (.int .u16 (tw2 : Int)) := Y2.cell 5 _ rfl
  have d6 : (wB.alloc (.cells #[.int .u16 (ts2 : Int), .int .u16 (td2 : Int), .int .u32 (tq2 : Int), .int .u32 (ta2 : Int), .int .u8 (tf2 : Int), .int .u16 (tw2 : Int), .int .u16 (tu2 : Int), .string to2] 25)).cell? ⟨wB.heap.size, 6, none⟩ = some (.int .u16 (tu2 : Int)) := Y2.cell 6 _ rfl
  have d7 : (wB.alloc (.cells #[.int .u16 (ts2 : Int), .int .u16 (td2 : Int), .int .u32 (tq2 : Int), .int .u32 (ta2 : Int), .int .u8 (tf2 : Int), .int .u16 (tw2 : Int), .int .u16 (tu2 : Int), .string to2] 25)).cell? ⟨wB.heap.size, 7, none⟩ = some (.string to2) := Y2.cell 7 _ rfl
  obtain ⟨cap, w1, hconv, hcells, hbel⟩ := bytes_of Try.prog 9 38 5 Try.underlying9 Try.underlying38 Try.underlying5 S (wB.alloc (.cells #[.int .u16 (ts2 : Int), .int .u16 (td2 : Int), .int .u32 (tq2 : Int), .int .u32 (ta2 : Int), .int .u8 (tf2 : Int), .int .u16 (tw2 : Int), .int .u16 (tu2 : Int), .string to2] 25))
  rw [World.size_alloc] at hconv hcells
  obtain ⟨B, hB⟩ : ∃ B, wB.heap.size + 1 = B := ⟨_, rfl⟩
  rw [hB] at hconv hcells
  obtain ⟨kk0, f0⟩ := hcells i hSi
  rw [hyi] at kk0
  have HCL := Lib.hid hcells
  have B3 := Lib.hid (st_call B2.out hbel)
  have HBB := Lib.hid hB
  clear hcells hbel hB X2 Y2
  go_upto_region 11 with (fail)
  have hBle : w.heap.size ≤ B := by
    have h1 := B1.out.size
    have h2 := B2.out.size
    rw [World.size_alloc] at h2
    rw [← HBB.out]
    exact h2
  go_cut [92] (fun _ wx => Turned B (P.set i v8) w wx)
  case first =>
    go_wp2_with fail
    go_meet
    exact turned_mk HCL.out HYS.out hSi hBle B3.out
  case rest =>
    have hbz : (convert 38 9 (.slice (some ⟨B, 0, none⟩) S.size cap)).run Try.prog wc = .ok (.string R) wc := by
      rw [← HR.out, show S.size = (P.set i v8).length by rw [List.length_set, HLEN.out, HSZ.out]]
      exact held_back Try.prog 38 9 5 Try.underlying38 Try.underlying5 Try.underlying9 _ HT.out wc B cap hcut.1
    have B4 := Lib.hid hcut.2
    clear hcut
    go_wp2_with fail
    refine (H3.out _).mono ?_
    rintro e wC ⟨rfl, hb3⟩
    have B5 := Lib.hid (st_alloc (st_call B4.out hb3) (.cells #[.int .u16 0, .int .u16 0, .int .u32 0, .int .u32 0, .int .u8 0, .int .u16 0, .int .u16 0, .string ⟨#[]⟩] 25))
    clear hb3 hbz
    go_wp2_with fail
    refine (H4.out _).mono ?_
    rintro e wD ⟨rfl, hb4⟩
    have B6 := Lib.hid (st_alloc (st_call B5.out hb4) (.cells #[.int .u16 0, .int .u16 0, .int .u32 0, .int .u32 0, .int .u8 0, .int .u16 0, .int .u16 0, .string ⟨#[]⟩] 25))
    clear hb4
    go_wp2_with fail
    refine (H5.out _).mono ?_
    rintro e wE ⟨rfl, hb5⟩
    have B7 := Lib.hid (st_alloc (st_call B6.out hb5) (.cells #[.int .u16 0, .int .u16 0, .int .u32 0, .int .u32 0, .int .u8 0, .int .u16 0, .int .u16 0, .string ⟨#[]⟩] 25))
    clear hb5
    go_wp2_with fail
    refine (alive_any _).mono ?_
    rintro e wF ⟨rfl, hb6⟩
    have B8 := Lib.hid (st_call B7.out hb6)
    clear hb6
    go_wp2_with fail
    go_ret
    exact ⟨rfl, B8.out⟩

/-! The row's step, after the guide's own way. -/
set_option maxRecDepth 100000 in
theorem lifted (os : Os) (started : os.Started) (H : Type) (enc : TypeId × Value → H) :
    ReturnsInHanded {} Try.checked os 5 .any (Rows.tcpBackSpec.pre6 enc Try.prog Try.f5 Rows.tcpBackRow.domain false) (Rows.tcpBackSpec.post enc Try.prog Try.f5 false true false false) := by
  refine returnsInHanded_of_change (C := Try.checked) own started (by kernel_rfl) Try.func5
    (ChangeSpec.witness6 (enc := enc) (C := Try.checked) false ⟨#[], #[.int .u32 0, .int .u32 0, .agg #[.int .u16 0, .int .u16 0, .int .u32 0, .int .u32 0, .int .u8 0, .int .u16 0, .int .u16 0, .string ByteArray.empty], .string ByteArray.empty, .int .u16 0, .int .u8 0], []⟩ 8 (by kernel_rfl) (by kernel_rfl) (by kernel_rfl) (by kernel_rfl)) ?_
  intro W base args ds gs before hval0 hW hcnd _
  have hval : ∀ (j : Nat) t v, Try.f5.params[j]? = some t → args[j]? = some v → Value.okWide Try.prog W .any base t v := hval0
  have hW' := hW
  obtain ⟨p, q, hA0, hV, rfl, hfz, hnd⟩ := hW
  have hA : DataW.TrodAll enc Try.prog W 0 (fun _ => true) true Try.f5.params.toList args.toList ds p := hA0
  rw [Try.params5] at hA hval
  obtain ⟨v0, vs0, d0, ds0, p0, q0, hargs, rfl, rfl, h0, r0⟩ := trodAll_cons hA
  obtain ⟨v1, vs1, d1, ds1, p1, q1, rfl, rfl, rfl, h1, r1⟩ := trodAll_cons r0
  obtain ⟨v2, vs2, d2, ds2, p2, q2, rfl, rfl, rfl, h2, r2⟩ := trodAll_cons r1
  obtain ⟨v3, vs3, d3, ds3, p3, q3, rfl, rfl, rfl, h3, r3⟩ := trodAll_cons r2
  obtain ⟨v4, vs4, d4, ds4, p4, q4, rfl, rfl, rfl, h4, r4⟩ := trodAll_cons r3
  obtain ⟨v5, vs5, d5, ds5, p5, q5, rfl, rfl, rfl, h5, r5⟩ := trodAll_cons r4
  obtain ⟨rfl, rfl, rfl⟩ := trodAll_nil r5
  obtain rfl : args = #[v0, v1, v2, v3, v4, v5] := by cases args; simp_all
  obtain ⟨rfl, rfl⟩ := trodVars_none hV
  have k0 := h0
  have lt0 : ∀ x ∈ p0, x.block < W.heap.size := by obtain ⟨m, hm⟩ := k0; exact DataW.trod_lt m _ _ _ hm
  obtain ⟨a0, rfl, _, _, w0⟩ := open_int Try.underlying22 (hval 0 22 v0 rfl rfl) h0
  have k1 := h1
  have lt1 : ∀ x ∈ p1, x.block < W.heap.size := by obtain ⟨m, hm⟩ := k1; exact DataW.trod_lt m _ _ _ hm
  obtain ⟨a1, rfl, _, _, w1⟩ := open_int Try.underlying22 (hval 1 22 v1 rfl rfl) h1
  have k2 := h2
  have lt2 : ∀ x ∈ p2, x.block < W.heap.size := by obtain ⟨m, hm⟩ := k2; exact DataW.trod_lt m _ _ _ hm
  obtain ⟨ts2, td2, tq2, ta2, tf2, tw2, tu2, to2, rfl, g2⟩ := TcpOpen.open_tcp (hval 2 25 v2 rfl rfl) h2
  have k3 := h3
  have lt3 : ∀ x ∈ p3, x.block < W.heap.size := by obtain ⟨m, hm⟩ := k3; exact DataW.trod_lt m _ _ _ hm
  obtain ⟨a3, rfl, _, _, w3⟩ := open_string Try.underlying9 (hval 3 9 v3 rfl rfl) h3
  have k4 := h4
  have lt4 : ∀ x ∈ p4, x.block < W.heap.size := by obtain ⟨m, hm⟩ := k4; exact DataW.trod_lt m _ _ _ hm
  obtain ⟨a4, rfl, _, _, w4⟩ := open_int Try.underlying23 (hval 4 23 v4 rfl rfl) h4
  have k5 := h5
  have lt5 : ∀ x ∈ p5, x.block < W.heap.size := by obtain ⟨m, hm⟩ := k5; exact DataW.trod_lt m _ _ _ hm
  obtain ⟨a5, rfl, _, _, w5⟩ := open_int Try.underlying5 (hval 5 5 v5 rfl rfl) h5
  clear hA0 hval0
  refine (walk a0 a1 ts2 td2 tq2 ta2 tf2 tw2 tu2 to2 a3 a4 a5 W w0 w1 g2 w3 w4 w5).mono fun e W' ⟨he, bel⟩ => ?_
  subst he
  exact ⟨_, rfl, _, _, _, [], _, [], hW', trodAll_mk1 (shut_bool Try.underlying4 _), (trodAll_cons_mk (Below.trod laidOut (by kernel_rfl) (of_decide_eq_true (by kernel_rfl)) k0 bel lt0) (trodAll_cons_mk (Below.trod laidOut (by kernel_rfl) (of_decide_eq_true (by kernel_rfl)) k1 bel lt1) (trodAll_cons_mk (Below.trod laidOut (by kernel_rfl) (of_decide_eq_true (by kernel_rfl)) k2 bel lt2) (trodAll_cons_mk (Below.trod laidOut (by kernel_rfl) (of_decide_eq_true (by kernel_rfl)) k3 bel lt3) (trodAll_cons_mk (Below.trod laidOut (by kernel_rfl) (of_decide_eq_true (by kernel_rfl)) k4 bel lt4) (trodAll_cons_mk (Below.trod laidOut (by kernel_rfl) (of_decide_eq_true (by kernel_rfl)) k5 bel lt5) trodAll_mk0)))))), rfl, bel.frame _, fun h => by cases h⟩

theorem over : Rows.tcpBackRow.holds Try.pinned (OpenSpec.ofChange Rows.tcpBackSpec) :=
  OpenClaim.holds_of_wide 5 Try.f5 rfl rfl rfl rfl rfl rfl rfl ⟨rfl, rfl, rfl, rfl, rfl⟩ rfl rfl rfl rfl rfl (by kernel_rfl) Try.func5 (by kernel_rfl)
    (of_decide_eq_true (by kernel_rfl)) (by unfold Func.isWrapper; first | (rw [if_pos (by decide +kernel)]; kernel_rfl) | (rw [if_neg (by decide +kernel)]; exact ⟨rfl, rfl⟩))
    (fun os started H enc _ => lifted os started H enc)

/-- The statement. -/
theorem proved : Rows.TcpBackSaid := over
#print axioms proved
end Go.Proofs.Ytkilkjjmanedcaa.tcpBack
