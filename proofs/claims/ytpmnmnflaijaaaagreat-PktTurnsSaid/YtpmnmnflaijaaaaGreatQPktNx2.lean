/-
  Laws for a proof of package pkt: 2 texts in one.
-/
import Derived.Test.YtpmnmnflaijaaaaGreatQOptTurn10
import Derived.Test.YtpmnmnflaijaaaaGreatQOneShelf1
import Derived.Deep.LoopGhost
namespace Go.Proofs.YtpmnmnflaijaaaaGreat.PktP1
open Go.RowKit Go.Shelf Own TupMath SumMath Litb Calm Rel RelT RelK IpMath IpRef OptMath OptRef OptPlc OptSame Boxes PktMath PktVal PktSmall
set_option linter.unusedVariables false
set_option maxRecDepth 100000
theorem and7 : ∀ f : Fin 256, bits .and .u8 (f.val : Int) 7 = ((f.val % 8 : Nat) : Int) := by decide +kernel
theorem not31 : ∀ f : Fin 256, bits .andNot .u8 (f.val : Int) 31 = ((f.val / 32 * 32 : Nat) : Int) := by decide +kernel
theorem ones8 : ∀ f : Fin 8, (Lib.onesCount f.val : Int) = ((f.val % 2 + f.val / 2 % 2 + f.val / 4 % 2 : Nat) : Int) := by decide +kernel
theorem onesP (f g : Nat) (w : World) (hg : f % 8 % 2 + f % 8 / 2 % 2 + f % 8 / 4 % 2 = g) : Calls Tryz.prog 76 #[.int .u8 ((f : Int) % 8)] w fun e w' => e = .returned (.int .i64 (g : Int)) ∧ w' = w := by
 have h := Any.bits_OnesCount8 Tryz.layOnes ((f : Int) % 8) w (by omega) (by omega)
 have e : ((f : Int) % 8).toNat = f % 8 := by omega
 rw [e, ones8 ⟨f % 8, by omega⟩] at h
 simp only [hg] at h
 exact h
set_option maxHeartbeats 4000000 in
theorem flagsP (f : Nat) (w : World) (hf : f ≤ 255) : Calls Tryz.prog 42 #[.int .u8 (f : Int)] w fun e w' => e = .returned (.bool (flg f)) ∧ Below w.heap.size w w' := by
 have a1 : bits .and .u8 (f : Int) 7 = (f : Int) % 8 := (and7 ⟨f, by omega⟩).trans (by show ((f % 8 : Nat) : Int) = _; omega)
 have a2 : bits .andNot .u8 (f : Int) 31 = ((f / 32 * 32 : Nat) : Int) := not31 ⟨f, by omega⟩
 obtain ⟨g, hg⟩ : ∃ g, f % 8 % 2 + f % 8 / 2 % 2 + f % 8 / 4 % 2 = g := ⟨_, rfl⟩
 have HC := Lib.hid (fun W => onesP f g W hg)
 have HF : Hid (flg f = (decide (f / 32 = 0) && decide (g ≤ 1))) := Lib.hid (by
   have e1 : f % 8 % 2 = f % 2 := by omega
   have e2 : f % 8 / 2 % 2 = f / 2 % 2 := by omega
   have e3 : f % 8 / 4 % 2 = f / 4 % 2 := by omega
   rw [e1, e2, e3] at hg
   unfold flg
   rw [hg]
   congr 1
   exact decide_eq_decide.2 (by omega))
 clear hg
 by_cases h : f / 32 = 0
 · have g1 : (((f / 32 * 32 : Nat) : Int) == 0) = true := beq_iff_eq.2 (by omega)
   have g2 : (f : Int) / 32 = 0 := by omega
   go_enter Tryz.func42, Tryz.ntmps42
   go_wp2_with fail
   refine (HC.out _).mono ?_
   rintro e w' ⟨rfl, rfl⟩
   go_wp2_with fail
   go_ret
   refine ⟨?_, Below.refl _ _⟩
   rw [HF.out, decide_eq_true h, Bool.true_and]
   exact congrArg (fun b => Ending.returned (.bool b)) (decide_eq_decide.2 (by omega))
 · have g1 : (((f / 32 * 32 : Nat) : Int) == 0) = false := beq_eq_false_iff_ne.2 (by omega)
   have g2 : ¬ (f : Int) / 32 = 0 := by omega
   go_enter Tryz.func42, Tryz.ntmps42
   go_wp2_with fail
   go_ret
   exact ⟨by rw [HF.out, decide_eq_false h]; rfl, Below.refl _ _⟩
end Go.Proofs.YtpmnmnflaijaaaaGreat.PktP1
namespace Go.Proofs.YtpmnmnflaijaaaaGreat.PktNx
open Go.Proofs.YtpmnmnflaijaaaaGreat.Own
open Go.RowKit TupMath SumMath Litb Calm IpMath IpRef OptMath OptSame Boxes PktMath PktVal PktSmall
set_option linter.unusedVariables false
set_option linter.unusedSimpArgs false
set_option maxRecDepth 100000
attribute [local go_sem] Oper.semAt_some
def nx (m f : Nat) : Nat → Nat
 | 0 => m % 4294967296
 | 1 => (m + f / 2 % 2) % 4294967296
 | _ => (m + f / 2 % 2 + f % 2) % 4294967296
set_option maxHeartbeats 8000000 in
theorem nextP (s : Sg) (A : Option Addr) (c : Nat) (w : World) (k : s.ok) (hd : s.data.size ≤ maxLen) : Calls Tryz.prog 16 #[sv s A c] w fun e w' => e = .returned (.int .u32 (nxt s : Int)) ∧ Below w.heap.size w w' := by
 have kf := k.flags
 have ks := k.seq
 have hd2 : s.data.size ≤ 9223372036854775807 := Nat.le_trans hd (by decide)
 have a1 : bits .and .u8 (s.flags : Int) 1 = ((s.flags % 2 : Nat) : Int) := and1 ⟨s.flags, by omega⟩
 have a2 : bits .and .u8 (s.flags : Int) 2 = ((s.flags / 2 % 2 * 2 : Nat) : Int) := and2 ⟨s.flags, by omega⟩
 obtain ⟨m, hm⟩ : ∃ m, s.seq + s.data.size = m := ⟨_, rfl⟩
 have hv : nxt s = nx m s.flags 2 := by unfold nxt; rw [hm]; rfl
 have HV := Lib.hid hv
 have n0 : IntKind.u32.wrap ((s.seq : Int) + IntKind.u32.wrap (s.data.size : Int)) = (nx m s.flags 0 : Int) := by
   rw [IntKind.wrap_u32, IntKind.wrap_u32]
   show _ = ((m % 4294967296 : Nat) : Int)
   omega
 have n0b : ((s.seq : Int) + (s.data.size : Int) % 4294967296) % 4294967296 = (nx m s.flags 0 : Int) := by
   show _ = ((m % 4294967296 : Nat) : Int)
   omega
 have HN1 : Hid (nx m s.flags 1 = (nx m s.flags 0 + s.flags / 2 % 2) % 4294967296) := Lib.hid (by simp only [nx]; omega)
 have HN2 : Hid (nx m s.flags 2 = (nx m s.flags 1 + s.flags % 2) % 4294967296) := Lib.hid (by simp only [nx]; omega)
 have HB := Lib.hid (st_alloc (st_alloc (Below.refl _ w) (.cells (sc s A c) 30)) (.cells #[.int .u8 2, .int .u8 1] 5))
 have x6 : ((w.alloc (.cells (sc s A c) 30)).alloc (.cells #[.int .u8 2, .int .u8 1] 5)).cell? ⟨w.heap.size, 6, none⟩ = some (.int .u8 (s.flags : Int)) :=
   (((Below.refl _ _).alloc (Nat.le_refl _) _).cell (p := ⟨w.heap.size, 6, none⟩) (by simp)).trans (World.cell?_alloc_mark w (sc s A c) 30 (0, 0) 6)
 have y0 := World.cell?_alloc_mark (w.alloc (.cells (sc s A c) 30)) #[.int .u8 2, .int .u8 1] 5 (0, 0) 0
 have y1 := World.cell?_alloc_mark (w.alloc (.cells (sc s A c) 30)) #[.int .u8 2, .int .u8 1] 5 (0, 0) 1
 rw [World.size_alloc] at y0 y1
 have y0' : ((w.alloc (.cells (sc s A c) 30)).alloc (.cells #[.int .u8 2, .int .u8 1] 5)).cell? ⟨w.heap.size + 1, 0, none⟩ = some (.int .u8 2) := y0
 have y1' : ((w.alloc (.cells (sc s A c) 30)).alloc (.cells #[.int .u8 2, .int .u8 1] 5)).cell? ⟨w.heap.size + 1, 1, none⟩ = some (.int .u8 1) := y1
 clear y0 y1 hv hm
 have hn0 : nx m s.flags 0 ≤ 4294967295 := by simp only [nx]; omega
 have hn1 : nx m s.flags 1 ≤ 4294967295 := by simp only [nx]; omega
 generalize nx m s.flags 0 = u0 at n0 n0b HN1 hn0
 generalize nx m s.flags 1 = u1 at HN1 HN2 hn1
 generalize nx m s.flags 2 = u2 at HN2 HV
 have HX6 := Lib.hid x6
 have HY0 := Lib.hid y0'
 have HY1 := Lib.hid y1'
 clear x6 y0' y1'
 go_enter Tryz.func16, Tryz.ntmps16
 go_wp2_with fail
 obtain ⟨W1, hW1⟩ : ∃ W1, (w.alloc (.cells (sc s A c) 30)).alloc (.cells #[.int .u8 2, .int .u8 1] 5) = W1 := ⟨_, rfl⟩
 rw [hW1] at HX6 HY0 HY1 HB ⊢
 clear hW1
 go_loopw [3, 15] (fun n i wr => ∃ j u : Nat, i = .int .i64 (j : Int) ∧ n = .int .u32 (u : Int) ∧ wr = W1 ∧ ((j = 0 ∧ u = u0) ∨ (j = 1 ∧ u = u1) ∨ (j = 2 ∧ u = u2))) (fun _ i _ => 3 - (intOf i).toNat)
 case atStart => exact ⟨0, u0, rfl, by rw [n0b], rfl, .inl ⟨rfl, rfl⟩⟩
 case round =>
   obtain ⟨j, u, rfl, rfl, rfl, h⟩ := hrel
   have x6 := HX6.out
   have y0 := HY0.out
   have y1 := HY1.out
   rcases h with ⟨rfl, rfl⟩ | ⟨rfl, rfl⟩ | ⟨rfl, rfl⟩
   · by_cases hf : s.flags / 2 % 2 = 1
     · have f1 : (((s.flags / 2 % 2 * 2 : Nat) : Int) != 0) = true := bne_iff_ne.2 (by omega)
       have f2 : ((s.flags : Int) / 2 % 2 * 2 != 0) = true := bne_iff_ne.2 (by omega)
       have HV1 : Hid (((u : Int) + 1) % 4294967296 = (u1 : Int)) := Lib.hid (by have := HN1.out; omega)
       clear hf
       go_wp2_with fail
       go_roundw
       case rel => exact ⟨1, u1, by go_num, by first | rfl | rw [← HV1.out] | (rw [← HV1.out]; rfl), trivial, .inr (.inl ⟨rfl, rfl⟩)⟩
       case measure => simp [intOf]
     · have f1 : (((s.flags / 2 % 2 * 2 : Nat) : Int) != 0) = false := by rw [show s.flags / 2 % 2 = 0 by omega]; rfl
       have f2 : ((s.flags : Int) / 2 % 2 * 2 != 0) = false := by rw [show (s.flags : Int) / 2 % 2 * 2 = 0 by omega]; rfl
       have HV1 : Hid (u = u1) := Lib.hid (by have := HN1.out; omega)
       clear hf
       go_wp2_with fail
       go_roundw
       case rel => exact ⟨1, u1, by go_num, by rw [HV1.out], trivial, .inr (.inl ⟨rfl, rfl⟩)⟩
       case measure => simp [intOf]
   · by_cases hf : s.flags % 2 = 1
     · have f1 : (((s.flags % 2 : Nat) : Int) != 0) = true := bne_iff_ne.2 (by omega)
       have f2 : ((s.flags : Int) % 2 != 0) = true := bne_iff_ne.2 (by omega)
       have HV1 : Hid (((u : Int) + 1) % 4294967296 = (u2 : Int)) := Lib.hid (by have := HN2.out; omega)
       clear hf
       go_wp2_with fail
       go_roundw
       case rel => exact ⟨2, u2, by go_num, by first | rfl | rw [← HV1.out] | (rw [← HV1.out]; rfl), trivial, .inr (.inr ⟨rfl, rfl⟩)⟩
       case measure => simp [intOf]
     · have f1 : (((s.flags % 2 : Nat) : Int) != 0) = false := by rw [show s.flags % 2 = 0 by omega]; rfl
       have f2 : ((s.flags : Int) % 2 != 0) = false := by rw [show (s.flags : Int) % 2 = 0 by omega]; rfl
       have HV1 : Hid (u = u2) := Lib.hid (by have := HN2.out; omega)
       clear hf
       go_wp2_with fail
       go_roundw
       case rel => exact ⟨2, u2, by go_num, by rw [HV1.out], trivial, .inr (.inr ⟨rfl, rfl⟩)⟩
       case measure => simp [intOf]
   · go_wp2_with fail
     go_ret
     exact ⟨by rw [HV.out]; rfl, HB.out⟩
end Go.Proofs.YtpmnmnflaijaaaaGreat.PktNx
