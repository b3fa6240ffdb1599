/-
  The known answers of the statements of layer 4 hold.
-/
import Derived.Test.YtpphpnnehljekaaDoorTupF
namespace Go.Proofs.YtpphpnnehljekaaDoor.TupAlive
open Go.RowKit Own TupMath TupMath2 Bytes TupLib TupLay TupTake TupRead TupRef TupRef2 TupRef3 TupOrd TupText TupParse TupF Calm
set_option linter.unusedVariables false
set_option maxRecDepth 100000

theorem parse1 (w : World) (E : Env w) : Calls Tryd.prog 6 #[.string lit1] w fun e w' => e = .returned (.tuple #[adr 167772161 80, .int .i64 0]) ∧ Below w.heap.size w w' := by
  refine (parse_any lit1 w (by decide) E).mono ?_
  rintro e w' ⟨⟨ip, po, er, rfl, h⟩, hb⟩
  rw [p1] at h
  rcases h with ⟨h, rfl⟩ | ⟨h, _⟩
  · injection h with h
    injection h with h1 h2
    subst h1 h2
    exact ⟨rfl, hb⟩
  · cases h
theorem parse2 (w : World) (E : Env w) : Calls Tryd.prog 6 #[.string lit2] w fun e w' => e = .returned (.tuple #[adr 0 0, .int .i64 8]) ∧ Below w.heap.size w w' := by
  refine (parse_any lit2 w (by decide) E).mono ?_
  rintro e w' ⟨⟨ip, po, er, rfl, h⟩, hb⟩
  rw [p2] at h
  rcases h with ⟨h, _⟩ | ⟨_, rfl, rfl, rfl⟩
  · cases h
  · exact ⟨rfl, hb⟩
theorem read3 (w : World) : Calls Tryd.prog 8 #[.string lit3] w fun e w' => e = .returned (.tuple #[adr 167772161 80, .int .i64 0]) ∧ Below w.heap.size w w' := by
  refine (read_any lit3 w (by decide)).mono ?_
  rw [b3]
  intro e w' h
  exact read_is h (by decide) (by decide)

set_option maxHeartbeats 8000000 in
theorem alive_any (w : World) (E : Env w) : Calls Tryd.prog 5 #[] w fun e w' => e = .returned (.bool true) ∧ Below w.heap.size w w' := by
  go_enter Tryd.func5, Tryd.ntmps5
  go_wp2_with fail
  have B0 := below_alloc w (.cells #[.int .u32 167772161, .int .u16 80] 25)
  have A1 := At.new w #[.int .u32 167772161, .int .u16 80] 25
  refine (parse1 _ (E.stays B0)).mono ?_
  rintro e w1 ⟨rfl, hb1⟩
  have HA1 := Lib.hid (A1.more hb1)
  have HB1 := Lib.hid (st_call B0 hb1)
  clear A1 hb1 B0
  go_wp2_with fail
  have B1 := below_alloc w1 (.cells #[.int .u32 167772161, .int .u16 80] 25)
  have A2 := At.new w1 #[.int .u32 167772161, .int .u16 80] 25
  refine (parse2 _ (E.stays (st_call HB1.out B1))).mono ?_
  rintro e w2 ⟨rfl, hb2⟩
  have HA1 := Lib.hid ((HA1.out.more B1).more hb2)
  have HA2 := Lib.hid (A2.more hb2)
  have HB2 := Lib.hid (st_call (st_call HB1.out B1) hb2)
  clear A2 hb2 B1 HB1
  go_wp2_with fail
  have B2 := below_alloc w2 (.cells #[.int .u32 0, .int .u16 0] 25)
  refine (read3 _).mono ?_
  rintro e w3 ⟨rfl, hb3⟩
  have HA1 := Lib.hid ((HA1.out.more B2).more hb3)
  have HA2 := Lib.hid ((HA2.out.more B2).more hb3)
  have HB3 := Lib.hid (st_call (st_call HB2.out B2) hb3)
  clear hb3 B2 HB2
  have z1 := HA1.out.2 0 _ rfl
  have z2 := HA1.out.2 1 _ rfl
  have z3 := HA1.out.1
  go_wp2_with fail
  clear z1 z2 z3
  have A6 := At.new w3 #[.int .u32 167772161, .int .u16 80] 25
  have A8 := At.new (w3.alloc (.cells #[.int .u32 167772161, .int .u16 80] 25)) #[.int .u32 167772161, .int .u16 80, .int .u32 0, .int .u16 0] 27
  rw [World.size_alloc] at A8
  have B3 := below_alloc w3 (.cells #[.int .u32 167772161, .int .u16 80] 25)
  have B4 := below_alloc (w3.alloc (.cells #[.int .u32 167772161, .int .u16 80] 25)) (.cells #[.int .u32 167772161, .int .u16 80, .int .u32 0, .int .u16 0] 27)
  have HA1 := (HA1.out.more B3).more B4
  have HA2 := (HA2.out.more B3).more B4
  have HA6 := A6.more B4
  have BW := Lib.hid (st_call (st_call HB3.out B3) B4)
  generalize (w3.alloc (.cells #[.int .u32 167772161, .int .u16 80] 25)).alloc (.cells #[.int .u32 167772161, .int .u16 80, .int .u32 0, .int .u16 0] 27) = w5 at HA1 HA2 HA6 A8 BW ⊢
  clear A6 B3 B4
  have c10 : ∀ i : Later w5.heap.size w5, i.w.cell? ⟨w.heap.size, 0, none⟩ = some (.int .u32 167772161) := fun i => (HA1.more i.h).2 0 _ rfl
  have c11 : ∀ i : Later w5.heap.size w5, i.w.cell? ⟨w.heap.size, 1, none⟩ = some (.int .u16 80) := fun i => (HA1.more i.h).2 1 _ rfl
  have c20 : ∀ i : Later w5.heap.size w5, i.w.cell? ⟨w1.heap.size, 0, none⟩ = some (.int .u32 167772161) := fun i => (HA2.more i.h).2 0 _ rfl
  have c21 : ∀ i : Later w5.heap.size w5, i.w.cell? ⟨w1.heap.size, 1, none⟩ = some (.int .u16 80) := fun i => (HA2.more i.h).2 1 _ rfl
  have c60 : ∀ i : Later w5.heap.size w5, i.w.cell? ⟨w3.heap.size, 0, none⟩ = some (.int .u32 167772161) := fun i => (HA6.more i.h).2 0 _ rfl
  have c61 : ∀ i : Later w5.heap.size w5, i.w.cell? ⟨w3.heap.size, 1, none⟩ = some (.int .u16 80) := fun i => (HA6.more i.h).2 1 _ rfl
  have c80 : ∀ i : Later w5.heap.size w5, i.w.cell? ⟨w3.heap.size + 1, 0, none⟩ = some (.int .u32 167772161) := fun i => (A8.more i.h).2 0 _ rfl
  have c81 : ∀ i : Later w5.heap.size w5, i.w.cell? ⟨w3.heap.size + 1, 1, none⟩ = some (.int .u16 80) := fun i => (A8.more i.h).2 1 _ rfl
  have c82 : ∀ i : Later w5.heap.size w5, i.w.cell? ⟨w3.heap.size + 1, 2, none⟩ = some (.int .u32 0) := fun i => (A8.more i.h).2 2 _ rfl
  have c83 : ∀ i : Later w5.heap.size w5, i.w.cell? ⟨w3.heap.size + 1, 3, none⟩ = some (.int .u16 0) := fun i => (A8.more i.h).2 3 _ rfl
  have KT : Hid (∀ i : Later w5.heap.size w5, Calls Tryd.prog 10 #[.agg #[.int .u32 167772161, .int .u16 80]] i.w fun e w' => e = .returned (.string ⟨#[49, 48, 46, 48, 46, 48, 46, 49, 58, 56, 48]⟩) ∧ Below i.w.heap.size i.w w') := Lib.hid fun i => by
    have h := textF 167772161 80 i.w (by decide) (by decide) (E.stays (st_call BW.out i.h))
    rw [tx1] at h
    exact h
  have KB : Hid (∀ i : Later w5.heap.size w5, Calls Tryd.prog 12 #[.agg #[.int .u32 167772161, .int .u16 80]] i.w fun e w' => e = .returned (.string ⟨#[10, 0, 0, 1, 0, 80]⟩) ∧ Below i.w.heap.size i.w w') := Lib.hid fun i => by
    have h := bytesF 167772161 80 i.w (by decide) (by decide)
    rw [by1] at h
    exact h
  have KU : Hid (∀ i : Later w5.heap.size w5, Calls Tryd.prog 16 #[.agg #[.int .u32 167772161, .int .u16 80, .int .u32 0, .int .u16 0]] i.w fun e w' => e = .returned (.agg #[.int .u32 0, .int .u16 0, .int .u32 167772161, .int .u16 80]) ∧ Below i.w.heap.size i.w w') := Lib.hid fun i => turned_any 167772161 80 0 0 i.w
  have KC : Hid (∀ i : Later w5.heap.size w5, Calls Tryd.prog 14 #[.agg #[.int .u32 167772161, .int .u16 80, .int .u32 0, .int .u16 0], .agg #[.int .u32 0, .int .u16 0, .int .u32 167772161, .int .u16 80]] i.w fun e w' => e = .returned (.int .i64 1) ∧ Below i.w.heap.size i.w w') := Lib.hid fun i => cmpF 167772161 80 0 0 0 0 167772161 80 i.w
  have hfd : ∀ W : World, (Instr.field 27 (.agg #[.int .u32 0, .int .u16 0, .int .u32 167772161, .int .u16 80]) 1).run Tryd.prog W = .ok (.agg #[.int .u32 167772161, .int .u16 80]) W := fun _ => by kernel_rfl
  clear HA1 HA2 HA6 A8
  refine wp_region_later (n := w5.heap.size) w5 (Below.refl _ _) (by kernel_rfl) (by kernel_rfl) ?_
  repeat (first | go_big_quiet_step ((first | (go_at_call 10; exact later_calls (Nat.le_refl _) _ (KT.out _)) | (go_at_call 12; exact later_calls (Nat.le_refl _) _ (KB.out _)) | (go_at_call 16; exact later_calls (Nat.le_refl _) _ (KU.out _)) | (go_at_call 14; exact later_calls (Nat.le_refl _) _ (KC.out _)))) | quiet_step ((first | (go_at_call 10; exact later_calls (Nat.le_refl _) _ (KT.out _)) | (go_at_call 12; exact later_calls (Nat.le_refl _) _ (KB.out _)) | (go_at_call 16; exact later_calls (Nat.le_refl _) _ (KU.out _)) | (go_at_call 14; exact later_calls (Nat.le_refl _) _ (KC.out _)))))
  refine wpQuiet_nil ?_
  rintro W ⟨⟨wj, hj⟩, rfl⟩
  go_wp2
  go_ret
  exact ⟨rfl, st_call BW.out hj⟩
end Go.Proofs.YtpphpnnehljekaaDoor.TupAlive
