/-
  The walk of the statement that Text, Parse, Bytes, Read, Compare, Turned answer as the document's own.
-/
import Derived.Test.YtpphpnnehljekaaDoorTupAlive
namespace Go.Proofs.YtpphpnnehljekaaDoor.TupTellsC
open Go.RowKit Own TupMath TupMath2 Bytes TupLib TupLay TupTake TupRead TupRef TupRef2 TupRef3 TupOrd TupText TupParse TupF TupAlive Calm
set_option linter.unusedVariables false
set_option maxRecDepth 100000

theorem par_same {l : List Nat} {w1 w1' w2 w2' : World} {e f : Ending} (h : ParOut l w1 e w1') (h2 : ParOut l w2 f w2') : ∃ ip po er : Nat, e = .returned (.tuple #[adr ip po, .int .i64 (er : Int)]) ∧ f = .returned (.tuple #[adr ip po, .int .i64 (er : Int)]) ∧ Below w1.heap.size w1 w1' ∧ Below w2.heap.size w2 w2' := by
  obtain ⟨⟨ip, po, er, rfl, h⟩, hb⟩ := h
  obtain ⟨⟨ip2, po2, er2, rfl, h2⟩, hb2⟩ := h2
  refine ⟨ip, po, er, rfl, ?_, hb, hb2⟩
  rcases h with ⟨h, rfl⟩ | ⟨h, rfl, rfl, rfl⟩ <;> rcases h2 with ⟨h2, rfl⟩ | ⟨h2, rfl, rfl, rfl⟩
  · rw [h] at h2
    injection h2 with h2
    injection h2 with e1 e2
    subst e1 e2
    rfl
  · rw [h] at h2; cases h2
  · rw [h] at h2; cases h2
  · rfl
/-- what Parse answers -/
def PV (l : List Nat) (ip po er : Nat) : Prop := (parP l = some (ip, po) ∧ er = 0) ∨ (parP l = none ∧ ip = 0 ∧ po = 0 ∧ er = 8)
theorem pv_same {l : List Nat} {ip po er ip2 po2 er2 : Nat} (h : PV l ip po er) (h2 : PV l ip2 po2 er2) : ip2 = ip ∧ po2 = po ∧ er2 = er := by
  rcases h with ⟨h, rfl⟩ | ⟨h, rfl, rfl, rfl⟩ <;> rcases h2 with ⟨h2, rfl⟩ | ⟨h2, rfl, rfl, rfl⟩
  · rw [h] at h2
    injection h2 with h2
    injection h2 with e1 e2
    exact ⟨e1.symm, e2.symm, rfl⟩
  · rw [h] at h2; cases h2
  · rw [h] at h2; cases h2
  · exact ⟨rfl, rfl, rfl⟩
/-- what Read answers -/
def RV (l : List Nat) (ip po er : Nat) : Prop := (l = b32 ip ++ b16 po ∧ er = 0) ∨ (l.length ≠ 6 ∧ ip = 0 ∧ po = 0 ∧ er = 8)
theorem rv_of {l : List Nat} {w w' : World} {e : Ending} (h : ReadOut l w e w') : ∃ ip po er : Nat, e = .returned (.tuple #[adr ip po, .int .i64 (er : Int)]) ∧ RV l ip po er ∧ Below w.heap.size w w' := by
  obtain ⟨h, hb⟩ := h
  by_cases h6 : l.length = 6
  · rw [if_pos h6] at h
    obtain ⟨ip, po, he, hl, _⟩ := h
    exact ⟨ip, po, 0, he, .inl ⟨hl, rfl⟩, hb⟩
  · rw [if_neg h6] at h
    exact ⟨0, 0, 8, h, .inr ⟨h6, rfl, rfl, rfl⟩, hb⟩
theorem rv_same {l : List Nat} {ip po er ip2 po2 er2 : Nat} (h : RV l ip po er) (h2 : RV l ip2 po2 er2) : ip2 = ip ∧ po2 = po ∧ er2 = er := by
  rcases h with ⟨h, rfl⟩ | ⟨h, rfl, rfl, rfl⟩ <;> rcases h2 with ⟨h2, rfl⟩ | ⟨h2, rfl, rfl, rfl⟩
  · rw [h] at h2
    simp only [b32, b16, List.cons_append, List.nil_append, List.cons.injEq, and_true] at h2
    omega
  · rw [h] at h2; exact absurd rfl h2
  · rw [h2] at h; exact absurd rfl h
  · exact ⟨rfl, rfl, rfl⟩

set_option maxHeartbeats 16000000 in
theorem tells_any (a b c d p q r s : Nat) (S T : ByteArray) (w : World) (ha : a ≤ 4294967295) (hb : b ≤ 65535) (hc : c ≤ 4294967295) (hd : d ≤ 65535) (hp : p ≤ 4294967295) (hq : q ≤ 65535) (hr : r ≤ 4294967295) (hs : s ≤ 65535)
    (hS : S.size ≤ 9223372036854775807) (hT : T.size ≤ 9223372036854775807) (E : Env w) :
    Calls Tryd.prog 3 #[par a b c d, par p q r s, .string S, .string T] w fun e w' => e = .returned (.bool true) ∧ Below w.heap.size w w' := by
  have A0 := At.new w #[.int .u32 (a : Int), .int .u16 (b : Int), .int .u32 (c : Int), .int .u16 (d : Int)] 27
  have B0 := below_alloc w (.cells #[.int .u32 (a : Int), .int .u16 (b : Int), .int .u32 (c : Int), .int .u16 (d : Int)] 27)
  have A1 := At.new (w.alloc (.cells #[.int .u32 (a : Int), .int .u16 (b : Int), .int .u32 (c : Int), .int .u16 (d : Int)] 27)) #[.int .u32 (p : Int), .int .u16 (q : Int), .int .u32 (r : Int), .int .u16 (s : Int)] 27
  have B1 := below_alloc (w.alloc (.cells #[.int .u32 (a : Int), .int .u16 (b : Int), .int .u32 (c : Int), .int .u16 (d : Int)] 27)) (.cells #[.int .u32 (p : Int), .int .u16 (q : Int), .int .u32 (r : Int), .int .u16 (s : Int)] 27)
  rw [World.size_alloc] at A1
  have A0 := A0.more B1
  have BW := st_call B0 B1
  by_cases h1 : 1024 < S.size
  · go_enter Tryd.func3, Tryd.ntmps3
    go_wp2_with fail
    refine (alive_any _ (E.stays BW)).mono ?_
    rintro e w1 ⟨rfl, hb1⟩
    go_wp2_with fail
    go_ret
    exact ⟨rfl, st_call BW hb1⟩
  by_cases h2 : 1024 < T.size
  · go_enter Tryd.func3, Tryd.ntmps3
    go_wp2_with fail
    refine (alive_any _ (E.stays BW)).mono ?_
    rintro e w1 ⟨rfl, hb1⟩
    go_wp2_with fail
    go_ret
    exact ⟨rfl, st_call BW hb1⟩
  have hS2 : S.size ≤ 1000000 := by omega
  have hT2 : T.size ≤ 1000000 := by omega
  have HA0 := Lib.hid A0
  have HA1 := Lib.hid A1
  have HBW := Lib.hid BW
  clear A0 B0 A1 B1 BW
  go_enter Tryd.func3, Tryd.ntmps3
  go_wp2_with fail
  refine (parse_any S _ hS2 (E.stays HBW.out)).mono ?_
  rintro e w1 ⟨⟨i1, o1, r1, rfl, hv1⟩, hb1⟩
  have HV1 := Lib.hid (show PV (bz S) i1 o1 r1 from hv1)
  have HA0 := Lib.hid (HA0.out.more hb1)
  have HA1 := Lib.hid (HA1.out.more hb1)
  have HBW := Lib.hid (st_call HBW.out hb1)
  clear hv1 hb1
  go_wp2_with fail
  have B2 := below_alloc w1 (.cells #[.int .u32 (i1 : Int), .int .u16 (o1 : Int)] 25)
  have A2 := At.new w1 #[.int .u32 (i1 : Int), .int .u16 (o1 : Int)] 25
  refine (parseR_any S _ hS2).mono ?_
  rintro e w2 ⟨⟨i2, o2, r2, rfl, hv2⟩, hb2⟩
  obtain ⟨rfl, rfl, rfl⟩ := pv_same HV1.out hv2
  have HA0 := Lib.hid ((HA0.out.more B2).more hb2)
  have HA1 := Lib.hid ((HA1.out.more B2).more hb2)
  have HA2 := Lib.hid (A2.more hb2)
  have HBW := Lib.hid (st_call (st_call HBW.out B2) hb2)
  clear hv2 hb2 A2 B2 HV1
  go_wp2_with fail
  have B2 := below_alloc w2 (.cells #[.int .u32 (i2 : Int), .int .u16 (o2 : Int)] 25)
  have A3 := At.new w2 #[.int .u32 (i2 : Int), .int .u16 (o2 : Int)] 25
  refine (read_any T _ hT2).mono ?_
  rintro e w3 hr3
  obtain ⟨i3, o3, r3, rfl, hv3, hb3⟩ := rv_of hr3
  have HV3 := Lib.hid hv3
  have HA0 := Lib.hid ((HA0.out.more B2).more hb3)
  have HA1 := Lib.hid ((HA1.out.more B2).more hb3)
  have HA2 := Lib.hid ((HA2.out.more B2).more hb3)
  have HA3 := Lib.hid (A3.more hb3)
  have HBW := Lib.hid (st_call (st_call HBW.out B2) hb3)
  clear hv3 hb3 A3 B2 hr3
  go_wp2_with fail
  have B2 := below_alloc w3 (.cells #[.int .u32 (i3 : Int), .int .u16 (o3 : Int)] 25)
  have A4 := At.new w3 #[.int .u32 (i3 : Int), .int .u16 (o3 : Int)] 25
  refine (readR_out T _ hT2).mono ?_
  rintro e w4 hr4
  obtain ⟨i4, o4, r4, rfl, hv4, hb4⟩ := rv_of hr4
  obtain ⟨rfl, rfl, rfl⟩ := rv_same HV3.out hv4
  have HA0 := Lib.hid ((HA0.out.more B2).more hb4)
  have HA1 := Lib.hid ((HA1.out.more B2).more hb4)
  have HA2 := Lib.hid ((HA2.out.more B2).more hb4)
  have HA3 := Lib.hid ((HA3.out.more B2).more hb4)
  have HA4 := Lib.hid (A4.more hb4)
  have HBW := Lib.hid (st_call (st_call HBW.out B2) hb4)
  clear hv4 hb4 A4 B2 hr4 HV3
  go_wp2_with fail
  have B2 := below_alloc w4 (.cells #[.int .u32 (i4 : Int), .int .u16 (o4 : Int)] 25)
  have A5 := At.new w4 #[.int .u32 (i4 : Int), .int .u16 (o4 : Int)] 25
  have A0 := HA0.out.more B2
  have A1 := HA1.out.more B2
  have A2 := HA2.out.more B2
  have A3 := HA3.out.more B2
  have A4 := HA4.out.more B2
  have BW := Lib.hid (st_call HBW.out B2)
  generalize w4.alloc (.cells #[.int .u32 (i4 : Int), .int .u16 (o4 : Int)] 25) = w5 at A0 A1 A2 A3 A4 A5 BW ⊢
  clear HA0 HA1 HA2 HA3 HA4 HBW B2
  have c00 : ∀ i : Later w5.heap.size w5, i.w.cell? ⟨w.heap.size, 0, none⟩ = some (.int .u32 (a : Int)) := fun i => (A0.more i.h).2 0 _ rfl
  have c01 : ∀ i : Later w5.heap.size w5, i.w.cell? ⟨w.heap.size, 1, none⟩ = some (.int .u16 (b : Int)) := fun i => (A0.more i.h).2 1 _ rfl
  have c02 : ∀ i : Later w5.heap.size w5, i.w.cell? ⟨w.heap.size, 2, none⟩ = some (.int .u32 (c : Int)) := fun i => (A0.more i.h).2 2 _ rfl
  have c03 : ∀ i : Later w5.heap.size w5, i.w.cell? ⟨w.heap.size, 3, none⟩ = some (.int .u16 (d : Int)) := fun i => (A0.more i.h).2 3 _ rfl
  have c10 : ∀ i : Later w5.heap.size w5, i.w.cell? ⟨w.heap.size + 1, 0, none⟩ = some (.int .u32 (p : Int)) := fun i => (A1.more i.h).2 0 _ rfl
  have c11 : ∀ i : Later w5.heap.size w5, i.w.cell? ⟨w.heap.size + 1, 1, none⟩ = some (.int .u16 (q : Int)) := fun i => (A1.more i.h).2 1 _ rfl
  have c12 : ∀ i : Later w5.heap.size w5, i.w.cell? ⟨w.heap.size + 1, 2, none⟩ = some (.int .u32 (r : Int)) := fun i => (A1.more i.h).2 2 _ rfl
  have c13 : ∀ i : Later w5.heap.size w5, i.w.cell? ⟨w.heap.size + 1, 3, none⟩ = some (.int .u16 (s : Int)) := fun i => (A1.more i.h).2 3 _ rfl
  have c20 : ∀ i : Later w5.heap.size w5, i.w.cell? ⟨w1.heap.size, 0, none⟩ = some (.int .u32 (i2 : Int)) := fun i => (A2.more i.h).2 0 _ rfl
  have c21 : ∀ i : Later w5.heap.size w5, i.w.cell? ⟨w1.heap.size, 1, none⟩ = some (.int .u16 (o2 : Int)) := fun i => (A2.more i.h).2 1 _ rfl
  have c30 : ∀ i : Later w5.heap.size w5, i.w.cell? ⟨w2.heap.size, 0, none⟩ = some (.int .u32 (i2 : Int)) := fun i => (A3.more i.h).2 0 _ rfl
  have c31 : ∀ i : Later w5.heap.size w5, i.w.cell? ⟨w2.heap.size, 1, none⟩ = some (.int .u16 (o2 : Int)) := fun i => (A3.more i.h).2 1 _ rfl
  have c40 : ∀ i : Later w5.heap.size w5, i.w.cell? ⟨w3.heap.size, 0, none⟩ = some (.int .u32 (i4 : Int)) := fun i => (A4.more i.h).2 0 _ rfl
  have c41 : ∀ i : Later w5.heap.size w5, i.w.cell? ⟨w3.heap.size, 1, none⟩ = some (.int .u16 (o4 : Int)) := fun i => (A4.more i.h).2 1 _ rfl
  have c50 : ∀ i : Later w5.heap.size w5, i.w.cell? ⟨w4.heap.size, 0, none⟩ = some (.int .u32 (i4 : Int)) := fun i => (A5.more i.h).2 0 _ rfl
  have c51 : ∀ i : Later w5.heap.size w5, i.w.cell? ⟨w4.heap.size, 1, none⟩ = some (.int .u16 (o4 : Int)) := fun i => (A5.more i.h).2 1 _ rfl
  have EV : ∀ i : Later w5.heap.size w5, Env i.w := fun i => E.stays (st_call BW.out i.h)
  have KT := Lib.hid (fun i : Later w5.heap.size w5 => textF a b i.w ha hb (EV i))
  have KTR := Lib.hid (fun i : Later w5.heap.size w5 => textRF a b i.w ha hb)
  have KB := Lib.hid (fun i : Later w5.heap.size w5 => bytesF a b i.w ha hb)
  have KBR := Lib.hid (fun i : Later w5.heap.size w5 => bytesRF a b i.w ha hb)
  have KU := Lib.hid (fun i : Later w5.heap.size w5 => turned_any a b c d i.w)
  have KC := Lib.hid (fun i : Later w5.heap.size w5 => cmpF a b c d p q r s i.w)
  have KCR := Lib.hid (fun i : Later w5.heap.size w5 => compareR_any a b c d p q r s i.w ha hb hc hd hp hq hr hs)
  have KA := Lib.hid (fun i : Later w5.heap.size w5 => alive_any i.w (EV i))
  clear A0 A1 A2 A3 A4 A5 EV
  refine wp_region_later (n := w5.heap.size) w5 (Below.refl _ _) (by kernel_rfl) (by kernel_rfl) ?_
  repeat (first | go_big_quiet_step ((first | (go_at_call 10; exact later_calls (Nat.le_refl _) _ (KT.out _)) | (go_at_call 11; exact later_calls (Nat.le_refl _) _ (KTR.out _)) | (go_at_call 12; exact later_calls (Nat.le_refl _) _ (KB.out _)) | (go_at_call 13; exact later_calls (Nat.le_refl _) _ (KBR.out _)) | (go_at_call 16; exact later_calls (Nat.le_refl _) _ (KU.out _)) | (go_at_call 14; exact later_calls (Nat.le_refl _) _ (KC.out _)) | (go_at_call 15; exact later_calls (Nat.le_refl _) _ (KCR.out _)) | (go_at_call 5; exact later_calls (Nat.le_refl _) _ (KA.out _)))) | quiet_step ((first | (go_at_call 10; exact later_calls (Nat.le_refl _) _ (KT.out _)) | (go_at_call 11; exact later_calls (Nat.le_refl _) _ (KTR.out _)) | (go_at_call 12; exact later_calls (Nat.le_refl _) _ (KB.out _)) | (go_at_call 13; exact later_calls (Nat.le_refl _) _ (KBR.out _)) | (go_at_call 16; exact later_calls (Nat.le_refl _) _ (KU.out _)) | (go_at_call 14; exact later_calls (Nat.le_refl _) _ (KC.out _)) | (go_at_call 15; exact later_calls (Nat.le_refl _) _ (KCR.out _)) | (go_at_call 5; exact later_calls (Nat.le_refl _) _ (KA.out _)))))
  refine wpQuiet_nil ?_
  rintro W ⟨⟨wj, hj⟩, rfl⟩
  go_wp2
  go_ret
  exact ⟨rfl, st_call BW.out hj⟩
end Go.Proofs.YtpphpnnehljekaaDoor.TupTellsC
