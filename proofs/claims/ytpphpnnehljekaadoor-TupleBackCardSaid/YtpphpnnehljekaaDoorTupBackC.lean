/-
  The walk of the statement that what was written is read, that texts and bytes tell addresses apart, and that pairs stand in the order of their bytes.
-/
import Derived.Test.YtpphpnnehljekaaDoorTupAlive
import Derived.Test.YtpphpnnehljekaaDoorTupMath3
namespace Go.Proofs.YtpphpnnehljekaaDoor.TupBackC
open Go.RowKit Own TupMath TupMath2 TupMath3 Bytes TupLib TupLay TupTake TupRead TupRef TupRef2 TupRef3 TupOrd TupText TupParse TupF TupAlive Calm
set_option linter.unusedVariables false
set_option maxRecDepth 100000

theorem parseF (a b : Nat) (w : World) (ha : a ≤ 4294967295) (hb : b ≤ 65535) (E : Env w) : Calls Tryd.prog 6 #[.string (tx a b)] w fun e w' => e = .returned (.tuple #[adr a b, .int .i64 0]) ∧ Below w.heap.size w w' := by
  refine (parse_any (tx a b) w (Nat.le_trans (tx_size a b ha hb) (by decide)) E).mono ?_
  rintro e w' ⟨⟨ip, po, er, rfl, h⟩, hb2⟩
  rw [bz_tx, par_txt a b ha hb] at h
  rcases h with ⟨h, rfl⟩ | ⟨h, _⟩
  · injection h with h
    injection h with h1 h2
    subst h1 h2
    exact ⟨rfl, hb2⟩
  · cases h
theorem readF (a b : Nat) (w : World) (ha : a ≤ 4294967295) (hb : b ≤ 65535) : Calls Tryd.prog 8 #[.string (by6 a b)] w fun e w' => e = .returned (.tuple #[adr a b, .int .i64 0]) ∧ Below w.heap.size w w' := by
  refine (read_any (by6 a b) w (by rw [by6_size]; decide)).mono ?_
  rw [bz_by6 a b ha hb]
  intro e w' h
  exact read_is h ha hb

set_option maxHeartbeats 16000000 in
theorem back_any (a b c d p q r s : Nat) (w : World) (ha : a ≤ 4294967295) (hb : b ≤ 65535) (hc : c ≤ 4294967295) (hd : d ≤ 65535) (hp : p ≤ 4294967295) (hq : q ≤ 65535) (hr : r ≤ 4294967295) (hs : s ≤ 65535) (E : Env w) :
    Calls Tryd.prog 4 #[par a b c d, par p q r s] w fun e w' => e = .returned (.bool true) ∧ Below w.heap.size w w' := by
  have A0 := At.new w #[.int .u32 (a : Int), .int .u16 (b : Int), .int .u32 (c : Int), .int .u16 (d : Int)] 27
  have B0 := below_alloc w (.cells #[.int .u32 (a : Int), .int .u16 (b : Int), .int .u32 (c : Int), .int .u16 (d : Int)] 27)
  have A1 := At.new (w.alloc (.cells #[.int .u32 (a : Int), .int .u16 (b : Int), .int .u32 (c : Int), .int .u16 (d : Int)] 27)) #[.int .u32 (p : Int), .int .u16 (q : Int), .int .u32 (r : Int), .int .u16 (s : Int)] 27
  have B1 := below_alloc (w.alloc (.cells #[.int .u32 (a : Int), .int .u16 (b : Int), .int .u32 (c : Int), .int .u16 (d : Int)] 27)) (.cells #[.int .u32 (p : Int), .int .u16 (q : Int), .int .u32 (r : Int), .int .u16 (s : Int)] 27)
  rw [World.size_alloc] at A1
  have A0 := A0.more B1
  have HA0 := Lib.hid A0
  have HA1 := Lib.hid A1
  have HBW := Lib.hid (st_call B0 B1)
  clear A0 B0 A1 B1
  go_enter Tryd.func4, Tryd.ntmps4
  go_wp2_with fail
  refine (textF a b _ ha hb (E.stays HBW.out)).mono ?_
  rintro e w1 ⟨rfl, hb1⟩
  have HA0 := Lib.hid (HA0.out.more hb1)
  have HA1 := Lib.hid (HA1.out.more hb1)
  have HBW := Lib.hid (st_call HBW.out hb1)
  clear hb1
  go_wp2_with fail
  refine (parseF a b _ ha hb (E.stays HBW.out)).mono ?_
  rintro e w2 ⟨rfl, hb2⟩
  have HA0 := Lib.hid (HA0.out.more hb2)
  have HA1 := Lib.hid (HA1.out.more hb2)
  have HBW := Lib.hid (st_call HBW.out hb2)
  clear hb2
  have z0 := HA0.out.2 0 _ rfl
  have z1 := HA0.out.2 1 _ rfl
  have zl := HA0.out.1
  go_wp2_with fail
  clear z0 z1 zl
  have B2 := below_alloc w2 (.cells #[.int .u32 (a : Int), .int .u16 (b : Int)] 25)
  have A2 := At.new w2 #[.int .u32 (a : Int), .int .u16 (b : Int)] 25
  refine (bytesF a b _ ha hb).mono ?_
  rintro e w3 ⟨rfl, hb3⟩
  have HA0 := Lib.hid ((HA0.out.more B2).more hb3)
  have HA1 := Lib.hid ((HA1.out.more B2).more hb3)
  have HA2 := Lib.hid (A2.more hb3)
  have HBW := Lib.hid (st_call (st_call HBW.out B2) hb3)
  clear hb3 A2 B2
  go_wp2_with fail
  refine (readF a b _ ha hb).mono ?_
  rintro e w4 ⟨rfl, hb4⟩
  have HA0 := Lib.hid (HA0.out.more hb4)
  have HA1 := Lib.hid (HA1.out.more hb4)
  have HA2 := Lib.hid (HA2.out.more hb4)
  have HBW := Lib.hid (st_call HBW.out hb4)
  clear hb4
  have z0 := HA0.out.2 0 _ rfl
  have z1 := HA0.out.2 1 _ rfl
  have zl := HA0.out.1
  have y0 := HA2.out.2 0 _ rfl
  have y1 := HA2.out.2 1 _ rfl
  have yl := HA2.out.1
  go_upto_region 5 with (fail)
  clear z0 z1 zl y0 y1 yl
  have B2 := below_alloc w4 (.cells #[.int .u32 (a : Int), .int .u16 (b : Int)] 25)
  have A0 := HA0.out.more B2
  have A1 := HA1.out.more B2
  have BW := Lib.hid (st_call HBW.out B2)
  generalize w4.alloc (.cells #[.int .u32 (a : Int), .int .u16 (b : Int)] 25) = w5 at A0 A1 BW ⊢
  clear HA0 HA1 HA2 HBW B2
  have HA0 := Lib.hid A0
  have HA1 := Lib.hid A1
  have c00 : ∀ i : Later w5.heap.size w5, i.w.cell? ⟨w.heap.size, 0, none⟩ = some (.int .u32 (a : Int)) := fun i => (A0.more i.h).2 0 _ rfl
  have c01 : ∀ i : Later w5.heap.size w5, i.w.cell? ⟨w.heap.size, 1, none⟩ = some (.int .u16 (b : Int)) := fun i => (A0.more i.h).2 1 _ rfl
  have c10 : ∀ i : Later w5.heap.size w5, i.w.cell? ⟨w.heap.size + 1, 0, none⟩ = some (.int .u32 (p : Int)) := fun i => (A1.more i.h).2 0 _ rfl
  have c11 : ∀ i : Later w5.heap.size w5, i.w.cell? ⟨w.heap.size + 1, 1, none⟩ = some (.int .u16 (q : Int)) := fun i => (A1.more i.h).2 1 _ rfl
  have EV : ∀ i : Later w5.heap.size w5, Env i.w := fun i => E.stays (st_call BW.out i.h)
  have KT1 := Lib.hid (fun i : Later w5.heap.size w5 => textF a b i.w ha hb (EV i))
  have KT2 := Lib.hid (fun i : Later w5.heap.size w5 => textF p q i.w hp hq (EV i))
  have KB1 := Lib.hid (fun i : Later w5.heap.size w5 => bytesF a b i.w ha hb)
  have KB2 := Lib.hid (fun i : Later w5.heap.size w5 => bytesF p q i.w hp hq)
  clear A0 A1 EV
  go_cut [71] (fun d wx => d = .bool false ∧ Below w5.heap.size w5 wx)
  case first =>
    by_cases ca : a = p
    · by_cases cb : b = q
      · subst ca cb
        go_wp2_with fail
        refine wp_region_later (n := w5.heap.size) w5 (Below.refl _ _) (by kernel_rfl) (by kernel_rfl) ?_
        repeat (first | go_big_quiet_step ((first | (go_at_call 10; exact later_calls (Nat.le_refl _) _ (KT1.out _)) | (go_at_call 12; exact later_calls (Nat.le_refl _) _ (KB1.out _)))) | quiet_step ((first | (go_at_call 10; exact later_calls (Nat.le_refl _) _ (KT1.out _)) | (go_at_call 12; exact later_calls (Nat.le_refl _) _ (KB1.out _)))))
        refine wpQuiet_nil ?_
        rintro W ⟨⟨wj, hj⟩, rfl⟩
        go_wp2
        go_meet
        exact ⟨rfl, hj⟩
      · have t1 : ((tx a b).toList == (tx p q).toList) = false := list_ne (fun e => cb (tx_same a b p q ha hb hp hq e).2)
        have t2 : ((by6 a b).toList == (by6 p q).toList) = false := list_ne (fun e => cb (by_same a b p q ha hb hp hq e).2)
        subst ca
        have cbi : ¬ (b : Int) = (q : Int) := by omega
        go_wp2_with fail
        refine wp_region_later (n := w5.heap.size) w5 (Below.refl _ _) (by kernel_rfl) (by kernel_rfl) ?_
        repeat (first | go_big_quiet_step ((first | (go_at_call_of 10 (Value.agg #[Value.int IntKind.u32 (a : Int), Value.int IntKind.u16 (b : Int)]); exact later_calls (Nat.le_refl _) _ (KT1.out _)) | (go_at_call_of 10 (Value.agg #[Value.int IntKind.u32 (a : Int), Value.int IntKind.u16 (q : Int)]); exact later_calls (Nat.le_refl _) _ (KT2.out _)) | (go_at_call_of 12 (Value.agg #[Value.int IntKind.u32 (a : Int), Value.int IntKind.u16 (b : Int)]); exact later_calls (Nat.le_refl _) _ (KB1.out _)) | (go_at_call_of 12 (Value.agg #[Value.int IntKind.u32 (a : Int), Value.int IntKind.u16 (q : Int)]); exact later_calls (Nat.le_refl _) _ (KB2.out _)))) | quiet_step ((first | (go_at_call_of 10 (Value.agg #[Value.int IntKind.u32 (a : Int), Value.int IntKind.u16 (b : Int)]); exact later_calls (Nat.le_refl _) _ (KT1.out _)) | (go_at_call_of 10 (Value.agg #[Value.int IntKind.u32 (a : Int), Value.int IntKind.u16 (q : Int)]); exact later_calls (Nat.le_refl _) _ (KT2.out _)) | (go_at_call_of 12 (Value.agg #[Value.int IntKind.u32 (a : Int), Value.int IntKind.u16 (b : Int)]); exact later_calls (Nat.le_refl _) _ (KB1.out _)) | (go_at_call_of 12 (Value.agg #[Value.int IntKind.u32 (a : Int), Value.int IntKind.u16 (q : Int)]); exact later_calls (Nat.le_refl _) _ (KB2.out _)))))
        refine wpQuiet_nil ?_
        rintro W ⟨⟨wj, hj⟩, rfl⟩
        go_wp2
        go_meet
        exact ⟨rfl, hj⟩
    · have t1 : ((tx a b).toList == (tx p q).toList) = false := list_ne (fun e => ca (tx_same a b p q ha hb hp hq e).1)
      have t2 : ((by6 a b).toList == (by6 p q).toList) = false := list_ne (fun e => ca (by_same a b p q ha hb hp hq e).1)
      have cai : ¬ (a : Int) = (p : Int) := by omega
      go_wp2_with fail
      refine wp_region_later (n := w5.heap.size) w5 (Below.refl _ _) (by kernel_rfl) (by kernel_rfl) ?_
      repeat (first | go_big_quiet_step ((first | (go_at_call_of 10 (Value.agg #[Value.int IntKind.u32 (a : Int), Value.int IntKind.u16 (b : Int)]); exact later_calls (Nat.le_refl _) _ (KT1.out _)) | (go_at_call_of 10 (Value.agg #[Value.int IntKind.u32 (p : Int), Value.int IntKind.u16 (q : Int)]); exact later_calls (Nat.le_refl _) _ (KT2.out _)) | (go_at_call_of 12 (Value.agg #[Value.int IntKind.u32 (a : Int), Value.int IntKind.u16 (b : Int)]); exact later_calls (Nat.le_refl _) _ (KB1.out _)) | (go_at_call_of 12 (Value.agg #[Value.int IntKind.u32 (p : Int), Value.int IntKind.u16 (q : Int)]); exact later_calls (Nat.le_refl _) _ (KB2.out _)))) | quiet_step ((first | (go_at_call_of 10 (Value.agg #[Value.int IntKind.u32 (a : Int), Value.int IntKind.u16 (b : Int)]); exact later_calls (Nat.le_refl _) _ (KT1.out _)) | (go_at_call_of 10 (Value.agg #[Value.int IntKind.u32 (p : Int), Value.int IntKind.u16 (q : Int)]); exact later_calls (Nat.le_refl _) _ (KT2.out _)) | (go_at_call_of 12 (Value.agg #[Value.int IntKind.u32 (a : Int), Value.int IntKind.u16 (b : Int)]); exact later_calls (Nat.le_refl _) _ (KB1.out _)) | (go_at_call_of 12 (Value.agg #[Value.int IntKind.u32 (p : Int), Value.int IntKind.u16 (q : Int)]); exact later_calls (Nat.le_refl _) _ (KB2.out _)))))
      refine wpQuiet_nil ?_
      rintro W ⟨⟨wj, hj⟩, rfl⟩
      go_wp2
      go_meet
      exact ⟨rfl, hj⟩
  case rest =>
    obtain ⟨rfl, hb6⟩ := hcut
    have HA0 := Lib.hid (HA0.out.more hb6)
    have HA1 := Lib.hid (HA1.out.more hb6)
    have HBW := Lib.hid (st_call BW.out hb6)
    clear c00 c01 c10 c11 KT1 KT2 KB1 KB2 BW hb6
    go_upto_region 7 with (fail)
    have a00 : ∀ i : Later wc.heap.size wc, i.w.cell? ⟨w.heap.size, 0, none⟩ = some (.int .u32 (a : Int)) := fun i => (HA0.out.more i.h).2 0 _ rfl
    have a01 : ∀ i : Later wc.heap.size wc, i.w.cell? ⟨w.heap.size, 1, none⟩ = some (.int .u16 (b : Int)) := fun i => (HA0.out.more i.h).2 1 _ rfl
    have a02 : ∀ i : Later wc.heap.size wc, i.w.cell? ⟨w.heap.size, 2, none⟩ = some (.int .u32 (c : Int)) := fun i => (HA0.out.more i.h).2 2 _ rfl
    have a03 : ∀ i : Later wc.heap.size wc, i.w.cell? ⟨w.heap.size, 3, none⟩ = some (.int .u16 (d : Int)) := fun i => (HA0.out.more i.h).2 3 _ rfl
    have KB1 := Lib.hid (fun i : Later wc.heap.size wc => bytesF a b i.w ha hb)
    have KB2 := Lib.hid (fun i : Later wc.heap.size wc => bytesF c d i.w hc hd)
    have hsz : (by6 a b).size + (by6 c d).size ≤ 9223372036854775807 := by rw [by6_size, by6_size]; decide
    refine wp_region_later (n := wc.heap.size) wc (Below.refl _ _) (by kernel_rfl) (by kernel_rfl) ?_
    repeat (first | go_big_quiet_step ((first | (go_at_call_of 12 (Value.agg #[Value.int IntKind.u32 (a : Int), Value.int IntKind.u16 (b : Int)]); exact later_calls (Nat.le_refl _) _ (KB1.out _)) | (go_at_call_of 12 (Value.agg #[Value.int IntKind.u32 (c : Int), Value.int IntKind.u16 (d : Int)]); exact later_calls (Nat.le_refl _) _ (KB2.out _)))) | quiet_step ((first | (go_at_call_of 12 (Value.agg #[Value.int IntKind.u32 (a : Int), Value.int IntKind.u16 (b : Int)]); exact later_calls (Nat.le_refl _) _ (KB1.out _)) | (go_at_call_of 12 (Value.agg #[Value.int IntKind.u32 (c : Int), Value.int IntKind.u16 (d : Int)]); exact later_calls (Nat.le_refl _) _ (KB2.out _)))))
    refine wpQuiet_nil ?_
    rintro w6 ⟨⟨wj, hj⟩, rfl⟩
    have HA0 := Lib.hid (HA0.out.more hj)
    have HA1 := Lib.hid (HA1.out.more hj)
    have HBW := Lib.hid (st_call HBW.out hj)
    have hx0 : bz (by6 a b ++ by6 c d) = b12 a b c d := by rw [bz_append, bz_by6 a b ha hb, bz_by6 c d hc hd, List.append_assoc]; rfl
    clear a00 a01 a02 a03 KB1 KB2 hsz hj
    generalize by6 a b ++ by6 c d = x at hx0 ⊢
    have HX := Lib.hid hx0
    clear hx0
    go_upto_region 8 with (fail)
    have a10 : ∀ i : Later w6.heap.size w6, i.w.cell? ⟨w.heap.size + 1, 0, none⟩ = some (.int .u32 (p : Int)) := fun i => (HA1.out.more i.h).2 0 _ rfl
    have a11 : ∀ i : Later w6.heap.size w6, i.w.cell? ⟨w.heap.size + 1, 1, none⟩ = some (.int .u16 (q : Int)) := fun i => (HA1.out.more i.h).2 1 _ rfl
    have a12 : ∀ i : Later w6.heap.size w6, i.w.cell? ⟨w.heap.size + 1, 2, none⟩ = some (.int .u32 (r : Int)) := fun i => (HA1.out.more i.h).2 2 _ rfl
    have a13 : ∀ i : Later w6.heap.size w6, i.w.cell? ⟨w.heap.size + 1, 3, none⟩ = some (.int .u16 (s : Int)) := fun i => (HA1.out.more i.h).2 3 _ rfl
    have KB1 := Lib.hid (fun i : Later w6.heap.size w6 => bytesF p q i.w hp hq)
    have KB2 := Lib.hid (fun i : Later w6.heap.size w6 => bytesF r s i.w hr hs)
    have hsz : (by6 p q).size + (by6 r s).size ≤ 9223372036854775807 := by rw [by6_size, by6_size]; decide
    refine wp_region_later (n := w6.heap.size) w6 (Below.refl _ _) (by kernel_rfl) (by kernel_rfl) ?_
    repeat (first | go_big_quiet_step ((first | (go_at_call_of 12 (Value.agg #[Value.int IntKind.u32 (p : Int), Value.int IntKind.u16 (q : Int)]); exact later_calls (Nat.le_refl _) _ (KB1.out _)) | (go_at_call_of 12 (Value.agg #[Value.int IntKind.u32 (r : Int), Value.int IntKind.u16 (s : Int)]); exact later_calls (Nat.le_refl _) _ (KB2.out _)))) | quiet_step ((first | (go_at_call_of 12 (Value.agg #[Value.int IntKind.u32 (p : Int), Value.int IntKind.u16 (q : Int)]); exact later_calls (Nat.le_refl _) _ (KB1.out _)) | (go_at_call_of 12 (Value.agg #[Value.int IntKind.u32 (r : Int), Value.int IntKind.u16 (s : Int)]); exact later_calls (Nat.le_refl _) _ (KB2.out _)))))
    refine wpQuiet_nil ?_
    rintro w7 ⟨⟨wj, hj⟩, rfl⟩
    have HA0 := Lib.hid (HA0.out.more hj)
    have HA1 := Lib.hid (HA1.out.more hj)
    have HBW := Lib.hid (st_call HBW.out hj)
    have hx0 : bz (by6 p q ++ by6 r s) = b12 p q r s := by rw [bz_append, bz_by6 p q hp hq, bz_by6 r s hr hs, List.append_assoc]; rfl
    clear a10 a11 a12 a13 KB1 KB2 hsz hj
    generalize by6 p q ++ by6 r s = y at hx0 ⊢
    have HY := Lib.hid hx0
    clear hx0
    have z0 := HA0.out.2 0 _ rfl
    have z1 := HA0.out.2 1 _ rfl
    have z2 := HA0.out.2 2 _ rfl
    have z3 := HA0.out.2 3 _ rfl
    have y0 := HA1.out.2 0 _ rfl
    have y1 := HA1.out.2 1 _ rfl
    have y2 := HA1.out.2 2 _ rfl
    have y3 := HA1.out.2 3 _ rfl
    go_wp2_with fail
    refine (cmpF a b c d p q r s _).mono ?_
    rintro e w8 ⟨rfl, hb8⟩
    have HA0 := Lib.hid (HA0.out.more hb8)
    have HA1 := Lib.hid (HA1.out.more hb8)
    have HBW := Lib.hid (st_call HBW.out hb8)
    clear z0 z1 z2 z3 y0 y1 y2 y3 hb8
    have h3 := order_three a b c d p q r s ha hb hc hd hp hq hr hs x y HX.out HY.out
    have KC0 := Lib.hid (fun i : Later w8.heap.size w8 => cmpF p q r s a b c d i.w)
    generalize cmpL [a, b, c, d] [p, q, r, s] = V at h3 ⊢
    generalize cmpL [p, q, r, s] [a, b, c, d] = V' at h3 KC0
    have hgt : ∀ t, binOp .gtr t (.string x) (.string y) = pure (.bool (!(Op.bytesLess x.toList y.toList || x.toList == y.toList))) := fun t => by simp [binOp, Op.stringOp]
    have a00 : ∀ i : Later w8.heap.size w8, i.w.cell? ⟨w.heap.size, 0, none⟩ = some (.int .u32 (a : Int)) := fun i => (HA0.out.more i.h).2 0 _ rfl
    have a01 : ∀ i : Later w8.heap.size w8, i.w.cell? ⟨w.heap.size, 1, none⟩ = some (.int .u16 (b : Int)) := fun i => (HA0.out.more i.h).2 1 _ rfl
    have a02 : ∀ i : Later w8.heap.size w8, i.w.cell? ⟨w.heap.size, 2, none⟩ = some (.int .u32 (c : Int)) := fun i => (HA0.out.more i.h).2 2 _ rfl
    have a03 : ∀ i : Later w8.heap.size w8, i.w.cell? ⟨w.heap.size, 3, none⟩ = some (.int .u16 (d : Int)) := fun i => (HA0.out.more i.h).2 3 _ rfl
    have a10 : ∀ i : Later w8.heap.size w8, i.w.cell? ⟨w.heap.size + 1, 0, none⟩ = some (.int .u32 (p : Int)) := fun i => (HA1.out.more i.h).2 0 _ rfl
    have a11 : ∀ i : Later w8.heap.size w8, i.w.cell? ⟨w.heap.size + 1, 1, none⟩ = some (.int .u16 (q : Int)) := fun i => (HA1.out.more i.h).2 1 _ rfl
    have a12 : ∀ i : Later w8.heap.size w8, i.w.cell? ⟨w.heap.size + 1, 2, none⟩ = some (.int .u32 (r : Int)) := fun i => (HA1.out.more i.h).2 2 _ rfl
    have a13 : ∀ i : Later w8.heap.size w8, i.w.cell? ⟨w.heap.size + 1, 3, none⟩ = some (.int .u16 (s : Int)) := fun i => (HA1.out.more i.h).2 3 _ rfl
    have KU1 := Lib.hid (fun i : Later w8.heap.size w8 => turned_any a b c d i.w)
    have KU2 := Lib.hid (fun i : Later w8.heap.size w8 => turned_any c d a b i.w)
    have KA := Lib.hid (fun i : Later w8.heap.size w8 => alive_any i.w (E.stays (st_call HBW.out i.h)))
    clear HA0 HA1
    rcases h3 with ⟨rfl, rfl, hl, he⟩ | ⟨rfl, rfl, hl, he⟩ | ⟨rfl, rfl, hl, he⟩
    all_goals
      have KC := KC0
      clear KC0
      go_wp2_with fail
      refine wp_region_later (n := w8.heap.size) w8 (Below.refl _ _) (by kernel_rfl) (by kernel_rfl) ?_
      repeat (first | go_big_quiet_step ((first | (go_at_call 14; exact later_calls (Nat.le_refl _) _ (KC.out _)) | (go_at_call_of 16 (Value.agg #[Value.int IntKind.u32 (a : Int), Value.int IntKind.u16 (b : Int), Value.int IntKind.u32 (c : Int), Value.int IntKind.u16 (d : Int)]); exact later_calls (Nat.le_refl _) _ (KU1.out _)) | (go_at_call_of 16 (Value.agg #[Value.int IntKind.u32 (c : Int), Value.int IntKind.u16 (d : Int), Value.int IntKind.u32 (a : Int), Value.int IntKind.u16 (b : Int)]); exact later_calls (Nat.le_refl _) _ (KU2.out _)) | (go_at_call 5; exact later_calls (Nat.le_refl _) _ (KA.out _)))) | quiet_step ((first | (go_at_call 14; exact later_calls (Nat.le_refl _) _ (KC.out _)) | (go_at_call_of 16 (Value.agg #[Value.int IntKind.u32 (a : Int), Value.int IntKind.u16 (b : Int), Value.int IntKind.u32 (c : Int), Value.int IntKind.u16 (d : Int)]); exact later_calls (Nat.le_refl _) _ (KU1.out _)) | (go_at_call_of 16 (Value.agg #[Value.int IntKind.u32 (c : Int), Value.int IntKind.u16 (d : Int), Value.int IntKind.u32 (a : Int), Value.int IntKind.u16 (b : Int)]); exact later_calls (Nat.le_refl _) _ (KU2.out _)) | (go_at_call 5; exact later_calls (Nat.le_refl _) _ (KA.out _)))))
      refine wpQuiet_nil ?_
      rintro W ⟨⟨wj, hj⟩, rfl⟩
      go_wp2
      go_ret
      exact ⟨rfl, st_call HBW.out hj⟩
end Go.Proofs.YtpphpnnehljekaaDoor.TupBackC
