/-
  The document's own answers of layer 7: take, of the kinds whose option is no row of blocks.
-/
import Derived.Test.YtgpkckaojcodmaaOptMay
namespace Go.Proofs.Ytgpkckaojcodmaa.OptTake
open Go.RowKit Own TupMath SumMath Litb Calm Rel RelT RelK IpMath IpRef OptMath OptRef OptPlc OptSame Boxes OptRaw OptMay
set_option linter.unusedVariables false
set_option maxRecDepth 100000

set_option maxHeartbeats 16000000 in
theorem takeO (o : Opn) (A : Option Addr) (c k : Nat) (s : ByteArray) (w : World) (h2 : k ≠ 2) (h3 : k ≠ 3) (h4 : k ≠ 4) (h5 : k ≠ 5) (h8 : k ≠ 8) :
    Calls Try.prog 29 #[ov o A c, .int .i64 (k : Int), .string s] w fun e w' => e = .returned (.tuple #[ov o A c, .bool true]) ∧ Below w.heap.size w w' := by
  have q2 : ((k : Int) == 2) = false := beq_eq_false_iff_ne.2 (by omega)
  have q3 : ((k : Int) == 3) = false := beq_eq_false_iff_ne.2 (by omega)
  have q4 : ((k : Int) == 4) = false := beq_eq_false_iff_ne.2 (by omega)
  have q5 : ((k : Int) == 5) = false := beq_eq_false_iff_ne.2 (by omega)
  have q8 : ((k : Int) == 8) = false := beq_eq_false_iff_ne.2 (by omega)
  go_enter Try.func29, Try.ntmps29
  go_wp2_with fail
  refine bodyPost_ret (v := .tuple #[ov o A c, .bool true]) ?_ rfl ⟨rfl, st_alloc (st_alloc (Below.refl _ _) _) _⟩
  simp [results, Try.f29, go_sem]

set_option maxHeartbeats 16000000 in
theorem take4 (o : Opn) (A : Option Addr) (c : Nat) (s : ByteArray) (w : World) :
    Calls Try.prog 29 #[ov o A c, .int .i64 4, .string s] w fun e w' => e = .returned (.tuple #[ov { o with sack := true } A c, .bool true]) ∧ Below w.heap.size w w' := by
  go_enter Try.func29, Try.ntmps29
  go_wp2_with fail
  refine bodyPost_ret (v := .tuple #[ov { o with sack := true } A c, .bool true]) ?_ rfl ⟨rfl, st_alloc (st_alloc (Below.refl _ _) _) _⟩
  simp [results, Try.f29, go_sem]

set_option maxHeartbeats 16000000 in
theorem take3 (o : Opn) (A : Option Addr) (c : Nat) (s : ByteArray) (w : World) (hs : s.size = 1) :
    Calls Try.prog 29 #[ov o A c, .int .i64 3, .string s] w fun e w' => e = .returned (.tuple #[ov { o with scale := min (at0 (bz s) 0 : Int) 14 } A c, .bool true]) ∧ Below w.heap.size w w' := by
  have h0 : 0 < s.size := by omega
  have hl := at_le s 0
  have hw : wrap64 ((s[0].toNat : Nat) : Int) = (at0 (bz s) 0 : Int) := by
    rw [at_byte s 0 h0]
    unfold wrap64
    omega
  obtain ⟨x, hx⟩ : ∃ x, at0 (bz s) 0 = x := ⟨_, rfl⟩
  rw [hx] at hw hl ⊢
  clear hx
  by_cases i14 : (x : Int) ≤ 14
  · have hm : min (x : Int) 14 = x := by omega
    rw [hm]
    clear hm
    go_enter Try.func29, Try.ntmps29
    go_wp2_with fail
    refine bodyPost_ret (v := .tuple #[ov { o with scale := (x : Int) } A c, .bool true]) ?_ rfl ⟨rfl, st_alloc (st_alloc (Below.refl _ _) _) _⟩
    simp [results, Try.f29, go_sem]
  · have hm : min (x : Int) 14 = 14 := by omega
    rw [hm]
    clear hm
    go_enter Try.func29, Try.ntmps29
    go_wp2_with fail
    refine bodyPost_ret (v := .tuple #[ov { o with scale := 14 } A c, .bool true]) ?_ rfl ⟨rfl, st_alloc (st_alloc (Below.refl _ _) _) _⟩
    simp [results, Try.f29, go_sem]

set_option maxHeartbeats 16000000 in
theorem take8 (o : Opn) (A : Option Addr) (c : Nat) (s : ByteArray) (w : World) (hs : s.size = 8) :
    Calls Try.prog 29 #[ov o A c, .int .i64 8, .string s] w fun e w' => e = .returned (.tuple #[ov { o with time := true, val := v256 ((bz s).take 4), echo := v256 ((bz s).drop 4) } A c, .bool true]) ∧ Below w.heap.size w w' := by
  have e1 : bz (s.extract 0 4) = (bz s).take 4 := by rw [bz_extract s 0 4 (by omega), List.drop_zero]
  have e2 : bz (s.extract 4 8) = (bz s).drop 4 := by rw [bz_extract s 4 8 (by omega), List.take_of_length_le (by rw [bz_len]; omega)]
  go_enter Try.func29, Try.ntmps29
  go_wp2_with fail
  refine (numR _ _ (by rw [ByteArray.size_extract]; omega)).mono ?_
  rintro e wA ⟨rfl, rfl⟩
  rw [e1]
  go_wp2_with fail
  refine (numR _ _ (by rw [ByteArray.size_extract]; omega)).mono ?_
  rintro e wA ⟨rfl, rfl⟩
  rw [e2]
  go_wp2_with fail
  refine bodyPost_ret (v := .tuple #[ov { o with time := true, val := v256 ((bz s).take 4), echo := v256 ((bz s).drop 4) } A c, .bool true]) ?_ rfl ⟨rfl, st_alloc (st_alloc (Below.refl _ _) _) _⟩
  simp [results, Try.f29, go_sem]

set_option maxHeartbeats 16000000 in
theorem take2 (o : Opn) (A : Option Addr) (c : Nat) (s : ByteArray) (w : World) (hs : s.size = 2) :
    Calls Try.prog 29 #[ov o A c, .int .i64 2, .string s] w fun e w' => e = .returned (.tuple #[ov { o with mss := v256 (bz s) } A c, .bool (decide (v256 (bz s) ≠ 0))]) ∧ Below w.heap.size w w' := by
  have hv : v256 (bz s) < 256 ^ (bz s).length := v256_lt _ (bz_le s)
  rw [bz_len, hs] at hv
  obtain ⟨x, hx⟩ : ∃ x, v256 (bz s) = x := ⟨_, rfl⟩
  have hn := fun W => numR s W (by omega)
  rw [hx] at hv hn ⊢
  clear hx
  have hq : ((x : Int) != 0) = decide (x ≠ 0) := by
    by_cases c : x = 0
    · subst c; rfl
    · rw [decide_eq_true c]; exact bne_iff_ne.2 (by omega)
  have hw : IntKind.u16.wrap (x : Int) = (x : Int) := by
    show (x : Int) % 65536 = x
    omega
  go_enter Try.func29, Try.ntmps29
  go_wp2_with fail
  refine (hn _).mono ?_
  rintro e wA ⟨rfl, rfl⟩
  go_wp2_with fail
  go_region
  all_goals go_wp2_with fail
  refine bodyPost_ret (v := .tuple #[ov { o with mss := x } A c, .bool (decide (x ≠ 0))]) ?_ rfl ⟨rfl, (st_alloc (st_alloc (Below.refl _ _) _) _).drew⟩
  simp [results, Try.f29, go_sem]
end Go.Proofs.Ytgpkckaojcodmaa.OptTake
