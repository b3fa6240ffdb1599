/-
  The document's own answers of layer 4: numbers and addresses as texts and bytes.
-/
import Derived.Test.YtpphpnnehljekaaDoorChecked
import Derived.Test.YtpphpnnehljekaaDoorTupMath
import Derived.WalkKit
import Derived.ProofKit
import Derived.IntWalk
import Derived.Below
import Derived.BigQuiet
import Derived.Deep.QuietTactic
import Derived.Deep.RegionWith
import Derived.Deep.DeepCutAuto
import Derived.Lib.Hide
import Derived.Laws.BitsAllLaws
import Derived.Laws.IdiomStrings
namespace Go.Proofs.YtpphpnnehljekaaDoor.TupRef
open Go.RowKit TupMath
set_option linter.unusedVariables false

theorem byte_le' (x : UInt8) : x.toNat ≤ 255 := by have := x.toNat_lt; omega
theorem ret_str {a b : ByteArray} (h : a = b) : Ending.returned (.string a) = .returned (.string b) := by rw [h]
theorem st_alloc {w W : World} (h : Below w.heap.size w W) (o : Obj) : Below w.heap.size w (W.alloc o) := h.alloc h.size o
theorem st_call {w W W' : World} (h : Below w.heap.size w W) (hb : Below W.heap.size W W') : Below w.heap.size w W' := h.trans (hb.mono h.size)
theorem st_drew {w W : World} (h : Below w.heap.size w W) : Below w.heap.size w W.drew := h.drew
/-- a slice of bytes just built, as a string -/
theorem lit_back (P : Program) (src dst e : TypeId) (hs : P.underlying src = some (.slice e)) (he : P.underlying e = some (.int .u8)) (hd : P.underlying dst = some .string) (l : List Nat) (hl : ∀ x ∈ l, x ≤ 255) (w : World) (T : TypeId) (fr : Nat × Nat) (B : Nat) (hB : w.heap.size = B) :
    (convert src dst (.slice (some ⟨B, 0, none⟩) l.length l.length)).run P (w.alloc (.cells (l.map fun x : Nat => Value.int .u8 (x : Int)).toArray T fr)) = .ok (.string (ofB l)) (w.alloc (.cells (l.map fun x : Nat => Value.int .u8 (x : Int)).toArray T fr)) := by
  subst hB
  have h := run_convert_bytes_back (P := P) (w.alloc (.cells (l.map fun x : Nat => Value.int .u8 (x : Int)).toArray T fr)) src dst e ⟨w.heap.size, 0, none⟩ l.length (l.map UInt8.ofNat) hs he hd (fun j hj => by
    rw [Go.WideShapes.add_plain, Nat.zero_add]
    refine (World.cell?_alloc_mark w _ T fr j).trans ?_
    have hj' : j < l.length := by simpa using hj
    have h2 := hl l[j] (List.getElem_mem hj')
    have h1 : (UInt8.ofNat l[j]).toNat = l[j] := by simp; omega
    simp only [List.getElem?_toArray, List.getElem?_map, List.getElem?_eq_getElem hj', Option.map_some, List.getElem_map, h1])
  simp only [List.length_map] at h
  exact h

theorem lit1_back (P : Program) (src dst e : TypeId) (hs : P.underlying src = some (.slice e)) (he : P.underlying e = some (.int .u8)) (hd : P.underlying dst = some .string) (x : Nat) (hx : x ≤ 255) (v : Int) (hv : v = (x : Int)) (w : World) (T : TypeId) :
    ∃ R, bz R = [x] ∧ R.size = 1 ∧ (convert src dst (.slice (some ⟨w.heap.size, 0, none⟩) 1 1)).run P (w.alloc (.cells #[.int .u8 v] T)) = .ok (.string R) (w.alloc (.cells #[.int .u8 v] T)) := by
  subst hv
  have h1 : ∀ z ∈ [x], z ≤ 255 := by intro z hz; simp at hz; omega
  exact ⟨ofB [x], bz_ofB h1, ofB_size _, lit_back P src dst e hs he hd [x] h1 w T (0, 0) _ rfl⟩

theorem lit6_back (P : Program) (src dst e : TypeId) (hs : P.underlying src = some (.slice e)) (he : P.underlying e = some (.int .u8)) (hd : P.underlying dst = some .string) (x0 x1 x2 x3 x4 x5 : Nat)
    (h0 : x0 ≤ 255) (h1 : x1 ≤ 255) (h2 : x2 ≤ 255) (h3 : x3 ≤ 255) (h4 : x4 ≤ 255) (h5 : x5 ≤ 255) (v0 v1 v2 v3 v4 v5 : Int) (k0 : v0 = (x0 : Int)) (k1 : v1 = (x1 : Int)) (k2 : v2 = (x2 : Int)) (k3 : v3 = (x3 : Int)) (k4 : v4 = (x4 : Int)) (k5 : v5 = (x5 : Int)) (w : World) (T : TypeId) (B : Nat) (hB : w.heap.size = B) :
    ∃ R, bz R = [x0, x1, x2, x3, x4, x5] ∧ R.size = 6 ∧ (convert src dst (.slice (some ⟨B, 0, none⟩) 6 6)).run P (w.alloc (.cells #[.int .u8 v0, .int .u8 v1, .int .u8 v2, .int .u8 v3, .int .u8 v4, .int .u8 v5] T)) = .ok (.string R) (w.alloc (.cells #[.int .u8 v0, .int .u8 v1, .int .u8 v2, .int .u8 v3, .int .u8 v4, .int .u8 v5] T)) := by
  subst k0 k1 k2 k3 k4 k5
  have hx : ∀ z ∈ [x0, x1, x2, x3, x4, x5], z ≤ 255 := by intro z hz; simp at hz; omega
  exact ⟨ofB _, bz_ofB hx, ofB_size _, lit_back P src dst e hs he hd [x0, x1, x2, x3, x4, x5] hx w T (0, 0) B hB⟩

set_option maxRecDepth 100000 in
set_option maxHeartbeats 4000000 in
theorem num_any (n : Nat) (w : World) (hn : n ≤ 1000000000) : Calls Tryd.prog 29 #[.int .u64 (n : Int)] w fun e w' => (∃ S, e = .returned (.string S) ∧ bz S = dec n ∧ S.size ≤ 10) ∧ Below w.heap.size w w' := by
  have hlen := dec_len (n := n) (k := 10) (by omega) (by omega)
  have HL := Lib.hid hlen
  clear hlen
  go_enter Tryd.func29, Tryd.ntmps29
  go_wp2
  go_loopw [0, 3] (fun i s wr => ∃ (m : Nat) (S : ByteArray), i = .int .u64 (m : Int) ∧ s = .string S ∧ dec m ++ bz S = dec n ∧ m ≤ 1000000000 ∧ S.size ≤ 10 ∧ Below w.heap.size w wr)
    (fun i _ _ => (intOf i).toNat)
  case atStart => exact ⟨n, ByteArray.empty, rfl, rfl, by show dec n ++ [] = _; simp, hn, by decide, Below.refl _ _⟩
  case round =>
    obtain ⟨m, S, rfl, rfl, hm, hm2, hS, hB⟩ := hrel
    have HM := Lib.hid hm
    have HB := Lib.hid hB
    clear hm hB
    by_cases h9 : m ≤ 9
    · obtain ⟨R, hR, hRs, hcv⟩ := lit1_back Tryd.prog 41 9 5 Tryd.underlying41 Tryd.underlying5 Tryd.underlying9 (48 + m) (by omega) (48 + (m : Int)) (by omega) wr 5
      have HR := Lib.hid hR
      have hsum : R.size + S.size ≤ 9223372036854775807 := by omega
      clear hR
      go_wp2
      go_ret
      have e1 : bz (R ++ S) = dec n := by rw [bz_append, HR.out, ← HM.out, dec_small h9]
      exact ⟨⟨_, rfl, e1, by rw [← bz_len, e1]; exact HL.out⟩, st_alloc HB.out _⟩
    · obtain ⟨R, hR, hRs, hcv⟩ := lit1_back Tryd.prog 41 9 5 Tryd.underlying41 Tryd.underlying5 Tryd.underlying9 (48 + m % 10) (by omega) (48 + (m : Int) % 10) (by omega) wr 5
      have HR := Lib.hid hR
      have hsum : R.size + S.size ≤ 9223372036854775807 := by omega
      clear hR
      go_wp2
      go_roundw
      case rel =>
        have e1 : dec (m / 10) ++ bz (R ++ S) = dec n := by rw [bz_append, HR.out, ← HM.out, dec_big h9, List.append_assoc]
        exact ⟨m / 10, R ++ S, by go_num, rfl, e1, by omega, by rw [← bz_len]; have h1 := HL.out; rw [← e1, List.length_append] at h1; omega, st_alloc HB.out _⟩
      case measure => simp only [intOf]; omega

set_option maxRecDepth 100000 in
set_option maxHeartbeats 1000000 in
theorem bytesR_any (ip po : Nat) (w : World) (hi : ip ≤ 4294967295) (hp : po ≤ 65535) : Calls Tryd.prog 13 #[.agg #[.int .u32 (ip : Int), .int .u16 (po : Int)]] w fun e w' => (∃ S, e = .returned (.string S) ∧ bz S = [ip / 16777216, ip / 65536 % 256, ip / 256 % 256, ip % 256, po / 256, po % 256]) ∧ Below w.heap.size w w' := by
  obtain ⟨R, hR, hRs, hcv⟩ := lit6_back Tryd.prog 41 9 5 Tryd.underlying41 Tryd.underlying5 Tryd.underlying9 (ip / 16777216) (ip / 65536 % 256) (ip / 256 % 256) (ip % 256) (po / 256) (po % 256) (by omega) (by omega) (by omega) (by omega) (by omega) (by omega)
    ((ip : Int) / 16777216) ((ip : Int) / 65536 % 256) ((ip : Int) / 256 % 256) ((ip : Int) % 256) ((po : Int) / 256) ((po : Int) % 256) (by omega) (by omega) (by omega) (by omega) (by omega) (by omega) (w.alloc (.cells #[.int .u32 (ip : Int), .int .u16 (po : Int)] 25)) 5 _ (World.size_alloc _ _)
  have HR := Lib.hid hR
  clear hR
  go_enter Tryd.func13, Tryd.ntmps13
  go_wp2
  go_ret
  exact ⟨⟨_, rfl, HR.out⟩, st_alloc (st_alloc (Below.refl _ _) _) _⟩

set_option maxRecDepth 100000 in
set_option maxHeartbeats 2000000 in
theorem readR_any (s : ByteArray) (w : World) (hs : s.size ≤ 9223372036854775807) : Calls Tryd.prog 9 #[.string s] w fun e w' =>
    (if s.size = 6 then ∃ ip po : Nat, e = .returned (.tuple #[.agg #[.int .u32 (ip : Int), .int .u16 (po : Int)], .int .i64 0]) ∧ bz s = [ip / 16777216, ip / 65536 % 256, ip / 256 % 256, ip % 256, po / 256, po % 256] ∧ ip ≤ 4294967295 ∧ po ≤ 65535
      else e = .returned (.tuple #[.agg #[.int .u32 0, .int .u16 0], .int .i64 8])) ∧ Below w.heap.size w w' := by
  by_cases h6 : s.size = 6
  · simp only [if_pos h6]
    have hl6 : (bz s).length = 6 := by rw [bz_len]; exact h6
    have HLe := Lib.hid (bz_le s)
    have a4 := bz_at s 4 (by omega)
    have a5 := bz_at s 5 (by omega)
    obtain ⟨y4, hy4⟩ : ∃ y, s[4].toNat = y := ⟨_, rfl⟩
    obtain ⟨y5, hy5⟩ : ∃ y, s[5].toNat = y := ⟨_, rfl⟩
    rw [hy4] at a4
    rw [hy5] at a5
    have q4 : y4 ≤ 255 := HLe.out _ (List.mem_of_getElem? a4)
    have q5 : y5 ≤ 255 := HLe.out _ (List.mem_of_getElem? a5)
    have A4 := Lib.hid a4
    have A5 := Lib.hid a5
    clear hl6 a4 a5
    go_enter Tryd.func9, Tryd.ntmps9
    go_wp2
    go_loopw [5] (fun i wr => ∃ k : Nat, k ≤ 4 ∧ i = .int .i64 (k : Int) ∧ wr.cell? ⟨w.heap.size + 1, 0, none⟩ = some (.int .u32 ((v256 ((bz s).take k) : Nat) : Int)) ∧ wr.cell? ⟨w.heap.size + 1, 1, none⟩ = some (.int .u16 0) ∧ wr.frozen? ⟨w.heap.size + 1, 0, none⟩ = false ∧ wr.frozen? ⟨w.heap.size + 1, 1, none⟩ = false ∧
        wr.cell? ⟨w.heap.size, 0, none⟩ = some (.int .u32 0) ∧ wr.cell? ⟨w.heap.size, 1, none⟩ = some (.int .u16 0) ∧ wr.frozen? ⟨w.heap.size, 0, none⟩ = false ∧ wr.frozen? ⟨w.heap.size, 1, none⟩ = false ∧ Below w.heap.size w wr) (fun i _ => 4 - (intOf i).toNat)
    case atStart => exact ⟨0, by omega, rfl, by simp [v256], by simp, by simp, by simp, by simp, by simp, by simp, by simp, st_alloc (st_alloc (Below.refl _ _) _) _⟩
    case round =>
      obtain ⟨k, hk, rfl, c0, c1, f0, f1, d0, d1, g0, g1, hB⟩ := hrel
      have HB := Lib.hid hB
      clear hB
      by_cases h4 : k < 4
      · have hks : k < s.size := by omega
        have ak := bz_at s k hks
        obtain ⟨x, hx⟩ : ∃ x, s[k].toNat = x := ⟨_, rfl⟩
        rw [hx] at ak
        have qx : x ≤ 255 := HLe.out _ (List.mem_of_getElem? ak)
        have hs1 := take_snoc ak
        have hlt := v256_lt ((bz s).take k) (fun z hz => HLe.out z (List.mem_of_mem_take hz))
        have hlk : ((bz s).take k).length = k := by rw [List.length_take, bz_len]; omega
        rw [hlk] at hlt
        have hpow : 256 ^ k ≤ 256 ^ 3 := Nat.pow_le_pow_right (by decide) (by omega)
        have HS := Lib.hid hs1
        obtain ⟨v, hv⟩ : ∃ v, v256 ((bz s).take k) = v := ⟨_, rfl⟩
        rw [hv] at c0 hlt
        have hv2 : v ≤ 16777215 := by have : (256 : Nat) ^ 3 = 16777216 := by decide
                                      omega
        have HV := Lib.hid hv
        clear hs1 hlt hlk hpow hv ak
        go_wp2
        go_region
        go_wp2
        go_roundw
        case rel =>
          refine ⟨k + 1, by omega, by go_num, (World.cell?_setCell_same' _ _ _ (by rw [c0]; rfl)).trans ?_, (World.cell?_setCell_other _ _ _ _ (fun e => by injection e with _ e; omega)).trans c1, ?_, ?_, (World.cell?_setCell_other _ _ _ _ (fun e => by injection e with e; omega)).trans d0, (World.cell?_setCell_other _ _ _ _ (fun e => by injection e with e; omega)).trans d1, ?_, ?_, (HB.out.setCell (p := ⟨w.heap.size + 1, 0, none⟩) (by simp) _).drew⟩
          · rw [HS.out, v256_snoc, HV.out]; rfl
          · show (wr.setCell _ _).frozen? _ = false; rw [World.frozen?_setCell]; exact f0
          · show (wr.setCell _ _).frozen? _ = false; rw [World.frozen?_setCell]; exact f1
          · show (wr.setCell _ _).frozen? _ = false; rw [World.frozen?_setCell]; exact g0
          · show (wr.setCell _ _).frozen? _ = false; rw [World.frozen?_setCell]; exact g1
        case measure => simp only [intOf]; omega
      · have hk4 : k = 4 := by omega
        subst hk4
        go_wp2
        go_region
        go_wp2
        obtain ⟨ip, hip⟩ : ∃ ip, v256 ((bz s).take 4) = ip := ⟨_, rfl⟩
        rw [hip]
        obtain ⟨W, hW⟩ : ∃ W, (((wr.setCell ⟨w.heap.size + 1, 1, none⟩ (.int .u16 ((y4 : Int) * 256 + (y5 : Int)))).setCell ⟨w.heap.size, 0, none⟩ (.int .u32 (ip : Int))).setCell ⟨w.heap.size, 1, none⟩ (.int .u16 ((y4 : Int) * 256 + (y5 : Int)))).drew = W := ⟨_, rfl⟩
        rw [hW]
        have e0 : W.cell? ⟨w.heap.size, 0, none⟩ = some (.int .u32 (ip : Int)) := by
          rw [← hW]
          refine (World.cell?_setCell_other _ _ _ _ (fun e => by injection e with _ e; omega)).trans ?_
          exact World.cell?_setCell_same' _ _ _ (by rw [World.cell?_setCell_other _ _ _ _ (fun e => by injection e with e; omega), d0]; rfl)
        have e1 : W.cell? ⟨w.heap.size, 1, none⟩ = some (.int .u16 ((y4 : Int) * 256 + (y5 : Int))) := by
          rw [← hW]
          exact World.cell?_setCell_same' _ _ _ (by rw [World.cell?_setCell_other _ _ _ _ (fun e => by injection e with _ e; omega), World.cell?_setCell_other _ _ _ _ (fun e => by injection e with e; omega), d1]; rfl)
        have hWB : Below w.heap.size w W := by
          rw [← hW]
          exact (((HB.out.setCell (p := ⟨w.heap.size + 1, 1, none⟩) (by simp) _).setCell (p := ⟨w.heap.size, 0, none⟩) (Nat.le_refl _) _).setCell (p := ⟨w.heap.size, 1, none⟩) (Nat.le_refl _) _).drew
        refine bodyPost_ret (v := .tuple #[.agg #[.int .u32 (ip : Int), .int .u16 ((y4 : Int) * 256 + (y5 : Int))], .int .i64 0]) ?_ rfl ?_
        · clear hW
          simp [results, Tryd.f9, go_sem, e0, e1]
        · refine ⟨⟨ip, y4 * 256 + y5, rfl, ?_, ?_, by omega⟩, hWB⟩
          · have hl := bz_len s
            have hle := HLe.out
            have b4 := A4.out
            have b5 := A5.out
            rw [h6] at hl
            generalize bz s = l at hip hl hle b4 b5
            match l, hl with
            | [x0, x1, x2, x3, x4, x5], _ =>
              have k0 := hle x0 (by simp)
              have k1 := hle x1 (by simp)
              have k2 := hle x2 (by simp)
              have k3 := hle x3 (by simp)
              simp [v256] at hip b4 b5
              subst b4 b5
              simp only [List.cons.injEq, and_true]
              omega
          · have := v256_lt ((bz s).take 4) (fun z hz => HLe.out z (List.mem_of_mem_take hz))
            have hlk : ((bz s).take 4).length = 4 := by rw [List.length_take, bz_len]; omega
            rw [hlk, hip] at this
            have : (256 : Nat) ^ 4 = 4294967296 := by decide
            omega
  · simp only [if_neg h6]
    go_enter Tryd.func9, Tryd.ntmps9
    go_wp2
    refine bodyPost_ret (v := .tuple #[.agg #[.int .u32 0, .int .u16 0], .int .i64 8]) ?_ rfl ?_
    · simp [results, Tryd.f9, go_sem]
    · exact ⟨rfl, st_alloc (Below.refl _ _) _⟩

set_option maxRecDepth 100000 in
set_option maxHeartbeats 4000000 in
theorem number_any (s : ByteArray) (most : Nat) (w : World) (hs : s.size ≤ 1000000) (hm : most ≤ 1000000) : Calls Tryd.prog 22 #[.string s, .int .u64 (most : Int)] w fun e w' =>
    (∃ R, e = .returned (.tuple #[.int .u64 ((val (pre 6 (bz s)) : Nat) : Int), .string R, .bool (decide (0 < (pre 6 (bz s)).length) && decide (val (pre 6 (bz s)) ≤ most))]) ∧ bz R = (bz s).drop (pre 6 (bz s)).length ∧ R.size ≤ s.size) ∧ ∃ q, w' = w.drewN q := by
  obtain ⟨P, hP⟩ : ∃ P, pre 6 (bz s) = P := ⟨_, rfl⟩
  rw [hP]
  have HP := Lib.hid hP
  clear hP
  go_enter Tryd.func22, Tryd.ntmps22
  go_wp2
  go_loop [7, 8] (fun n i => ∃ k v : Nat, i = .int .i64 (k : Int) ∧ n = .int .u64 (v : Int) ∧ v = val ((bz s).take k) ∧ k ≤ 6 ∧ k ≤ s.size ∧ (∀ x ∈ (bz s).take k, 48 ≤ x ∧ x ≤ 57)) (fun n i => 6 - (intOf i).toNat)
  case atStart => exact ⟨0, 0, rfl, rfl, rfl, by omega, by omega, by simp⟩
  case round =>
    obtain ⟨k, v, rfl, rfl, hv, hk6, hks, hd⟩ := hrel
    have hvl := val_lt _ hd
    have hlk : ((bz s).take k).length = k := by rw [List.length_take, bz_len]; omega
    rw [hlk, ← hv] at hvl
    have hpow : 10 ^ k ≤ 10 ^ 6 := Nat.pow_le_pow_right (by decide) hk6
    have hv6 : v ≤ 1000000 := by have : (10 : Nat) ^ 6 = 1000000 := by decide
                                 omega
    have HV := Lib.hid hv
    have HD := Lib.hid hd
    clear hv hd hvl hlk hpow
    have fin : (k = (bz s).length ∨ k = 6 ∨ ∃ x, (bz s)[k]? = some x ∧ ¬ (48 ≤ x ∧ x ≤ 57)) → P = (bz s).take k := fun h => by
      rw [← HP.out]; exact pre_eq k 6 (bz s) hk6 (by rw [bz_len]; exact hks) HD.out h
    have FIN := Lib.hid fin
    clear fin
    by_cases hlt : k < s.size
    · have ak := bz_at s k hlt
      have hx2 := byte_le' s[k]
      obtain ⟨x, hx⟩ : ∃ x, s[k].toNat = x := ⟨_, rfl⟩
      rw [hx] at ak hx2
      have AK := Lib.hid ak
      clear ak
      by_cases c1 : 48 ≤ x
      · by_cases c2 : x ≤ 57
        · by_cases c3 : k < 6
          · have hsub : IntKind.u8.wrap ((x : Int) - 48) = (x : Int) - 48 := by rw [IntKind.wrap_u8]; omega
            have hts := take_snoc AK.out
            have HTS := Lib.hid hts
            clear hts
            go_wp2
            go_round
            case rel =>
              refine ⟨k + 1, 10 * v + (x - 48), by go_num, ?_, by rw [HTS.out, val_snoc, ← HV.out], by omega, by omega, ?_⟩
              · congr 1
                omega
              · rw [HTS.out]
                intro z hz
                rcases List.mem_append.1 hz with hz | hz
                · exact HD.out z hz
                · simp at hz
                  omega
            case measure => simp only [intOf]; omega
          · have K6 := Lib.hid (show k = 6 by omega)
            have c3' : ¬ (k : Int) < 6 := by omega
            have hPk := FIN.out (.inr (.inl K6.out))
            have hPl : P.length = k := by rw [hPk, List.length_take, bz_len]; omega
            have hPv : val P = v := by rw [hPk, ← HV.out]
            have HPL := Lib.hid hPl
            have HPV := Lib.hid hPv
            have hex : bz (s.extract k s.size) = (bz s).drop k := by rw [bz_extract s k s.size (Nat.le_refl _), List.take_of_length_le (by rw [bz_len]; exact Nat.le_refl _)]
            have HEX := Lib.hid hex
            have hki : (k : Int) ≤ (s.size : Int) := by omega
            clear hPk hPl hPv hex
            by_cases k0 : 0 < k
            · have k0i : (0 : Int) < (k : Int) := by omega
              by_cases m1 : v ≤ most
              · go_wp2
                go_quiet (fail)
                go_wp2
                go_ret3
                refine ⟨⟨s.extract k s.size, ?_, by rw [HPL.out]; exact HEX.out, by rw [ByteArray.size_extract]; omega⟩, _, rfl⟩
                rw [HPL.out, HPV.out, decide_eq_true (show 0 < k by omega), decide_eq_true (show v ≤ most by omega)]
                try (simp; try omega)
              · go_wp2
                go_quiet (fail)
                go_wp2
                go_ret3
                refine ⟨⟨s.extract k s.size, ?_, by rw [HPL.out]; exact HEX.out, by rw [ByteArray.size_extract]; omega⟩, _, rfl⟩
                rw [HPL.out, HPV.out, decide_eq_true (show 0 < k by omega), decide_eq_false (show ¬ v ≤ most by omega)]
                try (simp; try omega)
            · exact absurd K6.out (by omega)
        · have c2' : ¬ (x : Int) ≤ 57 := by omega
          have hPk := FIN.out (.inr (.inr ⟨x, AK.out, by omega⟩))
          have hPl : P.length = k := by rw [hPk, List.length_take, bz_len]; omega
          have hPv : val P = v := by rw [hPk, ← HV.out]
          have HPL := Lib.hid hPl
          have HPV := Lib.hid hPv
          have hex : bz (s.extract k s.size) = (bz s).drop k := by rw [bz_extract s k s.size (Nat.le_refl _), List.take_of_length_le (by rw [bz_len]; exact Nat.le_refl _)]
          have HEX := Lib.hid hex
          have hki : (k : Int) ≤ (s.size : Int) := by omega
          clear hPk hPl hPv hex
          by_cases k0 : 0 < k
          · have k0i : (0 : Int) < (k : Int) := by omega
            by_cases m1 : v ≤ most
            · go_wp2
              go_quiet (fail)
              go_wp2
              go_ret3
              refine ⟨⟨s.extract k s.size, ?_, by rw [HPL.out]; exact HEX.out, by rw [ByteArray.size_extract]; omega⟩, _, rfl⟩
              rw [HPL.out, HPV.out, decide_eq_true (show 0 < k by omega), decide_eq_true (show v ≤ most by omega)]
              try (simp; try omega)
            · go_wp2
              go_quiet (fail)
              go_wp2
              go_ret3
              refine ⟨⟨s.extract k s.size, ?_, by rw [HPL.out]; exact HEX.out, by rw [ByteArray.size_extract]; omega⟩, _, rfl⟩
              rw [HPL.out, HPV.out, decide_eq_true (show 0 < k by omega), decide_eq_false (show ¬ v ≤ most by omega)]
              try (simp; try omega)
          · obtain rfl : k = 0 := by omega
            go_wp2
            go_quiet (fail)
            go_wp2
            go_ret3
            refine ⟨⟨s.extract 0 s.size, ?_, by rw [HPL.out]; exact HEX.out, by rw [ByteArray.size_extract]; omega⟩, _, rfl⟩
            rw [HPL.out, HPV.out]
            simp
      · have c1' : ¬ (48 : Int) ≤ (x : Int) := by omega
        have hPk := FIN.out (.inr (.inr ⟨x, AK.out, by omega⟩))
        have hPl : P.length = k := by rw [hPk, List.length_take, bz_len]; omega
        have hPv : val P = v := by rw [hPk, ← HV.out]
        have HPL := Lib.hid hPl
        have HPV := Lib.hid hPv
        have hex : bz (s.extract k s.size) = (bz s).drop k := by rw [bz_extract s k s.size (Nat.le_refl _), List.take_of_length_le (by rw [bz_len]; exact Nat.le_refl _)]
        have HEX := Lib.hid hex
        have hki : (k : Int) ≤ (s.size : Int) := by omega
        clear hPk hPl hPv hex
        by_cases k0 : 0 < k
        · have k0i : (0 : Int) < (k : Int) := by omega
          by_cases m1 : v ≤ most
          · go_wp2
            go_quiet (fail)
            go_wp2
            go_ret3
            refine ⟨⟨s.extract k s.size, ?_, by rw [HPL.out]; exact HEX.out, by rw [ByteArray.size_extract]; omega⟩, _, rfl⟩
            rw [HPL.out, HPV.out, decide_eq_true (show 0 < k by omega), decide_eq_true (show v ≤ most by omega)]
            try (simp; try omega)
          · go_wp2
            go_quiet (fail)
            go_wp2
            go_ret3
            refine ⟨⟨s.extract k s.size, ?_, by rw [HPL.out]; exact HEX.out, by rw [ByteArray.size_extract]; omega⟩, _, rfl⟩
            rw [HPL.out, HPV.out, decide_eq_true (show 0 < k by omega), decide_eq_false (show ¬ v ≤ most by omega)]
            try (simp; try omega)
        · obtain rfl : k = 0 := by omega
          go_wp2
          go_quiet (fail)
          go_wp2
          go_ret3
          refine ⟨⟨s.extract 0 s.size, ?_, by rw [HPL.out]; exact HEX.out, by rw [ByteArray.size_extract]; omega⟩, _, rfl⟩
          rw [HPL.out, HPV.out]
          simp
    · have hlt' : ¬ (k : Int) < (s.size : Int) := by omega
      have hPk := FIN.out (.inl (by rw [bz_len]; omega))
      have hPl : P.length = k := by rw [hPk, List.length_take, bz_len]; omega
      have hPv : val P = v := by rw [hPk, ← HV.out]
      have HPL := Lib.hid hPl
      have HPV := Lib.hid hPv
      have hex : bz (s.extract k s.size) = (bz s).drop k := by rw [bz_extract s k s.size (Nat.le_refl _), List.take_of_length_le (by rw [bz_len]; exact Nat.le_refl _)]
      have HEX := Lib.hid hex
      have hki : (k : Int) ≤ (s.size : Int) := by omega
      clear hPk hPl hPv hex
      by_cases k0 : 0 < k
      · have k0i : (0 : Int) < (k : Int) := by omega
        by_cases m1 : v ≤ most
        · go_wp2
          go_quiet (fail)
          go_wp2
          go_ret3
          refine ⟨⟨s.extract k s.size, ?_, by rw [HPL.out]; exact HEX.out, by rw [ByteArray.size_extract]; omega⟩, _, rfl⟩
          rw [HPL.out, HPV.out, decide_eq_true (show 0 < k by omega), decide_eq_true (show v ≤ most by omega)]
          try (simp; try omega)
        · go_wp2
          go_quiet (fail)
          go_wp2
          go_ret3
          refine ⟨⟨s.extract k s.size, ?_, by rw [HPL.out]; exact HEX.out, by rw [ByteArray.size_extract]; omega⟩, _, rfl⟩
          rw [HPL.out, HPV.out, decide_eq_true (show 0 < k by omega), decide_eq_false (show ¬ v ≤ most by omega)]
          try (simp; try omega)
      · obtain rfl : k = 0 := by omega
        go_wp2
        go_quiet (fail)
        go_wp2
        go_ret3
        refine ⟨⟨s.extract 0 s.size, ?_, by rw [HPL.out]; exact HEX.out, by rw [ByteArray.size_extract]; omega⟩, _, rfl⟩
        rw [HPL.out, HPV.out]
        simp

theorem and255 (a : Nat) (ha : a ≤ 4294967295) : bits .and .u32 (a : Int) 255 = ((a % 256 : Nat) : Int) := by
  have h := u32_and_nat a 255 (by omega) (by omega)
  have e : a &&& 255 = a % 256 := Nat.and_two_pow_sub_one_eq_mod a 8
  rw [e] at h
  exact h

set_option maxRecDepth 100000 in
set_option maxHeartbeats 4000000 in
theorem textR_any (ip po : Nat) (w : World) (hi : ip ≤ 4294967295) (hp : po ≤ 65535) : Calls Tryd.prog 11 #[.agg #[.int .u32 (ip : Int), .int .u16 (po : Int)]] w fun e w' => (∃ S, e = .returned (.string S) ∧ bz S = txt ip po ∧ S.size ≤ 100) ∧ Below w.heap.size w w' := by
  have t3 : bits .and .u32 ((ip : Int) / 16777216) 255 = ((ip / 16777216 : Nat) : Int) := by
    have h := and255 (ip / 16777216) (by omega)
    rw [show ip / 16777216 % 256 = ip / 16777216 by omega] at h
    exact h
  have t2 : bits .and .u32 ((ip : Int) / 65536) 255 = ((ip / 65536 % 256 : Nat) : Int) := and255 (ip / 65536) (by omega)
  have t1 : bits .and .u32 ((ip : Int) / 256) 255 = ((ip / 256 % 256 : Nat) : Int) := and255 (ip / 256) (by omega)
  have t0 : bits .and .u32 (ip : Int) 255 = ((ip % 256 : Nat) : Int) := and255 ip hi
  go_enter Tryd.func11, Tryd.ntmps11
  go_wp2_with fail
  go_loopw [3, 4] (fun s i wr => ∃ (S : ByteArray) (c : Int), s = .string S ∧ i = .int .i64 c ∧ ((c = 3 ∧ bz S = [] ∧ S.size ≤ 0) ∨ (c = 2 ∧ bz S = dec (ip / 16777216) ++ [46] ∧ S.size ≤ 11) ∨ (c = 1 ∧ bz S = dec (ip / 16777216) ++ [46] ++ dec (ip / 65536 % 256) ++ [46] ∧ S.size ≤ 22) ∨
      (c = 0 ∧ bz S = dec (ip / 16777216) ++ [46] ++ dec (ip / 65536 % 256) ++ [46] ++ dec (ip / 256 % 256) ++ [46] ∧ S.size ≤ 33) ∨ (c = -1 ∧ bz S = txt4 ip ∧ S.size ≤ 43)) ∧
      wr.cell? ⟨w.heap.size, 0, none⟩ = some (.int .u32 (ip : Int)) ∧ wr.cell? ⟨w.heap.size, 1, none⟩ = some (.int .u16 (po : Int)) ∧ Below w.heap.size w wr ∧ w.heap.size < wr.heap.size)
    (fun _ i _ => (intOf i + 1).toNat)
  case atStart => exact ⟨ByteArray.empty, 3, rfl, rfl, .inl ⟨rfl, rfl, by decide⟩, by simp, by simp, st_alloc (Below.refl _ _) _, by simp⟩
  case round =>
    obtain ⟨S, c, rfl, rfl, hc, c0, c1, hB, hsz⟩ := hrel
    have HB := Lib.hid hB
    clear hB
    rcases hc with ⟨rfl, hS, hl⟩ | ⟨rfl, hS, hl⟩ | ⟨rfl, hS, hl⟩ | ⟨rfl, hS, hl⟩ | ⟨rfl, hS, hl⟩
    · have HS := Lib.hid hS
      clear hS
      go_wp2_with fail
      refine (num_any (ip / 16777216) _ (by omega)).mono ?_
      rintro e w2 ⟨⟨R, rfl, hR, hRs⟩, hb⟩
      have HR := Lib.hid hR
      have d0 := (hb.cell (p := ⟨w.heap.size, 0, none⟩) (by exact hsz)).trans c0
      have d1 := (hb.cell (p := ⟨w.heap.size, 1, none⟩) (by exact hsz)).trans c1
      have HB2 := Lib.hid (st_call HB.out hb)
      have hsz2 : w.heap.size < w2.heap.size := Nat.lt_of_lt_of_le hsz hb.size
      have hsum1 : S.size + R.size ≤ 9223372036854775807 := by omega
      have hsum2 : S.size + R.size + 1 ≤ 9223372036854775807 := by omega
      clear hR hb c0 c1 hsz
      go_wp2_with fail
      go_roundw
      case rel => exact ⟨S ++ R ++ ⟨#[46]⟩, 2, rfl, rfl, .inr (.inl ⟨rfl, by rw [bz_append, bz_append, HS.out, HR.out]; rfl, by rw [ByteArray.size_append, ByteArray.size_append]; show _ + _ + 1 ≤ _; omega⟩), d0, d1, HB2.out, hsz2⟩
      case measure => simp only [intOf]; omega
    · have HS := Lib.hid hS
      clear hS
      go_wp2_with fail
      refine (num_any (ip / 65536 % 256) _ (by omega)).mono ?_
      rintro e w2 ⟨⟨R, rfl, hR, hRs⟩, hb⟩
      have HR := Lib.hid hR
      have d0 := (hb.cell (p := ⟨w.heap.size, 0, none⟩) (by exact hsz)).trans c0
      have d1 := (hb.cell (p := ⟨w.heap.size, 1, none⟩) (by exact hsz)).trans c1
      have HB2 := Lib.hid (st_call HB.out hb)
      have hsz2 : w.heap.size < w2.heap.size := Nat.lt_of_lt_of_le hsz hb.size
      have hsum1 : S.size + R.size ≤ 9223372036854775807 := by omega
      have hsum2 : S.size + R.size + 1 ≤ 9223372036854775807 := by omega
      clear hR hb c0 c1 hsz
      go_wp2_with fail
      go_roundw
      case rel => exact ⟨S ++ R ++ ⟨#[46]⟩, 1, rfl, rfl, .inr (.inr (.inl ⟨rfl, by rw [bz_append, bz_append, HS.out, HR.out]; rfl, by rw [ByteArray.size_append, ByteArray.size_append]; show _ + _ + 1 ≤ _; omega⟩)), d0, d1, HB2.out, hsz2⟩
      case measure => simp only [intOf]; omega
    · have HS := Lib.hid hS
      clear hS
      go_wp2_with fail
      refine (num_any (ip / 256 % 256) _ (by omega)).mono ?_
      rintro e w2 ⟨⟨R, rfl, hR, hRs⟩, hb⟩
      have HR := Lib.hid hR
      have d0 := (hb.cell (p := ⟨w.heap.size, 0, none⟩) (by exact hsz)).trans c0
      have d1 := (hb.cell (p := ⟨w.heap.size, 1, none⟩) (by exact hsz)).trans c1
      have HB2 := Lib.hid (st_call HB.out hb)
      have hsz2 : w.heap.size < w2.heap.size := Nat.lt_of_lt_of_le hsz hb.size
      have hsum1 : S.size + R.size ≤ 9223372036854775807 := by omega
      have hsum2 : S.size + R.size + 1 ≤ 9223372036854775807 := by omega
      clear hR hb c0 c1 hsz
      go_wp2_with fail
      go_roundw
      case rel => exact ⟨S ++ R ++ ⟨#[46]⟩, 0, rfl, rfl, .inr (.inr (.inr (.inl ⟨rfl, by rw [bz_append, bz_append, HS.out, HR.out]; rfl, by rw [ByteArray.size_append, ByteArray.size_append]; show _ + _ + 1 ≤ _; omega⟩))), d0, d1, HB2.out, hsz2⟩
      case measure => simp only [intOf]; omega
    · have HS := Lib.hid hS
      clear hS
      go_wp2_with fail
      refine (num_any (ip % 256) _ (by omega)).mono ?_
      rintro e w2 ⟨⟨R, rfl, hR, hRs⟩, hb⟩
      have HR := Lib.hid hR
      have d0 := (hb.cell (p := ⟨w.heap.size, 0, none⟩) (by exact hsz)).trans c0
      have d1 := (hb.cell (p := ⟨w.heap.size, 1, none⟩) (by exact hsz)).trans c1
      have HB2 := Lib.hid (st_call HB.out hb)
      have hsz2 : w.heap.size < w2.heap.size := Nat.lt_of_lt_of_le hsz hb.size
      have hsum1 : S.size + R.size ≤ 9223372036854775807 := by omega
      have hsum2 : S.size + R.size + 1 ≤ 9223372036854775807 := by omega
      clear hR hb c0 c1 hsz
      go_wp2_with fail
      go_roundw
      case rel => exact ⟨S ++ R, -1, rfl, rfl, .inr (.inr (.inr (.inr ⟨rfl, by rw [bz_append, HS.out, HR.out]; rfl, by rw [ByteArray.size_append]; omega⟩))), d0, d1, HB2.out, hsz2⟩
      case measure => simp only [intOf]; omega
    · have HS := Lib.hid hS
      have hsum0 : S.size + 1 ≤ 9223372036854775807 := by omega
      clear hS
      go_wp2_with fail
      refine (num_any po _ (by omega)).mono ?_
      rintro e w2 ⟨⟨R, rfl, hR, hRs⟩, hb⟩
      have HR := Lib.hid hR
      have HB2 := Lib.hid (st_call HB.out hb)
      have hsum1 : S.size + 1 + R.size ≤ 9223372036854775807 := by omega
      clear hR hb
      go_wp2_with fail
      go_ret
      exact ⟨⟨_, rfl, by rw [bz_append, bz_append, HS.out, HR.out]; rfl, by rw [ByteArray.size_append, ByteArray.size_append]; show _ + 1 + _ ≤ _; omega⟩, HB2.out⟩
end Go.Proofs.YtpphpnnehljekaaDoor.TupRef
