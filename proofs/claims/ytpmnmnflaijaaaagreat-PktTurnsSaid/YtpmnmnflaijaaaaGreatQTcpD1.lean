/-
  Laws for a proof of package pkt: 1 texts in one.
-/
import Derived.Test.YtpmnmnflaijaaaaGreatQIpD2
import Derived.Test.YtpmnmnflaijaaaaGreatQTcpDec1
import Derived.Test.YtpmnmnflaijaaaaGreatQNumA327
namespace Go.Proofs.YtpmnmnflaijaaaaGreat.TcpD
open Go.RowKit TupMath SumMath IpMath IpRef Litb Calm Rel RelT Num SumWords SumStrs SumOf TcpMath TcpRef TcpEnc TcpSummed TcpP TcpDec Boxes
set_option linter.unusedVariables false
set_option maxRecDepth 100000
theorem at0_some {l : List Nat} {i : Nat} (h : i < l.length) : l[i]? = some (at0 l i) := by unfold at0; rw [List.getElem?_eq_getElem h]; rfl
theorem at16s (s : ByteArray) (i : Nat) (w : World) (h : i + 2 ≤ s.size) (hs : s.size ≤ 1000000) : Calls Tryz.prog 48 #[.string s, .int .i64 (i : Int)] w fun e w' => e = .returned (.int .u16 ((at0 (bz s) i * 256 + at0 (bz s) (i + 1) : Nat) : Int)) ∧ Below w.heap.size w w' :=
 at16 s i _ _ w h hs (at0_some (by rw [bz_len]; omega)) (at0_some (by rw [bz_len]; omega))
theorem at32s (s : ByteArray) (i : Nat) (w : World) (h : i + 4 ≤ s.size) (hs : s.size ≤ 1000000) : Calls Tryz.prog 80 #[.string s, .int .i64 (i : Int)] w fun e w' => e = .returned (.int .u32 ((at0 (bz s) i * 16777216 + at0 (bz s) (i + 1) * 65536 + at0 (bz s) (i + 2) * 256 + at0 (bz s) (i + 3) : Nat) : Int)) ∧ Below w.heap.size w w' :=
 at32 s i _ _ _ _ w h hs (at0_some (by rw [bz_len]; omega)) (at0_some (by rw [bz_len]; omega)) (at0_some (by rw [bz_len]; omega)) (at0_some (by rw [bz_len]; omega))
theorem cloneP (s : ByteArray) (w : World) (hs : s.size ≤ 1000000) : Calls Tryz.prog 34 #[.string s] w fun e w' => e = .returned (.string s) ∧ Below w.heap.size w w' := by
 go_enter Tryz.func34, Tryz.ntmps34
 go_wp2_with fail
 refine (Any.stringslite_Clone Tryz.layClone s w (by omega)).mono ?_
 rintro e w1 ⟨rfl, hb⟩
 go_wp2_with fail
 go_ret
 exact ⟨rfl, hb⟩
theorem sizeP (s : ByteArray) (w : World) (h : 20 ≤ s.size) (hs : s.size ≤ 1000000) : Calls Tryz.prog 72 #[.string s] w fun e w' => e = .returned (.int .i64 ((hl (bz s) : Nat) : Int)) ∧ w' = w := by
 have z := at_byte s 12 (by omega)
 have q := at_le s 12
 unfold hl
 generalize at0 (bz s) 12 = y at z q
 have hsi : (12 : Int) < (s.size : Int) := by omega
 have e : ((y / 16 * 4 : Nat) : Int) = (y : Int) / 16 * 4 := by omega
 rw [e]
 go_enter Tryz.func72, Tryz.ntmps72
 go_wp2
 go_ret
 exact ⟨rfl, rfl⟩
theorem and15 : ∀ x : Fin 256, (x.val &&& 15) = x.val % 16 := by decide +kernel
theorem low_ok (x : Nat) (h : x % 16 = 0) (hx : x ≤ 255) : bits .and .u8 (x : Int) 15 = 0 := by
 have h1 := u8_and_nat x 15 (by omega) (by omega)
 rw [and15 ⟨x, by omega⟩, h] at h1
 exact h1
theorem low_bad (x : Nat) (h : ¬ x % 16 = 0) (hx : x ≤ 255) : ∃ z : Nat, bits .and .u8 (x : Int) 15 = (z : Int) ∧ 0 < z := by
 have h1 := u8_and_nat x 15 (by omega) (by omega)
 refine ⟨_, h1, ?_⟩
 rw [and15 ⟨x, by omega⟩]
 simp only
 omega
theorem sum_seg (src dst : Nat) (s : ByteArray) (hs : src ≤ 4294967295) (hd : dst ≤ 4294967295) (hn : s.size ≤ 65535) : cs (cat [ofB (ps src dst (cat [s]).length), s]) = tsum src dst (bz s) := by
 have e : cat [s] = bz s := List.append_nil _
 show cs (bz (ofB (ps src dst (cat [s]).length)) ++ cat [s]) = _
 rw [e]
 rw [bz_ofB]
 · rfl
 · intro x hx
   have hl := bz_len s
   simp only [ps, w2, w4, List.cons_append, List.nil_append, List.mem_cons, List.not_mem_nil, or_false] at hx
   omega
set_option maxHeartbeats 16000000 in
theorem faultP (src dst : Nat) (s : ByteArray) (w : World) (hs : src ≤ 4294967295) (hd : dst ≤ 4294967295) (hl_ : s.size ≤ 1000000) : Calls Tryz.prog 70 #[.int .u32 (src : Int), .int .u32 (dst : Int), .string s] w fun e w' => e = .returned (.int .i64 ((terr src dst (bz s) : Nat) : Int)) ∧ Below w.heap.size w w' := by
 by_cases h20 : s.size < 20
 · have HE := Lib.hid (show terr src dst (bz s) = 50 by unfold terr; rw [bz_len, if_pos h20])
   have k20 : (s.size : Int) < 20 := by omega
   go_enter Tryz.func70, Tryz.ntmps70
   go_wp2
   go_ret
   exact ⟨by rw [HE.out]; rfl, Below.refl _ _⟩
 by_cases h65 : 65515 < s.size
 · have HE := Lib.hid (show terr src dst (bz s) = 4 by unfold terr; rw [bz_len, if_neg h20, if_pos h65])
   have k65 : (65515 : Int) < (s.size : Int) := by omega
   go_enter Tryz.func70, Tryz.ntmps70
   go_wp2
   go_ret
   exact ⟨by rw [HE.out]; rfl, Below.refl _ _⟩
 have hE : terr src dst (bz s) = if tsum src dst (bz s) ≠ 0 then 55 else if hl (bz s) < 20 ∨ s.size < hl (bz s) then 60 else if at0 (bz s) 12 % 16 ≠ 0 ∨ 64 ≤ at0 (bz s) 13 then 61 else 0 := by
   unfold terr; rw [bz_len, if_neg h20, if_neg h65]
 have HSP := Lib.hid (sum_seg src dst s hs hd (by omega))
 have HCL := Lib.hid (show (cat [s]).length ≤ 65535 by rw [show cat [s] = bz s from List.append_nil _, bz_len]; omega)
 have HSZ := Lib.hid (fun W => sizeP s W (by omega) hl_)
 have hn60 : hl (bz s) ≤ 60 := by have := at_le s 12; unfold hl; omega
 generalize hl (bz s) = n at hE HSZ hn60
 generalize tsum src dst (bz s) = c at HSP hE
 have z12 := at_byte s 12 (by omega)
 have z13 := at_byte s 13 (by omega)
 have q12 := at_le s 12
 have q13 := at_le s 13
 generalize at0 (bz s) 12 = y at hE z12 q12
 generalize at0 (bz s) 13 = fl at hE z13 q13
 have k20 : ¬ (s.size : Int) < 20 := by omega
 have k65 : ¬ (65515 : Int) < (s.size : Int) := by omega
 have k12 : (12 : Int) < (s.size : Int) := by omega
 have k13 : (13 : Int) < (s.size : Int) := by omega
 have HEE := Lib.hid hE
 clear hE
 by_cases hc : c = 0
 rotate_left
 · have HE := Lib.hid (show terr src dst (bz s) = 55 by rw [HEE.out, if_pos hc])
   go_enter Tryz.func70, Tryz.ntmps70
   go_wp2_with fail
   refine (summed_any src dst _ 1 1 [s] _ hs hd (strs1 _ _ _) (by omega) (by omega) HCL.out).mono ?_
   rintro e wB ⟨A', c', rfl, hS, hb4⟩
   have HB4 := Lib.hid (st_call (st_alloc (Below.refl _ _) _) hb4)
   clear hb4
   have hof := right_any A' (1 + 1) c' _ wB hS (by omega) (by
     intro x hx
     simp only [List.mem_cons, List.not_mem_nil, or_false] at hx
     rcases hx with rfl | rfl
     · rw [ofB_size, ps_len]; omega
     · omega)
   rw [HSP.out] at hof
   have HOF := Lib.hid hof
   clear hof hS
   go_wp2_with fail
   refine HOF.out.mono ?_
   rintro e wC ⟨rfl, hb5⟩
   have HB5 := Lib.hid (st_call HB4.out hb5)
   clear hb5
   go_wp2_with fail
   go_ret
   exact ⟨by rw [HE.out]; rfl, HB5.out⟩
 subst hc
 by_cases h60 : n < 20
 · have HE := Lib.hid (show terr src dst (bz s) = 60 by rw [HEE.out, if_neg (by omega), if_pos (.inl h60)])
   have k60 : (n : Int) < 20 := by omega
   go_enter Tryz.func70, Tryz.ntmps70
   go_wp2_with fail
   refine (summed_any src dst _ 1 1 [s] _ hs hd (strs1 _ _ _) (by omega) (by omega) HCL.out).mono ?_
   rintro e wB ⟨A', c', rfl, hS, hb4⟩
   have HB4 := Lib.hid (st_call (st_alloc (Below.refl _ _) _) hb4)
   clear hb4
   have hof := right_any A' (1 + 1) c' _ wB hS (by omega) (by
     intro x hx
     simp only [List.mem_cons, List.not_mem_nil, or_false] at hx
     rcases hx with rfl | rfl
     · rw [ofB_size, ps_len]; omega
     · omega)
   rw [HSP.out] at hof
   have HOF := Lib.hid hof
   clear hof hS
   go_wp2_with fail
   refine HOF.out.mono ?_
   rintro e wC ⟨rfl, hb5⟩
   have HB5 := Lib.hid (st_call HB4.out hb5)
   clear hb5
   go_wp2_with (go_at_call 72; refine (HSZ.out _).mono ?_; rintro e w' ⟨rfl, hw⟩; rw [hw])
   go_ret
   exact ⟨by rw [HE.out]; rfl, HB5.out⟩
 by_cases h61 : s.size < n
 · have HE := Lib.hid (show terr src dst (bz s) = 60 by rw [HEE.out, if_neg (by omega), if_pos (.inr h61)])
   have k60 : ¬ (n : Int) < 20 := by omega
   have k61 : (s.size : Int) < (n : Int) := by omega
   go_enter Tryz.func70, Tryz.ntmps70
   go_wp2_with fail
   refine (summed_any src dst _ 1 1 [s] _ hs hd (strs1 _ _ _) (by omega) (by omega) HCL.out).mono ?_
   rintro e wB ⟨A', c', rfl, hS, hb4⟩
   have HB4 := Lib.hid (st_call (st_alloc (Below.refl _ _) _) hb4)
   clear hb4
   have hof := right_any A' (1 + 1) c' _ wB hS (by omega) (by
     intro x hx
     simp only [List.mem_cons, List.not_mem_nil, or_false] at hx
     rcases hx with rfl | rfl
     · rw [ofB_size, ps_len]; omega
     · omega)
   rw [HSP.out] at hof
   have HOF := Lib.hid hof
   clear hof hS
   go_wp2_with fail
   refine HOF.out.mono ?_
   rintro e wC ⟨rfl, hb5⟩
   have HB5 := Lib.hid (st_call HB4.out hb5)
   clear hb5
   go_wp2_with (go_at_call 72; refine (HSZ.out _).mono ?_; rintro e w' ⟨rfl, hw⟩; rw [hw])
   go_ret
   exact ⟨by rw [HE.out]; rfl, HB5.out⟩
 have k60 : ¬ (n : Int) < 20 := by omega
 have k61 : ¬ (s.size : Int) < (n : Int) := by omega
 have hEE : terr src dst (bz s) = if y % 16 ≠ 0 ∨ 64 ≤ fl then 61 else 0 := by rw [HEE.out, if_neg (by omega), if_neg (by omega)]
 by_cases h15 : y % 16 = 0
 rotate_left
 · have HE := Lib.hid (show terr src dst (bz s) = 61 by rw [hEE, if_pos (.inl h15)])
   obtain ⟨z, q4, q5⟩ := low_bad y h15 q12
   have q6 : ((z : Int) == 0) = false := beq_eq_false_iff_ne.2 (by omega)
   have q7 : ((z : Int) != 0) = true := bne_iff_ne.2 (by omega)
   clear hEE
   go_enter Tryz.func70, Tryz.ntmps70
   go_wp2_with fail
   refine (summed_any src dst _ 1 1 [s] _ hs hd (strs1 _ _ _) (by omega) (by omega) HCL.out).mono ?_
   rintro e wB ⟨A', c', rfl, hS, hb4⟩
   have HB4 := Lib.hid (st_call (st_alloc (Below.refl _ _) _) hb4)
   clear hb4
   have hof := right_any A' (1 + 1) c' _ wB hS (by omega) (by
     intro x hx
     simp only [List.mem_cons, List.not_mem_nil, or_false] at hx
     rcases hx with rfl | rfl
     · rw [ofB_size, ps_len]; omega
     · omega)
   rw [HSP.out] at hof
   have HOF := Lib.hid hof
   clear hof hS
   go_wp2_with fail
   refine HOF.out.mono ?_
   rintro e wC ⟨rfl, hb5⟩
   have HB5 := Lib.hid (st_call HB4.out hb5)
   clear hb5
   go_wp2_with (go_at_call 72; refine (HSZ.out _).mono ?_; rintro e w' ⟨rfl, hw⟩; rw [hw])
   go_ret
   exact ⟨by rw [HE.out]; rfl, HB5.out⟩
 have q4 := low_ok y h15 q12
 by_cases h64 : fl < 64
 rotate_left
 · have HE := Lib.hid (show terr src dst (bz s) = 61 by rw [hEE, if_pos (.inr (by omega))])
   obtain ⟨z, q5, q55⟩ := flags_bad fl h64 q13
   have q6 : ((z : Int) == 0) = false := beq_eq_false_iff_ne.2 (by omega)
   have q7 : ((z : Int) != 0) = true := bne_iff_ne.2 (by omega)
   clear hEE h15
   go_enter Tryz.func70, Tryz.ntmps70
   go_wp2_with fail
   refine (summed_any src dst _ 1 1 [s] _ hs hd (strs1 _ _ _) (by omega) (by omega) HCL.out).mono ?_
   rintro e wB ⟨A', c', rfl, hS, hb4⟩
   have HB4 := Lib.hid (st_call (st_alloc (Below.refl _ _) _) hb4)
   clear hb4
   have hof := right_any A' (1 + 1) c' _ wB hS (by omega) (by
     intro x hx
     simp only [List.mem_cons, List.not_mem_nil, or_false] at hx
     rcases hx with rfl | rfl
     · rw [ofB_size, ps_len]; omega
     · omega)
   rw [HSP.out] at hof
   have HOF := Lib.hid hof
   clear hof hS
   go_wp2_with fail
   refine HOF.out.mono ?_
   rintro e wC ⟨rfl, hb5⟩
   have HB5 := Lib.hid (st_call HB4.out hb5)
   clear hb5
   go_wp2_with (go_at_call 72; refine (HSZ.out _).mono ?_; rintro e w' ⟨rfl, hw⟩; rw [hw])
   go_ret
   exact ⟨by rw [HE.out]; rfl, HB5.out⟩
 · have HE := Lib.hid (show terr src dst (bz s) = 0 by rw [hEE, if_neg (by omega)])
   have q5 := flags_ok fl h64
   clear hEE h15
   go_enter Tryz.func70, Tryz.ntmps70
   go_wp2_with fail
   refine (summed_any src dst _ 1 1 [s] _ hs hd (strs1 _ _ _) (by omega) (by omega) HCL.out).mono ?_
   rintro e wB ⟨A', c', rfl, hS, hb4⟩
   have HB4 := Lib.hid (st_call (st_alloc (Below.refl _ _) _) hb4)
   clear hb4
   have hof := right_any A' (1 + 1) c' _ wB hS (by omega) (by
     intro x hx
     simp only [List.mem_cons, List.not_mem_nil, or_false] at hx
     rcases hx with rfl | rfl
     · rw [ofB_size, ps_len]; omega
     · omega)
   rw [HSP.out] at hof
   have HOF := Lib.hid hof
   clear hof hS
   go_wp2_with fail
   refine HOF.out.mono ?_
   rintro e wC ⟨rfl, hb5⟩
   have HB5 := Lib.hid (st_call HB4.out hb5)
   clear hb5
   go_wp2_with (go_at_call 72; refine (HSZ.out _).mono ?_; rintro e w' ⟨rfl, hw⟩; rw [hw])
   go_ret
   exact ⟨by rw [HE.out]; rfl, HB5.out⟩
def relH6 (s : ByteArray) (src dst seq ack fl win urg n : Nat) : Nat → Value → World → Prop
 | 0 => fun v _ => v = .string s
 | 1 => fun v _ => v = .int .u16 (src : Int)
 | 2 => fun v _ => v = .string s
 | 3 => fun v _ => v = .int .u16 (dst : Int)
 | 4 => fun v _ => v = .string s
 | 5 => fun v _ => v = .int .u32 (seq : Int)
 | 6 => fun v _ => v = .string s
 | 7 => fun v _ => v = .int .u32 (ack : Int)
 | 8 => fun v _ => v = .string s
 | 9 => fun v _ => v = .int .u8 (fl : Int)
 | 10 => fun v _ => v = .string s
 | 11 => fun v _ => v = .int .u16 (win : Int)
 | 12 => fun v _ => v = .string s
 | 13 => fun v _ => v = .int .u16 (urg : Int)
 | 14 => fun v _ => v = .string s
 | 15 => fun v _ => v = .string s
 | 16 => fun v _ => v = .int .i64 (n : Int)
 | 17 => fun v _ => v = .string (s.extract 20 n)
 | 18 => fun v _ => v = .string (s.extract 20 n)
 | 19 => fun v _ => v = tv ⟨src, dst, seq, ack, fl, win, urg, s.extract 20 n⟩
 | _ => fun _ _ => True
theorem relH6_more (s : ByteArray) (src dst seq ack fl win urg n : Nat) (i : Nat) (v : Value) (w w' : World) (hr : relH6 s src dst seq ack fl win urg n i v w) (hb : Below w.heap.size w w') : relH6 s src dst seq ack fl win urg n i v w' := by
 unfold relH6 at hr ⊢
 split at hr <;> exact hr
attribute [local go_sem] relUpon
set_option maxHeartbeats 16000000 in
theorem headP6 (s : ByteArray) (w : World) (h20 : 20 ≤ s.size) (hs : s.size ≤ 1000000) (hl1 : 20 ≤ hl (bz s)) (hl2 : hl (bz s) ≤ s.size) : Calls Tryz.prog 71 #[.string s] w fun e w' => e = .returned (tv (trd s)) ∧ Below w.heap.size w w' := by
 have C0 := Lib.hid fun W => at16s s 0 W (by omega) hs
 have C2 := Lib.hid fun W => at16s s 2 W (by omega) hs
 have C4 := Lib.hid fun W => at32s s 4 W (by omega) hs
 have C8 := Lib.hid fun W => at32s s 8 W (by omega) hs
 have C14 := Lib.hid fun W => at16s s 14 W (by omega) hs
 have C18 := Lib.hid fun W => at16s s 18 W (by omega) hs
 have HSZ := Lib.hid (fun W => sizeP s W h20 hs)
 have z13 := at_byte s 13 (by omega)
 have q13 := at_le s 13
 simp only [Nat.reduceAdd] at C0 C2 C4 C8 C14 C18
 have hrd : trd s = ⟨at0 (bz s) 0 * 256 + at0 (bz s) 1, at0 (bz s) 2 * 256 + at0 (bz s) 3, at0 (bz s) 4 * 16777216 + at0 (bz s) 5 * 65536 + at0 (bz s) 6 * 256 + at0 (bz s) 7, at0 (bz s) 8 * 16777216 + at0 (bz s) 9 * 65536 + at0 (bz s) 10 * 256 + at0 (bz s) 11, at0 (bz s) 13, at0 (bz s) 14 * 256 + at0 (bz s) 15, at0 (bz s) 18 * 256 + at0 (bz s) 19, s.extract 20 (hl (bz s))⟩ := rfl
 rw [hrd]
 clear hrd
 obtain ⟨src, h_src⟩ : ∃ x, x = at0 (bz s) 0 * 256 + at0 (bz s) 1 := ⟨_, rfl⟩
 rw [← h_src] at C0 ⊢
 clear h_src
 obtain ⟨dst, h_dst⟩ : ∃ x, x = at0 (bz s) 2 * 256 + at0 (bz s) 3 := ⟨_, rfl⟩
 rw [← h_dst] at C2 ⊢
 clear h_dst
 obtain ⟨seq, h_seq⟩ : ∃ x, x = at0 (bz s) 4 * 16777216 + at0 (bz s) 5 * 65536 + at0 (bz s) 6 * 256 + at0 (bz s) 7 := ⟨_, rfl⟩
 rw [← h_seq] at C4 ⊢
 clear h_seq
 obtain ⟨ack, h_ack⟩ : ∃ x, x = at0 (bz s) 8 * 16777216 + at0 (bz s) 9 * 65536 + at0 (bz s) 10 * 256 + at0 (bz s) 11 := ⟨_, rfl⟩
 rw [← h_ack] at C8 ⊢
 clear h_ack
 obtain ⟨win, h_win⟩ : ∃ x, x = at0 (bz s) 14 * 256 + at0 (bz s) 15 := ⟨_, rfl⟩
 rw [← h_win] at C14 ⊢
 clear h_win
 obtain ⟨urg, h_urg⟩ : ∃ x, x = at0 (bz s) 18 * 256 + at0 (bz s) 19 := ⟨_, rfl⟩
 rw [← h_urg] at C18 ⊢
 clear h_urg
 generalize at0 (bz s) 13 = fl at z13 q13
 generalize hl (bz s) = n at HSZ hl1 hl2
 have k13 : (13 : Int) < (s.size : Int) := by omega
 have k1 : (20 : Int) ≤ (n : Int) := by omega
 have k2 : (n : Int) ≤ (s.size : Int) := by omega
 go_enter Tryz.func71, Tryz.ntmps71
 go_wp2_with fail
 refine wp_region_see_tail 20 23 (relH6 s src dst seq ack fl win urg n) rfl (by kernel_rfl) (by kernel_rfl) (by kernel_rfl) (by kernel_rfl) (relH6_more s src dst seq ack fl win urg n) ?_ ?_
 · intro i hi
   have hi2 : i < 20 := by simpa using hi
   clear hi
   match i, hi2 with
   | 0, _ =>
     intro ρ W hb hc hg hf h0 hd
     have t0 := h0 0 (by kernel_rfl)
     clear hd h0
     go_simp
     exact ⟨rfl, Below.refl _ _⟩
   | 1, _ =>
     intro ρ W hb hc hg hf h0 hd
     have d0 : ρ (.tmp 3) = .string s := hd 0 3 (by kernel_rfl) (by kernel_rfl)
     clear hd h0
     go_simp
     exact (C0.out W).mono fun e w' ⟨he, hb⟩ => ⟨_, he, rfl, hb⟩
   | 2, _ =>
     intro ρ W hb hc hg hf h0 hd
     have t0 := h0 0 (by kernel_rfl)
     clear hd h0
     go_simp
     exact ⟨rfl, Below.refl _ _⟩
   | 3, _ =>
     intro ρ W hb hc hg hf h0 hd
     have d2 : ρ (.tmp 5) = .string s := hd 2 5 (by kernel_rfl) (by kernel_rfl)
     clear hd h0
     go_simp
     exact (C2.out W).mono fun e w' ⟨he, hb⟩ => ⟨_, he, rfl, hb⟩
   | 4, _ =>
     intro ρ W hb hc hg hf h0 hd
     have t0 := h0 0 (by kernel_rfl)
     clear hd h0
     go_simp
     exact ⟨rfl, Below.refl _ _⟩
   | 5, _ =>
     intro ρ W hb hc hg hf h0 hd
     have d4 : ρ (.tmp 7) = .string s := hd 4 7 (by kernel_rfl) (by kernel_rfl)
     clear hd h0
     go_simp
     exact (C4.out W).mono fun e w' ⟨he, hb⟩ => ⟨_, he, rfl, hb⟩
   | 6, _ =>
     intro ρ W hb hc hg hf h0 hd
     have t0 := h0 0 (by kernel_rfl)
     clear hd h0
     go_simp
     exact ⟨rfl, Below.refl _ _⟩
   | 7, _ =>
     intro ρ W hb hc hg hf h0 hd
     have d6 : ρ (.tmp 9) = .string s := hd 6 9 (by kernel_rfl) (by kernel_rfl)
     clear hd h0
     go_simp
     exact (C8.out W).mono fun e w' ⟨he, hb⟩ => ⟨_, he, rfl, hb⟩
   | 8, _ =>
     intro ρ W hb hc hg hf h0 hd
     have t0 := h0 0 (by kernel_rfl)
     clear hd h0
     go_simp
     exact ⟨rfl, Below.refl _ _⟩
   | 9, _ =>
     intro ρ W hb hc hg hf h0 hd
     have d8 : ρ (.tmp 11) = .string s := hd 8 11 (by kernel_rfl) (by kernel_rfl)
     clear hd h0
     go_simp
     exact ⟨rfl, Below.refl _ _⟩
   | 10, _ =>
     intro ρ W hb hc hg hf h0 hd
     have t0 := h0 0 (by kernel_rfl)
     clear hd h0
     go_simp
     exact ⟨rfl, Below.refl _ _⟩
   | 11, _ =>
     intro ρ W hb hc hg hf h0 hd
     have d10 : ρ (.tmp 13) = .string s := hd 10 13 (by kernel_rfl) (by kernel_rfl)
     clear hd h0
     go_simp
     exact (C14.out W).mono fun e w' ⟨he, hb⟩ => ⟨_, he, rfl, hb⟩
   | 12, _ =>
     intro ρ W hb hc hg hf h0 hd
     have t0 := h0 0 (by kernel_rfl)
     clear hd h0
     go_simp
     exact ⟨rfl, Below.refl _ _⟩
   | 13, _ =>
     intro ρ W hb hc hg hf h0 hd
     have d12 : ρ (.tmp 15) = .string s := hd 12 15 (by kernel_rfl) (by kernel_rfl)
     clear hd h0
     go_simp
     exact (C18.out W).mono fun e w' ⟨he, hb⟩ => ⟨_, he, rfl, hb⟩
   | 14, _ =>
     intro ρ W hb hc hg hf h0 hd
     have t0 := h0 0 (by kernel_rfl)
     clear hd h0
     go_simp
     exact ⟨rfl, Below.refl _ _⟩
   | 15, _ =>
     intro ρ W hb hc hg hf h0 hd
     have t0 := h0 0 (by kernel_rfl)
     clear hd h0
     go_simp
     exact ⟨rfl, Below.refl _ _⟩
   | 16, _ =>
     intro ρ W hb hc hg hf h0 hd
     have d15 : ρ (.tmp 18) = .string s := hd 15 18 (by kernel_rfl) (by kernel_rfl)
     clear hd h0
     go_simp
     exact (HSZ.out W).mono fun e w' ⟨he, hw⟩ => ⟨_, he, rfl, by rw [hw]; exact Below.refl _ _⟩
   | 17, _ =>
     intro ρ W hb hc hg hf h0 hd
     have d14 : ρ (.tmp 17) = .string s := hd 14 17 (by kernel_rfl) (by kernel_rfl)
     have d16 : ρ (.tmp 19) = .int .i64 (n : Int) := hd 16 19 (by kernel_rfl) (by kernel_rfl)
     clear hd h0
     go_simp
     exact ⟨rfl, Below.refl _ _⟩
   | 18, _ =>
     intro ρ W hb hc hg hf h0 hd
     have d17 : ρ (.tmp 20) = .string (s.extract 20 n) := hd 17 20 (by kernel_rfl) (by kernel_rfl)
     clear hd h0
     go_simp
     exact (cloneP (s.extract 20 n) W (by rw [ByteArray.size_extract]; omega)).mono fun e w' ⟨he, hb⟩ => ⟨_, he, rfl, hb⟩
   | 19, _ =>
     intro ρ W hb hc hg hf h0 hd
     have d1 : ρ (.tmp 4) = .int .u16 (src : Int) := hd 1 4 (by kernel_rfl) (by kernel_rfl)
     have d3 : ρ (.tmp 6) = .int .u16 (dst : Int) := hd 3 6 (by kernel_rfl) (by kernel_rfl)
     have d5 : ρ (.tmp 8) = .int .u32 (seq : Int) := hd 5 8 (by kernel_rfl) (by kernel_rfl)
     have d7 : ρ (.tmp 10) = .int .u32 (ack : Int) := hd 7 10 (by kernel_rfl) (by kernel_rfl)
     have d9 : ρ (.tmp 12) = .int .u8 (fl : Int) := hd 9 12 (by kernel_rfl) (by kernel_rfl)
     have d11 : ρ (.tmp 14) = .int .u16 (win : Int) := hd 11 14 (by kernel_rfl) (by kernel_rfl)
     have d13 : ρ (.tmp 16) = .int .u16 (urg : Int) := hd 13 16 (by kernel_rfl) (by kernel_rfl)
     have d18 : ρ (.tmp 21) = .string (s.extract 20 n) := hd 18 21 (by kernel_rfl) (by kernel_rfl)
     clear hd h0
     go_simp
     exact ⟨rfl, Below.refl _ _⟩
   | i + 20, hlt => exact absurd hlt (by omega)
 · intro vs W hb hall
   have h19 : vs 19 = tv ⟨src, dst, seq, ack, fl, win, urg, s.extract 20 n⟩ := hall 19 (by omega)
   clear hall
   rw [lexA_slots vs 20 [(some 3, 0), (some 4, 1), (some 5, 2), (some 6, 3), (some 7, 4), (some 8, 5), (some 9, 6), (some 10, 7), (some 11, 8), (some 12, 9), (some 13, 10), (some 14, 11), (some 15, 12), (some 16, 13), (some 17, 14), (some 18, 15), (some 19, 16), (some 20, 17), (some 21, 18), (some 22, 19)] (by kernel_rfl)]
   simp only [List.foldl_cons, List.foldl_nil, h19]
   show wpList _ _ _ [_] _ _
   have hold := box_more (box_new w (.cells #[.int .u16 0, .int .u16 0, .int .u32 0, .int .u32 0, .int .u8 0, .int .u16 0, .int .u16 0, .string ⟨#[]⟩] 61)) hb
   obtain ⟨fz, cz⟩ := box_is W w.heap.size _ _ hold
   have HBX := Lib.hid (st_call (st_alloc (Below.refl _ _) _) hb)
   clear hold hb
   have f0 := fz 0
   have c0 := cz 0 _ rfl
   have f1 := fz 1
   have c1 := cz 1 _ rfl
   have f2 := fz 2
   have c2 := cz 2 _ rfl
   have f3 := fz 3
   have c3 := cz 3 _ rfl
   have f4 := fz 4
   have c4 := cz 4 _ rfl
   have f5 := fz 5
   have c5 := cz 5 _ rfl
   have f6 := fz 6
   have c6 := cz 6 _ rfl
   have f7 := fz 7
   have c7 := cz 7 _ rfl
   have CZ := Lib.hid cz
   clear cz fz
   go_wp2_with fail
   obtain ⟨W9, hW9, ez, hb9⟩ := set8 W w.heap.size (.int .u16 (src : Int)) (.int .u16 (dst : Int)) (.int .u32 (seq : Int)) (.int .u32 (ack : Int)) (.int .u8 (fl : Int)) (.int .u16 (win : Int)) (.int .u16 (urg : Int)) (.string (s.extract 20 n)) (fun j hj => ⟨_, CZ.out j _ (Array.getElem?_eq_getElem (by simpa using hj))⟩)
   rw [hW9]
   have e0 := ez 0 _ rfl
   have e1 := ez 1 _ rfl
   have e2 := ez 2 _ rfl
   have e3 := ez 3 _ rfl
   have e4 := ez 4 _ rfl
   have e5 := ez 5 _ rfl
   have e6 := ez 6 _ rfl
   have e7 := ez 7 _ rfl
   refine bodyPost_ret (v := tv ⟨src, dst, seq, ack, fl, win, urg, s.extract 20 n⟩) ?_ rfl ?_
   · simp [results, Tryz.f71, go_sem, e0, e1, e2, e3, e4, e5, e6, e7]
   · exact ⟨rfl, HBX.out.trans hb9⟩
set_option maxHeartbeats 16000000 in
theorem decP6 (ps_ pd_ : Nat) (s : ByteArray) (w : World) (hps : ps_ ≤ 4294967295) (hpd : pd_ ≤ 4294967295) (hs : s.size ≤ 1000000) : Calls Tryz.prog 40 #[.int .u32 (ps_ : Int), .int .u32 (pd_ : Int), .string s] w fun e w' => e = .returned (decV6 ps_ pd_ s) ∧ Below w.heap.size w w' := by
 have HF := Lib.hid (fun W => faultP ps_ pd_ s W hps hpd hs)
 by_cases h0 : terr ps_ pd_ (bz s) = 0
 rotate_left
 · have HV := Lib.hid (show decV6 ps_ pd_ s = .tuple #[tv zeroT, .string ⟨#[]⟩, .int .i64 ((terr ps_ pd_ (bz s) : Nat) : Int)] by rw [decV6, if_neg h0])
   generalize terr ps_ pd_ (bz s) = c at HF HV h0
   have q1 : ((c : Int) == 0) = false := beq_eq_false_iff_ne.2 (by omega)
   have q2 : ((c : Int) != 0) = true := bne_iff_ne.2 (by omega)
   go_enter Tryz.func40, Tryz.ntmps40
   go_wp2_with fail
   refine (HF.out _).mono ?_
   rintro e wA ⟨rfl, hb1⟩
   have d0 := box_more (box_new w (.cells #[.int .u16 0, .int .u16 0, .int .u32 0, .int .u32 0, .int .u8 0, .int .u16 0, .int .u16 0, .string ⟨#[]⟩] 61)) hb1
   obtain ⟨fz, cz⟩ := box_is wA w.heap.size _ _ d0
   have HB := Lib.hid (st_call (st_alloc (Below.refl _ _) _) hb1)
   clear d0 hb1
   have f0 := fz 0
   have c0 := cz 0 _ rfl
   have f1 := fz 1
   have c1 := cz 1 _ rfl
   have f2 := fz 2
   have c2 := cz 2 _ rfl
   have f3 := fz 3
   have c3 := cz 3 _ rfl
   have f4 := fz 4
   have c4 := cz 4 _ rfl
   have f5 := fz 5
   have c5 := cz 5 _ rfl
   have f6 := fz 6
   have c6 := cz 6 _ rfl
   have f7 := fz 7
   have c7 := cz 7 _ rfl
   have CZ := Lib.hid cz
   clear cz fz
   go_wp2_with fail
   obtain ⟨W9, hW9, ez, hb9⟩ := set8 wA w.heap.size (.int .u16 0) (.int .u16 0) (.int .u32 0) (.int .u32 0) (.int .u8 0) (.int .u16 0) (.int .u16 0) (.string ⟨#[]⟩) (fun j hj => ⟨_, CZ.out j _ (Array.getElem?_eq_getElem (by simpa using hj))⟩)
   rw [hW9]
   have e0 := ez 0 _ rfl
   have e1 := ez 1 _ rfl
   have e2 := ez 2 _ rfl
   have e3 := ez 3 _ rfl
   have e4 := ez 4 _ rfl
   have e5 := ez 5 _ rfl
   have e6 := ez 6 _ rfl
   have e7 := ez 7 _ rfl
   refine bodyPost_ret (v := .tuple #[tv zeroT, .string ⟨#[]⟩, .int .i64 (c : Int)]) ?_ rfl ?_
   · simp [results, Tryz.f40, go_sem, e0, e1, e2, e3, e4, e5, e6, e7, zeroT]
   · exact ⟨by rw [HV.out], HB.out.trans hb9⟩
 have HV := Lib.hid (show decV6 ps_ pd_ s = .tuple #[tv (trd s), .string (s.extract (hl (bz s)) s.size), .int .i64 0] by rw [decV6, if_pos h0])
 obtain ⟨_, _, _, _, hsz, _, h20⟩ := trd_raw ps_ pd_ s h0
 have hb12 : 20 ≤ hl (bz s) ∧ hl (bz s) ≤ s.size := by
   unfold terr at h0
   rw [bz_len, if_neg (by omega)] at h0
   by_cases c2 : 65515 < s.size
   · rw [if_pos c2] at h0; omega
   by_cases c3 : tsum ps_ pd_ (bz s) ≠ 0
   · rw [if_neg c2, if_pos c3] at h0; omega
   by_cases c4 : hl (bz s) < 20 ∨ s.size < hl (bz s)
   · rw [if_neg c2, if_neg c3, if_pos c4] at h0; omega
   omega
 have HH := Lib.hid (fun W => headP6 s W h20 hs hb12.1 hb12.2)
 have HSZ := Lib.hid (fun W => sizeP s W h20 hs)
 rw [h0] at HF
 clear h0 hsz
 generalize trd s = h at HH HV
 obtain ⟨src, dst, seq, ack, fl, win, urg, opts⟩ := h
 have hn1 := hb12.1
 have hn2 := hb12.2
 clear hb12
 generalize hl (bz s) = n at HSZ HV hn1 hn2
 have k1 : (20 : Int) ≤ (n : Int) := by omega
 have k2 : (n : Int) ≤ (s.size : Int) := by omega
 go_enter Tryz.func40, Tryz.ntmps40
 go_wp2_with fail
 refine (HF.out _).mono ?_
 rintro e wA ⟨rfl, hb1⟩
 have D0 := Lib.hid (box_more (box_new w (.cells #[.int .u16 0, .int .u16 0, .int .u32 0, .int .u32 0, .int .u8 0, .int .u16 0, .int .u16 0, .string ⟨#[]⟩] 61)) hb1)
 have HB := Lib.hid (st_call (st_alloc (Below.refl _ _) _) hb1)
 clear hb1
 go_wp2_with fail
 refine (HH.out _).mono ?_
 rintro e wB ⟨rfl, hb2⟩
 have D1 := Lib.hid (box_more D0.out hb2)
 have HB2 := Lib.hid (st_call HB.out hb2)
 clear hb2
 go_wp2_with fail
 refine (HSZ.out _).mono ?_
 rintro e wC ⟨rfl, hw⟩
 rw [hw]
 clear hw
 go_wp2_with fail
 refine (cloneP (s.extract n s.size) wB (by rw [ByteArray.size_extract]; omega)).mono ?_
 rintro e wD ⟨rfl, hb3⟩
 have d2 := box_more D1.out hb3
 obtain ⟨fz, cz⟩ := box_is wD w.heap.size _ _ d2
 have HB3 := Lib.hid (st_call HB2.out hb3)
 clear d2 hb3
 have f0 := fz 0
 have c0 := cz 0 _ rfl
 have f1 := fz 1
 have c1 := cz 1 _ rfl
 have f2 := fz 2
 have c2 := cz 2 _ rfl
 have f3 := fz 3
 have c3 := cz 3 _ rfl
 have f4 := fz 4
 have c4 := cz 4 _ rfl
 have f5 := fz 5
 have c5 := cz 5 _ rfl
 have f6 := fz 6
 have c6 := cz 6 _ rfl
 have f7 := fz 7
 have c7 := cz 7 _ rfl
 have CZ := Lib.hid cz
 clear cz fz
 go_wp2_with fail
 obtain ⟨W9, hW9, ez, hb9⟩ := set8 wD w.heap.size (.int .u16 (src : Int)) (.int .u16 (dst : Int)) (.int .u32 (seq : Int)) (.int .u32 (ack : Int)) (.int .u8 (fl : Int)) (.int .u16 (win : Int)) (.int .u16 (urg : Int)) (.string opts) (fun j hj => ⟨_, CZ.out j _ (Array.getElem?_eq_getElem (by simpa using hj))⟩)
 rw [hW9]
 have e0 := ez 0 _ rfl
 have e1 := ez 1 _ rfl
 have e2 := ez 2 _ rfl
 have e3 := ez 3 _ rfl
 have e4 := ez 4 _ rfl
 have e5 := ez 5 _ rfl
 have e6 := ez 6 _ rfl
 have e7 := ez 7 _ rfl
 refine bodyPost_ret (v := .tuple #[tv ⟨src, dst, seq, ack, fl, win, urg, opts⟩, .string (s.extract n s.size), .int .i64 0]) ?_ rfl ?_
 · simp [results, Tryz.f40, go_sem, e0, e1, e2, e3, e4, e5, e6, e7]
 · exact ⟨by rw [HV.out], HB3.out.trans hb9⟩
end Go.Proofs.YtpmnmnflaijaaaaGreat.TcpD
