/-
  Laws for a proof of package pkt: 2 texts in one.
-/
import Derived.Test.YtpmnmnflaijaaaaGreatQNumA327
import Derived.Test.YtpmnmnflaijaaaaGreatQOptAdd3
import Derived.Test.YtpmnmnflaijaaaaGreatQTcpSummed2
import Derived.Test.YtpmnmnflaijaaaaGreatQSumStrs3
import Derived.Test.YtpmnmnflaijaaaaGreatQIpDec1
namespace Go.Proofs.YtpmnmnflaijaaaaGreat.TcpP
open Go.RowKit TupMath SumMath IpMath IpRef Litb Calm Rel Num SumWords SumStrs SumOf TcpMath TcpRef TcpEnc TcpSummed
set_option linter.unusedVariables false
set_option maxRecDepth 100000
theorem put_lit (l : List Value) (ds : List Deferred) (d : Nat) (v : Value) : Act.put ⟨l.toArray, ds⟩ (some d) v = ⟨(l.set d v).toArray, ds⟩ := by simp [Act.put]
theorem and192 : ∀ x : Fin 256, (x.val &&& 192 = 0) ↔ x.val < 64 := by decide +kernel
theorem flags_ok (x : Nat) (h : x < 64) : bits .and .u8 (x : Int) 192 = 0 := by
 have h1 := u8_and_nat x 192 (by omega) (by omega)
 rw [(and192 ⟨x, by omega⟩).2 h] at h1
 exact h1
theorem flags_bad (x : Nat) (h : ¬ x < 64) (hx : x ≤ 255) : ∃ z : Nat, bits .and .u8 (x : Int) 192 = (z : Int) ∧ 0 < z := by
 have h1 := u8_and_nat x 192 (by omega) (by omega)
 refine ⟨_, h1, Nat.pos_of_ne_zero fun e => h ((and192 ⟨x, by omega⟩).1 e)⟩
def back (h : Th) (d : ByteArray) : List Nat := w2s [h.urg] ++ bz h.opts ++ bz d
theorem raw_words (h : Th) (d : ByteArray) (s : Nat) : front h ++ (w2 s ++ back h d) = raw h (bz d) s := by
 unfold back raw
 rw [List.append_assoc (w2s [h.urg])]
 rfl
theorem back_len (h : Th) (d : ByteArray) : (back h d).length = 2 + h.opts.size + d.size := by
 unfold back
 rw [List.length_append, List.length_append, bz_len, bz_len]
 rfl
theorem back_le (h : Th) (k : h.ok) (d : ByteArray) : ∀ x ∈ back h d, x ≤ 255 := by
 intro x hx
 have := k.urg
 unfold back at hx
 rcases List.mem_append.1 hx with hx | hx
 · rcases List.mem_append.1 hx with hx | hx
   · simp only [w2s, w2, List.flatMap_cons, List.flatMap_nil, List.append_nil, List.mem_cons, List.not_mem_nil, or_false] at hx; omega
   · exact bz_le _ x hx
 · exact bz_le _ x hx
theorem back_is (h : Th) (d : ByteArray) : ofB (w2s [h.urg]) ++ h.opts ++ d = ofB (back h d) := by
 unfold back
 have e : ofB (w2s [h.urg]) ++ h.opts = ofB (w2s [h.urg] ++ bz h.opts) := by rw [← ofB_app, ofB_bz]
 have e2 : ofB (w2s [h.urg] ++ bz h.opts) ++ d = ofB (w2s [h.urg] ++ bz h.opts ++ bz d) := by rw [← ofB_app (w2s [h.urg] ++ bz h.opts), ofB_bz]
 rw [e, e2]
theorem lay1 (c : Nat) (w : World) (hc : c ≤ 65535) : Calls Tryz.prog 49 #[.slice (some ⟨w.heap.size, 0, none⟩) 1 1] (w.alloc (.cells #[.int .u16 (c : Int)] 23)) fun e w' => e = .returned (.string (ofB (w2 c))) ∧ Below (w.alloc (.cells #[.int .u16 (c : Int)] 23)).heap.size (w.alloc (.cells #[.int .u16 (c : Int)] 23)) w' :=
 layH16 (HoldK.new .u16 w [c] _) (by simp) (by simp) (by intro x hx; simp at hx; omega)
theorem lay0 (w : World) : Calls Tryz.prog 49 #[.slice (some ⟨w.heap.size, 0, none⟩) 1 1] (w.alloc (.cells #[.int .u16 0] 23)) fun e w' => e = .returned (.string (ofB (w2 0))) ∧ Below (w.alloc (.cells #[.int .u16 0] 23)).heap.size (w.alloc (.cells #[.int .u16 0] 23)) w' := lay1 0 w (by decide)
theorem cat_parts (src dst : Nat) (h : Th) (k : h.ok) (m : h.may) (d : ByteArray) : cat [ofB (front h), ofB (w2 0), ofB (back h d)] = raw h (bz d) 0 := by
 show bz (ofB (front h)) ++ (bz (ofB (w2 0)) ++ (bz (ofB (back h d)) ++ [])) = _
 rw [bz_ofB (fun x hx => raw_le h k m (bz d) 0 (bz_le d) (by decide) x (by unfold raw; exact List.mem_append_left _ hx)), bz_ofB (w2_le 0 (by decide)), bz_ofB (back_le h k d), List.append_nil, raw_words]
theorem sum_parts (src dst : Nat) (h : Th) (k : h.ok) (m : h.may) (d : ByteArray) (hs : src ≤ 4294967295) (hd : dst ≤ 4294967295) (hn : (raw h (bz d) 0).length ≤ 65535) : cs (cat (ofB (ps src dst (cat [ofB (front h), ofB (w2 0), ofB (back h d)]).length) :: [ofB (front h), ofB (w2 0), ofB (back h d)])) = tsum src dst (raw h (bz d) 0) := by
 have e := cat_parts src dst h k m d
 show cs (bz (ofB (ps src dst (cat [ofB (front h), ofB (w2 0), ofB (back h d)]).length)) ++ cat [ofB (front h), ofB (w2 0), ofB (back h d)]) = _
 rw [e]
 rw [bz_ofB]
 · rfl
 · intro x hx
   simp only [ps, w2, w4, List.cons_append, List.nil_append, List.mem_cons, List.not_mem_nil, or_false] at hx
   omega
def relP6 (h : Th) (n q b : Nat) : Nat → Value → World → Prop
 | 0 => fun v _ => v = .pointer (some ⟨b, 0, none⟩)
 | 1 => fun v _ => v = .int .u16 (h.src : Int)
 | 2 => fun v _ => v = .pointer (some ⟨b, 1, none⟩)
 | 3 => fun v _ => v = .int .u16 (h.dst : Int)
 | 4 => HoldK .u16 [h.src, h.dst]
 | 5 => fun v _ => v = .string (ofB (w2s [h.src, h.dst]))
 | 6 => fun v _ => v = .pointer (some ⟨b, 2, none⟩)
 | 7 => fun v _ => v = .int .u32 (h.seq : Int)
 | 8 => fun v _ => v = .pointer (some ⟨b, 3, none⟩)
 | 9 => fun v _ => v = .int .u32 (h.ack : Int)
 | 10 => HoldK .u32 [h.seq, h.ack]
 | 11 => fun v _ => v = .string (ofB (w4s [h.seq, h.ack]))
 | 12 => fun v _ => v = .string (ofB (w2s [h.src, h.dst] ++ w4s [h.seq, h.ack]))
 | 13 => fun v _ => v = .int .i64 (n : Int)
 | 14 => fun v _ => v = .int .i64 (q : Int)
 | 15 => fun v _ => v = .int .u8 (q : Int)
 | 16 => fun v _ => v = .int .u8 (off h : Int)
 | 17 => fun v _ => v = .pointer (some ⟨b, 4, none⟩)
 | 18 => fun v _ => v = .int .u8 (h.flags : Int)
 | 19 => HoldK .u8 [off h, h.flags]
 | 20 => fun v _ => v = .string (ofB ([off h, h.flags]))
 | 21 => fun v _ => v = .string (ofB (w2s [h.src, h.dst] ++ w4s [h.seq, h.ack] ++ [off h, h.flags]))
 | 22 => fun v _ => v = .pointer (some ⟨b, 5, none⟩)
 | 23 => fun v _ => v = .int .u16 (h.win : Int)
 | 24 => HoldK .u16 [h.win]
 | 25 => fun v _ => v = .string (ofB (w2s [h.win]))
 | 26 => fun v _ => v = .string (ofB (front h))
 | 27 => fun v _ => v = .string (ofB (front h))
 | _ => fun _ _ => True
theorem relP6_more (h : Th) (n q b : Nat) (i : Nat) (v : Value) (w w' : World) (hr : relP6 h n q b i v w) (hb : Below w.heap.size w w') : relP6 h n q b i v w' := by
 unfold relP6 at hr ⊢
 split at hr <;> first | exact hr | exact hr.more hb
def relP7 (h : Th) (d : ByteArray) (b : Nat) : Nat → Value → World → Prop
 | 0 => fun v _ => v = .pointer (some ⟨b, 6, none⟩)
 | 1 => fun v _ => v = .int .u16 (h.urg : Int)
 | 2 => HoldK .u16 [h.urg]
 | 3 => fun v _ => v = .string (ofB (w2s [h.urg]))
 | 4 => fun v _ => v = .pointer (some ⟨b, 7, none⟩)
 | 5 => fun v _ => v = .string h.opts
 | 6 => fun v _ => v = .string (ofB (w2s [h.urg]) ++ h.opts)
 | 7 => fun v _ => v = .string d
 | 8 => fun v _ => v = .string (ofB (back h d))
 | 9 => fun v _ => v = .string (ofB (back h d))
 | _ => fun _ _ => True
theorem relP7_more (h : Th) (d : ByteArray) (b : Nat) (i : Nat) (v : Value) (w w' : World) (hr : relP7 h d b i v w) (hb : Below w.heap.size w w') : relP7 h d b i v w' := by
 unfold relP7 at hr ⊢
 split at hr <;> first | exact hr | exact hr.more hb
attribute [local go_sem] relUpon
set_option maxHeartbeats 16000000 in
theorem encP6 (src dst : Nat) (h : Th) (d : ByteArray) (w : World) (hs : src ≤ 4294967295) (hd : dst ≤ 4294967295) (k : h.ok) (ho : h.opts.size ≤ 1000000) (hl : d.size ≤ 1000000) : Calls Tryz.prog 37 #[.int .u32 (src : Int), .int .u32 (dst : Int), tv h, .string d] w fun e w' => e = .returned (encV6 src dst h d) ∧ Below w.heap.size w w' := by
 have hf := k.flags
 by_cases c1 : h.opts.size % 4 = 0
 rotate_left
 · rw [encV6_arg (fun m => c1 m.four)]
   have q : ((h.opts.size : Int) % 4 == 0) = false := beq_eq_false_iff_ne.2 (by omega)
   have q2 : ((h.opts.size : Int) % 4 != 0) = true := bne_iff_ne.2 (by omega)
   go_enter Tryz.func37, Tryz.ntmps37
   go_wp2
   go_ret2
   exact ⟨rfl, st_alloc (Below.refl _ _) _⟩
 have q : ((h.opts.size : Int) % 4 == 0) = true := beq_iff_eq.2 (by omega)
 have q2 : ((h.opts.size : Int) % 4 != 0) = false := by rw [bne, q]; rfl
 by_cases c2 : h.opts.size ≤ 40
 rotate_left
 · rw [encV6_arg (fun m => c2 m.most)]
   have q3 : (40 : Int) < (h.opts.size : Int) := by omega
   clear c1
   go_enter Tryz.func37, Tryz.ntmps37
   go_wp2
   go_ret2
   exact ⟨rfl, st_alloc (Below.refl _ _) _⟩
 have q3 : ¬ (40 : Int) < (h.opts.size : Int) := by omega
 by_cases c3 : h.flags < 64
 rotate_left
 · rw [encV6_arg (fun m => c3 m.flags)]
   obtain ⟨z, q4, q5⟩ := flags_bad h.flags c3 hf
   have q6 : ((z : Int) == 0) = false := beq_eq_false_iff_ne.2 (by omega)
   have q7 : ((z : Int) != 0) = true := bne_iff_ne.2 (by omega)
   clear c1
   go_enter Tryz.func37, Tryz.ntmps37
   go_wp2
   go_ret2
   exact ⟨rfl, st_alloc (Below.refl _ _) _⟩
 have q4 := flags_ok h.flags c3
 have m : h.may := ⟨c1, c2, c3⟩
 by_cases hn : 20 + h.opts.size + d.size ≤ 65515
 rotate_left
 · rw [encV6_long m hn]
   have q5 : (65515 : Int) < 20 + (h.opts.size : Int) + (d.size : Int) := by omega
   clear c1
   go_enter Tryz.func37, Tryz.ntmps37
   go_wp2
   go_ret2
   exact ⟨rfl, st_alloc (Below.refl _ _) _⟩
 rw [encV6_ok m hn]
 have q5 : ¬ (65515 : Int) < 20 + (h.opts.size : Int) + (d.size : Int) := by omega
 have hrl : (raw h (bz d) 0).length ≤ 65535 := by rw [raw_len, bz_len]; omega
 have HSP := Lib.hid (sum_parts src dst h k m d hs hd hrl)
 have HCL := Lib.hid (show (cat [ofB (front h), ofB (w2 0), ofB (back h d)]).length ≤ 65535 by rw [cat_parts src dst h k m d]; exact hrl)
 have HSEG := Lib.hid (show seg src dst h (bz d) = front h ++ (w2 (tsum src dst (raw h (bz d) 0)) ++ back h d) from (raw_words h d _).symm)
 have hc := tsum_le src dst (raw h (bz d) 0)
 generalize tsum src dst (raw h (bz d) 0) = c at HSP HSEG hc
 have l1 : ∀ x ∈ [h.src, h.dst], x ≤ 65535 := by intro x hx; simp at hx; have := k.src; have := k.dst; omega
 have l2 : ∀ x ∈ [h.seq, h.ack], x ≤ 4294967295 := by intro x hx; simp at hx; have := k.seq; have := k.ack; omega
 have l3 : ∀ x ∈ [off h, h.flags], x ≤ 255 := by intro x hx; simp [off] at hx; omega
 have l4 : ∀ x ∈ [h.win], x ≤ 65535 := by intro x hx; simp at hx; have := k.win; omega
 have l5 : ∀ x ∈ [h.urg], x ≤ 65535 := by intro x hx; simp at hx; have := k.urg; omega
 obtain ⟨n, hne⟩ : ∃ n : Nat, n = 20 + h.opts.size := ⟨_, rfl⟩
 obtain ⟨q8, hq8⟩ : ∃ q : Nat, q = n / 4 := ⟨_, rfl⟩
 have hq1 : q8 ≤ 15 := by omega
 have hn4 : n = 4 * q8 := by omega
 have HOFF := Lib.hid (show off h = q8 * 16 by unfold off; omega)
 have e20 : (20 : Int) + (h.opts.size : Int) = (n : Int) := by omega
 have q55 : ¬ (65515 : Int) < (n : Int) + (d.size : Int) := by omega
 have hos : h.opts.size ≤ 40 := c2
 have HN4 := Lib.hid hn4
 have HNE := Lib.hid hne
 clear c1 hn q5 hrl hq8 hn4 hne m
 go_enter Tryz.func37, Tryz.ntmps37
 have cells : ∀ W, Below (w.alloc (.cells #[.int .u16 (h.src : Int), .int .u16 (h.dst : Int), .int .u32 (h.seq : Int), .int .u32 (h.ack : Int), .int .u8 (h.flags : Int), .int .u16 (h.win : Int), .int .u16 (h.urg : Int), .string h.opts] 61)).heap.size (w.alloc (.cells #[.int .u16 (h.src : Int), .int .u16 (h.dst : Int), .int .u32 (h.seq : Int), .int .u32 (h.ack : Int), .int .u8 (h.flags : Int), .int .u16 (h.win : Int), .int .u16 (h.urg : Int), .string h.opts] 61)) W → ∀ (j : Nat) (v : Value), (#[.int .u16 (h.src : Int), .int .u16 (h.dst : Int), .int .u32 (h.seq : Int), .int .u32 (h.ack : Int), .int .u8 (h.flags : Int), .int .u16 (h.win : Int), .int .u16 (h.urg : Int), .string h.opts] : Array Value)[j]? = some v → W.cell? ⟨w.heap.size, j, none⟩ = some v := fun W hb j v hv =>
   ((hb.cell (p := ⟨w.heap.size, j, none⟩) (by simp)).trans (World.cell?_alloc_mark w _ _ (0, 0) j)).trans hv
 go_wp2_with fail
 refine wp_region_see 92 (relP6 h n q8 w.heap.size) rfl (by kernel_rfl) (by kernel_rfl) (by kernel_rfl) (relP6_more h n q8 w.heap.size) ?_ ?_
 · intro i hi
   have hi2 : i < 28 := by simpa using hi
   clear hi
   match i, hi2 with
   | 0, _ =>
     intro ρ W hb hc hg hf h0 hd
     have t6 := h0 6 (by kernel_rfl)
     clear hd h0
     go_simp
     exact ⟨rfl, Below.refl _ _⟩
   | 1, _ =>
     intro ρ W hb hc hg hf h0 hd
     have d0 : ρ (.tmp 40) = .pointer (some ⟨w.heap.size, 0, none⟩) := hd 0 40 (by kernel_rfl) (by kernel_rfl)
     have c0 := cells W hb 0 _ rfl
     clear hd h0
     go_simp
     exact ⟨rfl, Below.refl _ _⟩
   | 2, _ =>
     intro ρ W hb hc hg hf h0 hd
     have t6 := h0 6 (by kernel_rfl)
     clear hd h0
     go_simp
     exact ⟨rfl, Below.refl _ _⟩
   | 3, _ =>
     intro ρ W hb hc hg hf h0 hd
     have d2 : ρ (.tmp 42) = .pointer (some ⟨w.heap.size, 1, none⟩) := hd 2 42 (by kernel_rfl) (by kernel_rfl)
     have c1 := cells W hb 1 _ rfl
     clear hd h0
     go_simp
     exact ⟨rfl, Below.refl _ _⟩
   | 4, _ =>
     intro ρ W hb hc hg hf h0 hd
     have d1 : ρ (.tmp 41) = .int .u16 (h.src : Int) := hd 1 41 (by kernel_rfl) (by kernel_rfl)
     have d3 : ρ (.tmp 43) = .int .u16 (h.dst : Int) := hd 3 43 (by kernel_rfl) (by kernel_rfl)
     clear hd h0
     go_simp
     exact ⟨HoldK.new .u16 W [h.src, h.dst] _, st_alloc (Below.refl _ _) _⟩
   | 5, _ =>
     intro ρ W hb hc hg hf h0 hd
     have dh4 : HoldK .u16 [h.src, h.dst] (ρ (.tmp 44)) W := hd 4 44 (by kernel_rfl) (by kernel_rfl)
     clear hd h0
     go_simp
     exact (layH16 dh4 (by simp) (by simp) l1).mono fun e w' ⟨he, hb⟩ => ⟨_, he, rfl, hb⟩
   | 6, _ =>
     intro ρ W hb hc hg hf h0 hd
     have t6 := h0 6 (by kernel_rfl)
     clear hd h0
     go_simp
     exact ⟨rfl, Below.refl _ _⟩
   | 7, _ =>
     intro ρ W hb hc hg hf h0 hd
     have d6 : ρ (.tmp 46) = .pointer (some ⟨w.heap.size, 2, none⟩) := hd 6 46 (by kernel_rfl) (by kernel_rfl)
     have c2 := cells W hb 2 _ rfl
     clear hd h0
     go_simp
     exact ⟨rfl, Below.refl _ _⟩
   | 8, _ =>
     intro ρ W hb hc hg hf h0 hd
     have t6 := h0 6 (by kernel_rfl)
     clear hd h0
     go_simp
     exact ⟨rfl, Below.refl _ _⟩
   | 9, _ =>
     intro ρ W hb hc hg hf h0 hd
     have d8 : ρ (.tmp 48) = .pointer (some ⟨w.heap.size, 3, none⟩) := hd 8 48 (by kernel_rfl) (by kernel_rfl)
     have c3 := cells W hb 3 _ rfl
     clear hd h0
     go_simp
     exact ⟨rfl, Below.refl _ _⟩
   | 10, _ =>
     intro ρ W hb hc hg hf h0 hd
     have d7 : ρ (.tmp 47) = .int .u32 (h.seq : Int) := hd 7 47 (by kernel_rfl) (by kernel_rfl)
     have d9 : ρ (.tmp 49) = .int .u32 (h.ack : Int) := hd 9 49 (by kernel_rfl) (by kernel_rfl)
     clear hd h0
     go_simp
     exact ⟨HoldK.new .u32 W [h.seq, h.ack] _, st_alloc (Below.refl _ _) _⟩
   | 11, _ =>
     intro ρ W hb hc hg hf h0 hd
     have dh10 : HoldK .u32 [h.seq, h.ack] (ρ (.tmp 50)) W := hd 10 50 (by kernel_rfl) (by kernel_rfl)
     clear hd h0
     go_simp
     exact (layH32 dh10 (by simp) (by simp) l2).mono fun e w' ⟨he, hb⟩ => ⟨_, he, rfl, hb⟩
   | 12, _ =>
     intro ρ W hb hc hg hf h0 hd
     have d5 : ρ (.tmp 45) = .string (ofB (w2s [h.src, h.dst])) := hd 5 45 (by kernel_rfl) (by kernel_rfl)
     have d11 : ρ (.tmp 51) = .string (ofB (w4s [h.seq, h.ack])) := hd 11 51 (by kernel_rfl) (by kernel_rfl)
     have hz := app_size (a := w2s [h.src, h.dst]) (b := w4s [h.seq, h.ack]) (Nat.le_of_ble_eq_true rfl)
     clear hd h0
     go_simp
     exact ⟨by rw [ofB_app]; rfl, Below.refl _ _⟩
   | 13, _ =>
     intro ρ W hb hc hg hf h0 hd
     have t10 := h0 10 (by kernel_rfl)
     clear hd h0
     go_simp
     exact ⟨rfl, Below.refl _ _⟩
   | 14, _ =>
     intro ρ W hb hc hg hf h0 hd
     have d13 : ρ (.tmp 53) = .int .i64 (n : Int) := hd 13 53 (by kernel_rfl) (by kernel_rfl)
     clear hd h0
     have hn4 := HN4.out
     have e4 : (n : Int) / 4 = (q8 : Int) := by omega
     have e64 : IntKind.i64.wrap (q8 : Int) = (q8 : Int) := by rw [IntKind.wrap_i64]; omega
     clear hn4
     go_simp
     exact ⟨rfl, Below.refl _ _⟩
   | 15, _ =>
     intro ρ W hb hc hg hf h0 hd
     have d14 : ρ (.tmp 54) = .int .i64 (q8 : Int) := hd 14 54 (by kernel_rfl) (by kernel_rfl)
     clear hd h0
     have e8 : IntKind.u8.wrap (q8 : Int) = (q8 : Int) := by rw [IntKind.wrap_u8]; omega
     go_simp
     exact ⟨rfl, Below.refl _ _⟩
   | 16, _ =>
     intro ρ W hb hc hg hf h0 hd
     have d15 : ρ (.tmp 55) = .int .u8 (q8 : Int) := hd 15 55 (by kernel_rfl) (by kernel_rfl)
     clear hd h0
     have es : IntKind.u8.wrap ((q8 : Int) * 16) = ((off h : Nat) : Int) := by rw [IntKind.wrap_u8, HOFF.out]; omega
     go_simp
     exact ⟨rfl, Below.refl _ _⟩
   | 17, _ =>
     intro ρ W hb hc hg hf h0 hd
     have t6 := h0 6 (by kernel_rfl)
     clear hd h0
     go_simp
     exact ⟨rfl, Below.refl _ _⟩
   | 18, _ =>
     intro ρ W hb hc hg hf h0 hd
     have d17 : ρ (.tmp 57) = .pointer (some ⟨w.heap.size, 4, none⟩) := hd 17 57 (by kernel_rfl) (by kernel_rfl)
     have c4 := cells W hb 4 _ rfl
     clear hd h0
     go_simp
     exact ⟨rfl, Below.refl _ _⟩
   | 19, _ =>
     intro ρ W hb hc hg hf h0 hd
     have d16 : ρ (.tmp 56) = .int .u8 (off h : Int) := hd 16 56 (by kernel_rfl) (by kernel_rfl)
     have d18 : ρ (.tmp 58) = .int .u8 (h.flags : Int) := hd 18 58 (by kernel_rfl) (by kernel_rfl)
     clear hd h0
     go_simp
     exact ⟨HoldK.new .u8 W [off h, h.flags] _, st_alloc (Below.refl _ _) _⟩
   | 20, _ =>
     intro ρ W hb hc hg hf h0 hd
     have dh19 : HoldK .u8 [off h, h.flags] (ρ (.tmp 59)) W := hd 19 59 (by kernel_rfl) (by kernel_rfl)
     clear hd h0
     go_simp
     exact (layH8 dh19 (by simp) (by simp) l3).mono fun e w' ⟨he, hb⟩ => ⟨_, he, rfl, hb⟩
   | 21, _ =>
     intro ρ W hb hc hg hf h0 hd
     have d12 : ρ (.tmp 52) = .string (ofB (w2s [h.src, h.dst] ++ w4s [h.seq, h.ack])) := hd 12 52 (by kernel_rfl) (by kernel_rfl)
     have d20 : ρ (.tmp 60) = .string (ofB ([off h, h.flags])) := hd 20 60 (by kernel_rfl) (by kernel_rfl)
     have hz := app_size (a := w2s [h.src, h.dst] ++ w4s [h.seq, h.ack]) (b := [off h, h.flags]) (Nat.le_of_ble_eq_true rfl)
     clear hd h0
     go_simp
     exact ⟨by rw [ofB_app]; rfl, Below.refl _ _⟩
   | 22, _ =>
     intro ρ W hb hc hg hf h0 hd
     have t6 := h0 6 (by kernel_rfl)
     clear hd h0
     go_simp
     exact ⟨rfl, Below.refl _ _⟩
   | 23, _ =>
     intro ρ W hb hc hg hf h0 hd
     have d22 : ρ (.tmp 62) = .pointer (some ⟨w.heap.size, 5, none⟩) := hd 22 62 (by kernel_rfl) (by kernel_rfl)
     have c5 := cells W hb 5 _ rfl
     clear hd h0
     go_simp
     exact ⟨rfl, Below.refl _ _⟩
   | 24, _ =>
     intro ρ W hb hc hg hf h0 hd
     have d23 : ρ (.tmp 63) = .int .u16 (h.win : Int) := hd 23 63 (by kernel_rfl) (by kernel_rfl)
     clear hd h0
     go_simp
     exact ⟨HoldK.new .u16 W [h.win] _, st_alloc (Below.refl _ _) _⟩
   | 25, _ =>
     intro ρ W hb hc hg hf h0 hd
     have dh24 : HoldK .u16 [h.win] (ρ (.tmp 64)) W := hd 24 64 (by kernel_rfl) (by kernel_rfl)
     clear hd h0
     go_simp
     exact (layH16 dh24 (by simp) (by simp) l4).mono fun e w' ⟨he, hb⟩ => ⟨_, he, rfl, hb⟩
   | 26, _ =>
     intro ρ W hb hc hg hf h0 hd
     have d21 : ρ (.tmp 61) = .string (ofB (w2s [h.src, h.dst] ++ w4s [h.seq, h.ack] ++ [off h, h.flags])) := hd 21 61 (by kernel_rfl) (by kernel_rfl)
     have d25 : ρ (.tmp 65) = .string (ofB (w2s [h.win])) := hd 25 65 (by kernel_rfl) (by kernel_rfl)
     have hz := app_size (a := w2s [h.src, h.dst] ++ w4s [h.seq, h.ack] ++ [off h, h.flags]) (b := w2s [h.win]) (Nat.le_of_ble_eq_true rfl)
     clear hd h0
     go_simp
     exact ⟨by rw [ofB_app]; rfl, Below.refl _ _⟩
   | 27, _ =>
     intro ρ W hb hc hg hf h0 hd
     have d26 : ρ (.tmp 66) = .string (ofB (front h)) := hd 26 66 (by kernel_rfl) (by kernel_rfl)
     clear hd h0
     go_simp
     exact ⟨rfl, Below.refl _ _⟩
   | i + 28, hlt => exact absurd hlt (by omega)
 · intro vs W hb hall
   have h27 : vs 27 = .string (ofB (front h)) := hall 27 (of_decide_eq_true (by kernel_rfl))
   have HCELL := Lib.hid (fun W2 (h2 : Below W.heap.size W W2) => cells W2 (hb.trans (h2.mono hb.size)))
   have HB := Lib.hid (st_call (st_alloc (Below.refl _ _) _) hb)
   clear hall cells hb
   rw [lexA_slots vs _ [(some 40, 0), (some 41, 1), (some 42, 2), (some 43, 3), (some 44, 4), (some 45, 5), (some 46, 6), (some 47, 7), (some 48, 8), (some 49, 9), (some 50, 10), (some 51, 11), (some 52, 12), (some 53, 13), (some 54, 14), (some 55, 15), (some 56, 16), (some 57, 17), (some 58, 18), (some 59, 19), (some 60, 20), (some 61, 21), (some 62, 22), (some 63, 23), (some 64, 24), (some 65, 25), (some 66, 26), (some 11, 27)] (by kernel_rfl)]
   simp only [List.foldl_cons, List.foldl_nil, h27]
   go_wp2_with fail
   simp only [put_lit, List.set_cons_succ, List.set_cons_zero]
   refine wp_region_see 92 (relP7 h d w.heap.size) rfl (by kernel_rfl) (by kernel_rfl) (by kernel_rfl) (relP7_more h d w.heap.size) ?_ ?_
   · intro i hi
     have hi2 : i < 10 := by simpa using hi
     clear hi
     match i, hi2 with
     | 0, _ =>
       intro ρ W hb hc hg hf h0 hd
       have t6 := h0 6 (by kernel_rfl)
       clear hd h0
       go_simp
       exact ⟨rfl, Below.refl _ _⟩
     | 1, _ =>
       intro ρ W hb hc hg hf h0 hd
       have d0 : ρ (.tmp 67) = .pointer (some ⟨w.heap.size, 6, none⟩) := hd 0 67 (by kernel_rfl) (by kernel_rfl)
       have c6 := HCELL.out W hb 6 _ rfl
       clear hd h0
       go_simp
       exact ⟨rfl, Below.refl _ _⟩
     | 2, _ =>
       intro ρ W hb hc hg hf h0 hd
       have d1 : ρ (.tmp 68) = .int .u16 (h.urg : Int) := hd 1 68 (by kernel_rfl) (by kernel_rfl)
       clear hd h0
       go_simp
       exact ⟨HoldK.new .u16 W [h.urg] _, st_alloc (Below.refl _ _) _⟩
     | 3, _ =>
       intro ρ W hb hc hg hf h0 hd
       have dh2 : HoldK .u16 [h.urg] (ρ (.tmp 69)) W := hd 2 69 (by kernel_rfl) (by kernel_rfl)
       clear hd h0
       go_simp
       exact (layH16 dh2 (by simp) (by simp) l5).mono fun e w' ⟨he, hb⟩ => ⟨_, he, rfl, hb⟩
     | 4, _ =>
       intro ρ W hb hc hg hf h0 hd
       have t6 := h0 6 (by kernel_rfl)
       clear hd h0
       go_simp
       exact ⟨rfl, Below.refl _ _⟩
     | 5, _ =>
       intro ρ W hb hc hg hf h0 hd
       have d4 : ρ (.tmp 71) = .pointer (some ⟨w.heap.size, 7, none⟩) := hd 4 71 (by kernel_rfl) (by kernel_rfl)
       have c7 := HCELL.out W hb 7 _ rfl
       clear hd h0
       go_simp
       exact ⟨rfl, Below.refl _ _⟩
     | 6, _ =>
       intro ρ W hb hc hg hf h0 hd
       have d3 : ρ (.tmp 70) = .string (ofB (w2s [h.urg])) := hd 3 70 (by kernel_rfl) (by kernel_rfl)
       have d5 : ρ (.tmp 72) = .string h.opts := hd 5 72 (by kernel_rfl) (by kernel_rfl)
       have y2 : (ofB (w2s [h.urg])).size = 2 := ofB_size _
       have hz : (ofB (w2s [h.urg])).size + h.opts.size ≤ 9223372036854775807 := by omega
       clear y2
       clear hd h0
       go_simp
       rw [if_neg (Nat.not_lt.2 hz)]
       exact ⟨rfl, Below.refl _ _⟩
     | 7, _ =>
       intro ρ W hb hc hg hf h0 hd
       have t3 := h0 3 (by kernel_rfl)
       clear hd h0
       go_simp
       exact ⟨rfl, Below.refl _ _⟩
     | 8, _ =>
       intro ρ W hb hc hg hf h0 hd
       have d6 : ρ (.tmp 73) = .string (ofB (w2s [h.urg]) ++ h.opts) := hd 6 73 (by kernel_rfl) (by kernel_rfl)
       have d7 : ρ (.tmp 74) = .string d := hd 7 74 (by kernel_rfl) (by kernel_rfl)
       have y2 : (ofB (w2s [h.urg])).size = 2 := ofB_size _
       have hz : (ofB (w2s [h.urg])).size + h.opts.size + d.size ≤ 9223372036854775807 := by omega
       clear y2
       clear hd h0
       go_simp
       rw [if_neg (Nat.not_lt.2 hz)]
       exact ⟨congrArg Value.string (back_is h d), Below.refl _ _⟩
     | 9, _ =>
       intro ρ W hb hc hg hf h0 hd
       have d8 : ρ (.tmp 75) = .string (ofB (back h d)) := hd 8 75 (by kernel_rfl) (by kernel_rfl)
       clear hd h0
       go_simp
       exact ⟨rfl, Below.refl _ _⟩
     | i + 10, hlt => exact absurd hlt (by omega)
   · intro us W2 hb hall
     have h9 : us 9 = .string (ofB (back h d)) := hall 9 (of_decide_eq_true (by kernel_rfl))
     have HB2 := Lib.hid (st_call HB.out hb)
     clear hall hb
     rw [lexA_slots us _ [(some 67, 0), (some 68, 1), (some 69, 2), (some 70, 3), (some 71, 4), (some 72, 5), (some 73, 6), (some 74, 7), (some 75, 8), (some 12, 9)] (by kernel_rfl)]
     simp only [List.foldl_cons, List.foldl_nil, h9]
     go_wp2_with fail
     refine (lay0 W2).mono ?_
     rintro e wA ⟨rfl, hb3⟩
     have HB3 := Lib.hid (st_call HB2.out (st_call (st_alloc (Below.refl _ _) _) hb3))
     clear hb3
     go_wp2_with fail
     refine (summed_any src dst _ 3 3 [ofB (front h), ofB (w2 0), ofB (back h d)] _ hs hd (strs3 _ _ _ _ _) (by omega) (by omega) HCL.out).mono ?_
     rintro e wB ⟨A', c', rfl, hS, hb4⟩
     have HB4 := Lib.hid (st_call HB3.out (st_call (st_alloc (Below.refl _ _) _) hb4))
     clear hb4
     have z0 : (ofB (back h d)).size ≤ 70000 := by rw [ofB_size, back_len]; omega
     have z1 : (ofB (front h)).size = 16 := ofB_size _
     have hof := of_any A' (1 + 3) c' _ wB hS (by omega) (by
       intro s hs
       simp only [List.mem_cons, List.not_mem_nil, or_false] at hs
       rcases hs with rfl | rfl | rfl | rfl
       · rw [ofB_size, ps_len]; omega
       · omega
       · rw [ofB_size]; show 2 ≤ _; omega
       · omega)
     rw [HSP.out] at hof
     have HOF := Lib.hid hof
     clear hof hS
     go_wp2_with fail
     refine HOF.out.mono ?_
     rintro e wC ⟨rfl, hb5⟩
     have HB5 := Lib.hid (st_call HB4.out hb5)
     clear hb5
     go_wp2_with fail
     refine (lay1 c wC hc).mono ?_
     rintro e wD ⟨rfl, hb6⟩
     have HB6 := Lib.hid (st_call HB5.out (st_call (st_alloc (Below.refl _ _) _) hb6))
     clear hb6
     have y2 : (ofB (w2 c)).size = 2 := ofB_size _
     have z2 : (ofB (front h)).size + (ofB (w2 c)).size ≤ 9223372036854775807 := by omega
     have z3 : (ofB (front h)).size + (ofB (w2 c)).size + (ofB (back h d)).size ≤ 9223372036854775807 := by omega
     clear y2 z1 z0 h27 h9
     go_wp2_with fail
     go_ret2
     refine ⟨?_, HB6.out⟩
     have hval : ofB (front h) ++ ofB (w2 c) ++ ofB (back h d) = ofB (seg src dst h (bz d)) := by
       rw [HSEG.out, ofB_app (front h), ofB_app (front h ++ w2 c), List.append_assoc]
     rw [← hval]
     rfl
end Go.Proofs.YtpmnmnflaijaaaaGreat.TcpP
namespace Go.Proofs.YtpmnmnflaijaaaaGreat.IpD
open Go.RowKit TupMath SumMath IpMath Litb Calm Rel RelT IpRef IpHead IpEnc IpDec Num SumWords SumStrs SumOf IpP
set_option linter.unusedVariables false
set_option maxRecDepth 100000
theorem cat_one (x : ByteArray) : cat [x] = bz x := List.append_nil _
theorem at0_some {l : List Nat} {i : Nat} (h : i < l.length) : l[i]? = some (at0 l i) := by unfold at0; rw [List.getElem?_eq_getElem h]; rfl
theorem and_bit (x : Nat) : x &&& 16384 = 0 ∨ x &&& 16384 = 16384 := by
 have h14 : (16384 : Nat) = 2 ^ 14 := by decide
 cases hb : x.testBit 14
 · left
   apply Nat.eq_of_testBit_eq
   intro i
   rw [Nat.testBit_and, h14, Nat.testBit_two_pow, Nat.zero_testBit]
   by_cases hi : 14 = i
   · subst hi; rw [hb]; rfl
   · rw [decide_eq_false hi, Bool.and_false]
 · right
   apply Nat.eq_of_testBit_eq
   intro i
   rw [Nat.testBit_and, h14, Nat.testBit_two_pow]
   by_cases hi : 14 = i
   · subst hi; rw [hb]; rfl
   · rw [decide_eq_false hi, Bool.and_false]
theorem and_mask (x : Nat) (hx : x < 65536) : (x &&& 49151 = 0) ↔ (x = 0 ∨ x = 16384) := by
 have h1 : x &&& 65535 = x := by
   have := Nat.and_two_pow_sub_one_eq_mod x 16
   rw [Nat.mod_eq_of_lt hx] at this
   exact this
 have h2 : x &&& 65535 = (x &&& 49151) ||| (x &&& 16384) := by
   rw [show (65535 : Nat) = 49151 ||| 16384 from rfl, Nat.and_or_distrib_left]
 constructor
 · intro h
   rw [h, Nat.zero_or, h1] at h2
   rw [h2]
   exact and_bit x
 · rintro (rfl | rfl) <;> rfl
theorem and15 : ∀ x : Fin 256, (x.val &&& 15) = x.val % 16 := by decide +kernel
def bad (l : List Nat) : Nat → Bool
 | 0 => decide (l.length < 20)
 | 1 => !decide (at0 l 0 / 16 = 4)
 | 2 => !decide (at0 l 0 % 16 = 5)
 | 3 => !decide (at0 l 2 * 256 + at0 l 3 = l.length)
 | 4 => !decide (cs (l.take 20) = 0)
 | 5 => !decide (at0 l 6 * 256 + at0 l 7 = 0 ∨ at0 l 6 * 256 + at0 l 7 = 16384)
 | _ => false
def code : Nat → Nat
 | 0 => 50
 | 1 => 51
 | 2 => 52
 | 3 => 53
 | 4 => 55
 | _ => 54
theorem err_of {l : List Nat} (hl : ∀ x ∈ l, x ≤ 255) (k : Nat) (hk : k < 6) (h : ∀ j, j < k → bad l j = false) (hb : bad l k = true) : err l = code k := by
 have b6 : at0 l 6 ≤ 255 := by unfold at0; cases h6 : l[6]? with | none => simp | some x => exact hl x (List.mem_of_getElem? h6)
 have b7 : at0 l 7 ≤ 255 := by unfold at0; cases h6 : l[7]? with | none => simp | some x => exact hl x (List.mem_of_getElem? h6)
 have h0 := h 0; have h1 := h 1; have h2 := h 2; have h3 := h 3; have h4 := h 4
 clear h
 unfold err
 match k, hk with
 | 0, _ => simp [bad] at hb; rw [if_pos hb]; rfl
 | 1, _ => simp [bad] at hb h0 h1 h2 h3 h4; rw [if_neg (by omega), if_pos (by omega)]; rfl
 | 2, _ => simp [bad] at hb h0 h1 h2 h3 h4; rw [if_neg (by omega), if_neg (by omega), if_pos (by omega)]; rfl
 | 3, _ => simp [bad] at hb h0 h1 h2 h3 h4; rw [if_neg (by omega), if_neg (by omega), if_neg (by omega), if_pos (by omega)]; rfl
 | 4, _ => simp [bad] at hb h0 h1 h2 h3 h4; rw [if_neg (by omega), if_neg (by omega), if_neg (by omega), if_neg (by omega), if_pos (by omega)]; rfl
 | 5, _ => simp [bad] at hb h0 h1 h2 h3 h4; rw [if_neg (by omega), if_neg (by omega), if_neg (by omega), if_neg (by omega), if_neg (by omega), if_pos (by omega)]; rfl
theorem err_none {l : List Nat} (h : ∀ j, j < 6 → bad l j = false) : err l = 0 ∧ 20 ≤ l.length ∧ at0 l 7 = 0 ∨ ∃ i, at0 l i > 255 := by
 by_cases hi : ∃ i, at0 l i > 255
 · exact .inr hi
 have b7 : at0 l 7 ≤ 255 := Nat.le_of_not_lt fun hh => hi ⟨7, hh⟩
 have h0 := h 0 (by omega); have h1 := h 1 (by omega); have h2 := h 2 (by omega); have h3 := h 3 (by omega); have h4 := h 4 (by omega); have h5 := h 5 (by omega)
 clear h hi
 unfold err
 simp [bad] at h0 h1 h2 h3 h4 h5
 rw [if_neg (by omega), if_neg (by omega), if_neg (by omega), if_neg (by omega), if_neg (by omega), if_neg (by omega)]
 omega
theorem f0P (s : ByteArray) (w : World) (hs : s.size ≤ 1000000) : Calls Tryz.prog 99 #[.string s] w fun e w' => e = .returned (.bool (bad (bz s) 0)) ∧ Below w.heap.size w w' := by
 have e : bad (bz s) 0 = decide ((s.size : Int) < 20) := by unfold bad; rw [bz_len]; simp only [decide_eq_decide]; omega
 rw [e]
 go_enter Tryz.func99, Tryz.ntmps99
 go_wp2
 go_ret
 exact ⟨rfl, Below.refl _ _⟩
theorem f1P (s : ByteArray) (w : World) (h20 : 20 ≤ s.size) (hs : s.size ≤ 1000000) : Calls Tryz.prog 100 #[.string s] w fun e w' => e = .returned (.bool (bad (bz s) 1)) ∧ Below w.heap.size w w' := by
 have z0 := at_byte s 0 (by omega)
 have q0 := at_le s 0
 unfold bad
 generalize at0 (bz s) 0 = y at z0 q0
 have e : (!decide (y / 16 = 4)) = !decide ((y : Int) / 16 = 4) := congrArg _ (decide_eq_decide.2 (by omega))
 rw [e]
 have hsi : (0 : Int) < (s.size : Int) := by omega
 go_enter Tryz.func100, Tryz.ntmps100
 go_wp2
 go_ret
 exact ⟨rfl, Below.refl _ _⟩
theorem f2P (s : ByteArray) (w : World) (h20 : 20 ≤ s.size) (hs : s.size ≤ 1000000) : Calls Tryz.prog 101 #[.string s] w fun e w' => e = .returned (.bool (bad (bz s) 2)) ∧ Below w.heap.size w w' := by
 have z0 := at_byte s 0 (by omega)
 have q0 := at_le s 0
 unfold bad
 generalize at0 (bz s) 0 = y at z0 q0
 have hand : bits .and .u8 (y : Int) 15 = ((y % 16 : Nat) : Int) := by
   have h := u8_and_nat y 15 (by omega) (by omega)
   rw [and15 ⟨y, by omega⟩] at h
   exact h
 generalize y % 16 = z at hand
 have e : (!decide (z = 5)) = !decide ((z : Int) = 5) := congrArg _ (decide_eq_decide.2 (by omega))
 rw [e]
 have hsi : (0 : Int) < (s.size : Int) := by omega
 go_enter Tryz.func101, Tryz.ntmps101
 go_wp2
 go_ret
 exact ⟨rfl, Below.refl _ _⟩
theorem at16s (s : ByteArray) (i : Nat) (w : World) (h : i + 2 ≤ s.size) (hs : s.size ≤ 1000000) : Calls Tryz.prog 48 #[.string s, .int .i64 (i : Int)] w fun e w' => e = .returned (.int .u16 ((at0 (bz s) i * 256 + at0 (bz s) (i + 1) : Nat) : Int)) ∧ Below w.heap.size w w' :=
 at16 s i _ _ w h hs (at0_some (by rw [bz_len]; omega)) (at0_some (by rw [bz_len]; omega))
theorem at32s (s : ByteArray) (i : Nat) (w : World) (h : i + 4 ≤ s.size) (hs : s.size ≤ 1000000) : Calls Tryz.prog 80 #[.string s, .int .i64 (i : Int)] w fun e w' => e = .returned (.int .u32 ((at0 (bz s) i * 16777216 + at0 (bz s) (i + 1) * 65536 + at0 (bz s) (i + 2) * 256 + at0 (bz s) (i + 3) : Nat) : Int)) ∧ Below w.heap.size w w' :=
 at32 s i _ _ _ _ w h hs (at0_some (by rw [bz_len]; omega)) (at0_some (by rw [bz_len]; omega)) (at0_some (by rw [bz_len]; omega)) (at0_some (by rw [bz_len]; omega))
theorem f3P (s : ByteArray) (w : World) (h20 : 20 ≤ s.size) (hs : s.size ≤ 1000000) : Calls Tryz.prog 102 #[.string s] w fun e w' => e = .returned (.bool (bad (bz s) 3)) ∧ Below w.heap.size w w' := by
 have C := at16s s 2 w (by omega) hs
 unfold bad
 have b2 := at_le s 2
 have b3 := at_le s 3
 have hz : at0 (bz s) 2 * 256 + at0 (bz s) (2 + 1) ≤ 65535 := by show at0 (bz s) 2 * 256 + at0 (bz s) 3 ≤ 65535; omega
 rw [bz_len]
 show Calls _ _ _ _ fun e w' => e = .returned (.bool (!decide (at0 (bz s) 2 * 256 + at0 (bz s) (2 + 1) = s.size))) ∧ _
 generalize at0 (bz s) 2 * 256 + at0 (bz s) (2 + 1) = z at C hz
 have e : (!decide (z = s.size)) = !decide ((z : Int) = (s.size : Int)) := congrArg _ (decide_eq_decide.2 (by omega))
 rw [e]
 go_enter Tryz.func102, Tryz.ntmps102
 go_wp2_with fail
 refine C.mono ?_
 rintro e w1 ⟨rfl, hb⟩
 go_wp2_with fail
 go_ret
 exact ⟨rfl, hb⟩
theorem f4P (s : ByteArray) (w : World) (h20 : 20 ≤ s.size) (hs : s.size ≤ 1000000) : Calls Tryz.prog 103 #[.string s] w fun e w' => e = .returned (.bool (bad (bz s) 4)) ∧ Below w.heap.size w w' := by
 have es : cs (cat [s.extract 0 20]) = cs ((bz s).take 20) := by
   have e1 : bz (s.extract 0 20) = (bz s).take 20 := (bz_extract s 0 20 (by omega)).trans (List.drop_zero ..)
   rw [cat_one, e1]
 unfold bad
 rw [← es]
 have HS := Lib.hid es
 clear es
 go_enter Tryz.func103, Tryz.ntmps103
 go_wp2_with fail
 refine (right_any _ _ _ _ _ (strs1 _ _ _) (by omega) ?_).mono ?_
 · intro x hx
   simp only [List.mem_cons, List.not_mem_nil, or_false] at hx
   rw [hx, ByteArray.size_extract]
   omega
 rintro e w1 ⟨rfl, hb⟩
 go_wp2_with fail
 go_ret
 exact ⟨rfl, st_call (st_alloc (Below.refl _ _) _) hb⟩
theorem f5P (s : ByteArray) (w : World) (h20 : 20 ≤ s.size) (hs : s.size ≤ 1000000) : Calls Tryz.prog 105 #[.string s] w fun e w' => e = .returned (.bool (bad (bz s) 5)) ∧ Below w.heap.size w w' := by
 have C := at16s s 6 w (by omega) hs
 unfold bad
 have b2 := at_le s 6
 have b3 := at_le s 7
 have hz : at0 (bz s) 6 * 256 + at0 (bz s) (6 + 1) ≤ 65535 := by show at0 (bz s) 6 * 256 + at0 (bz s) 7 ≤ 65535; omega
 show Calls _ _ _ _ fun e w' => e = .returned (.bool (!decide (at0 (bz s) 6 * 256 + at0 (bz s) (6 + 1) = 0 ∨ at0 (bz s) 6 * 256 + at0 (bz s) (6 + 1) = 16384))) ∧ _
 generalize at0 (bz s) 6 * 256 + at0 (bz s) (6 + 1) = z at C hz
 have hand := u16_andNot_nat z 16384 (by omega) (by omega)
 have e : (!decide (z = 0 ∨ z = 16384)) = !decide (((z &&& (65535 - 16384) : Nat) : Int) = 0) := by
   refine congrArg _ (decide_eq_decide.2 ((and_mask z (by omega)).symm.trans ?_))
   show z &&& 49151 = 0 ↔ ((z &&& 49151 : Nat) : Int) = 0
   omega
 rw [e]
 generalize z &&& (65535 - 16384) = q at hand
 have hand2 : bits .andNot .u16 (z : Int) 16384 = (q : Int) := hand
 clear hand
 go_enter Tryz.func105, Tryz.ntmps105
 go_wp2_with fail
 refine C.mono ?_
 rintro e w1 ⟨rfl, hb⟩
 go_wp2_with fail
 go_ret
 exact ⟨rfl, hb⟩
def FT : Array Value := #[.int .i64 50, .func (.func 99) #[] #[], .int .i64 51, .func (.func 100) #[] #[], .int .i64 52, .func (.func 101) #[] #[], .int .i64 53, .func (.func 102) #[] #[], .int .i64 55, .func (.func 103) #[] #[], .int .i64 54, .func (.func 105) #[] #[]]
theorem faultsP (w : World) : Calls Tryz.prog 68 #[] w fun e w' => e = .returned (.slice (some ⟨w.heap.size, 0, none⟩) 6 6) ∧ w' = w.alloc (.cells FT 120) := by
 go_enter Tryz.func68, Tryz.ntmps68
 go_wp2
 go_ret
 exact ⟨rfl, rfl⟩
theorem cloneP (s : ByteArray) (w : World) (hs : s.size ≤ 1000000) : Calls Tryz.prog 34 #[.string s] w fun e w' => e = .returned (.string s) ∧ Below w.heap.size w w' := by
 go_enter Tryz.func34, Tryz.ntmps34
 go_wp2_with fail
 refine (Any.stringslite_Clone Tryz.layClone s w (by omega)).mono ?_
 rintro e w1 ⟨rfl, hb⟩
 go_wp2_with fail
 go_ret
 exact ⟨rfl, hb⟩
def relH (s : ByteArray) (h : Hd) (z : Nat) : Nat → Value → World → Prop
 | 0 => fun v _ => v = .string s
 | 1 => fun v _ => v = .int .u32 (h.src : Int)
 | 2 => fun v _ => v = .string s
 | 3 => fun v _ => v = .int .u32 (h.dst : Int)
 | 4 => fun v _ => v = .string s
 | 5 => fun v _ => v = .int .u8 (h.proto : Int)
 | 6 => fun v _ => v = .string s
 | 7 => fun v _ => v = .int .u8 (h.ttl : Int)
 | 8 => fun v _ => v = .string s
 | 9 => fun v _ => v = .int .u8 (h.tos : Int)
 | 10 => fun v _ => v = .string s
 | 11 => fun v _ => v = .int .u16 (h.id : Int)
 | 12 => fun v _ => v = .string s
 | 13 => fun v _ => v = .int .u16 (z : Int)
 | 14 => fun v _ => v = .bool h.df
 | 15 => fun v _ => v = hv h
 | _ => fun _ _ => True
theorem relH_more (s : ByteArray) (h : Hd) (z : Nat) (i : Nat) (v : Value) (w w' : World) (hr : relH s h z i v w) (hb : Below w.heap.size w w') : relH s h z i v w' := by
 unfold relH at hr ⊢
 split at hr <;> exact hr
attribute [local go_sem] relUpon
set_option maxHeartbeats 16000000 in
theorem headP (s : ByteArray) (w : World) (h20 : 20 ≤ s.size) (hs : s.size ≤ 1000000) (h7 : at0 (bz s) 7 = 0) : Calls Tryz.prog 69 #[.string s] w fun e w' => e = .returned (hv (rd (bz s))) ∧ Below w.heap.size w w' := by
 have C12 := Lib.hid fun W => at32s s 12 W (by omega) hs
 have C16 := Lib.hid fun W => at32s s 16 W (by omega) hs
 have C4 := Lib.hid fun W => at16s s 4 W (by omega) hs
 have C6 := Lib.hid fun W => at16s s 6 W (by omega) hs
 have z9 := at_byte s 9 (by omega)
 have z8 := at_byte s 8 (by omega)
 have z1 := at_byte s 1 (by omega)
 have q6 := at_le s 6
 simp only [Nat.reduceAdd] at C12 C16 C4 C6
 have hrd : rd (bz s) = ⟨at0 (bz s) 12 * 16777216 + at0 (bz s) 13 * 65536 + at0 (bz s) 14 * 256 + at0 (bz s) 15, at0 (bz s) 16 * 16777216 + at0 (bz s) 17 * 65536 + at0 (bz s) 18 * 256 + at0 (bz s) 19, at0 (bz s) 9, at0 (bz s) 8, at0 (bz s) 1, at0 (bz s) 4 * 256 + at0 (bz s) 5, (((at0 (bz s) 6 * 256 + at0 (bz s) 7 : Nat) : Int) == 16384)⟩ := by
   unfold rd
   congr 1
   rw [h7]
   rw [Bool.eq_iff_iff]
   simp
   omega
 rw [hrd]
 clear hrd h7 q6
 obtain ⟨src, hsrc⟩ : ∃ x, x = at0 (bz s) 12 * 16777216 + at0 (bz s) 13 * 65536 + at0 (bz s) 14 * 256 + at0 (bz s) 15 := ⟨_, rfl⟩
 rw [← hsrc] at C12 ⊢
 clear hsrc
 obtain ⟨dst, hdst⟩ : ∃ x, x = at0 (bz s) 16 * 16777216 + at0 (bz s) 17 * 65536 + at0 (bz s) 18 * 256 + at0 (bz s) 19 := ⟨_, rfl⟩
 rw [← hdst] at C16 ⊢
 clear hdst
 obtain ⟨idn, hidn⟩ : ∃ x, x = at0 (bz s) 4 * 256 + at0 (bz s) 5 := ⟨_, rfl⟩
 rw [← hidn] at C4 ⊢
 clear hidn
 obtain ⟨z, hz⟩ : ∃ x, x = at0 (bz s) 6 * 256 + at0 (bz s) 7 := ⟨_, rfl⟩
 rw [← hz] at C6 ⊢
 clear hz
 generalize at0 (bz s) 9 = proto at z9
 generalize at0 (bz s) 8 = ttl at z8
 generalize at0 (bz s) 1 = tos at z1
 obtain ⟨df, hdf⟩ : ∃ df, ((z : Int) == 16384) = df := ⟨_, rfl⟩
 rw [hdf]
 have hs1 : (1 : Int) < (s.size : Int) := by omega
 have hs8 : (8 : Int) < (s.size : Int) := by omega
 have hs9 : (9 : Int) < (s.size : Int) := by omega
 go_enter Tryz.func69, Tryz.ntmps69
 go_wp2_with fail
 refine wp_region_see_tail 16 19 (relH s ⟨src, dst, proto, ttl, tos, idn, df⟩ z) rfl (by kernel_rfl) (by kernel_rfl) (by kernel_rfl) (by kernel_rfl) (relH_more s _ z) ?_ ?_
 · intro i hi
   have hi2 : i < 16 := by simpa using hi
   clear hi
   match i, hi2 with
   | 0, _ =>
     intro ρ W hb hc hg hf h0 hd
     have t0 := h0 0 (by kernel_rfl)
     clear hd h0
     go_simp
     exact ⟨rfl, Below.refl _ _⟩
   | 1, _ =>
     intro ρ W hb hc hg hf h0 hd
     have d0 : ρ (.tmp 3) = .string s := hd 0 3 (by kernel_rfl) (by kernel_rfl)
     clear hd h0
     go_simp
     exact (C12.out W).mono fun e w' ⟨he, hb⟩ => ⟨_, he, rfl, hb⟩
   | 2, _ =>
     intro ρ W hb hc hg hf h0 hd
     have t0 := h0 0 (by kernel_rfl)
     clear hd h0
     go_simp
     exact ⟨rfl, Below.refl _ _⟩
   | 3, _ =>
     intro ρ W hb hc hg hf h0 hd
     have d2 : ρ (.tmp 5) = .string s := hd 2 5 (by kernel_rfl) (by kernel_rfl)
     clear hd h0
     go_simp
     exact (C16.out W).mono fun e w' ⟨he, hb⟩ => ⟨_, he, rfl, hb⟩
   | 4, _ =>
     intro ρ W hb hc hg hf h0 hd
     have t0 := h0 0 (by kernel_rfl)
     clear hd h0
     go_simp
     exact ⟨rfl, Below.refl _ _⟩
   | 5, _ =>
     intro ρ W hb hc hg hf h0 hd
     have d4 : ρ (.tmp 7) = .string s := hd 4 7 (by kernel_rfl) (by kernel_rfl)
     clear hd h0
     go_simp
     exact ⟨rfl, Below.refl _ _⟩
   | 6, _ =>
     intro ρ W hb hc hg hf h0 hd
     have t0 := h0 0 (by kernel_rfl)
     clear hd h0
     go_simp
     exact ⟨rfl, Below.refl _ _⟩
   | 7, _ =>
     intro ρ W hb hc hg hf h0 hd
     have d6 : ρ (.tmp 9) = .string s := hd 6 9 (by kernel_rfl) (by kernel_rfl)
     clear hd h0
     go_simp
     exact ⟨rfl, Below.refl _ _⟩
   | 8, _ =>
     intro ρ W hb hc hg hf h0 hd
     have t0 := h0 0 (by kernel_rfl)
     clear hd h0
     go_simp
     exact ⟨rfl, Below.refl _ _⟩
   | 9, _ =>
     intro ρ W hb hc hg hf h0 hd
     have d8 : ρ (.tmp 11) = .string s := hd 8 11 (by kernel_rfl) (by kernel_rfl)
     clear hd h0
     go_simp
     exact ⟨rfl, Below.refl _ _⟩
   | 10, _ =>
     intro ρ W hb hc hg hf h0 hd
     have t0 := h0 0 (by kernel_rfl)
     clear hd h0
     go_simp
     exact ⟨rfl, Below.refl _ _⟩
   | 11, _ =>
     intro ρ W hb hc hg hf h0 hd
     have d10 : ρ (.tmp 13) = .string s := hd 10 13 (by kernel_rfl) (by kernel_rfl)
     clear hd h0
     go_simp
     exact (C4.out W).mono fun e w' ⟨he, hb⟩ => ⟨_, he, rfl, hb⟩
   | 12, _ =>
     intro ρ W hb hc hg hf h0 hd
     have t0 := h0 0 (by kernel_rfl)
     clear hd h0
     go_simp
     exact ⟨rfl, Below.refl _ _⟩
   | 13, _ =>
     intro ρ W hb hc hg hf h0 hd
     have d12 : ρ (.tmp 15) = .string s := hd 12 15 (by kernel_rfl) (by kernel_rfl)
     clear hd h0
     go_simp
     exact (C6.out W).mono fun e w' ⟨he, hb⟩ => ⟨_, he, rfl, hb⟩
   | 14, _ =>
     intro ρ W hb hc hg hf h0 hd
     have d13 : ρ (.tmp 16) = .int .u16 (z : Int) := hd 13 16 (by kernel_rfl) (by kernel_rfl)
     clear hd h0
     go_simp
     exact ⟨rfl, Below.refl _ _⟩
   | 15, _ =>
     intro ρ W hb hc hg hf h0 hd
     have d1 : ρ (.tmp 4) = .int .u32 (src : Int) := hd 1 4 (by kernel_rfl) (by kernel_rfl)
     have d3 : ρ (.tmp 6) = .int .u32 (dst : Int) := hd 3 6 (by kernel_rfl) (by kernel_rfl)
     have d5 : ρ (.tmp 8) = .int .u8 (proto : Int) := hd 5 8 (by kernel_rfl) (by kernel_rfl)
     have d7 : ρ (.tmp 10) = .int .u8 (ttl : Int) := hd 7 10 (by kernel_rfl) (by kernel_rfl)
     have d9 : ρ (.tmp 12) = .int .u8 (tos : Int) := hd 9 12 (by kernel_rfl) (by kernel_rfl)
     have d11 : ρ (.tmp 14) = .int .u16 (idn : Int) := hd 11 14 (by kernel_rfl) (by kernel_rfl)
     have d14 : ρ (.tmp 17) = .bool df := hd 14 17 (by kernel_rfl) (by kernel_rfl)
     clear hd h0
     go_simp
     exact ⟨rfl, Below.refl _ _⟩
   | i + 16, hlt => exact absurd hlt (by omega)
 · intro vs W hb hall
   have h15 : vs 15 = hv ⟨src, dst, proto, ttl, tos, idn, df⟩ := hall 15 (by omega)
   clear hall
   rw [lexA_slots vs 16 [(some 3, 0), (some 4, 1), (some 5, 2), (some 6, 3), (some 7, 4), (some 8, 5), (some 9, 6), (some 10, 7), (some 11, 8), (some 12, 9), (some 13, 10), (some 14, 11), (some 15, 12), (some 16, 13), (some 17, 14), (some 18, 15)] (by kernel_rfl)]
   simp only [List.foldl_cons, List.foldl_nil, h15]
   show wpList _ _ _ [_] _ _
   have hold : W.heap[w.heap.size]? = some (.cells #[.int .u32 0, .int .u32 0, .int .u8 0, .int .u8 0, .int .u8 0, .int .u16 0, .bool false] 59 (0, 0)) := (hb.block w.heap.size (by simp)).trans (alloc_own w _)
   obtain ⟨fz, cz⟩ := box7 W w.heap.size hold
   have HBX := Lib.hid (st_call (st_alloc (Below.refl _ _) _) hb)
   clear hold hb
   have f0 := fz 0
   have c0 := cz 0 _ rfl
   have f1 := fz 1
   have c1 := cz 1 _ rfl
   have f2 := fz 2
   have c2 := cz 2 _ rfl
   have f3 := fz 3
   have c3 := cz 3 _ rfl
   have f4 := fz 4
   have c4 := cz 4 _ rfl
   have f5 := fz 5
   have c5 := cz 5 _ rfl
   have f6 := fz 6
   have c6 := cz 6 _ rfl
   have CZ := Lib.hid cz
   clear cz fz
   go_wp2_with fail
   obtain ⟨W1, hW1, dz, hb1⟩ := set7 W w.heap.size (.int .u32 (src : Int)) (.int .u32 (dst : Int)) (.int .u8 (proto : Int)) (.int .u8 (ttl : Int)) (.int .u8 (tos : Int)) (.int .u16 (idn : Int)) (.bool df) (fun j hj => ⟨_, CZ.out j _ (Array.getElem?_eq_getElem (by simpa using hj))⟩)
   rw [hW1]
   have d0 := dz 0 _ rfl
   have d1 := dz 1 _ rfl
   have d2 := dz 2 _ rfl
   have d3 := dz 3 _ rfl
   have d4 := dz 4 _ rfl
   have d5 := dz 5 _ rfl
   have d6 := dz 6 _ rfl
   refine bodyPost_ret (v := hv ⟨src, dst, proto, ttl, tos, idn, df⟩) ?_ rfl ?_
   · simp [results, Tryz.f69, go_sem, d0, d1, d2, d3, d4, d5, d6]
   · exact ⟨rfl, HBX.out.trans hb1⟩
end Go.Proofs.YtpmnmnflaijaaaaGreat.IpD
