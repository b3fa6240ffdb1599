/-
  Laws for a proof of package pkt: 1 texts in one.
-/
import Derived.Test.YtpmnmnflaijaaaaGreatQOptTurn10
import Derived.Test.YtpmnmnflaijaaaaGreatQPkt163
import Derived.Test.YtpmnmnflaijaaaaGreatQRelL3
import Derived.Deep.LoopGhost
namespace Go.Proofs.YtpmnmnflaijaaaaGreat.PktTdR
open Go.Proofs.YtpmnmnflaijaaaaGreat.Own
open Go.RowKit TupMath SumMath Litb Calm Rel RelT RelK IpMath OptMath OptRef OptPlc OptSame Boxes OptTake5 OptTk PktMath PktVal PktSmall PktCom PktOp PktWin Pkt16
open Cells (CellsAt Apart put_lit)
set_option linter.unusedVariables false
set_option linter.unusedSimpArgs false
set_option maxRecDepth 100000
attribute [local go_sem] Oper.semAt_some
def relTd (A0 : Option Addr) (L : List (Nat × Nat)) (c0 g off n c j f t fx tx xa b0 : Nat) : Nat → Value → World → Prop
 | 0 => fun v _ => v = .slice A0 L.length c0
 | 1 => fun v _ => v = .pointer (some ⟨b0, 8, none⟩)
 | 2 => fun v _ => v = .pointer (some ⟨b0, 11, none⟩)
 | 3 => fun v _ => v = .slice (some ⟨g, off, none⟩) n c
 | 4 => fun v _ => v = .int .i64 (j : Int)
 | 5 => fun v _ => v = .pointer (some ⟨g, off + j * 2, none⟩)
 | 6 => fun v _ => v = .pointer (some ⟨g, off + j * 2, none⟩)
 | 7 => fun v _ => v = .int .u32 (f : Int)
 | 8 => fun v _ => v = .pointer (some ⟨b0 + 1, 5, none⟩)
 | 9 => fun v _ => v = .int .u32 (xa : Int)
 | 10 => fun v _ => v = .int .u32 (fx : Int)
 | 11 => fun v _ => v = .pointer (some ⟨b0, 8, none⟩)
 | 12 => fun v _ => v = .pointer (some ⟨b0, 11, none⟩)
 | 13 => fun v _ => v = .slice (some ⟨g, off, none⟩) n c
 | 14 => fun v _ => v = .int .i64 (j : Int)
 | 15 => fun v _ => v = .pointer (some ⟨g, off + j * 2, none⟩)
 | 16 => fun v _ => v = .pointer (some ⟨g, off + j * 2 + 1, none⟩)
 | 17 => fun v _ => v = .int .u32 (t : Int)
 | 18 => fun v _ => v = .pointer (some ⟨b0 + 1, 5, none⟩)
 | 19 => fun v _ => v = .int .u32 (xa : Int)
 | 20 => fun v _ => v = .int .u32 (tx : Int)
 | 21 => fun v _ => v = .agg #[.int .u32 (fx : Int), .int .u32 (tx : Int)]
 | 22 => fun v W => ∃ B, v = .slice (some ⟨B, 0, none⟩) 1 1 ∧ W.heap[B]? = some (.cells #[.int .u32 (fx : Int), .int .u32 (tx : Int)] 74 (0, 0))
 | _ => fun _ _ => True
theorem relTd_more (A0 : Option Addr) (L : List (Nat × Nat)) (c0 g off n c j f t fx tx xa b0 : Nat) (i : Nat) (v : Value) (w w' : World) (hr : relTd A0 L c0 g off n c j f t fx tx xa b0 i v w) (hb : Below w.heap.size w w') : relTd A0 L c0 g off n c j f t fx tx xa b0 i v w' := by
 unfold relTd at hr ⊢
 split at hr <;> first
   | exact hr
   | (obtain ⟨B, e, h⟩ := hr
      exact ⟨B, e, box_more h hb⟩)
attribute [local go_sem] relUpon
theorem put3 {W : World} {b : Nat} {a0 a1 a2 a3 a4 a5 a6 a7 a8 a9 a10 a11 a12 a13 a14 a15 : Value} (h : CellsAt W b #[a0, a1, a2, a3, a4, a5, a6, a7, a8, a9, a10, a11, a12, a13, a14, a15]) (x11 x13 x14 : Value) :
   ∃ W', (((W.setCell ⟨b, 11, none⟩ x11).setCell ⟨b, 13, none⟩ x13).setCell ⟨b, 14, none⟩ x14) = W' ∧ CellsAt W' b #[a0, a1, a2, a3, a4, a5, a6, a7, a8, a9, a10, x11, a12, x13, x14, a15] ∧ Apart b W W' ∧ Below b W W' :=
 ⟨_, rfl, by simpa using (((h.put 11 x11 (by simp)).put 13 x13 (by simp)).put 14 x14 (by simp)), ((((Apart.refl b W).put 11 x11).put 13 x13).put 14 x14), ((((Below.refl b W).setCell (p := ⟨b, 11, none⟩) (Nat.le_refl _) x11).setCell (p := ⟨b, 13, none⟩) (Nat.le_refl _) x13).setCell (p := ⟨b, 14, none⟩) (Nat.le_refl _) x14)⟩
theorem put1 {W : World} {b : Nat} {a0 a1 a2 a3 a4 a5 a6 a7 a8 a9 a10 a11 a12 a13 a14 a15 : Value} (h : CellsAt W b #[a0, a1, a2, a3, a4, a5, a6, a7, a8, a9, a10, a11, a12, a13, a14, a15]) (x11 : Value) :
   ∃ W', (W.setCell ⟨b, 11, none⟩ x11) = W' ∧ CellsAt W' b #[a0, a1, a2, a3, a4, a5, a6, a7, a8, a9, a10, x11, a12, a13, a14, a15] ∧ Apart b W W' ∧ Below b W W' :=
 ⟨_, rfl, by simpa using (h.put 11 x11 (by simp)), ((Apart.refl b W).put 11 x11), ((Below.refl b W).setCell (p := ⟨b, 11, none⟩) (Nat.le_refl _) x11)⟩
set_option maxHeartbeats 16000000 in
theorem tdR_yf (s : Sg) (A : Option Addr) (c : Nat) (x : Sh) (w : World) (hbk : BlkR w A s.opts.blocks) (k : s.ok) (hl : s.opts.blocks.length ≤ 1000) (xk : x.ok)
   (u1 : -9223372036854775808 ≤ x.up) (u2 : x.up ≤ 9223372036854775807) (d1 : -9223372036854775808 ≤ x.down) (d2 : x.down ≤ 9223372036854775807) (hf : s.flags / 16 % 2 = 1) (ht : s.opts.time = false) :
   Calls Tryz.prog 10 #[sv s A c, xv x] w fun r w' => (∃ A' c', r = .returned (sv (turned s x) A' c') ∧ BlkR w' A' (turned s x).opts.blocks) ∧ Below w.heap.size w w' := by
 obtain ⟨sip, sport, dip, dport, seq, ack, flags, win, ⟨mss, scale, sack, blocks, time, val, echo⟩, data⟩ := s
 have kf := k.flags
 have kw := k.win
 have ks := k.seq
 have ka := k.ack
 have kb := k.opts.blocks
 have kv := k.opts.val
 have ke := k.opts.echo
 have xs := xk.seq
 have xa := xk.ack
 have xvl := xk.val
 have xe := xk.echo
 simp only at kf kw ks ka kb kv ke hl hbk hf ht
 subst ht
 have HWN := Lib.hid (fun W => windowR win x.up x.down W kw u1 u2 d1 d2)
 obtain ⟨q, hq⟩ : ∃ q, (seq + x.seq) % 4294967296 = q := ⟨_, rfl⟩
 obtain ⟨nw, hn⟩ : ∃ n, winT win x.up x.down = n := ⟨_, rfl⟩
 obtain ⟨o2, ho2⟩ : ∃ o2, turnedO x.ack x.val x.echo ⟨mss, scale, sack, blocks, false, val, echo⟩ = o2 := ⟨_, rfl⟩
 rw [hn] at HWN
 have wq : IntKind.u32.wrap ((seq : Int) + (x.seq : Int)) = (q : Int) := by rw [IntKind.wrap_u32]; omega
 have wq2 : ((seq : Int) + (x.seq : Int)) % 4294967296 = (q : Int) := by omega
 have a16 : bits .and .u8 (flags : Int) 16 = ((flags / 16 % 2 * 16 : Nat) : Int) := and16 ⟨flags, by omega⟩
 have f1 : (((flags / 16 % 2 * 16 : Nat) : Int) != 0) = true := bne_iff_ne.2 (by omega)
 have f2 : ((flags : Int) / 16 % 2 * 16 != 0) = true := bne_iff_ne.2 (by omega)
 obtain ⟨a2, ha2⟩ : ∃ a2, (ack + x.ack) % 4294967296 = a2 := ⟨_, rfl⟩
 have wa : IntKind.u32.wrap ((ack : Int) + (x.ack : Int)) = (a2 : Int) := by rw [IntKind.wrap_u32]; omega
 have wa2 : ((ack : Int) + (x.ack : Int)) % 4294967296 = (a2 : Int) := by omega
 have HV : Hid (turned ⟨sip, sport, dip, dport, seq, ack, flags, win, ⟨mss, scale, sack, blocks, false, val, echo⟩, data⟩ x = ⟨x.sip, x.sport, x.dip, x.dport, q, a2, flags, nw, o2, data⟩) := Lib.hid (by
   unfold turned ackT
   simp only
   rw [hq, hn, ho2, if_pos hf] <;> rw [ha2])
 have HO2 := Lib.hid ho2
 have HKB := Lib.hid kb
 have HBK := Lib.hid hbk
 clear hq hn ho2 hf kb hbk k ha2
 have C0 := ((CellsAt.new w (sc ⟨sip, sport, dip, dport, seq, ack, flags, win, ⟨mss, scale, sack, blocks, false, val, echo⟩, data⟩ A c) 30).later ((Below.refl _ (w.alloc (.cells (sc ⟨sip, sport, dip, dport, seq, ack, flags, win, ⟨mss, scale, sack, blocks, false, val, echo⟩, data⟩ A c) 30))).alloc (Nat.le_refl _) (.cells (xc x) 32))).later ((Below.refl _ ((w.alloc (.cells (sc ⟨sip, sport, dip, dport, seq, ack, flags, win, ⟨mss, scale, sack, blocks, false, val, echo⟩, data⟩ A c) 30)).alloc (.cells (xc x) 32))).alloc (Nat.le_refl _) (.cells #[.int .u32 0, .int .u16 0, .int .u32 0, .int .u16 0, .int .u32 0, .int .u32 0, .int .u8 0, .int .u16 0, .int .u16 0, .int .i64 0, .bool false, .slice none 0 0, .bool false, .int .u32 0, .int .u32 0, .string ⟨#[]⟩] 30))
 have X0 := (CellsAt.new (w.alloc (.cells (sc ⟨sip, sport, dip, dport, seq, ack, flags, win, ⟨mss, scale, sack, blocks, false, val, echo⟩, data⟩ A c) 30)) (xc x) 32).later ((Below.refl _ ((w.alloc (.cells (sc ⟨sip, sport, dip, dport, seq, ack, flags, win, ⟨mss, scale, sack, blocks, false, val, echo⟩, data⟩ A c) 30)).alloc (.cells (xc x) 32))).alloc (Nat.le_refl _) (.cells #[.int .u32 0, .int .u16 0, .int .u32 0, .int .u16 0, .int .u32 0, .int .u32 0, .int .u8 0, .int .u16 0, .int .u16 0, .int .i64 0, .bool false, .slice none 0 0, .bool false, .int .u32 0, .int .u32 0, .string ⟨#[]⟩] 30))
 have D0 := CellsAt.new ((w.alloc (.cells (sc ⟨sip, sport, dip, dport, seq, ack, flags, win, ⟨mss, scale, sack, blocks, false, val, echo⟩, data⟩ A c) 30)).alloc (.cells (xc x) 32)) #[.int .u32 0, .int .u16 0, .int .u32 0, .int .u16 0, .int .u32 0, .int .u32 0, .int .u8 0, .int .u16 0, .int .u16 0, .int .i64 0, .bool false, .slice none 0 0, .bool false, .int .u32 0, .int .u32 0, .string ⟨#[]⟩] 30
 simp only [World.size_alloc] at X0 D0
 have B0 := st_alloc (st_alloc (st_alloc (Below.refl _ w) (.cells (sc ⟨sip, sport, dip, dport, seq, ack, flags, win, ⟨mss, scale, sack, blocks, false, val, echo⟩, data⟩ A c) 30)) (.cells (xc x) 32)) (.cells #[.int .u32 0, .int .u16 0, .int .u32 0, .int .u16 0, .int .u32 0, .int .u32 0, .int .u8 0, .int .u16 0, .int .u16 0, .int .i64 0, .bool false, .slice none 0 0, .bool false, .int .u32 0, .int .u32 0, .string ⟨#[]⟩] 30)
 have hsz : (((w.alloc (.cells (sc ⟨sip, sport, dip, dport, seq, ack, flags, win, ⟨mss, scale, sack, blocks, false, val, echo⟩, data⟩ A c) 30)).alloc (.cells (xc x) 32)).alloc (.cells #[.int .u32 0, .int .u16 0, .int .u32 0, .int .u16 0, .int .u32 0, .int .u32 0, .int .u8 0, .int .u16 0, .int .u16 0, .int .i64 0, .bool false, .slice none 0 0, .bool false, .int .u32 0, .int .u32 0, .string ⟨#[]⟩] 30)).heap.size = w.heap.size + 3 := by simp
 go_enter Tryz.func10, Tryz.ntmps10
 go_upto_region 1 with fail
 obtain ⟨W3, hW3⟩ : ∃ W3, (((w.alloc (.cells (sc ⟨sip, sport, dip, dport, seq, ack, flags, win, ⟨mss, scale, sack, blocks, false, val, echo⟩, data⟩ A c) 30)).alloc (.cells (xc x) 32)).alloc (.cells #[.int .u32 0, .int .u16 0, .int .u32 0, .int .u16 0, .int .u32 0, .int .u32 0, .int .u8 0, .int .u16 0, .int .u16 0, .int .i64 0, .bool false, .slice none 0 0, .bool false, .int .u32 0, .int .u32 0, .string ⟨#[]⟩] 30)) = W3 := ⟨_, rfl⟩
 rw [hW3] at C0 X0 D0 B0 hsz ⊢
 have HC0 := Lib.hid C0
 have HX0 := Lib.hid X0
 have HD0 := Lib.hid D0
 have HB0 := Lib.hid B0
 have HZ := Lib.hid hsz
 clear hW3 C0 X0 D0 B0 hsz
 have c0 := HC0.out.cell 0 _ rfl
 have cf0 := HC0.out.free 0 (by simp)
 have c1 := HC0.out.cell 1 _ rfl
 have cf1 := HC0.out.free 1 (by simp)
 have c2 := HC0.out.cell 2 _ rfl
 have cf2 := HC0.out.free 2 (by simp)
 have c3 := HC0.out.cell 3 _ rfl
 have cf3 := HC0.out.free 3 (by simp)
 have c4 := HC0.out.cell 4 _ rfl
 have cf4 := HC0.out.free 4 (by simp)
 have c5 := HC0.out.cell 5 _ rfl
 have cf5 := HC0.out.free 5 (by simp)
 have c6 := HC0.out.cell 6 _ rfl
 have cf6 := HC0.out.free 6 (by simp)
 have c7 := HC0.out.cell 7 _ rfl
 have cf7 := HC0.out.free 7 (by simp)
 have c8 := HC0.out.cell 8 _ rfl
 have cf8 := HC0.out.free 8 (by simp)
 have c9 := HC0.out.cell 9 _ rfl
 have cf9 := HC0.out.free 9 (by simp)
 have c10 := HC0.out.cell 10 _ rfl
 have cf10 := HC0.out.free 10 (by simp)
 have c11 := HC0.out.cell 11 _ rfl
 have cf11 := HC0.out.free 11 (by simp)
 have y0 := HX0.out.cell 0 _ rfl
 have y1 := HX0.out.cell 1 _ rfl
 have y2 := HX0.out.cell 2 _ rfl
 have y3 := HX0.out.cell 3 _ rfl
 have y4 := HX0.out.cell 4 _ rfl
 have y5 := HX0.out.cell 5 _ rfl
 have y6 := HX0.out.cell 6 _ rfl
 have y7 := HX0.out.cell 7 _ rfl
 go_wp2_with fail
 obtain ⟨W4, hW4, hC4, hA4, hb4⟩ := putAddrs HC0.out (.int .u32 (x.sip : Int)) (.int .u16 (x.sport : Int)) (.int .u32 (x.dip : Int)) (.int .u16 (x.dport : Int))
 rw [hW4]
 obtain ⟨W5, hW5, hC5, hA5, hb5⟩ := putSeq hC4 (.int .u32 (q : Int))
 rw [hW5]
 obtain ⟨W6, hW6, hC6, hA6, hb6⟩ := putAck hC5 (.int .u32 (a2 : Int))
 rw [hW6]
 have C0 := Lib.hid hC6
 have X0 := Lib.hid (((HX0.out.apart (by omega) hA4).apart (by omega) hA5).apart (by omega) hA6)
 have D0 := Lib.hid (((HD0.out.apart (by omega) hA4).apart (by omega) hA5).apart (by omega) hA6)
 have B0 := Lib.hid (HB0.out.trans ((hb4.trans hb5).trans hb6))
 clear hW4 hC4 hA4 hb4 hW5 hC5 hA5 hb5 hW6 hC6 hA6 hb6 HC0 HX0 HD0 HB0 HZ c0 cf0 c1 cf1 c2 cf2 c3 cf3 c4 cf4 c5 cf5 c6 cf6 c7 cf7 c8 cf8 c9 cf9 c10 cf10 c11 cf11 y0 y1 y2 y3 y4 y5 y6 y7
 go_loopw [5, 6] (fun lv i wr => ∃ (j : Nat) (A0 : Option Addr) (c0 : Nat) (L : List (Nat × Nat)), i = .int .i64 (j : Int) ∧ j ≤ blocks.length ∧ lv = .slice A0 L.length c0 ∧ L = shiftB x.ack (blocks.take j) ∧ CellsAt wr w.heap.size #[.int .u32 (x.sip : Int), .int .u16 (x.sport : Int), .int .u32 (x.dip : Int), .int .u16 (x.dport : Int), .int .u32 (q : Int), .int .u32 (a2 : Int), .int .u8 (flags : Int), .int .u16 (win : Int), .int .u16 (mss : Int), .int .i64 scale, .bool sack, .slice A blocks.length c, .bool false, .int .u32 (val : Int), .int .u32 (echo : Int), .string data] ∧ CellsAt wr (w.heap.size + 1) (xc x) ∧ CellsAt wr (w.heap.size + 1 + 1) #[.int .u32 0, .int .u16 0, .int .u32 0, .int .u16 0, .int .u32 0, .int .u32 0, .int .u8 0, .int .u16 0, .int .u16 0, .int .i64 0, .bool false, .slice none 0 0, .bool false, .int .u32 0, .int .u32 0, .string ⟨#[]⟩] ∧ OwnB wr (w.heap.size + 3) (.slice A0 L.length c0) L ∧ Below w.heap.size w wr) (fun _ i _ => blocks.length - (intOf i).toNat)
 case atStart => exact ⟨0, none, 0, [], rfl, by omega, rfl, rfl, C0.out, X0.out, D0.out, ownB_nil _ _, B0.out⟩
 case round =>
   clear C0 X0 D0 B0
   obtain ⟨j, A0, c0, L, rfl, hj, rfl, hL, hC, hX, hD, hO, hB⟩ := hrel
   have HL := Lib.hid hL
   have hLl : L.length = min j blocks.length := by rw [hL]; unfold shiftB; rw [List.length_map, List.length_take]
   have HC := Lib.hid hC
   have HX := Lib.hid hX
   have HD := Lib.hid hD
   have HO := Lib.hid hO
   have HB := Lib.hid hB
   have hd1 := hD.lt
   clear hL hC hD hO hB hX
   by_cases hlt : j < blocks.length
   · have HLT := Lib.hid hlt
     have hli : (j : Int) < (blocks.length : Int) := by omega
     obtain ⟨g, off, rfl, hg, hgc⟩ := HBK.out (show 0 < blocks.length by omega)
     obtain ⟨⟨f, t⟩, hft⟩ : ∃ p, blocks[j]? = some p := ⟨_, List.getElem?_eq_getElem hlt⟩
     obtain ⟨d0, d1⟩ := hgc j (f, t) hft
     simp only at d0 d1
     have HE0 := Lib.hid (fun W (hb2 : Below wr.heap.size wr W) => (hb2.cell (p := ⟨g, off + j * 2, none⟩) (show g < _ from Nat.lt_of_lt_of_le hg HB.out.size)).trans ((HB.out.cell (p := ⟨g, off + j * 2, none⟩) hg).trans d0))
     have HE1 := Lib.hid (fun W (hb2 : Below wr.heap.size wr W) => (hb2.cell (p := ⟨g, off + j * 2 + 1, none⟩) (show g < _ from Nat.lt_of_lt_of_le hg HB.out.size)).trans ((HB.out.cell (p := ⟨g, off + j * 2 + 1, none⟩) hg).trans d1))
     obtain ⟨hf, ht⟩ := HKB.out (f, t) (List.mem_of_getElem? hft)
     simp only at hf ht
     obtain ⟨fx, hfx⟩ : ∃ y, (f + x.ack) % 4294967296 = y := ⟨_, rfl⟩
     obtain ⟨tx, htx⟩ : ∃ y, (t + x.ack) % 4294967296 = y := ⟨_, rfl⟩
     have hsn : shiftB x.ack (blocks.take (j + 1)) = shiftB x.ack (blocks.take j) ++ [(fx, tx)] := by
       unfold shiftB
       rw [take_snocG hft, List.map_append]
       simp only [List.map_cons, List.map_nil, hfx, htx]
     have HSN := Lib.hid hsn
     have wf : IntKind.u32.wrap ((f : Int) + (x.ack : Int)) = (fx : Int) := by rw [IntKind.wrap_u32]; omega
     have wt : IntKind.u32.wrap ((t : Int) + (x.ack : Int)) = (tx : Int) := by rw [IntKind.wrap_u32]; omega
     have hL4 : L.length ≤ 1000 := by omega
     clear d0 d1 hgc hft hsn hfx htx hLl
     have c11 := HC.out.cell 11 _ rfl
     go_wp2_with fail
     clear c11
     refine wp_region_seeK 23 92 (relTd A0 L c0 g off blocks.length c j f t fx tx x.ack w.heap.size) rfl (by kernel_rfl) (by kernel_rfl) (by kernel_rfl) (by kernel_rfl) (relTd_more A0 L c0 g off blocks.length c j f t fx tx x.ack w.heap.size) ?_ ?_
     · intro i hi
       have hi2 : i < 23 := by simpa using hi
       clear hi
       match i, hi2 with
       | 0, _ =>
         intro ρ W hb hc hg hf h0 hd
         have t5 := h0 5 (by kernel_rfl)
         clear hd h0
         go_simp
         exact ⟨rfl, Below.refl _ _⟩
       | 1, _ =>
         intro ρ W hb hc hg hf h0 hd
         have t2 := h0 2 (by kernel_rfl)
         clear hd h0
         go_simp
         exact ⟨rfl, Below.refl _ _⟩
       | 2, _ =>
         intro ρ W hb hc hg hf h0 hd
         have d1 : ρ (.tmp 38) = .pointer (some ⟨w.heap.size, 8, none⟩) := hd 1 38 (by kernel_rfl) (by kernel_rfl)
         clear hd h0
         go_simp
         exact ⟨rfl, Below.refl _ _⟩
       | 3, _ =>
         intro ρ W hb hc hg hf h0 hd
         have d2 : ρ (.tmp 39) = .pointer (some ⟨w.heap.size, 11, none⟩) := hd 2 39 (by kernel_rfl) (by kernel_rfl)
         have c11 := (HC.out.later hb).cell 11 _ rfl
         clear hd h0
         go_simp
         exact ⟨rfl, Below.refl _ _⟩
       | 4, _ =>
         intro ρ W hb hc hg hf h0 hd
         have t6 := h0 6 (by kernel_rfl)
         clear hd h0
         go_simp
         exact ⟨rfl, Below.refl _ _⟩
       | 5, _ =>
         intro ρ W hb hc hg hf h0 hd
         have d3 : ρ (.tmp 40) = .slice (some ⟨g, off, none⟩) blocks.length c := hd 3 40 (by kernel_rfl) (by kernel_rfl)
         have d4 : ρ (.tmp 41) = .int .i64 (j : Int) := hd 4 41 (by kernel_rfl) (by kernel_rfl)
         clear hd h0
         go_simp
         exact ⟨rfl, Below.refl _ _⟩
       | 6, _ =>
         intro ρ W hb hc hg hf h0 hd
         have d5 : ρ (.tmp 42) = .pointer (some ⟨g, off + j * 2, none⟩) := hd 5 42 (by kernel_rfl) (by kernel_rfl)
         clear hd h0
         go_simp
         exact ⟨rfl, Below.refl _ _⟩
       | 7, _ =>
         intro ρ W hb hc hg hf h0 hd
         have d6 : ρ (.tmp 43) = .pointer (some ⟨g, off + j * 2, none⟩) := hd 6 43 (by kernel_rfl) (by kernel_rfl)
         have e0 := HE0.out W hb
         clear hd h0
         go_simp
         exact ⟨rfl, Below.refl _ _⟩
       | 8, _ =>
         intro ρ W hb hc hg hf h0 hd
         have t3 := h0 3 (by kernel_rfl)
         clear hd h0
         go_simp
         exact ⟨rfl, Below.refl _ _⟩
       | 9, _ =>
         intro ρ W hb hc hg hf h0 hd
         have d8 : ρ (.tmp 45) = .pointer (some ⟨w.heap.size + 1, 5, none⟩) := hd 8 45 (by kernel_rfl) (by kernel_rfl)
         have y5 := (HX.out.later hb).cell 5 _ rfl
         clear hd h0
         go_simp
         exact ⟨rfl, Below.refl _ _⟩
       | 10, _ =>
         intro ρ W hb hc hg hf h0 hd
         have d7 : ρ (.tmp 44) = .int .u32 (f : Int) := hd 7 44 (by kernel_rfl) (by kernel_rfl)
         have d9 : ρ (.tmp 46) = .int .u32 (x.ack : Int) := hd 9 46 (by kernel_rfl) (by kernel_rfl)
         clear hd h0
         go_simp
         exact ⟨rfl, Below.refl _ _⟩
       | 11, _ =>
         intro ρ W hb hc hg hf h0 hd
         have t2 := h0 2 (by kernel_rfl)
         clear hd h0
         go_simp
         exact ⟨rfl, Below.refl _ _⟩
       | 12, _ =>
         intro ρ W hb hc hg hf h0 hd
         have d11 : ρ (.tmp 48) = .pointer (some ⟨w.heap.size, 8, none⟩) := hd 11 48 (by kernel_rfl) (by kernel_rfl)
         clear hd h0
         go_simp
         exact ⟨rfl, Below.refl _ _⟩
       | 13, _ =>
         intro ρ W hb hc hg hf h0 hd
         have d12 : ρ (.tmp 49) = .pointer (some ⟨w.heap.size, 11, none⟩) := hd 12 49 (by kernel_rfl) (by kernel_rfl)
         have c11 := (HC.out.later hb).cell 11 _ rfl
         clear hd h0
         go_simp
         exact ⟨rfl, Below.refl _ _⟩
       | 14, _ =>
         intro ρ W hb hc hg hf h0 hd
         have t6 := h0 6 (by kernel_rfl)
         clear hd h0
         go_simp
         exact ⟨rfl, Below.refl _ _⟩
       | 15, _ =>
         intro ρ W hb hc hg hf h0 hd
         have d13 : ρ (.tmp 50) = .slice (some ⟨g, off, none⟩) blocks.length c := hd 13 50 (by kernel_rfl) (by kernel_rfl)
         have d14 : ρ (.tmp 51) = .int .i64 (j : Int) := hd 14 51 (by kernel_rfl) (by kernel_rfl)
         clear hd h0
         go_simp
         exact ⟨rfl, Below.refl _ _⟩
       | 16, _ =>
         intro ρ W hb hc hg hf h0 hd
         have d15 : ρ (.tmp 52) = .pointer (some ⟨g, off + j * 2, none⟩) := hd 15 52 (by kernel_rfl) (by kernel_rfl)
         clear hd h0
         go_simp
         exact ⟨rfl, Below.refl _ _⟩
       | 17, _ =>
         intro ρ W hb hc hg hf h0 hd
         have d16 : ρ (.tmp 53) = .pointer (some ⟨g, off + j * 2 + 1, none⟩) := hd 16 53 (by kernel_rfl) (by kernel_rfl)
         have e1 := HE1.out W hb
         clear hd h0
         go_simp
         exact ⟨rfl, Below.refl _ _⟩
       | 18, _ =>
         intro ρ W hb hc hg hf h0 hd
         have t3 := h0 3 (by kernel_rfl)
         clear hd h0
         go_simp
         exact ⟨rfl, Below.refl _ _⟩
       | 19, _ =>
         intro ρ W hb hc hg hf h0 hd
         have d18 : ρ (.tmp 55) = .pointer (some ⟨w.heap.size + 1, 5, none⟩) := hd 18 55 (by kernel_rfl) (by kernel_rfl)
         have y5 := (HX.out.later hb).cell 5 _ rfl
         clear hd h0
         go_simp
         exact ⟨rfl, Below.refl _ _⟩
       | 20, _ =>
         intro ρ W hb hc hg hf h0 hd
         have d17 : ρ (.tmp 54) = .int .u32 (t : Int) := hd 17 54 (by kernel_rfl) (by kernel_rfl)
         have d19 : ρ (.tmp 56) = .int .u32 (x.ack : Int) := hd 19 56 (by kernel_rfl) (by kernel_rfl)
         clear hd h0
         go_simp
         exact ⟨rfl, Below.refl _ _⟩
       | 21, _ =>
         intro ρ W hb hc hg hf h0 hd
         have d10 : ρ (.tmp 47) = .int .u32 (fx : Int) := hd 10 47 (by kernel_rfl) (by kernel_rfl)
         have d20 : ρ (.tmp 57) = .int .u32 (tx : Int) := hd 20 57 (by kernel_rfl) (by kernel_rfl)
         clear hd h0
         go_simp
         exact ⟨rfl, Below.refl _ _⟩
       | 22, _ =>
         intro ρ W hb hc hg hf h0 hd
         have d21 : ρ (.tmp 58) = .agg #[.int .u32 (fx : Int), .int .u32 (tx : Int)] := hd 21 58 (by kernel_rfl) (by kernel_rfl)
         clear hd h0
         go_simp
         exact ⟨⟨_, rfl, box_new _ _⟩, st_alloc (Below.refl _ _) _⟩
       | i + 23, hlt => exact absurd hlt (by omega)
     · intro vs W hb hall
       have h0 : vs 0 = .slice A0 L.length c0 := hall 0 (by omega)
       obtain ⟨B, h22, hblk⟩ : ∃ B, vs 22 = .slice (some ⟨B, 0, none⟩) 1 1 ∧ W.heap[B]? = some (.cells #[.int .u32 (fx : Int), .int .u32 (tx : Int)] 74 (0, 0)) := hall 22 (by omega)
       clear hall
       rw [lexA_slots vs 23 [(some 37, 0), (some 38, 1), (some 39, 2), (some 40, 3), (some 41, 4), (some 42, 5), (some 43, 6), (some 44, 7), (some 45, 8), (some 46, 9), (some 47, 10), (some 48, 11), (some 49, 12), (some 50, 13), (some 51, 14), (some 52, 15), (some 53, 16), (some 54, 17), (some 55, 18), (some 56, 19), (some 57, 20), (some 58, 21), (some 59, 22)] (by kernel_rfl)]
       simp only [List.foldl_cons, List.foldl_nil, h0, h22]
       show wpList _ _ _ [_, _] _ _
       simp only [put_lit, List.set_cons_succ, List.set_cons_zero]
       have C1 := HC.out.later hb
       have X1 := HX.out.later hb
       have D1 := HD.out.later hb
       have O1 := HO.out.stays hb
       have B1 := st_call HB.out hb
       have hsz := D1.lt
       refine app_blk W rfl _ _ rfl (w.heap.size + 3) _ L rfl O1 fx tx B rfl hblk (by omega) (by omega) ?_
       intro A' c' w' hO' hB'
       have C2 := Lib.hid (C1.more (by omega) hB')
       have X2 := Lib.hid (X1.more (by omega) hB')
       have D2 := Lib.hid (D1.more (by omega) hB')
       have O2 := Lib.hid hO'
       have B2 := Lib.hid (B1.trans (hB'.mono (by omega)))
       clear C1 X1 D1 O1 B1 hO' hB' hblk h0 h22 hb
       go_wp2_with fail
       go_roundw
       case rel => exact ⟨j + 1, A', c', L ++ [(fx, tx)], by go_num, HLT.out, by rw [List.length_append]; rfl, by rw [HSN.out, HL.out], C2.out, X2.out, D2.out, by rw [List.length_append]; exact O2.out, B2.out⟩
       case measure => have := HLT.out; simp [intOf]; omega
   · obtain rfl : j = blocks.length := by omega
     have hli : ¬ ((blocks.length : Nat) : Int) < (blocks.length : Int) := by omega
     have hLL : L = shiftB x.ack blocks := by rw [HL.out, List.take_of_length_le (Nat.le_refl _)]
     have HLB := Lib.hid hLL
     clear hLL hLl
     have m0 := HC.out.cell 0 _ rfl
     have mf0 := HC.out.free 0 (by simp)
     have m1 := HC.out.cell 1 _ rfl
     have mf1 := HC.out.free 1 (by simp)
     have m2 := HC.out.cell 2 _ rfl
     have mf2 := HC.out.free 2 (by simp)
     have m3 := HC.out.cell 3 _ rfl
     have mf3 := HC.out.free 3 (by simp)
     have m4 := HC.out.cell 4 _ rfl
     have mf4 := HC.out.free 4 (by simp)
     have m5 := HC.out.cell 5 _ rfl
     have mf5 := HC.out.free 5 (by simp)
     have m6 := HC.out.cell 6 _ rfl
     have mf6 := HC.out.free 6 (by simp)
     have m7 := HC.out.cell 7 _ rfl
     have mf7 := HC.out.free 7 (by simp)
     have m8 := HC.out.cell 8 _ rfl
     have mf8 := HC.out.free 8 (by simp)
     have m9 := HC.out.cell 9 _ rfl
     have mf9 := HC.out.free 9 (by simp)
     have m10 := HC.out.cell 10 _ rfl
     have mf10 := HC.out.free 10 (by simp)
     have m11 := HC.out.cell 11 _ rfl
     have mf11 := HC.out.free 11 (by simp)
     have m12 := HC.out.cell 12 _ rfl
     have mf12 := HC.out.free 12 (by simp)
     have m13 := HC.out.cell 13 _ rfl
     have mf13 := HC.out.free 13 (by simp)
     have m14 := HC.out.cell 14 _ rfl
     have mf14 := HC.out.free 14 (by simp)
     have m15 := HC.out.cell 15 _ rfl
     have mf15 := HC.out.free 15 (by simp)
     have y0 := HX.out.cell 0 _ rfl
     have y1 := HX.out.cell 1 _ rfl
     have y2 := HX.out.cell 2 _ rfl
     have y3 := HX.out.cell 3 _ rfl
     have y4 := HX.out.cell 4 _ rfl
     have y5 := HX.out.cell 5 _ rfl
     have y6 := HX.out.cell 6 _ rfl
     have y7 := HX.out.cell 7 _ rfl
     have y8 := HX.out.cell 8 _ rfl
     have y9 := HX.out.cell 9 _ rfl
     have e2 : o2 = ⟨mss, scale, sack, L, false, val, echo⟩ := by rw [← HO2.out, HLB.out]; rfl
     have HE := Lib.hid e2
     clear e2
     go_wp2_with fail
     obtain ⟨W5, hW5, hC5, hA5, hb5⟩ := put1 HC.out (.slice A0 L.length c0)
     rw [hW5]
     clear hW5
     have C5 := Lib.hid hC5
     have D5 := Lib.hid (HD.out.apart (by omega) hA5)
     have R5 := Lib.hid ((OwnB.row HO.out rfl).apart w.heap.size (fun b hb => by omega) hA5)
     have B5 := Lib.hid (HB.out.trans hb5)
     clear hC5 hA5 hb5 m0 mf0 m1 mf1 m2 mf2 m3 mf3 m4 mf4 m5 mf5 m6 mf6 m7 mf7 m8 mf8 m9 mf9 m10 mf10 m11 mf11 m12 mf12 m13 mf13 m14 mf14 m15 mf15 y0 y1 y2 y3 y4 y5 y6 y7 y8 y9
     refine (HWN.out W5).mono ?_
     rintro e w5 ⟨rfl, rfl⟩
     have m0 := C5.out.cell 0 _ rfl
     have mf0 := C5.out.free 0 (by simp)
     have m1 := C5.out.cell 1 _ rfl
     have mf1 := C5.out.free 1 (by simp)
     have m2 := C5.out.cell 2 _ rfl
     have mf2 := C5.out.free 2 (by simp)
     have m3 := C5.out.cell 3 _ rfl
     have mf3 := C5.out.free 3 (by simp)
     have m4 := C5.out.cell 4 _ rfl
     have mf4 := C5.out.free 4 (by simp)
     have m5 := C5.out.cell 5 _ rfl
     have mf5 := C5.out.free 5 (by simp)
     have m6 := C5.out.cell 6 _ rfl
     have mf6 := C5.out.free 6 (by simp)
     have m7 := C5.out.cell 7 _ rfl
     have mf7 := C5.out.free 7 (by simp)
     have m8 := C5.out.cell 8 _ rfl
     have mf8 := C5.out.free 8 (by simp)
     have m9 := C5.out.cell 9 _ rfl
     have mf9 := C5.out.free 9 (by simp)
     have m10 := C5.out.cell 10 _ rfl
     have mf10 := C5.out.free 10 (by simp)
     have m11 := C5.out.cell 11 _ rfl
     have mf11 := C5.out.free 11 (by simp)
     have m12 := C5.out.cell 12 _ rfl
     have mf12 := C5.out.free 12 (by simp)
     have m13 := C5.out.cell 13 _ rfl
     have mf13 := C5.out.free 13 (by simp)
     have m14 := C5.out.cell 14 _ rfl
     have mf14 := C5.out.free 14 (by simp)
     have m15 := C5.out.cell 15 _ rfl
     have mf15 := C5.out.free 15 (by simp)
     have d0 := D5.out.cell 0 _ rfl
     have df0 := D5.out.free 0 (by simp)
     have d1 := D5.out.cell 1 _ rfl
     have df1 := D5.out.free 1 (by simp)
     have d2 := D5.out.cell 2 _ rfl
     have df2 := D5.out.free 2 (by simp)
     have d3 := D5.out.cell 3 _ rfl
     have df3 := D5.out.free 3 (by simp)
     have d4 := D5.out.cell 4 _ rfl
     have df4 := D5.out.free 4 (by simp)
     have d5 := D5.out.cell 5 _ rfl
     have df5 := D5.out.free 5 (by simp)
     have d6 := D5.out.cell 6 _ rfl
     have df6 := D5.out.free 6 (by simp)
     have d7 := D5.out.cell 7 _ rfl
     have df7 := D5.out.free 7 (by simp)
     have d8 := D5.out.cell 8 _ rfl
     have df8 := D5.out.free 8 (by simp)
     have d9 := D5.out.cell 9 _ rfl
     have df9 := D5.out.free 9 (by simp)
     have d10 := D5.out.cell 10 _ rfl
     have df10 := D5.out.free 10 (by simp)
     have d11 := D5.out.cell 11 _ rfl
     have df11 := D5.out.free 11 (by simp)
     have d12 := D5.out.cell 12 _ rfl
     have df12 := D5.out.free 12 (by simp)
     have d13 := D5.out.cell 13 _ rfl
     have df13 := D5.out.free 13 (by simp)
     have d14 := D5.out.cell 14 _ rfl
     have df14 := D5.out.free 14 (by simp)
     have d15 := D5.out.cell 15 _ rfl
     have df15 := D5.out.free 15 (by simp)
     go_wp2_with fail
     have O8 := D5.out.other w.heap.size 7 (.int .u16 (nw : Int)) (by omega)
     have HAp := (Apart.refl w.heap.size W5).put 7 (.int .u16 (nw : Int))
     obtain ⟨W9, hW9, hC9, hA9, hb9⟩ := anew16 O8 rfl (.int .u32 (x.sip : Int)) (.int .u16 (x.sport : Int)) (.int .u32 (x.dip : Int)) (.int .u16 (x.dport : Int)) (.int .u32 (q : Int)) (.int .u32 (a2 : Int)) (.int .u8 (flags : Int)) (.int .u16 (nw : Int)) (.int .u16 (mss : Int)) (.int .i64 scale) (.bool sack) (.slice A0 L.length c0) (.bool false) (.int .u32 (val : Int)) (.int .u32 (echo : Int)) (.string data)
     rw [hW9]
     clear m0 mf0 d0 df0 m1 mf1 d1 df1 m2 mf2 d2 df2 m3 mf3 d3 df3 m4 mf4 d4 df4 m5 mf5 d5 df5 m6 mf6 d6 df6 m7 mf7 d7 df7 m8 mf8 d8 df8 m9 mf9 d9 df9 m10 mf10 d10 df10 m11 mf11 d11 df11 m12 mf12 d12 df12 m13 mf13 d13 df13 m14 mf14 d14 df14 m15 mf15 d15 df15
     have e0 := hC9.cell 0 _ rfl
     have e1 := hC9.cell 1 _ rfl
     have e2 := hC9.cell 2 _ rfl
     have e3 := hC9.cell 3 _ rfl
     have e4 := hC9.cell 4 _ rfl
     have e5 := hC9.cell 5 _ rfl
     have e6 := hC9.cell 6 _ rfl
     have e7 := hC9.cell 7 _ rfl
     have e8 := hC9.cell 8 _ rfl
     have e9 := hC9.cell 9 _ rfl
     have e10 := hC9.cell 10 _ rfl
     have e11 := hC9.cell 11 _ rfl
     have e12 := hC9.cell 12 _ rfl
     have e13 := hC9.cell 13 _ rfl
     have e14 := hC9.cell 14 _ rfl
     have e15 := hC9.cell 15 _ rfl
     have R9 := Lib.hid (((R5.out.apart w.heap.size (fun b h2 => by omega) HAp).apart (w.heap.size + 1 + 1) (fun b h2 => by omega) hA9).blk)
     have B9 := Lib.hid ((B5.out.setCell (Nat.le_refl w.heap.size) (p := ⟨w.heap.size, 7, none⟩) (.int .u16 (nw : Int))).trans (hb9.mono (by omega)))
     rw [HV.out, HE.out]
     refine bodyPost_ret (v := sv ⟨x.sip, x.sport, x.dip, x.dport, q, a2, flags, nw, ⟨mss, scale, sack, L, false, val, echo⟩, data⟩ A0 c0) ?_ rfl ⟨⟨A0, c0, rfl, R9.out⟩, B9.out⟩
     simp [results, Tryz.f10, go_sem, e0, e1, e2, e3, e4, e5, e6, e7, e8, e9, e10, e11, e12, e13, e14, e15]
set_option maxHeartbeats 16000000 in
theorem tdR_yt (s : Sg) (A : Option Addr) (c : Nat) (x : Sh) (w : World) (hbk : BlkR w A s.opts.blocks) (k : s.ok) (hl : s.opts.blocks.length ≤ 1000) (xk : x.ok)
   (u1 : -9223372036854775808 ≤ x.up) (u2 : x.up ≤ 9223372036854775807) (d1 : -9223372036854775808 ≤ x.down) (d2 : x.down ≤ 9223372036854775807) (hf : s.flags / 16 % 2 = 1) (ht : s.opts.time = true) :
   Calls Tryz.prog 10 #[sv s A c, xv x] w fun r w' => (∃ A' c', r = .returned (sv (turned s x) A' c') ∧ BlkR w' A' (turned s x).opts.blocks) ∧ Below w.heap.size w w' := by
 obtain ⟨sip, sport, dip, dport, seq, ack, flags, win, ⟨mss, scale, sack, blocks, time, val, echo⟩, data⟩ := s
 have kf := k.flags
 have kw := k.win
 have ks := k.seq
 have ka := k.ack
 have kb := k.opts.blocks
 have kv := k.opts.val
 have ke := k.opts.echo
 have xs := xk.seq
 have xa := xk.ack
 have xvl := xk.val
 have xe := xk.echo
 simp only at kf kw ks ka kb kv ke hl hbk hf ht
 subst ht
 have HWN := Lib.hid (fun W => windowR win x.up x.down W kw u1 u2 d1 d2)
 obtain ⟨q, hq⟩ : ∃ q, (seq + x.seq) % 4294967296 = q := ⟨_, rfl⟩
 obtain ⟨nw, hn⟩ : ∃ n, winT win x.up x.down = n := ⟨_, rfl⟩
 obtain ⟨o2, ho2⟩ : ∃ o2, turnedO x.ack x.val x.echo ⟨mss, scale, sack, blocks, true, val, echo⟩ = o2 := ⟨_, rfl⟩
 rw [hn] at HWN
 have wq : IntKind.u32.wrap ((seq : Int) + (x.seq : Int)) = (q : Int) := by rw [IntKind.wrap_u32]; omega
 have wq2 : ((seq : Int) + (x.seq : Int)) % 4294967296 = (q : Int) := by omega
 have a16 : bits .and .u8 (flags : Int) 16 = ((flags / 16 % 2 * 16 : Nat) : Int) := and16 ⟨flags, by omega⟩
 have f1 : (((flags / 16 % 2 * 16 : Nat) : Int) != 0) = true := bne_iff_ne.2 (by omega)
 have f2 : ((flags : Int) / 16 % 2 * 16 != 0) = true := bne_iff_ne.2 (by omega)
 obtain ⟨a2, ha2⟩ : ∃ a2, (ack + x.ack) % 4294967296 = a2 := ⟨_, rfl⟩
 have wa : IntKind.u32.wrap ((ack : Int) + (x.ack : Int)) = (a2 : Int) := by rw [IntKind.wrap_u32]; omega
 have wa2 : ((ack : Int) + (x.ack : Int)) % 4294967296 = (a2 : Int) := by omega
 have HV : Hid (turned ⟨sip, sport, dip, dport, seq, ack, flags, win, ⟨mss, scale, sack, blocks, true, val, echo⟩, data⟩ x = ⟨x.sip, x.sport, x.dip, x.dport, q, a2, flags, nw, o2, data⟩) := Lib.hid (by
   unfold turned ackT
   simp only
   rw [hq, hn, ho2, if_pos hf] <;> rw [ha2])
 have HO2 := Lib.hid ho2
 have HKB := Lib.hid kb
 have HBK := Lib.hid hbk
 clear hq hn ho2 hf kb hbk k ha2
 have C0 := ((CellsAt.new w (sc ⟨sip, sport, dip, dport, seq, ack, flags, win, ⟨mss, scale, sack, blocks, true, val, echo⟩, data⟩ A c) 30).later ((Below.refl _ (w.alloc (.cells (sc ⟨sip, sport, dip, dport, seq, ack, flags, win, ⟨mss, scale, sack, blocks, true, val, echo⟩, data⟩ A c) 30))).alloc (Nat.le_refl _) (.cells (xc x) 32))).later ((Below.refl _ ((w.alloc (.cells (sc ⟨sip, sport, dip, dport, seq, ack, flags, win, ⟨mss, scale, sack, blocks, true, val, echo⟩, data⟩ A c) 30)).alloc (.cells (xc x) 32))).alloc (Nat.le_refl _) (.cells #[.int .u32 0, .int .u16 0, .int .u32 0, .int .u16 0, .int .u32 0, .int .u32 0, .int .u8 0, .int .u16 0, .int .u16 0, .int .i64 0, .bool false, .slice none 0 0, .bool false, .int .u32 0, .int .u32 0, .string ⟨#[]⟩] 30))
 have X0 := (CellsAt.new (w.alloc (.cells (sc ⟨sip, sport, dip, dport, seq, ack, flags, win, ⟨mss, scale, sack, blocks, true, val, echo⟩, data⟩ A c) 30)) (xc x) 32).later ((Below.refl _ ((w.alloc (.cells (sc ⟨sip, sport, dip, dport, seq, ack, flags, win, ⟨mss, scale, sack, blocks, true, val, echo⟩, data⟩ A c) 30)).alloc (.cells (xc x) 32))).alloc (Nat.le_refl _) (.cells #[.int .u32 0, .int .u16 0, .int .u32 0, .int .u16 0, .int .u32 0, .int .u32 0, .int .u8 0, .int .u16 0, .int .u16 0, .int .i64 0, .bool false, .slice none 0 0, .bool false, .int .u32 0, .int .u32 0, .string ⟨#[]⟩] 30))
 have D0 := CellsAt.new ((w.alloc (.cells (sc ⟨sip, sport, dip, dport, seq, ack, flags, win, ⟨mss, scale, sack, blocks, true, val, echo⟩, data⟩ A c) 30)).alloc (.cells (xc x) 32)) #[.int .u32 0, .int .u16 0, .int .u32 0, .int .u16 0, .int .u32 0, .int .u32 0, .int .u8 0, .int .u16 0, .int .u16 0, .int .i64 0, .bool false, .slice none 0 0, .bool false, .int .u32 0, .int .u32 0, .string ⟨#[]⟩] 30
 simp only [World.size_alloc] at X0 D0
 have B0 := st_alloc (st_alloc (st_alloc (Below.refl _ w) (.cells (sc ⟨sip, sport, dip, dport, seq, ack, flags, win, ⟨mss, scale, sack, blocks, true, val, echo⟩, data⟩ A c) 30)) (.cells (xc x) 32)) (.cells #[.int .u32 0, .int .u16 0, .int .u32 0, .int .u16 0, .int .u32 0, .int .u32 0, .int .u8 0, .int .u16 0, .int .u16 0, .int .i64 0, .bool false, .slice none 0 0, .bool false, .int .u32 0, .int .u32 0, .string ⟨#[]⟩] 30)
 have hsz : (((w.alloc (.cells (sc ⟨sip, sport, dip, dport, seq, ack, flags, win, ⟨mss, scale, sack, blocks, true, val, echo⟩, data⟩ A c) 30)).alloc (.cells (xc x) 32)).alloc (.cells #[.int .u32 0, .int .u16 0, .int .u32 0, .int .u16 0, .int .u32 0, .int .u32 0, .int .u8 0, .int .u16 0, .int .u16 0, .int .i64 0, .bool false, .slice none 0 0, .bool false, .int .u32 0, .int .u32 0, .string ⟨#[]⟩] 30)).heap.size = w.heap.size + 3 := by simp
 go_enter Tryz.func10, Tryz.ntmps10
 go_upto_region 1 with fail
 obtain ⟨W3, hW3⟩ : ∃ W3, (((w.alloc (.cells (sc ⟨sip, sport, dip, dport, seq, ack, flags, win, ⟨mss, scale, sack, blocks, true, val, echo⟩, data⟩ A c) 30)).alloc (.cells (xc x) 32)).alloc (.cells #[.int .u32 0, .int .u16 0, .int .u32 0, .int .u16 0, .int .u32 0, .int .u32 0, .int .u8 0, .int .u16 0, .int .u16 0, .int .i64 0, .bool false, .slice none 0 0, .bool false, .int .u32 0, .int .u32 0, .string ⟨#[]⟩] 30)) = W3 := ⟨_, rfl⟩
 rw [hW3] at C0 X0 D0 B0 hsz ⊢
 have HC0 := Lib.hid C0
 have HX0 := Lib.hid X0
 have HD0 := Lib.hid D0
 have HB0 := Lib.hid B0
 have HZ := Lib.hid hsz
 clear hW3 C0 X0 D0 B0 hsz
 have c0 := HC0.out.cell 0 _ rfl
 have cf0 := HC0.out.free 0 (by simp)
 have c1 := HC0.out.cell 1 _ rfl
 have cf1 := HC0.out.free 1 (by simp)
 have c2 := HC0.out.cell 2 _ rfl
 have cf2 := HC0.out.free 2 (by simp)
 have c3 := HC0.out.cell 3 _ rfl
 have cf3 := HC0.out.free 3 (by simp)
 have c4 := HC0.out.cell 4 _ rfl
 have cf4 := HC0.out.free 4 (by simp)
 have c5 := HC0.out.cell 5 _ rfl
 have cf5 := HC0.out.free 5 (by simp)
 have c6 := HC0.out.cell 6 _ rfl
 have cf6 := HC0.out.free 6 (by simp)
 have c7 := HC0.out.cell 7 _ rfl
 have cf7 := HC0.out.free 7 (by simp)
 have c8 := HC0.out.cell 8 _ rfl
 have cf8 := HC0.out.free 8 (by simp)
 have c9 := HC0.out.cell 9 _ rfl
 have cf9 := HC0.out.free 9 (by simp)
 have c10 := HC0.out.cell 10 _ rfl
 have cf10 := HC0.out.free 10 (by simp)
 have c11 := HC0.out.cell 11 _ rfl
 have cf11 := HC0.out.free 11 (by simp)
 have y0 := HX0.out.cell 0 _ rfl
 have y1 := HX0.out.cell 1 _ rfl
 have y2 := HX0.out.cell 2 _ rfl
 have y3 := HX0.out.cell 3 _ rfl
 have y4 := HX0.out.cell 4 _ rfl
 have y5 := HX0.out.cell 5 _ rfl
 have y6 := HX0.out.cell 6 _ rfl
 have y7 := HX0.out.cell 7 _ rfl
 go_wp2_with fail
 obtain ⟨W4, hW4, hC4, hA4, hb4⟩ := putAddrs HC0.out (.int .u32 (x.sip : Int)) (.int .u16 (x.sport : Int)) (.int .u32 (x.dip : Int)) (.int .u16 (x.dport : Int))
 rw [hW4]
 obtain ⟨W5, hW5, hC5, hA5, hb5⟩ := putSeq hC4 (.int .u32 (q : Int))
 rw [hW5]
 obtain ⟨W6, hW6, hC6, hA6, hb6⟩ := putAck hC5 (.int .u32 (a2 : Int))
 rw [hW6]
 have C0 := Lib.hid hC6
 have X0 := Lib.hid (((HX0.out.apart (by omega) hA4).apart (by omega) hA5).apart (by omega) hA6)
 have D0 := Lib.hid (((HD0.out.apart (by omega) hA4).apart (by omega) hA5).apart (by omega) hA6)
 have B0 := Lib.hid (HB0.out.trans ((hb4.trans hb5).trans hb6))
 clear hW4 hC4 hA4 hb4 hW5 hC5 hA5 hb5 hW6 hC6 hA6 hb6 HC0 HX0 HD0 HB0 HZ c0 cf0 c1 cf1 c2 cf2 c3 cf3 c4 cf4 c5 cf5 c6 cf6 c7 cf7 c8 cf8 c9 cf9 c10 cf10 c11 cf11 y0 y1 y2 y3 y4 y5 y6 y7
 go_loopw [5, 6] (fun lv i wr => ∃ (j : Nat) (A0 : Option Addr) (c0 : Nat) (L : List (Nat × Nat)), i = .int .i64 (j : Int) ∧ j ≤ blocks.length ∧ lv = .slice A0 L.length c0 ∧ L = shiftB x.ack (blocks.take j) ∧ CellsAt wr w.heap.size #[.int .u32 (x.sip : Int), .int .u16 (x.sport : Int), .int .u32 (x.dip : Int), .int .u16 (x.dport : Int), .int .u32 (q : Int), .int .u32 (a2 : Int), .int .u8 (flags : Int), .int .u16 (win : Int), .int .u16 (mss : Int), .int .i64 scale, .bool sack, .slice A blocks.length c, .bool true, .int .u32 (val : Int), .int .u32 (echo : Int), .string data] ∧ CellsAt wr (w.heap.size + 1) (xc x) ∧ CellsAt wr (w.heap.size + 1 + 1) #[.int .u32 0, .int .u16 0, .int .u32 0, .int .u16 0, .int .u32 0, .int .u32 0, .int .u8 0, .int .u16 0, .int .u16 0, .int .i64 0, .bool false, .slice none 0 0, .bool false, .int .u32 0, .int .u32 0, .string ⟨#[]⟩] ∧ OwnB wr (w.heap.size + 3) (.slice A0 L.length c0) L ∧ Below w.heap.size w wr) (fun _ i _ => blocks.length - (intOf i).toNat)
 case atStart => exact ⟨0, none, 0, [], rfl, by omega, rfl, rfl, C0.out, X0.out, D0.out, ownB_nil _ _, B0.out⟩
 case round =>
   clear C0 X0 D0 B0
   obtain ⟨j, A0, c0, L, rfl, hj, rfl, hL, hC, hX, hD, hO, hB⟩ := hrel
   have HL := Lib.hid hL
   have hLl : L.length = min j blocks.length := by rw [hL]; unfold shiftB; rw [List.length_map, List.length_take]
   have HC := Lib.hid hC
   have HX := Lib.hid hX
   have HD := Lib.hid hD
   have HO := Lib.hid hO
   have HB := Lib.hid hB
   have hd1 := hD.lt
   clear hL hC hD hO hB hX
   by_cases hlt : j < blocks.length
   · have HLT := Lib.hid hlt
     have hli : (j : Int) < (blocks.length : Int) := by omega
     obtain ⟨g, off, rfl, hg, hgc⟩ := HBK.out (show 0 < blocks.length by omega)
     obtain ⟨⟨f, t⟩, hft⟩ : ∃ p, blocks[j]? = some p := ⟨_, List.getElem?_eq_getElem hlt⟩
     obtain ⟨d0, d1⟩ := hgc j (f, t) hft
     simp only at d0 d1
     have HE0 := Lib.hid (fun W (hb2 : Below wr.heap.size wr W) => (hb2.cell (p := ⟨g, off + j * 2, none⟩) (show g < _ from Nat.lt_of_lt_of_le hg HB.out.size)).trans ((HB.out.cell (p := ⟨g, off + j * 2, none⟩) hg).trans d0))
     have HE1 := Lib.hid (fun W (hb2 : Below wr.heap.size wr W) => (hb2.cell (p := ⟨g, off + j * 2 + 1, none⟩) (show g < _ from Nat.lt_of_lt_of_le hg HB.out.size)).trans ((HB.out.cell (p := ⟨g, off + j * 2 + 1, none⟩) hg).trans d1))
     obtain ⟨hf, ht⟩ := HKB.out (f, t) (List.mem_of_getElem? hft)
     simp only at hf ht
     obtain ⟨fx, hfx⟩ : ∃ y, (f + x.ack) % 4294967296 = y := ⟨_, rfl⟩
     obtain ⟨tx, htx⟩ : ∃ y, (t + x.ack) % 4294967296 = y := ⟨_, rfl⟩
     have hsn : shiftB x.ack (blocks.take (j + 1)) = shiftB x.ack (blocks.take j) ++ [(fx, tx)] := by
       unfold shiftB
       rw [take_snocG hft, List.map_append]
       simp only [List.map_cons, List.map_nil, hfx, htx]
     have HSN := Lib.hid hsn
     have wf : IntKind.u32.wrap ((f : Int) + (x.ack : Int)) = (fx : Int) := by rw [IntKind.wrap_u32]; omega
     have wt : IntKind.u32.wrap ((t : Int) + (x.ack : Int)) = (tx : Int) := by rw [IntKind.wrap_u32]; omega
     have hL4 : L.length ≤ 1000 := by omega
     clear d0 d1 hgc hft hsn hfx htx hLl
     have c11 := HC.out.cell 11 _ rfl
     go_wp2_with fail
     clear c11
     refine wp_region_seeK 23 92 (relTd A0 L c0 g off blocks.length c j f t fx tx x.ack w.heap.size) rfl (by kernel_rfl) (by kernel_rfl) (by kernel_rfl) (by kernel_rfl) (relTd_more A0 L c0 g off blocks.length c j f t fx tx x.ack w.heap.size) ?_ ?_
     · intro i hi
       have hi2 : i < 23 := by simpa using hi
       clear hi
       match i, hi2 with
       | 0, _ =>
         intro ρ W hb hc hg hf h0 hd
         have t5 := h0 5 (by kernel_rfl)
         clear hd h0
         go_simp
         exact ⟨rfl, Below.refl _ _⟩
       | 1, _ =>
         intro ρ W hb hc hg hf h0 hd
         have t2 := h0 2 (by kernel_rfl)
         clear hd h0
         go_simp
         exact ⟨rfl, Below.refl _ _⟩
       | 2, _ =>
         intro ρ W hb hc hg hf h0 hd
         have d1 : ρ (.tmp 38) = .pointer (some ⟨w.heap.size, 8, none⟩) := hd 1 38 (by kernel_rfl) (by kernel_rfl)
         clear hd h0
         go_simp
         exact ⟨rfl, Below.refl _ _⟩
       | 3, _ =>
         intro ρ W hb hc hg hf h0 hd
         have d2 : ρ (.tmp 39) = .pointer (some ⟨w.heap.size, 11, none⟩) := hd 2 39 (by kernel_rfl) (by kernel_rfl)
         have c11 := (HC.out.later hb).cell 11 _ rfl
         clear hd h0
         go_simp
         exact ⟨rfl, Below.refl _ _⟩
       | 4, _ =>
         intro ρ W hb hc hg hf h0 hd
         have t6 := h0 6 (by kernel_rfl)
         clear hd h0
         go_simp
         exact ⟨rfl, Below.refl _ _⟩
       | 5, _ =>
         intro ρ W hb hc hg hf h0 hd
         have d3 : ρ (.tmp 40) = .slice (some ⟨g, off, none⟩) blocks.length c := hd 3 40 (by kernel_rfl) (by kernel_rfl)
         have d4 : ρ (.tmp 41) = .int .i64 (j : Int) := hd 4 41 (by kernel_rfl) (by kernel_rfl)
         clear hd h0
         go_simp
         exact ⟨rfl, Below.refl _ _⟩
       | 6, _ =>
         intro ρ W hb hc hg hf h0 hd
         have d5 : ρ (.tmp 42) = .pointer (some ⟨g, off + j * 2, none⟩) := hd 5 42 (by kernel_rfl) (by kernel_rfl)
         clear hd h0
         go_simp
         exact ⟨rfl, Below.refl _ _⟩
       | 7, _ =>
         intro ρ W hb hc hg hf h0 hd
         have d6 : ρ (.tmp 43) = .pointer (some ⟨g, off + j * 2, none⟩) := hd 6 43 (by kernel_rfl) (by kernel_rfl)
         have e0 := HE0.out W hb
         clear hd h0
         go_simp
         exact ⟨rfl, Below.refl _ _⟩
       | 8, _ =>
         intro ρ W hb hc hg hf h0 hd
         have t3 := h0 3 (by kernel_rfl)
         clear hd h0
         go_simp
         exact ⟨rfl, Below.refl _ _⟩
       | 9, _ =>
         intro ρ W hb hc hg hf h0 hd
         have d8 : ρ (.tmp 45) = .pointer (some ⟨w.heap.size + 1, 5, none⟩) := hd 8 45 (by kernel_rfl) (by kernel_rfl)
         have y5 := (HX.out.later hb).cell 5 _ rfl
         clear hd h0
         go_simp
         exact ⟨rfl, Below.refl _ _⟩
       | 10, _ =>
         intro ρ W hb hc hg hf h0 hd
         have d7 : ρ (.tmp 44) = .int .u32 (f : Int) := hd 7 44 (by kernel_rfl) (by kernel_rfl)
         have d9 : ρ (.tmp 46) = .int .u32 (x.ack : Int) := hd 9 46 (by kernel_rfl) (by kernel_rfl)
         clear hd h0
         go_simp
         exact ⟨rfl, Below.refl _ _⟩
       | 11, _ =>
         intro ρ W hb hc hg hf h0 hd
         have t2 := h0 2 (by kernel_rfl)
         clear hd h0
         go_simp
         exact ⟨rfl, Below.refl _ _⟩
       | 12, _ =>
         intro ρ W hb hc hg hf h0 hd
         have d11 : ρ (.tmp 48) = .pointer (some ⟨w.heap.size, 8, none⟩) := hd 11 48 (by kernel_rfl) (by kernel_rfl)
         clear hd h0
         go_simp
         exact ⟨rfl, Below.refl _ _⟩
       | 13, _ =>
         intro ρ W hb hc hg hf h0 hd
         have d12 : ρ (.tmp 49) = .pointer (some ⟨w.heap.size, 11, none⟩) := hd 12 49 (by kernel_rfl) (by kernel_rfl)
         have c11 := (HC.out.later hb).cell 11 _ rfl
         clear hd h0
         go_simp
         exact ⟨rfl, Below.refl _ _⟩
       | 14, _ =>
         intro ρ W hb hc hg hf h0 hd
         have t6 := h0 6 (by kernel_rfl)
         clear hd h0
         go_simp
         exact ⟨rfl, Below.refl _ _⟩
       | 15, _ =>
         intro ρ W hb hc hg hf h0 hd
         have d13 : ρ (.tmp 50) = .slice (some ⟨g, off, none⟩) blocks.length c := hd 13 50 (by kernel_rfl) (by kernel_rfl)
         have d14 : ρ (.tmp 51) = .int .i64 (j : Int) := hd 14 51 (by kernel_rfl) (by kernel_rfl)
         clear hd h0
         go_simp
         exact ⟨rfl, Below.refl _ _⟩
       | 16, _ =>
         intro ρ W hb hc hg hf h0 hd
         have d15 : ρ (.tmp 52) = .pointer (some ⟨g, off + j * 2, none⟩) := hd 15 52 (by kernel_rfl) (by kernel_rfl)
         clear hd h0
         go_simp
         exact ⟨rfl, Below.refl _ _⟩
       | 17, _ =>
         intro ρ W hb hc hg hf h0 hd
         have d16 : ρ (.tmp 53) = .pointer (some ⟨g, off + j * 2 + 1, none⟩) := hd 16 53 (by kernel_rfl) (by kernel_rfl)
         have e1 := HE1.out W hb
         clear hd h0
         go_simp
         exact ⟨rfl, Below.refl _ _⟩
       | 18, _ =>
         intro ρ W hb hc hg hf h0 hd
         have t3 := h0 3 (by kernel_rfl)
         clear hd h0
         go_simp
         exact ⟨rfl, Below.refl _ _⟩
       | 19, _ =>
         intro ρ W hb hc hg hf h0 hd
         have d18 : ρ (.tmp 55) = .pointer (some ⟨w.heap.size + 1, 5, none⟩) := hd 18 55 (by kernel_rfl) (by kernel_rfl)
         have y5 := (HX.out.later hb).cell 5 _ rfl
         clear hd h0
         go_simp
         exact ⟨rfl, Below.refl _ _⟩
       | 20, _ =>
         intro ρ W hb hc hg hf h0 hd
         have d17 : ρ (.tmp 54) = .int .u32 (t : Int) := hd 17 54 (by kernel_rfl) (by kernel_rfl)
         have d19 : ρ (.tmp 56) = .int .u32 (x.ack : Int) := hd 19 56 (by kernel_rfl) (by kernel_rfl)
         clear hd h0
         go_simp
         exact ⟨rfl, Below.refl _ _⟩
       | 21, _ =>
         intro ρ W hb hc hg hf h0 hd
         have d10 : ρ (.tmp 47) = .int .u32 (fx : Int) := hd 10 47 (by kernel_rfl) (by kernel_rfl)
         have d20 : ρ (.tmp 57) = .int .u32 (tx : Int) := hd 20 57 (by kernel_rfl) (by kernel_rfl)
         clear hd h0
         go_simp
         exact ⟨rfl, Below.refl _ _⟩
       | 22, _ =>
         intro ρ W hb hc hg hf h0 hd
         have d21 : ρ (.tmp 58) = .agg #[.int .u32 (fx : Int), .int .u32 (tx : Int)] := hd 21 58 (by kernel_rfl) (by kernel_rfl)
         clear hd h0
         go_simp
         exact ⟨⟨_, rfl, box_new _ _⟩, st_alloc (Below.refl _ _) _⟩
       | i + 23, hlt => exact absurd hlt (by omega)
     · intro vs W hb hall
       have h0 : vs 0 = .slice A0 L.length c0 := hall 0 (by omega)
       obtain ⟨B, h22, hblk⟩ : ∃ B, vs 22 = .slice (some ⟨B, 0, none⟩) 1 1 ∧ W.heap[B]? = some (.cells #[.int .u32 (fx : Int), .int .u32 (tx : Int)] 74 (0, 0)) := hall 22 (by omega)
       clear hall
       rw [lexA_slots vs 23 [(some 37, 0), (some 38, 1), (some 39, 2), (some 40, 3), (some 41, 4), (some 42, 5), (some 43, 6), (some 44, 7), (some 45, 8), (some 46, 9), (some 47, 10), (some 48, 11), (some 49, 12), (some 50, 13), (some 51, 14), (some 52, 15), (some 53, 16), (some 54, 17), (some 55, 18), (some 56, 19), (some 57, 20), (some 58, 21), (some 59, 22)] (by kernel_rfl)]
       simp only [List.foldl_cons, List.foldl_nil, h0, h22]
       show wpList _ _ _ [_, _] _ _
       simp only [put_lit, List.set_cons_succ, List.set_cons_zero]
       have C1 := HC.out.later hb
       have X1 := HX.out.later hb
       have D1 := HD.out.later hb
       have O1 := HO.out.stays hb
       have B1 := st_call HB.out hb
       have hsz := D1.lt
       refine app_blk W rfl _ _ rfl (w.heap.size + 3) _ L rfl O1 fx tx B rfl hblk (by omega) (by omega) ?_
       intro A' c' w' hO' hB'
       have C2 := Lib.hid (C1.more (by omega) hB')
       have X2 := Lib.hid (X1.more (by omega) hB')
       have D2 := Lib.hid (D1.more (by omega) hB')
       have O2 := Lib.hid hO'
       have B2 := Lib.hid (B1.trans (hB'.mono (by omega)))
       clear C1 X1 D1 O1 B1 hO' hB' hblk h0 h22 hb
       go_wp2_with fail
       go_roundw
       case rel => exact ⟨j + 1, A', c', L ++ [(fx, tx)], by go_num, HLT.out, by rw [List.length_append]; rfl, by rw [HSN.out, HL.out], C2.out, X2.out, D2.out, by rw [List.length_append]; exact O2.out, B2.out⟩
       case measure => have := HLT.out; simp [intOf]; omega
   · obtain rfl : j = blocks.length := by omega
     have hli : ¬ ((blocks.length : Nat) : Int) < (blocks.length : Int) := by omega
     have hLL : L = shiftB x.ack blocks := by rw [HL.out, List.take_of_length_le (Nat.le_refl _)]
     have HLB := Lib.hid hLL
     clear hLL hLl
     have m0 := HC.out.cell 0 _ rfl
     have mf0 := HC.out.free 0 (by simp)
     have m1 := HC.out.cell 1 _ rfl
     have mf1 := HC.out.free 1 (by simp)
     have m2 := HC.out.cell 2 _ rfl
     have mf2 := HC.out.free 2 (by simp)
     have m3 := HC.out.cell 3 _ rfl
     have mf3 := HC.out.free 3 (by simp)
     have m4 := HC.out.cell 4 _ rfl
     have mf4 := HC.out.free 4 (by simp)
     have m5 := HC.out.cell 5 _ rfl
     have mf5 := HC.out.free 5 (by simp)
     have m6 := HC.out.cell 6 _ rfl
     have mf6 := HC.out.free 6 (by simp)
     have m7 := HC.out.cell 7 _ rfl
     have mf7 := HC.out.free 7 (by simp)
     have m8 := HC.out.cell 8 _ rfl
     have mf8 := HC.out.free 8 (by simp)
     have m9 := HC.out.cell 9 _ rfl
     have mf9 := HC.out.free 9 (by simp)
     have m10 := HC.out.cell 10 _ rfl
     have mf10 := HC.out.free 10 (by simp)
     have m11 := HC.out.cell 11 _ rfl
     have mf11 := HC.out.free 11 (by simp)
     have m12 := HC.out.cell 12 _ rfl
     have mf12 := HC.out.free 12 (by simp)
     have m13 := HC.out.cell 13 _ rfl
     have mf13 := HC.out.free 13 (by simp)
     have m14 := HC.out.cell 14 _ rfl
     have mf14 := HC.out.free 14 (by simp)
     have m15 := HC.out.cell 15 _ rfl
     have mf15 := HC.out.free 15 (by simp)
     have y0 := HX.out.cell 0 _ rfl
     have y1 := HX.out.cell 1 _ rfl
     have y2 := HX.out.cell 2 _ rfl
     have y3 := HX.out.cell 3 _ rfl
     have y4 := HX.out.cell 4 _ rfl
     have y5 := HX.out.cell 5 _ rfl
     have y6 := HX.out.cell 6 _ rfl
     have y7 := HX.out.cell 7 _ rfl
     have y8 := HX.out.cell 8 _ rfl
     have y9 := HX.out.cell 9 _ rfl
     obtain ⟨vx, hvx⟩ : ∃ y, (val + x.val) % 4294967296 = y := ⟨_, rfl⟩
     obtain ⟨ex, hex⟩ : ∃ y, (echo + x.echo) % 4294967296 = y := ⟨_, rfl⟩
     have wv : IntKind.u32.wrap ((val : Int) + (x.val : Int)) = (vx : Int) := by rw [IntKind.wrap_u32]; omega
     have we : IntKind.u32.wrap ((echo : Int) + (x.echo : Int)) = (ex : Int) := by rw [IntKind.wrap_u32]; omega
     have wv2 : ((val : Int) + (x.val : Int)) % 4294967296 = (vx : Int) := by omega
     have we2 : ((echo : Int) + (x.echo : Int)) % 4294967296 = (ex : Int) := by omega
     have e2 : o2 = ⟨mss, scale, sack, L, true, vx, ex⟩ := by rw [← HO2.out, HLB.out]; unfold turnedO shiftB; simp only [if_true]; rw [hvx, hex]
     have HE := Lib.hid e2
     clear e2
     go_wp2_with fail
     obtain ⟨W5, hW5, hC5, hA5, hb5⟩ := put3 HC.out (.slice A0 L.length c0) (.int .u32 (vx : Int)) (.int .u32 (ex : Int))
     rw [hW5]
     clear hW5
     have C5 := Lib.hid hC5
     have D5 := Lib.hid (HD.out.apart (by omega) hA5)
     have R5 := Lib.hid ((OwnB.row HO.out rfl).apart w.heap.size (fun b hb => by omega) hA5)
     have B5 := Lib.hid (HB.out.trans hb5)
     clear hC5 hA5 hb5 m0 mf0 m1 mf1 m2 mf2 m3 mf3 m4 mf4 m5 mf5 m6 mf6 m7 mf7 m8 mf8 m9 mf9 m10 mf10 m11 mf11 m12 mf12 m13 mf13 m14 mf14 m15 mf15 y0 y1 y2 y3 y4 y5 y6 y7 y8 y9
     refine (HWN.out W5).mono ?_
     rintro e w5 ⟨rfl, rfl⟩
     have m0 := C5.out.cell 0 _ rfl
     have mf0 := C5.out.free 0 (by simp)
     have m1 := C5.out.cell 1 _ rfl
     have mf1 := C5.out.free 1 (by simp)
     have m2 := C5.out.cell 2 _ rfl
     have mf2 := C5.out.free 2 (by simp)
     have m3 := C5.out.cell 3 _ rfl
     have mf3 := C5.out.free 3 (by simp)
     have m4 := C5.out.cell 4 _ rfl
     have mf4 := C5.out.free 4 (by simp)
     have m5 := C5.out.cell 5 _ rfl
     have mf5 := C5.out.free 5 (by simp)
     have m6 := C5.out.cell 6 _ rfl
     have mf6 := C5.out.free 6 (by simp)
     have m7 := C5.out.cell 7 _ rfl
     have mf7 := C5.out.free 7 (by simp)
     have m8 := C5.out.cell 8 _ rfl
     have mf8 := C5.out.free 8 (by simp)
     have m9 := C5.out.cell 9 _ rfl
     have mf9 := C5.out.free 9 (by simp)
     have m10 := C5.out.cell 10 _ rfl
     have mf10 := C5.out.free 10 (by simp)
     have m11 := C5.out.cell 11 _ rfl
     have mf11 := C5.out.free 11 (by simp)
     have m12 := C5.out.cell 12 _ rfl
     have mf12 := C5.out.free 12 (by simp)
     have m13 := C5.out.cell 13 _ rfl
     have mf13 := C5.out.free 13 (by simp)
     have m14 := C5.out.cell 14 _ rfl
     have mf14 := C5.out.free 14 (by simp)
     have m15 := C5.out.cell 15 _ rfl
     have mf15 := C5.out.free 15 (by simp)
     have d0 := D5.out.cell 0 _ rfl
     have df0 := D5.out.free 0 (by simp)
     have d1 := D5.out.cell 1 _ rfl
     have df1 := D5.out.free 1 (by simp)
     have d2 := D5.out.cell 2 _ rfl
     have df2 := D5.out.free 2 (by simp)
     have d3 := D5.out.cell 3 _ rfl
     have df3 := D5.out.free 3 (by simp)
     have d4 := D5.out.cell 4 _ rfl
     have df4 := D5.out.free 4 (by simp)
     have d5 := D5.out.cell 5 _ rfl
     have df5 := D5.out.free 5 (by simp)
     have d6 := D5.out.cell 6 _ rfl
     have df6 := D5.out.free 6 (by simp)
     have d7 := D5.out.cell 7 _ rfl
     have df7 := D5.out.free 7 (by simp)
     have d8 := D5.out.cell 8 _ rfl
     have df8 := D5.out.free 8 (by simp)
     have d9 := D5.out.cell 9 _ rfl
     have df9 := D5.out.free 9 (by simp)
     have d10 := D5.out.cell 10 _ rfl
     have df10 := D5.out.free 10 (by simp)
     have d11 := D5.out.cell 11 _ rfl
     have df11 := D5.out.free 11 (by simp)
     have d12 := D5.out.cell 12 _ rfl
     have df12 := D5.out.free 12 (by simp)
     have d13 := D5.out.cell 13 _ rfl
     have df13 := D5.out.free 13 (by simp)
     have d14 := D5.out.cell 14 _ rfl
     have df14 := D5.out.free 14 (by simp)
     have d15 := D5.out.cell 15 _ rfl
     have df15 := D5.out.free 15 (by simp)
     go_wp2_with fail
     have O8 := D5.out.other w.heap.size 7 (.int .u16 (nw : Int)) (by omega)
     have HAp := (Apart.refl w.heap.size W5).put 7 (.int .u16 (nw : Int))
     obtain ⟨W9, hW9, hC9, hA9, hb9⟩ := anew16 O8 rfl (.int .u32 (x.sip : Int)) (.int .u16 (x.sport : Int)) (.int .u32 (x.dip : Int)) (.int .u16 (x.dport : Int)) (.int .u32 (q : Int)) (.int .u32 (a2 : Int)) (.int .u8 (flags : Int)) (.int .u16 (nw : Int)) (.int .u16 (mss : Int)) (.int .i64 scale) (.bool sack) (.slice A0 L.length c0) (.bool true) (.int .u32 (vx : Int)) (.int .u32 (ex : Int)) (.string data)
     rw [hW9]
     clear m0 mf0 d0 df0 m1 mf1 d1 df1 m2 mf2 d2 df2 m3 mf3 d3 df3 m4 mf4 d4 df4 m5 mf5 d5 df5 m6 mf6 d6 df6 m7 mf7 d7 df7 m8 mf8 d8 df8 m9 mf9 d9 df9 m10 mf10 d10 df10 m11 mf11 d11 df11 m12 mf12 d12 df12 m13 mf13 d13 df13 m14 mf14 d14 df14 m15 mf15 d15 df15
     have e0 := hC9.cell 0 _ rfl
     have e1 := hC9.cell 1 _ rfl
     have e2 := hC9.cell 2 _ rfl
     have e3 := hC9.cell 3 _ rfl
     have e4 := hC9.cell 4 _ rfl
     have e5 := hC9.cell 5 _ rfl
     have e6 := hC9.cell 6 _ rfl
     have e7 := hC9.cell 7 _ rfl
     have e8 := hC9.cell 8 _ rfl
     have e9 := hC9.cell 9 _ rfl
     have e10 := hC9.cell 10 _ rfl
     have e11 := hC9.cell 11 _ rfl
     have e12 := hC9.cell 12 _ rfl
     have e13 := hC9.cell 13 _ rfl
     have e14 := hC9.cell 14 _ rfl
     have e15 := hC9.cell 15 _ rfl
     have R9 := Lib.hid (((R5.out.apart w.heap.size (fun b h2 => by omega) HAp).apart (w.heap.size + 1 + 1) (fun b h2 => by omega) hA9).blk)
     have B9 := Lib.hid ((B5.out.setCell (Nat.le_refl w.heap.size) (p := ⟨w.heap.size, 7, none⟩) (.int .u16 (nw : Int))).trans (hb9.mono (by omega)))
     rw [HV.out, HE.out]
     refine bodyPost_ret (v := sv ⟨x.sip, x.sport, x.dip, x.dport, q, a2, flags, nw, ⟨mss, scale, sack, L, true, vx, ex⟩, data⟩ A0 c0) ?_ rfl ⟨⟨A0, c0, rfl, R9.out⟩, B9.out⟩
     simp [results, Tryz.f10, go_sem, e0, e1, e2, e3, e4, e5, e6, e7, e8, e9, e10, e11, e12, e13, e14, e15]
set_option maxHeartbeats 16000000 in
theorem tdR_nf (s : Sg) (A : Option Addr) (c : Nat) (x : Sh) (w : World) (hbk : BlkR w A s.opts.blocks) (k : s.ok) (hl : s.opts.blocks.length ≤ 1000) (xk : x.ok)
   (u1 : -9223372036854775808 ≤ x.up) (u2 : x.up ≤ 9223372036854775807) (d1 : -9223372036854775808 ≤ x.down) (d2 : x.down ≤ 9223372036854775807) (hf : ¬ s.flags / 16 % 2 = 1) (ht : s.opts.time = false) :
   Calls Tryz.prog 10 #[sv s A c, xv x] w fun r w' => (∃ A' c', r = .returned (sv (turned s x) A' c') ∧ BlkR w' A' (turned s x).opts.blocks) ∧ Below w.heap.size w w' := by
 obtain ⟨sip, sport, dip, dport, seq, ack, flags, win, ⟨mss, scale, sack, blocks, time, val, echo⟩, data⟩ := s
 have kf := k.flags
 have kw := k.win
 have ks := k.seq
 have ka := k.ack
 have kb := k.opts.blocks
 have kv := k.opts.val
 have ke := k.opts.echo
 have xs := xk.seq
 have xa := xk.ack
 have xvl := xk.val
 have xe := xk.echo
 simp only at kf kw ks ka kb kv ke hl hbk hf ht
 subst ht
 have HWN := Lib.hid (fun W => windowR win x.up x.down W kw u1 u2 d1 d2)
 obtain ⟨q, hq⟩ : ∃ q, (seq + x.seq) % 4294967296 = q := ⟨_, rfl⟩
 obtain ⟨nw, hn⟩ : ∃ n, winT win x.up x.down = n := ⟨_, rfl⟩
 obtain ⟨o2, ho2⟩ : ∃ o2, turnedO x.ack x.val x.echo ⟨mss, scale, sack, blocks, false, val, echo⟩ = o2 := ⟨_, rfl⟩
 rw [hn] at HWN
 have wq : IntKind.u32.wrap ((seq : Int) + (x.seq : Int)) = (q : Int) := by rw [IntKind.wrap_u32]; omega
 have wq2 : ((seq : Int) + (x.seq : Int)) % 4294967296 = (q : Int) := by omega
 have a16 : bits .and .u8 (flags : Int) 16 = ((flags / 16 % 2 * 16 : Nat) : Int) := and16 ⟨flags, by omega⟩
 have f1 : (((flags / 16 % 2 * 16 : Nat) : Int) != 0) = false := by
   have : flags / 16 % 2 = 0 := by omega
   rw [this]
   rfl
 have f2 : ((flags : Int) / 16 % 2 * 16 != 0) = false := by
   have : (flags : Int) / 16 % 2 * 16 = 0 := by omega
   rw [this]
   rfl
 have HV : Hid (turned ⟨sip, sport, dip, dport, seq, ack, flags, win, ⟨mss, scale, sack, blocks, false, val, echo⟩, data⟩ x = ⟨x.sip, x.sport, x.dip, x.dport, q, ack, flags, nw, o2, data⟩) := Lib.hid (by
   unfold turned ackT
   simp only
   rw [hq, hn, ho2, if_neg hf])
 have HO2 := Lib.hid ho2
 have HKB := Lib.hid kb
 have HBK := Lib.hid hbk
 clear hq hn ho2 hf kb hbk k
 have C0 := ((CellsAt.new w (sc ⟨sip, sport, dip, dport, seq, ack, flags, win, ⟨mss, scale, sack, blocks, false, val, echo⟩, data⟩ A c) 30).later ((Below.refl _ (w.alloc (.cells (sc ⟨sip, sport, dip, dport, seq, ack, flags, win, ⟨mss, scale, sack, blocks, false, val, echo⟩, data⟩ A c) 30))).alloc (Nat.le_refl _) (.cells (xc x) 32))).later ((Below.refl _ ((w.alloc (.cells (sc ⟨sip, sport, dip, dport, seq, ack, flags, win, ⟨mss, scale, sack, blocks, false, val, echo⟩, data⟩ A c) 30)).alloc (.cells (xc x) 32))).alloc (Nat.le_refl _) (.cells #[.int .u32 0, .int .u16 0, .int .u32 0, .int .u16 0, .int .u32 0, .int .u32 0, .int .u8 0, .int .u16 0, .int .u16 0, .int .i64 0, .bool false, .slice none 0 0, .bool false, .int .u32 0, .int .u32 0, .string ⟨#[]⟩] 30))
 have X0 := (CellsAt.new (w.alloc (.cells (sc ⟨sip, sport, dip, dport, seq, ack, flags, win, ⟨mss, scale, sack, blocks, false, val, echo⟩, data⟩ A c) 30)) (xc x) 32).later ((Below.refl _ ((w.alloc (.cells (sc ⟨sip, sport, dip, dport, seq, ack, flags, win, ⟨mss, scale, sack, blocks, false, val, echo⟩, data⟩ A c) 30)).alloc (.cells (xc x) 32))).alloc (Nat.le_refl _) (.cells #[.int .u32 0, .int .u16 0, .int .u32 0, .int .u16 0, .int .u32 0, .int .u32 0, .int .u8 0, .int .u16 0, .int .u16 0, .int .i64 0, .bool false, .slice none 0 0, .bool false, .int .u32 0, .int .u32 0, .string ⟨#[]⟩] 30))
 have D0 := CellsAt.new ((w.alloc (.cells (sc ⟨sip, sport, dip, dport, seq, ack, flags, win, ⟨mss, scale, sack, blocks, false, val, echo⟩, data⟩ A c) 30)).alloc (.cells (xc x) 32)) #[.int .u32 0, .int .u16 0, .int .u32 0, .int .u16 0, .int .u32 0, .int .u32 0, .int .u8 0, .int .u16 0, .int .u16 0, .int .i64 0, .bool false, .slice none 0 0, .bool false, .int .u32 0, .int .u32 0, .string ⟨#[]⟩] 30
 simp only [World.size_alloc] at X0 D0
 have B0 := st_alloc (st_alloc (st_alloc (Below.refl _ w) (.cells (sc ⟨sip, sport, dip, dport, seq, ack, flags, win, ⟨mss, scale, sack, blocks, false, val, echo⟩, data⟩ A c) 30)) (.cells (xc x) 32)) (.cells #[.int .u32 0, .int .u16 0, .int .u32 0, .int .u16 0, .int .u32 0, .int .u32 0, .int .u8 0, .int .u16 0, .int .u16 0, .int .i64 0, .bool false, .slice none 0 0, .bool false, .int .u32 0, .int .u32 0, .string ⟨#[]⟩] 30)
 have hsz : (((w.alloc (.cells (sc ⟨sip, sport, dip, dport, seq, ack, flags, win, ⟨mss, scale, sack, blocks, false, val, echo⟩, data⟩ A c) 30)).alloc (.cells (xc x) 32)).alloc (.cells #[.int .u32 0, .int .u16 0, .int .u32 0, .int .u16 0, .int .u32 0, .int .u32 0, .int .u8 0, .int .u16 0, .int .u16 0, .int .i64 0, .bool false, .slice none 0 0, .bool false, .int .u32 0, .int .u32 0, .string ⟨#[]⟩] 30)).heap.size = w.heap.size + 3 := by simp
 go_enter Tryz.func10, Tryz.ntmps10
 go_upto_region 1 with fail
 obtain ⟨W3, hW3⟩ : ∃ W3, (((w.alloc (.cells (sc ⟨sip, sport, dip, dport, seq, ack, flags, win, ⟨mss, scale, sack, blocks, false, val, echo⟩, data⟩ A c) 30)).alloc (.cells (xc x) 32)).alloc (.cells #[.int .u32 0, .int .u16 0, .int .u32 0, .int .u16 0, .int .u32 0, .int .u32 0, .int .u8 0, .int .u16 0, .int .u16 0, .int .i64 0, .bool false, .slice none 0 0, .bool false, .int .u32 0, .int .u32 0, .string ⟨#[]⟩] 30)) = W3 := ⟨_, rfl⟩
 rw [hW3] at C0 X0 D0 B0 hsz ⊢
 have HC0 := Lib.hid C0
 have HX0 := Lib.hid X0
 have HD0 := Lib.hid D0
 have HB0 := Lib.hid B0
 have HZ := Lib.hid hsz
 clear hW3 C0 X0 D0 B0 hsz
 have c0 := HC0.out.cell 0 _ rfl
 have cf0 := HC0.out.free 0 (by simp)
 have c1 := HC0.out.cell 1 _ rfl
 have cf1 := HC0.out.free 1 (by simp)
 have c2 := HC0.out.cell 2 _ rfl
 have cf2 := HC0.out.free 2 (by simp)
 have c3 := HC0.out.cell 3 _ rfl
 have cf3 := HC0.out.free 3 (by simp)
 have c4 := HC0.out.cell 4 _ rfl
 have cf4 := HC0.out.free 4 (by simp)
 have c5 := HC0.out.cell 5 _ rfl
 have cf5 := HC0.out.free 5 (by simp)
 have c6 := HC0.out.cell 6 _ rfl
 have cf6 := HC0.out.free 6 (by simp)
 have c7 := HC0.out.cell 7 _ rfl
 have cf7 := HC0.out.free 7 (by simp)
 have c8 := HC0.out.cell 8 _ rfl
 have cf8 := HC0.out.free 8 (by simp)
 have c9 := HC0.out.cell 9 _ rfl
 have cf9 := HC0.out.free 9 (by simp)
 have c10 := HC0.out.cell 10 _ rfl
 have cf10 := HC0.out.free 10 (by simp)
 have c11 := HC0.out.cell 11 _ rfl
 have cf11 := HC0.out.free 11 (by simp)
 have y0 := HX0.out.cell 0 _ rfl
 have y1 := HX0.out.cell 1 _ rfl
 have y2 := HX0.out.cell 2 _ rfl
 have y3 := HX0.out.cell 3 _ rfl
 have y4 := HX0.out.cell 4 _ rfl
 have y5 := HX0.out.cell 5 _ rfl
 have y6 := HX0.out.cell 6 _ rfl
 have y7 := HX0.out.cell 7 _ rfl
 go_wp2_with fail
 obtain ⟨W4, hW4, hC4, hA4, hb4⟩ := putAddrs HC0.out (.int .u32 (x.sip : Int)) (.int .u16 (x.sport : Int)) (.int .u32 (x.dip : Int)) (.int .u16 (x.dport : Int))
 rw [hW4]
 obtain ⟨W5, hW5, hC5, hA5, hb5⟩ := putSeq hC4 (.int .u32 (q : Int))
 rw [hW5]
 have C0 := Lib.hid hC5
 have X0 := Lib.hid ((HX0.out.apart (by omega) hA4).apart (by omega) hA5)
 have D0 := Lib.hid ((HD0.out.apart (by omega) hA4).apart (by omega) hA5)
 have B0 := Lib.hid (HB0.out.trans (hb4.trans hb5))
 clear hW4 hC4 hA4 hb4 hW5 hC5 hA5 hb5 HC0 HX0 HD0 HB0 HZ c0 cf0 c1 cf1 c2 cf2 c3 cf3 c4 cf4 c5 cf5 c6 cf6 c7 cf7 c8 cf8 c9 cf9 c10 cf10 c11 cf11 y0 y1 y2 y3 y4 y5 y6 y7
 go_loopw [5, 6] (fun lv i wr => ∃ (j : Nat) (A0 : Option Addr) (c0 : Nat) (L : List (Nat × Nat)), i = .int .i64 (j : Int) ∧ j ≤ blocks.length ∧ lv = .slice A0 L.length c0 ∧ L = shiftB x.ack (blocks.take j) ∧ CellsAt wr w.heap.size #[.int .u32 (x.sip : Int), .int .u16 (x.sport : Int), .int .u32 (x.dip : Int), .int .u16 (x.dport : Int), .int .u32 (q : Int), .int .u32 (ack : Int), .int .u8 (flags : Int), .int .u16 (win : Int), .int .u16 (mss : Int), .int .i64 scale, .bool sack, .slice A blocks.length c, .bool false, .int .u32 (val : Int), .int .u32 (echo : Int), .string data] ∧ CellsAt wr (w.heap.size + 1) (xc x) ∧ CellsAt wr (w.heap.size + 1 + 1) #[.int .u32 0, .int .u16 0, .int .u32 0, .int .u16 0, .int .u32 0, .int .u32 0, .int .u8 0, .int .u16 0, .int .u16 0, .int .i64 0, .bool false, .slice none 0 0, .bool false, .int .u32 0, .int .u32 0, .string ⟨#[]⟩] ∧ OwnB wr (w.heap.size + 3) (.slice A0 L.length c0) L ∧ Below w.heap.size w wr) (fun _ i _ => blocks.length - (intOf i).toNat)
 case atStart => exact ⟨0, none, 0, [], rfl, by omega, rfl, rfl, C0.out, X0.out, D0.out, ownB_nil _ _, B0.out⟩
 case round =>
   clear C0 X0 D0 B0
   obtain ⟨j, A0, c0, L, rfl, hj, rfl, hL, hC, hX, hD, hO, hB⟩ := hrel
   have HL := Lib.hid hL
   have hLl : L.length = min j blocks.length := by rw [hL]; unfold shiftB; rw [List.length_map, List.length_take]
   have HC := Lib.hid hC
   have HX := Lib.hid hX
   have HD := Lib.hid hD
   have HO := Lib.hid hO
   have HB := Lib.hid hB
   have hd1 := hD.lt
   clear hL hC hD hO hB hX
   by_cases hlt : j < blocks.length
   · have HLT := Lib.hid hlt
     have hli : (j : Int) < (blocks.length : Int) := by omega
     obtain ⟨g, off, rfl, hg, hgc⟩ := HBK.out (show 0 < blocks.length by omega)
     obtain ⟨⟨f, t⟩, hft⟩ : ∃ p, blocks[j]? = some p := ⟨_, List.getElem?_eq_getElem hlt⟩
     obtain ⟨d0, d1⟩ := hgc j (f, t) hft
     simp only at d0 d1
     have HE0 := Lib.hid (fun W (hb2 : Below wr.heap.size wr W) => (hb2.cell (p := ⟨g, off + j * 2, none⟩) (show g < _ from Nat.lt_of_lt_of_le hg HB.out.size)).trans ((HB.out.cell (p := ⟨g, off + j * 2, none⟩) hg).trans d0))
     have HE1 := Lib.hid (fun W (hb2 : Below wr.heap.size wr W) => (hb2.cell (p := ⟨g, off + j * 2 + 1, none⟩) (show g < _ from Nat.lt_of_lt_of_le hg HB.out.size)).trans ((HB.out.cell (p := ⟨g, off + j * 2 + 1, none⟩) hg).trans d1))
     obtain ⟨hf, ht⟩ := HKB.out (f, t) (List.mem_of_getElem? hft)
     simp only at hf ht
     obtain ⟨fx, hfx⟩ : ∃ y, (f + x.ack) % 4294967296 = y := ⟨_, rfl⟩
     obtain ⟨tx, htx⟩ : ∃ y, (t + x.ack) % 4294967296 = y := ⟨_, rfl⟩
     have hsn : shiftB x.ack (blocks.take (j + 1)) = shiftB x.ack (blocks.take j) ++ [(fx, tx)] := by
       unfold shiftB
       rw [take_snocG hft, List.map_append]
       simp only [List.map_cons, List.map_nil, hfx, htx]
     have HSN := Lib.hid hsn
     have wf : IntKind.u32.wrap ((f : Int) + (x.ack : Int)) = (fx : Int) := by rw [IntKind.wrap_u32]; omega
     have wt : IntKind.u32.wrap ((t : Int) + (x.ack : Int)) = (tx : Int) := by rw [IntKind.wrap_u32]; omega
     have hL4 : L.length ≤ 1000 := by omega
     clear d0 d1 hgc hft hsn hfx htx hLl
     have c11 := HC.out.cell 11 _ rfl
     go_wp2_with fail
     clear c11
     refine wp_region_seeK 23 92 (relTd A0 L c0 g off blocks.length c j f t fx tx x.ack w.heap.size) rfl (by kernel_rfl) (by kernel_rfl) (by kernel_rfl) (by kernel_rfl) (relTd_more A0 L c0 g off blocks.length c j f t fx tx x.ack w.heap.size) ?_ ?_
     · intro i hi
       have hi2 : i < 23 := by simpa using hi
       clear hi
       match i, hi2 with
       | 0, _ =>
         intro ρ W hb hc hg hf h0 hd
         have t5 := h0 5 (by kernel_rfl)
         clear hd h0
         go_simp
         exact ⟨rfl, Below.refl _ _⟩
       | 1, _ =>
         intro ρ W hb hc hg hf h0 hd
         have t2 := h0 2 (by kernel_rfl)
         clear hd h0
         go_simp
         exact ⟨rfl, Below.refl _ _⟩
       | 2, _ =>
         intro ρ W hb hc hg hf h0 hd
         have d1 : ρ (.tmp 38) = .pointer (some ⟨w.heap.size, 8, none⟩) := hd 1 38 (by kernel_rfl) (by kernel_rfl)
         clear hd h0
         go_simp
         exact ⟨rfl, Below.refl _ _⟩
       | 3, _ =>
         intro ρ W hb hc hg hf h0 hd
         have d2 : ρ (.tmp 39) = .pointer (some ⟨w.heap.size, 11, none⟩) := hd 2 39 (by kernel_rfl) (by kernel_rfl)
         have c11 := (HC.out.later hb).cell 11 _ rfl
         clear hd h0
         go_simp
         exact ⟨rfl, Below.refl _ _⟩
       | 4, _ =>
         intro ρ W hb hc hg hf h0 hd
         have t6 := h0 6 (by kernel_rfl)
         clear hd h0
         go_simp
         exact ⟨rfl, Below.refl _ _⟩
       | 5, _ =>
         intro ρ W hb hc hg hf h0 hd
         have d3 : ρ (.tmp 40) = .slice (some ⟨g, off, none⟩) blocks.length c := hd 3 40 (by kernel_rfl) (by kernel_rfl)
         have d4 : ρ (.tmp 41) = .int .i64 (j : Int) := hd 4 41 (by kernel_rfl) (by kernel_rfl)
         clear hd h0
         go_simp
         exact ⟨rfl, Below.refl _ _⟩
       | 6, _ =>
         intro ρ W hb hc hg hf h0 hd
         have d5 : ρ (.tmp 42) = .pointer (some ⟨g, off + j * 2, none⟩) := hd 5 42 (by kernel_rfl) (by kernel_rfl)
         clear hd h0
         go_simp
         exact ⟨rfl, Below.refl _ _⟩
       | 7, _ =>
         intro ρ W hb hc hg hf h0 hd
         have d6 : ρ (.tmp 43) = .pointer (some ⟨g, off + j * 2, none⟩) := hd 6 43 (by kernel_rfl) (by kernel_rfl)
         have e0 := HE0.out W hb
         clear hd h0
         go_simp
         exact ⟨rfl, Below.refl _ _⟩
       | 8, _ =>
         intro ρ W hb hc hg hf h0 hd
         have t3 := h0 3 (by kernel_rfl)
         clear hd h0
         go_simp
         exact ⟨rfl, Below.refl _ _⟩
       | 9, _ =>
         intro ρ W hb hc hg hf h0 hd
         have d8 : ρ (.tmp 45) = .pointer (some ⟨w.heap.size + 1, 5, none⟩) := hd 8 45 (by kernel_rfl) (by kernel_rfl)
         have y5 := (HX.out.later hb).cell 5 _ rfl
         clear hd h0
         go_simp
         exact ⟨rfl, Below.refl _ _⟩
       | 10, _ =>
         intro ρ W hb hc hg hf h0 hd
         have d7 : ρ (.tmp 44) = .int .u32 (f : Int) := hd 7 44 (by kernel_rfl) (by kernel_rfl)
         have d9 : ρ (.tmp 46) = .int .u32 (x.ack : Int) := hd 9 46 (by kernel_rfl) (by kernel_rfl)
         clear hd h0
         go_simp
         exact ⟨rfl, Below.refl _ _⟩
       | 11, _ =>
         intro ρ W hb hc hg hf h0 hd
         have t2 := h0 2 (by kernel_rfl)
         clear hd h0
         go_simp
         exact ⟨rfl, Below.refl _ _⟩
       | 12, _ =>
         intro ρ W hb hc hg hf h0 hd
         have d11 : ρ (.tmp 48) = .pointer (some ⟨w.heap.size, 8, none⟩) := hd 11 48 (by kernel_rfl) (by kernel_rfl)
         clear hd h0
         go_simp
         exact ⟨rfl, Below.refl _ _⟩
       | 13, _ =>
         intro ρ W hb hc hg hf h0 hd
         have d12 : ρ (.tmp 49) = .pointer (some ⟨w.heap.size, 11, none⟩) := hd 12 49 (by kernel_rfl) (by kernel_rfl)
         have c11 := (HC.out.later hb).cell 11 _ rfl
         clear hd h0
         go_simp
         exact ⟨rfl, Below.refl _ _⟩
       | 14, _ =>
         intro ρ W hb hc hg hf h0 hd
         have t6 := h0 6 (by kernel_rfl)
         clear hd h0
         go_simp
         exact ⟨rfl, Below.refl _ _⟩
       | 15, _ =>
         intro ρ W hb hc hg hf h0 hd
         have d13 : ρ (.tmp 50) = .slice (some ⟨g, off, none⟩) blocks.length c := hd 13 50 (by kernel_rfl) (by kernel_rfl)
         have d14 : ρ (.tmp 51) = .int .i64 (j : Int) := hd 14 51 (by kernel_rfl) (by kernel_rfl)
         clear hd h0
         go_simp
         exact ⟨rfl, Below.refl _ _⟩
       | 16, _ =>
         intro ρ W hb hc hg hf h0 hd
         have d15 : ρ (.tmp 52) = .pointer (some ⟨g, off + j * 2, none⟩) := hd 15 52 (by kernel_rfl) (by kernel_rfl)
         clear hd h0
         go_simp
         exact ⟨rfl, Below.refl _ _⟩
       | 17, _ =>
         intro ρ W hb hc hg hf h0 hd
         have d16 : ρ (.tmp 53) = .pointer (some ⟨g, off + j * 2 + 1, none⟩) := hd 16 53 (by kernel_rfl) (by kernel_rfl)
         have e1 := HE1.out W hb
         clear hd h0
         go_simp
         exact ⟨rfl, Below.refl _ _⟩
       | 18, _ =>
         intro ρ W hb hc hg hf h0 hd
         have t3 := h0 3 (by kernel_rfl)
         clear hd h0
         go_simp
         exact ⟨rfl, Below.refl _ _⟩
       | 19, _ =>
         intro ρ W hb hc hg hf h0 hd
         have d18 : ρ (.tmp 55) = .pointer (some ⟨w.heap.size + 1, 5, none⟩) := hd 18 55 (by kernel_rfl) (by kernel_rfl)
         have y5 := (HX.out.later hb).cell 5 _ rfl
         clear hd h0
         go_simp
         exact ⟨rfl, Below.refl _ _⟩
       | 20, _ =>
         intro ρ W hb hc hg hf h0 hd
         have d17 : ρ (.tmp 54) = .int .u32 (t : Int) := hd 17 54 (by kernel_rfl) (by kernel_rfl)
         have d19 : ρ (.tmp 56) = .int .u32 (x.ack : Int) := hd 19 56 (by kernel_rfl) (by kernel_rfl)
         clear hd h0
         go_simp
         exact ⟨rfl, Below.refl _ _⟩
       | 21, _ =>
         intro ρ W hb hc hg hf h0 hd
         have d10 : ρ (.tmp 47) = .int .u32 (fx : Int) := hd 10 47 (by kernel_rfl) (by kernel_rfl)
         have d20 : ρ (.tmp 57) = .int .u32 (tx : Int) := hd 20 57 (by kernel_rfl) (by kernel_rfl)
         clear hd h0
         go_simp
         exact ⟨rfl, Below.refl _ _⟩
       | 22, _ =>
         intro ρ W hb hc hg hf h0 hd
         have d21 : ρ (.tmp 58) = .agg #[.int .u32 (fx : Int), .int .u32 (tx : Int)] := hd 21 58 (by kernel_rfl) (by kernel_rfl)
         clear hd h0
         go_simp
         exact ⟨⟨_, rfl, box_new _ _⟩, st_alloc (Below.refl _ _) _⟩
       | i + 23, hlt => exact absurd hlt (by omega)
     · intro vs W hb hall
       have h0 : vs 0 = .slice A0 L.length c0 := hall 0 (by omega)
       obtain ⟨B, h22, hblk⟩ : ∃ B, vs 22 = .slice (some ⟨B, 0, none⟩) 1 1 ∧ W.heap[B]? = some (.cells #[.int .u32 (fx : Int), .int .u32 (tx : Int)] 74 (0, 0)) := hall 22 (by omega)
       clear hall
       rw [lexA_slots vs 23 [(some 37, 0), (some 38, 1), (some 39, 2), (some 40, 3), (some 41, 4), (some 42, 5), (some 43, 6), (some 44, 7), (some 45, 8), (some 46, 9), (some 47, 10), (some 48, 11), (some 49, 12), (some 50, 13), (some 51, 14), (some 52, 15), (some 53, 16), (some 54, 17), (some 55, 18), (some 56, 19), (some 57, 20), (some 58, 21), (some 59, 22)] (by kernel_rfl)]
       simp only [List.foldl_cons, List.foldl_nil, h0, h22]
       show wpList _ _ _ [_, _] _ _
       simp only [put_lit, List.set_cons_succ, List.set_cons_zero]
       have C1 := HC.out.later hb
       have X1 := HX.out.later hb
       have D1 := HD.out.later hb
       have O1 := HO.out.stays hb
       have B1 := st_call HB.out hb
       have hsz := D1.lt
       refine app_blk W rfl _ _ rfl (w.heap.size + 3) _ L rfl O1 fx tx B rfl hblk (by omega) (by omega) ?_
       intro A' c' w' hO' hB'
       have C2 := Lib.hid (C1.more (by omega) hB')
       have X2 := Lib.hid (X1.more (by omega) hB')
       have D2 := Lib.hid (D1.more (by omega) hB')
       have O2 := Lib.hid hO'
       have B2 := Lib.hid (B1.trans (hB'.mono (by omega)))
       clear C1 X1 D1 O1 B1 hO' hB' hblk h0 h22 hb
       go_wp2_with fail
       go_roundw
       case rel => exact ⟨j + 1, A', c', L ++ [(fx, tx)], by go_num, HLT.out, by rw [List.length_append]; rfl, by rw [HSN.out, HL.out], C2.out, X2.out, D2.out, by rw [List.length_append]; exact O2.out, B2.out⟩
       case measure => have := HLT.out; simp [intOf]; omega
   · obtain rfl : j = blocks.length := by omega
     have hli : ¬ ((blocks.length : Nat) : Int) < (blocks.length : Int) := by omega
     have hLL : L = shiftB x.ack blocks := by rw [HL.out, List.take_of_length_le (Nat.le_refl _)]
     have HLB := Lib.hid hLL
     clear hLL hLl
     have m0 := HC.out.cell 0 _ rfl
     have mf0 := HC.out.free 0 (by simp)
     have m1 := HC.out.cell 1 _ rfl
     have mf1 := HC.out.free 1 (by simp)
     have m2 := HC.out.cell 2 _ rfl
     have mf2 := HC.out.free 2 (by simp)
     have m3 := HC.out.cell 3 _ rfl
     have mf3 := HC.out.free 3 (by simp)
     have m4 := HC.out.cell 4 _ rfl
     have mf4 := HC.out.free 4 (by simp)
     have m5 := HC.out.cell 5 _ rfl
     have mf5 := HC.out.free 5 (by simp)
     have m6 := HC.out.cell 6 _ rfl
     have mf6 := HC.out.free 6 (by simp)
     have m7 := HC.out.cell 7 _ rfl
     have mf7 := HC.out.free 7 (by simp)
     have m8 := HC.out.cell 8 _ rfl
     have mf8 := HC.out.free 8 (by simp)
     have m9 := HC.out.cell 9 _ rfl
     have mf9 := HC.out.free 9 (by simp)
     have m10 := HC.out.cell 10 _ rfl
     have mf10 := HC.out.free 10 (by simp)
     have m11 := HC.out.cell 11 _ rfl
     have mf11 := HC.out.free 11 (by simp)
     have m12 := HC.out.cell 12 _ rfl
     have mf12 := HC.out.free 12 (by simp)
     have m13 := HC.out.cell 13 _ rfl
     have mf13 := HC.out.free 13 (by simp)
     have m14 := HC.out.cell 14 _ rfl
     have mf14 := HC.out.free 14 (by simp)
     have m15 := HC.out.cell 15 _ rfl
     have mf15 := HC.out.free 15 (by simp)
     have y0 := HX.out.cell 0 _ rfl
     have y1 := HX.out.cell 1 _ rfl
     have y2 := HX.out.cell 2 _ rfl
     have y3 := HX.out.cell 3 _ rfl
     have y4 := HX.out.cell 4 _ rfl
     have y5 := HX.out.cell 5 _ rfl
     have y6 := HX.out.cell 6 _ rfl
     have y7 := HX.out.cell 7 _ rfl
     have y8 := HX.out.cell 8 _ rfl
     have y9 := HX.out.cell 9 _ rfl
     have e2 : o2 = ⟨mss, scale, sack, L, false, val, echo⟩ := by rw [← HO2.out, HLB.out]; rfl
     have HE := Lib.hid e2
     clear e2
     go_wp2_with fail
     obtain ⟨W5, hW5, hC5, hA5, hb5⟩ := put1 HC.out (.slice A0 L.length c0)
     rw [hW5]
     clear hW5
     have C5 := Lib.hid hC5
     have D5 := Lib.hid (HD.out.apart (by omega) hA5)
     have R5 := Lib.hid ((OwnB.row HO.out rfl).apart w.heap.size (fun b hb => by omega) hA5)
     have B5 := Lib.hid (HB.out.trans hb5)
     clear hC5 hA5 hb5 m0 mf0 m1 mf1 m2 mf2 m3 mf3 m4 mf4 m5 mf5 m6 mf6 m7 mf7 m8 mf8 m9 mf9 m10 mf10 m11 mf11 m12 mf12 m13 mf13 m14 mf14 m15 mf15 y0 y1 y2 y3 y4 y5 y6 y7 y8 y9
     refine (HWN.out W5).mono ?_
     rintro e w5 ⟨rfl, rfl⟩
     have m0 := C5.out.cell 0 _ rfl
     have mf0 := C5.out.free 0 (by simp)
     have m1 := C5.out.cell 1 _ rfl
     have mf1 := C5.out.free 1 (by simp)
     have m2 := C5.out.cell 2 _ rfl
     have mf2 := C5.out.free 2 (by simp)
     have m3 := C5.out.cell 3 _ rfl
     have mf3 := C5.out.free 3 (by simp)
     have m4 := C5.out.cell 4 _ rfl
     have mf4 := C5.out.free 4 (by simp)
     have m5 := C5.out.cell 5 _ rfl
     have mf5 := C5.out.free 5 (by simp)
     have m6 := C5.out.cell 6 _ rfl
     have mf6 := C5.out.free 6 (by simp)
     have m7 := C5.out.cell 7 _ rfl
     have mf7 := C5.out.free 7 (by simp)
     have m8 := C5.out.cell 8 _ rfl
     have mf8 := C5.out.free 8 (by simp)
     have m9 := C5.out.cell 9 _ rfl
     have mf9 := C5.out.free 9 (by simp)
     have m10 := C5.out.cell 10 _ rfl
     have mf10 := C5.out.free 10 (by simp)
     have m11 := C5.out.cell 11 _ rfl
     have mf11 := C5.out.free 11 (by simp)
     have m12 := C5.out.cell 12 _ rfl
     have mf12 := C5.out.free 12 (by simp)
     have m13 := C5.out.cell 13 _ rfl
     have mf13 := C5.out.free 13 (by simp)
     have m14 := C5.out.cell 14 _ rfl
     have mf14 := C5.out.free 14 (by simp)
     have m15 := C5.out.cell 15 _ rfl
     have mf15 := C5.out.free 15 (by simp)
     have d0 := D5.out.cell 0 _ rfl
     have df0 := D5.out.free 0 (by simp)
     have d1 := D5.out.cell 1 _ rfl
     have df1 := D5.out.free 1 (by simp)
     have d2 := D5.out.cell 2 _ rfl
     have df2 := D5.out.free 2 (by simp)
     have d3 := D5.out.cell 3 _ rfl
     have df3 := D5.out.free 3 (by simp)
     have d4 := D5.out.cell 4 _ rfl
     have df4 := D5.out.free 4 (by simp)
     have d5 := D5.out.cell 5 _ rfl
     have df5 := D5.out.free 5 (by simp)
     have d6 := D5.out.cell 6 _ rfl
     have df6 := D5.out.free 6 (by simp)
     have d7 := D5.out.cell 7 _ rfl
     have df7 := D5.out.free 7 (by simp)
     have d8 := D5.out.cell 8 _ rfl
     have df8 := D5.out.free 8 (by simp)
     have d9 := D5.out.cell 9 _ rfl
     have df9 := D5.out.free 9 (by simp)
     have d10 := D5.out.cell 10 _ rfl
     have df10 := D5.out.free 10 (by simp)
     have d11 := D5.out.cell 11 _ rfl
     have df11 := D5.out.free 11 (by simp)
     have d12 := D5.out.cell 12 _ rfl
     have df12 := D5.out.free 12 (by simp)
     have d13 := D5.out.cell 13 _ rfl
     have df13 := D5.out.free 13 (by simp)
     have d14 := D5.out.cell 14 _ rfl
     have df14 := D5.out.free 14 (by simp)
     have d15 := D5.out.cell 15 _ rfl
     have df15 := D5.out.free 15 (by simp)
     go_wp2_with fail
     have O8 := D5.out.other w.heap.size 7 (.int .u16 (nw : Int)) (by omega)
     have HAp := (Apart.refl w.heap.size W5).put 7 (.int .u16 (nw : Int))
     obtain ⟨W9, hW9, hC9, hA9, hb9⟩ := anew16 O8 rfl (.int .u32 (x.sip : Int)) (.int .u16 (x.sport : Int)) (.int .u32 (x.dip : Int)) (.int .u16 (x.dport : Int)) (.int .u32 (q : Int)) (.int .u32 (ack : Int)) (.int .u8 (flags : Int)) (.int .u16 (nw : Int)) (.int .u16 (mss : Int)) (.int .i64 scale) (.bool sack) (.slice A0 L.length c0) (.bool false) (.int .u32 (val : Int)) (.int .u32 (echo : Int)) (.string data)
     rw [hW9]
     clear m0 mf0 d0 df0 m1 mf1 d1 df1 m2 mf2 d2 df2 m3 mf3 d3 df3 m4 mf4 d4 df4 m5 mf5 d5 df5 m6 mf6 d6 df6 m7 mf7 d7 df7 m8 mf8 d8 df8 m9 mf9 d9 df9 m10 mf10 d10 df10 m11 mf11 d11 df11 m12 mf12 d12 df12 m13 mf13 d13 df13 m14 mf14 d14 df14 m15 mf15 d15 df15
     have e0 := hC9.cell 0 _ rfl
     have e1 := hC9.cell 1 _ rfl
     have e2 := hC9.cell 2 _ rfl
     have e3 := hC9.cell 3 _ rfl
     have e4 := hC9.cell 4 _ rfl
     have e5 := hC9.cell 5 _ rfl
     have e6 := hC9.cell 6 _ rfl
     have e7 := hC9.cell 7 _ rfl
     have e8 := hC9.cell 8 _ rfl
     have e9 := hC9.cell 9 _ rfl
     have e10 := hC9.cell 10 _ rfl
     have e11 := hC9.cell 11 _ rfl
     have e12 := hC9.cell 12 _ rfl
     have e13 := hC9.cell 13 _ rfl
     have e14 := hC9.cell 14 _ rfl
     have e15 := hC9.cell 15 _ rfl
     have R9 := Lib.hid (((R5.out.apart w.heap.size (fun b h2 => by omega) HAp).apart (w.heap.size + 1 + 1) (fun b h2 => by omega) hA9).blk)
     have B9 := Lib.hid ((B5.out.setCell (Nat.le_refl w.heap.size) (p := ⟨w.heap.size, 7, none⟩) (.int .u16 (nw : Int))).trans (hb9.mono (by omega)))
     rw [HV.out, HE.out]
     refine bodyPost_ret (v := sv ⟨x.sip, x.sport, x.dip, x.dport, q, ack, flags, nw, ⟨mss, scale, sack, L, false, val, echo⟩, data⟩ A0 c0) ?_ rfl ⟨⟨A0, c0, rfl, R9.out⟩, B9.out⟩
     simp [results, Tryz.f10, go_sem, e0, e1, e2, e3, e4, e5, e6, e7, e8, e9, e10, e11, e12, e13, e14, e15]
set_option maxHeartbeats 16000000 in
theorem tdR_nt (s : Sg) (A : Option Addr) (c : Nat) (x : Sh) (w : World) (hbk : BlkR w A s.opts.blocks) (k : s.ok) (hl : s.opts.blocks.length ≤ 1000) (xk : x.ok)
   (u1 : -9223372036854775808 ≤ x.up) (u2 : x.up ≤ 9223372036854775807) (d1 : -9223372036854775808 ≤ x.down) (d2 : x.down ≤ 9223372036854775807) (hf : ¬ s.flags / 16 % 2 = 1) (ht : s.opts.time = true) :
   Calls Tryz.prog 10 #[sv s A c, xv x] w fun r w' => (∃ A' c', r = .returned (sv (turned s x) A' c') ∧ BlkR w' A' (turned s x).opts.blocks) ∧ Below w.heap.size w w' := by
 obtain ⟨sip, sport, dip, dport, seq, ack, flags, win, ⟨mss, scale, sack, blocks, time, val, echo⟩, data⟩ := s
 have kf := k.flags
 have kw := k.win
 have ks := k.seq
 have ka := k.ack
 have kb := k.opts.blocks
 have kv := k.opts.val
 have ke := k.opts.echo
 have xs := xk.seq
 have xa := xk.ack
 have xvl := xk.val
 have xe := xk.echo
 simp only at kf kw ks ka kb kv ke hl hbk hf ht
 subst ht
 have HWN := Lib.hid (fun W => windowR win x.up x.down W kw u1 u2 d1 d2)
 obtain ⟨q, hq⟩ : ∃ q, (seq + x.seq) % 4294967296 = q := ⟨_, rfl⟩
 obtain ⟨nw, hn⟩ : ∃ n, winT win x.up x.down = n := ⟨_, rfl⟩
 obtain ⟨o2, ho2⟩ : ∃ o2, turnedO x.ack x.val x.echo ⟨mss, scale, sack, blocks, true, val, echo⟩ = o2 := ⟨_, rfl⟩
 rw [hn] at HWN
 have wq : IntKind.u32.wrap ((seq : Int) + (x.seq : Int)) = (q : Int) := by rw [IntKind.wrap_u32]; omega
 have wq2 : ((seq : Int) + (x.seq : Int)) % 4294967296 = (q : Int) := by omega
 have a16 : bits .and .u8 (flags : Int) 16 = ((flags / 16 % 2 * 16 : Nat) : Int) := and16 ⟨flags, by omega⟩
 have f1 : (((flags / 16 % 2 * 16 : Nat) : Int) != 0) = false := by
   have : flags / 16 % 2 = 0 := by omega
   rw [this]
   rfl
 have f2 : ((flags : Int) / 16 % 2 * 16 != 0) = false := by
   have : (flags : Int) / 16 % 2 * 16 = 0 := by omega
   rw [this]
   rfl
 have HV : Hid (turned ⟨sip, sport, dip, dport, seq, ack, flags, win, ⟨mss, scale, sack, blocks, true, val, echo⟩, data⟩ x = ⟨x.sip, x.sport, x.dip, x.dport, q, ack, flags, nw, o2, data⟩) := Lib.hid (by
   unfold turned ackT
   simp only
   rw [hq, hn, ho2, if_neg hf])
 have HO2 := Lib.hid ho2
 have HKB := Lib.hid kb
 have HBK := Lib.hid hbk
 clear hq hn ho2 hf kb hbk k
 have C0 := ((CellsAt.new w (sc ⟨sip, sport, dip, dport, seq, ack, flags, win, ⟨mss, scale, sack, blocks, true, val, echo⟩, data⟩ A c) 30).later ((Below.refl _ (w.alloc (.cells (sc ⟨sip, sport, dip, dport, seq, ack, flags, win, ⟨mss, scale, sack, blocks, true, val, echo⟩, data⟩ A c) 30))).alloc (Nat.le_refl _) (.cells (xc x) 32))).later ((Below.refl _ ((w.alloc (.cells (sc ⟨sip, sport, dip, dport, seq, ack, flags, win, ⟨mss, scale, sack, blocks, true, val, echo⟩, data⟩ A c) 30)).alloc (.cells (xc x) 32))).alloc (Nat.le_refl _) (.cells #[.int .u32 0, .int .u16 0, .int .u32 0, .int .u16 0, .int .u32 0, .int .u32 0, .int .u8 0, .int .u16 0, .int .u16 0, .int .i64 0, .bool false, .slice none 0 0, .bool false, .int .u32 0, .int .u32 0, .string ⟨#[]⟩] 30))
 have X0 := (CellsAt.new (w.alloc (.cells (sc ⟨sip, sport, dip, dport, seq, ack, flags, win, ⟨mss, scale, sack, blocks, true, val, echo⟩, data⟩ A c) 30)) (xc x) 32).later ((Below.refl _ ((w.alloc (.cells (sc ⟨sip, sport, dip, dport, seq, ack, flags, win, ⟨mss, scale, sack, blocks, true, val, echo⟩, data⟩ A c) 30)).alloc (.cells (xc x) 32))).alloc (Nat.le_refl _) (.cells #[.int .u32 0, .int .u16 0, .int .u32 0, .int .u16 0, .int .u32 0, .int .u32 0, .int .u8 0, .int .u16 0, .int .u16 0, .int .i64 0, .bool false, .slice none 0 0, .bool false, .int .u32 0, .int .u32 0, .string ⟨#[]⟩] 30))
 have D0 := CellsAt.new ((w.alloc (.cells (sc ⟨sip, sport, dip, dport, seq, ack, flags, win, ⟨mss, scale, sack, blocks, true, val, echo⟩, data⟩ A c) 30)).alloc (.cells (xc x) 32)) #[.int .u32 0, .int .u16 0, .int .u32 0, .int .u16 0, .int .u32 0, .int .u32 0, .int .u8 0, .int .u16 0, .int .u16 0, .int .i64 0, .bool false, .slice none 0 0, .bool false, .int .u32 0, .int .u32 0, .string ⟨#[]⟩] 30
 simp only [World.size_alloc] at X0 D0
 have B0 := st_alloc (st_alloc (st_alloc (Below.refl _ w) (.cells (sc ⟨sip, sport, dip, dport, seq, ack, flags, win, ⟨mss, scale, sack, blocks, true, val, echo⟩, data⟩ A c) 30)) (.cells (xc x) 32)) (.cells #[.int .u32 0, .int .u16 0, .int .u32 0, .int .u16 0, .int .u32 0, .int .u32 0, .int .u8 0, .int .u16 0, .int .u16 0, .int .i64 0, .bool false, .slice none 0 0, .bool false, .int .u32 0, .int .u32 0, .string ⟨#[]⟩] 30)
 have hsz : (((w.alloc (.cells (sc ⟨sip, sport, dip, dport, seq, ack, flags, win, ⟨mss, scale, sack, blocks, true, val, echo⟩, data⟩ A c) 30)).alloc (.cells (xc x) 32)).alloc (.cells #[.int .u32 0, .int .u16 0, .int .u32 0, .int .u16 0, .int .u32 0, .int .u32 0, .int .u8 0, .int .u16 0, .int .u16 0, .int .i64 0, .bool false, .slice none 0 0, .bool false, .int .u32 0, .int .u32 0, .string ⟨#[]⟩] 30)).heap.size = w.heap.size + 3 := by simp
 go_enter Tryz.func10, Tryz.ntmps10
 go_upto_region 1 with fail
 obtain ⟨W3, hW3⟩ : ∃ W3, (((w.alloc (.cells (sc ⟨sip, sport, dip, dport, seq, ack, flags, win, ⟨mss, scale, sack, blocks, true, val, echo⟩, data⟩ A c) 30)).alloc (.cells (xc x) 32)).alloc (.cells #[.int .u32 0, .int .u16 0, .int .u32 0, .int .u16 0, .int .u32 0, .int .u32 0, .int .u8 0, .int .u16 0, .int .u16 0, .int .i64 0, .bool false, .slice none 0 0, .bool false, .int .u32 0, .int .u32 0, .string ⟨#[]⟩] 30)) = W3 := ⟨_, rfl⟩
 rw [hW3] at C0 X0 D0 B0 hsz ⊢
 have HC0 := Lib.hid C0
 have HX0 := Lib.hid X0
 have HD0 := Lib.hid D0
 have HB0 := Lib.hid B0
 have HZ := Lib.hid hsz
 clear hW3 C0 X0 D0 B0 hsz
 have c0 := HC0.out.cell 0 _ rfl
 have cf0 := HC0.out.free 0 (by simp)
 have c1 := HC0.out.cell 1 _ rfl
 have cf1 := HC0.out.free 1 (by simp)
 have c2 := HC0.out.cell 2 _ rfl
 have cf2 := HC0.out.free 2 (by simp)
 have c3 := HC0.out.cell 3 _ rfl
 have cf3 := HC0.out.free 3 (by simp)
 have c4 := HC0.out.cell 4 _ rfl
 have cf4 := HC0.out.free 4 (by simp)
 have c5 := HC0.out.cell 5 _ rfl
 have cf5 := HC0.out.free 5 (by simp)
 have c6 := HC0.out.cell 6 _ rfl
 have cf6 := HC0.out.free 6 (by simp)
 have c7 := HC0.out.cell 7 _ rfl
 have cf7 := HC0.out.free 7 (by simp)
 have c8 := HC0.out.cell 8 _ rfl
 have cf8 := HC0.out.free 8 (by simp)
 have c9 := HC0.out.cell 9 _ rfl
 have cf9 := HC0.out.free 9 (by simp)
 have c10 := HC0.out.cell 10 _ rfl
 have cf10 := HC0.out.free 10 (by simp)
 have c11 := HC0.out.cell 11 _ rfl
 have cf11 := HC0.out.free 11 (by simp)
 have y0 := HX0.out.cell 0 _ rfl
 have y1 := HX0.out.cell 1 _ rfl
 have y2 := HX0.out.cell 2 _ rfl
 have y3 := HX0.out.cell 3 _ rfl
 have y4 := HX0.out.cell 4 _ rfl
 have y5 := HX0.out.cell 5 _ rfl
 have y6 := HX0.out.cell 6 _ rfl
 have y7 := HX0.out.cell 7 _ rfl
 go_wp2_with fail
 obtain ⟨W4, hW4, hC4, hA4, hb4⟩ := putAddrs HC0.out (.int .u32 (x.sip : Int)) (.int .u16 (x.sport : Int)) (.int .u32 (x.dip : Int)) (.int .u16 (x.dport : Int))
 rw [hW4]
 obtain ⟨W5, hW5, hC5, hA5, hb5⟩ := putSeq hC4 (.int .u32 (q : Int))
 rw [hW5]
 have C0 := Lib.hid hC5
 have X0 := Lib.hid ((HX0.out.apart (by omega) hA4).apart (by omega) hA5)
 have D0 := Lib.hid ((HD0.out.apart (by omega) hA4).apart (by omega) hA5)
 have B0 := Lib.hid (HB0.out.trans (hb4.trans hb5))
 clear hW4 hC4 hA4 hb4 hW5 hC5 hA5 hb5 HC0 HX0 HD0 HB0 HZ c0 cf0 c1 cf1 c2 cf2 c3 cf3 c4 cf4 c5 cf5 c6 cf6 c7 cf7 c8 cf8 c9 cf9 c10 cf10 c11 cf11 y0 y1 y2 y3 y4 y5 y6 y7
 go_loopw [5, 6] (fun lv i wr => ∃ (j : Nat) (A0 : Option Addr) (c0 : Nat) (L : List (Nat × Nat)), i = .int .i64 (j : Int) ∧ j ≤ blocks.length ∧ lv = .slice A0 L.length c0 ∧ L = shiftB x.ack (blocks.take j) ∧ CellsAt wr w.heap.size #[.int .u32 (x.sip : Int), .int .u16 (x.sport : Int), .int .u32 (x.dip : Int), .int .u16 (x.dport : Int), .int .u32 (q : Int), .int .u32 (ack : Int), .int .u8 (flags : Int), .int .u16 (win : Int), .int .u16 (mss : Int), .int .i64 scale, .bool sack, .slice A blocks.length c, .bool true, .int .u32 (val : Int), .int .u32 (echo : Int), .string data] ∧ CellsAt wr (w.heap.size + 1) (xc x) ∧ CellsAt wr (w.heap.size + 1 + 1) #[.int .u32 0, .int .u16 0, .int .u32 0, .int .u16 0, .int .u32 0, .int .u32 0, .int .u8 0, .int .u16 0, .int .u16 0, .int .i64 0, .bool false, .slice none 0 0, .bool false, .int .u32 0, .int .u32 0, .string ⟨#[]⟩] ∧ OwnB wr (w.heap.size + 3) (.slice A0 L.length c0) L ∧ Below w.heap.size w wr) (fun _ i _ => blocks.length - (intOf i).toNat)
 case atStart => exact ⟨0, none, 0, [], rfl, by omega, rfl, rfl, C0.out, X0.out, D0.out, ownB_nil _ _, B0.out⟩
 case round =>
   clear C0 X0 D0 B0
   obtain ⟨j, A0, c0, L, rfl, hj, rfl, hL, hC, hX, hD, hO, hB⟩ := hrel
   have HL := Lib.hid hL
   have hLl : L.length = min j blocks.length := by rw [hL]; unfold shiftB; rw [List.length_map, List.length_take]
   have HC := Lib.hid hC
   have HX := Lib.hid hX
   have HD := Lib.hid hD
   have HO := Lib.hid hO
   have HB := Lib.hid hB
   have hd1 := hD.lt
   clear hL hC hD hO hB hX
   by_cases hlt : j < blocks.length
   · have HLT := Lib.hid hlt
     have hli : (j : Int) < (blocks.length : Int) := by omega
     obtain ⟨g, off, rfl, hg, hgc⟩ := HBK.out (show 0 < blocks.length by omega)
     obtain ⟨⟨f, t⟩, hft⟩ : ∃ p, blocks[j]? = some p := ⟨_, List.getElem?_eq_getElem hlt⟩
     obtain ⟨d0, d1⟩ := hgc j (f, t) hft
     simp only at d0 d1
     have HE0 := Lib.hid (fun W (hb2 : Below wr.heap.size wr W) => (hb2.cell (p := ⟨g, off + j * 2, none⟩) (show g < _ from Nat.lt_of_lt_of_le hg HB.out.size)).trans ((HB.out.cell (p := ⟨g, off + j * 2, none⟩) hg).trans d0))
     have HE1 := Lib.hid (fun W (hb2 : Below wr.heap.size wr W) => (hb2.cell (p := ⟨g, off + j * 2 + 1, none⟩) (show g < _ from Nat.lt_of_lt_of_le hg HB.out.size)).trans ((HB.out.cell (p := ⟨g, off + j * 2 + 1, none⟩) hg).trans d1))
     obtain ⟨hf, ht⟩ := HKB.out (f, t) (List.mem_of_getElem? hft)
     simp only at hf ht
     obtain ⟨fx, hfx⟩ : ∃ y, (f + x.ack) % 4294967296 = y := ⟨_, rfl⟩
     obtain ⟨tx, htx⟩ : ∃ y, (t + x.ack) % 4294967296 = y := ⟨_, rfl⟩
     have hsn : shiftB x.ack (blocks.take (j + 1)) = shiftB x.ack (blocks.take j) ++ [(fx, tx)] := by
       unfold shiftB
       rw [take_snocG hft, List.map_append]
       simp only [List.map_cons, List.map_nil, hfx, htx]
     have HSN := Lib.hid hsn
     have wf : IntKind.u32.wrap ((f : Int) + (x.ack : Int)) = (fx : Int) := by rw [IntKind.wrap_u32]; omega
     have wt : IntKind.u32.wrap ((t : Int) + (x.ack : Int)) = (tx : Int) := by rw [IntKind.wrap_u32]; omega
     have hL4 : L.length ≤ 1000 := by omega
     clear d0 d1 hgc hft hsn hfx htx hLl
     have c11 := HC.out.cell 11 _ rfl
     go_wp2_with fail
     clear c11
     refine wp_region_seeK 23 92 (relTd A0 L c0 g off blocks.length c j f t fx tx x.ack w.heap.size) rfl (by kernel_rfl) (by kernel_rfl) (by kernel_rfl) (by kernel_rfl) (relTd_more A0 L c0 g off blocks.length c j f t fx tx x.ack w.heap.size) ?_ ?_
     · intro i hi
       have hi2 : i < 23 := by simpa using hi
       clear hi
       match i, hi2 with
       | 0, _ =>
         intro ρ W hb hc hg hf h0 hd
         have t5 := h0 5 (by kernel_rfl)
         clear hd h0
         go_simp
         exact ⟨rfl, Below.refl _ _⟩
       | 1, _ =>
         intro ρ W hb hc hg hf h0 hd
         have t2 := h0 2 (by kernel_rfl)
         clear hd h0
         go_simp
         exact ⟨rfl, Below.refl _ _⟩
       | 2, _ =>
         intro ρ W hb hc hg hf h0 hd
         have d1 : ρ (.tmp 38) = .pointer (some ⟨w.heap.size, 8, none⟩) := hd 1 38 (by kernel_rfl) (by kernel_rfl)
         clear hd h0
         go_simp
         exact ⟨rfl, Below.refl _ _⟩
       | 3, _ =>
         intro ρ W hb hc hg hf h0 hd
         have d2 : ρ (.tmp 39) = .pointer (some ⟨w.heap.size, 11, none⟩) := hd 2 39 (by kernel_rfl) (by kernel_rfl)
         have c11 := (HC.out.later hb).cell 11 _ rfl
         clear hd h0
         go_simp
         exact ⟨rfl, Below.refl _ _⟩
       | 4, _ =>
         intro ρ W hb hc hg hf h0 hd
         have t6 := h0 6 (by kernel_rfl)
         clear hd h0
         go_simp
         exact ⟨rfl, Below.refl _ _⟩
       | 5, _ =>
         intro ρ W hb hc hg hf h0 hd
         have d3 : ρ (.tmp 40) = .slice (some ⟨g, off, none⟩) blocks.length c := hd 3 40 (by kernel_rfl) (by kernel_rfl)
         have d4 : ρ (.tmp 41) = .int .i64 (j : Int) := hd 4 41 (by kernel_rfl) (by kernel_rfl)
         clear hd h0
         go_simp
         exact ⟨rfl, Below.refl _ _⟩
       | 6, _ =>
         intro ρ W hb hc hg hf h0 hd
         have d5 : ρ (.tmp 42) = .pointer (some ⟨g, off + j * 2, none⟩) := hd 5 42 (by kernel_rfl) (by kernel_rfl)
         clear hd h0
         go_simp
         exact ⟨rfl, Below.refl _ _⟩
       | 7, _ =>
         intro ρ W hb hc hg hf h0 hd
         have d6 : ρ (.tmp 43) = .pointer (some ⟨g, off + j * 2, none⟩) := hd 6 43 (by kernel_rfl) (by kernel_rfl)
         have e0 := HE0.out W hb
         clear hd h0
         go_simp
         exact ⟨rfl, Below.refl _ _⟩
       | 8, _ =>
         intro ρ W hb hc hg hf h0 hd
         have t3 := h0 3 (by kernel_rfl)
         clear hd h0
         go_simp
         exact ⟨rfl, Below.refl _ _⟩
       | 9, _ =>
         intro ρ W hb hc hg hf h0 hd
         have d8 : ρ (.tmp 45) = .pointer (some ⟨w.heap.size + 1, 5, none⟩) := hd 8 45 (by kernel_rfl) (by kernel_rfl)
         have y5 := (HX.out.later hb).cell 5 _ rfl
         clear hd h0
         go_simp
         exact ⟨rfl, Below.refl _ _⟩
       | 10, _ =>
         intro ρ W hb hc hg hf h0 hd
         have d7 : ρ (.tmp 44) = .int .u32 (f : Int) := hd 7 44 (by kernel_rfl) (by kernel_rfl)
         have d9 : ρ (.tmp 46) = .int .u32 (x.ack : Int) := hd 9 46 (by kernel_rfl) (by kernel_rfl)
         clear hd h0
         go_simp
         exact ⟨rfl, Below.refl _ _⟩
       | 11, _ =>
         intro ρ W hb hc hg hf h0 hd
         have t2 := h0 2 (by kernel_rfl)
         clear hd h0
         go_simp
         exact ⟨rfl, Below.refl _ _⟩
       | 12, _ =>
         intro ρ W hb hc hg hf h0 hd
         have d11 : ρ (.tmp 48) = .pointer (some ⟨w.heap.size, 8, none⟩) := hd 11 48 (by kernel_rfl) (by kernel_rfl)
         clear hd h0
         go_simp
         exact ⟨rfl, Below.refl _ _⟩
       | 13, _ =>
         intro ρ W hb hc hg hf h0 hd
         have d12 : ρ (.tmp 49) = .pointer (some ⟨w.heap.size, 11, none⟩) := hd 12 49 (by kernel_rfl) (by kernel_rfl)
         have c11 := (HC.out.later hb).cell 11 _ rfl
         clear hd h0
         go_simp
         exact ⟨rfl, Below.refl _ _⟩
       | 14, _ =>
         intro ρ W hb hc hg hf h0 hd
         have t6 := h0 6 (by kernel_rfl)
         clear hd h0
         go_simp
         exact ⟨rfl, Below.refl _ _⟩
       | 15, _ =>
         intro ρ W hb hc hg hf h0 hd
         have d13 : ρ (.tmp 50) = .slice (some ⟨g, off, none⟩) blocks.length c := hd 13 50 (by kernel_rfl) (by kernel_rfl)
         have d14 : ρ (.tmp 51) = .int .i64 (j : Int) := hd 14 51 (by kernel_rfl) (by kernel_rfl)
         clear hd h0
         go_simp
         exact ⟨rfl, Below.refl _ _⟩
       | 16, _ =>
         intro ρ W hb hc hg hf h0 hd
         have d15 : ρ (.tmp 52) = .pointer (some ⟨g, off + j * 2, none⟩) := hd 15 52 (by kernel_rfl) (by kernel_rfl)
         clear hd h0
         go_simp
         exact ⟨rfl, Below.refl _ _⟩
       | 17, _ =>
         intro ρ W hb hc hg hf h0 hd
         have d16 : ρ (.tmp 53) = .pointer (some ⟨g, off + j * 2 + 1, none⟩) := hd 16 53 (by kernel_rfl) (by kernel_rfl)
         have e1 := HE1.out W hb
         clear hd h0
         go_simp
         exact ⟨rfl, Below.refl _ _⟩
       | 18, _ =>
         intro ρ W hb hc hg hf h0 hd
         have t3 := h0 3 (by kernel_rfl)
         clear hd h0
         go_simp
         exact ⟨rfl, Below.refl _ _⟩
       | 19, _ =>
         intro ρ W hb hc hg hf h0 hd
         have d18 : ρ (.tmp 55) = .pointer (some ⟨w.heap.size + 1, 5, none⟩) := hd 18 55 (by kernel_rfl) (by kernel_rfl)
         have y5 := (HX.out.later hb).cell 5 _ rfl
         clear hd h0
         go_simp
         exact ⟨rfl, Below.refl _ _⟩
       | 20, _ =>
         intro ρ W hb hc hg hf h0 hd
         have d17 : ρ (.tmp 54) = .int .u32 (t : Int) := hd 17 54 (by kernel_rfl) (by kernel_rfl)
         have d19 : ρ (.tmp 56) = .int .u32 (x.ack : Int) := hd 19 56 (by kernel_rfl) (by kernel_rfl)
         clear hd h0
         go_simp
         exact ⟨rfl, Below.refl _ _⟩
       | 21, _ =>
         intro ρ W hb hc hg hf h0 hd
         have d10 : ρ (.tmp 47) = .int .u32 (fx : Int) := hd 10 47 (by kernel_rfl) (by kernel_rfl)
         have d20 : ρ (.tmp 57) = .int .u32 (tx : Int) := hd 20 57 (by kernel_rfl) (by kernel_rfl)
         clear hd h0
         go_simp
         exact ⟨rfl, Below.refl _ _⟩
       | 22, _ =>
         intro ρ W hb hc hg hf h0 hd
         have d21 : ρ (.tmp 58) = .agg #[.int .u32 (fx : Int), .int .u32 (tx : Int)] := hd 21 58 (by kernel_rfl) (by kernel_rfl)
         clear hd h0
         go_simp
         exact ⟨⟨_, rfl, box_new _ _⟩, st_alloc (Below.refl _ _) _⟩
       | i + 23, hlt => exact absurd hlt (by omega)
     · intro vs W hb hall
       have h0 : vs 0 = .slice A0 L.length c0 := hall 0 (by omega)
       obtain ⟨B, h22, hblk⟩ : ∃ B, vs 22 = .slice (some ⟨B, 0, none⟩) 1 1 ∧ W.heap[B]? = some (.cells #[.int .u32 (fx : Int), .int .u32 (tx : Int)] 74 (0, 0)) := hall 22 (by omega)
       clear hall
       rw [lexA_slots vs 23 [(some 37, 0), (some 38, 1), (some 39, 2), (some 40, 3), (some 41, 4), (some 42, 5), (some 43, 6), (some 44, 7), (some 45, 8), (some 46, 9), (some 47, 10), (some 48, 11), (some 49, 12), (some 50, 13), (some 51, 14), (some 52, 15), (some 53, 16), (some 54, 17), (some 55, 18), (some 56, 19), (some 57, 20), (some 58, 21), (some 59, 22)] (by kernel_rfl)]
       simp only [List.foldl_cons, List.foldl_nil, h0, h22]
       show wpList _ _ _ [_, _] _ _
       simp only [put_lit, List.set_cons_succ, List.set_cons_zero]
       have C1 := HC.out.later hb
       have X1 := HX.out.later hb
       have D1 := HD.out.later hb
       have O1 := HO.out.stays hb
       have B1 := st_call HB.out hb
       have hsz := D1.lt
       refine app_blk W rfl _ _ rfl (w.heap.size + 3) _ L rfl O1 fx tx B rfl hblk (by omega) (by omega) ?_
       intro A' c' w' hO' hB'
       have C2 := Lib.hid (C1.more (by omega) hB')
       have X2 := Lib.hid (X1.more (by omega) hB')
       have D2 := Lib.hid (D1.more (by omega) hB')
       have O2 := Lib.hid hO'
       have B2 := Lib.hid (B1.trans (hB'.mono (by omega)))
       clear C1 X1 D1 O1 B1 hO' hB' hblk h0 h22 hb
       go_wp2_with fail
       go_roundw
       case rel => exact ⟨j + 1, A', c', L ++ [(fx, tx)], by go_num, HLT.out, by rw [List.length_append]; rfl, by rw [HSN.out, HL.out], C2.out, X2.out, D2.out, by rw [List.length_append]; exact O2.out, B2.out⟩
       case measure => have := HLT.out; simp [intOf]; omega
   · obtain rfl : j = blocks.length := by omega
     have hli : ¬ ((blocks.length : Nat) : Int) < (blocks.length : Int) := by omega
     have hLL : L = shiftB x.ack blocks := by rw [HL.out, List.take_of_length_le (Nat.le_refl _)]
     have HLB := Lib.hid hLL
     clear hLL hLl
     have m0 := HC.out.cell 0 _ rfl
     have mf0 := HC.out.free 0 (by simp)
     have m1 := HC.out.cell 1 _ rfl
     have mf1 := HC.out.free 1 (by simp)
     have m2 := HC.out.cell 2 _ rfl
     have mf2 := HC.out.free 2 (by simp)
     have m3 := HC.out.cell 3 _ rfl
     have mf3 := HC.out.free 3 (by simp)
     have m4 := HC.out.cell 4 _ rfl
     have mf4 := HC.out.free 4 (by simp)
     have m5 := HC.out.cell 5 _ rfl
     have mf5 := HC.out.free 5 (by simp)
     have m6 := HC.out.cell 6 _ rfl
     have mf6 := HC.out.free 6 (by simp)
     have m7 := HC.out.cell 7 _ rfl
     have mf7 := HC.out.free 7 (by simp)
     have m8 := HC.out.cell 8 _ rfl
     have mf8 := HC.out.free 8 (by simp)
     have m9 := HC.out.cell 9 _ rfl
     have mf9 := HC.out.free 9 (by simp)
     have m10 := HC.out.cell 10 _ rfl
     have mf10 := HC.out.free 10 (by simp)
     have m11 := HC.out.cell 11 _ rfl
     have mf11 := HC.out.free 11 (by simp)
     have m12 := HC.out.cell 12 _ rfl
     have mf12 := HC.out.free 12 (by simp)
     have m13 := HC.out.cell 13 _ rfl
     have mf13 := HC.out.free 13 (by simp)
     have m14 := HC.out.cell 14 _ rfl
     have mf14 := HC.out.free 14 (by simp)
     have m15 := HC.out.cell 15 _ rfl
     have mf15 := HC.out.free 15 (by simp)
     have y0 := HX.out.cell 0 _ rfl
     have y1 := HX.out.cell 1 _ rfl
     have y2 := HX.out.cell 2 _ rfl
     have y3 := HX.out.cell 3 _ rfl
     have y4 := HX.out.cell 4 _ rfl
     have y5 := HX.out.cell 5 _ rfl
     have y6 := HX.out.cell 6 _ rfl
     have y7 := HX.out.cell 7 _ rfl
     have y8 := HX.out.cell 8 _ rfl
     have y9 := HX.out.cell 9 _ rfl
     obtain ⟨vx, hvx⟩ : ∃ y, (val + x.val) % 4294967296 = y := ⟨_, rfl⟩
     obtain ⟨ex, hex⟩ : ∃ y, (echo + x.echo) % 4294967296 = y := ⟨_, rfl⟩
     have wv : IntKind.u32.wrap ((val : Int) + (x.val : Int)) = (vx : Int) := by rw [IntKind.wrap_u32]; omega
     have we : IntKind.u32.wrap ((echo : Int) + (x.echo : Int)) = (ex : Int) := by rw [IntKind.wrap_u32]; omega
     have wv2 : ((val : Int) + (x.val : Int)) % 4294967296 = (vx : Int) := by omega
     have we2 : ((echo : Int) + (x.echo : Int)) % 4294967296 = (ex : Int) := by omega
     have e2 : o2 = ⟨mss, scale, sack, L, true, vx, ex⟩ := by rw [← HO2.out, HLB.out]; unfold turnedO shiftB; simp only [if_true]; rw [hvx, hex]
     have HE := Lib.hid e2
     clear e2
     go_wp2_with fail
     obtain ⟨W5, hW5, hC5, hA5, hb5⟩ := put3 HC.out (.slice A0 L.length c0) (.int .u32 (vx : Int)) (.int .u32 (ex : Int))
     rw [hW5]
     clear hW5
     have C5 := Lib.hid hC5
     have D5 := Lib.hid (HD.out.apart (by omega) hA5)
     have R5 := Lib.hid ((OwnB.row HO.out rfl).apart w.heap.size (fun b hb => by omega) hA5)
     have B5 := Lib.hid (HB.out.trans hb5)
     clear hC5 hA5 hb5 m0 mf0 m1 mf1 m2 mf2 m3 mf3 m4 mf4 m5 mf5 m6 mf6 m7 mf7 m8 mf8 m9 mf9 m10 mf10 m11 mf11 m12 mf12 m13 mf13 m14 mf14 m15 mf15 y0 y1 y2 y3 y4 y5 y6 y7 y8 y9
     refine (HWN.out W5).mono ?_
     rintro e w5 ⟨rfl, rfl⟩
     have m0 := C5.out.cell 0 _ rfl
     have mf0 := C5.out.free 0 (by simp)
     have m1 := C5.out.cell 1 _ rfl
     have mf1 := C5.out.free 1 (by simp)
     have m2 := C5.out.cell 2 _ rfl
     have mf2 := C5.out.free 2 (by simp)
     have m3 := C5.out.cell 3 _ rfl
     have mf3 := C5.out.free 3 (by simp)
     have m4 := C5.out.cell 4 _ rfl
     have mf4 := C5.out.free 4 (by simp)
     have m5 := C5.out.cell 5 _ rfl
     have mf5 := C5.out.free 5 (by simp)
     have m6 := C5.out.cell 6 _ rfl
     have mf6 := C5.out.free 6 (by simp)
     have m7 := C5.out.cell 7 _ rfl
     have mf7 := C5.out.free 7 (by simp)
     have m8 := C5.out.cell 8 _ rfl
     have mf8 := C5.out.free 8 (by simp)
     have m9 := C5.out.cell 9 _ rfl
     have mf9 := C5.out.free 9 (by simp)
     have m10 := C5.out.cell 10 _ rfl
     have mf10 := C5.out.free 10 (by simp)
     have m11 := C5.out.cell 11 _ rfl
     have mf11 := C5.out.free 11 (by simp)
     have m12 := C5.out.cell 12 _ rfl
     have mf12 := C5.out.free 12 (by simp)
     have m13 := C5.out.cell 13 _ rfl
     have mf13 := C5.out.free 13 (by simp)
     have m14 := C5.out.cell 14 _ rfl
     have mf14 := C5.out.free 14 (by simp)
     have m15 := C5.out.cell 15 _ rfl
     have mf15 := C5.out.free 15 (by simp)
     have d0 := D5.out.cell 0 _ rfl
     have df0 := D5.out.free 0 (by simp)
     have d1 := D5.out.cell 1 _ rfl
     have df1 := D5.out.free 1 (by simp)
     have d2 := D5.out.cell 2 _ rfl
     have df2 := D5.out.free 2 (by simp)
     have d3 := D5.out.cell 3 _ rfl
     have df3 := D5.out.free 3 (by simp)
     have d4 := D5.out.cell 4 _ rfl
     have df4 := D5.out.free 4 (by simp)
     have d5 := D5.out.cell 5 _ rfl
     have df5 := D5.out.free 5 (by simp)
     have d6 := D5.out.cell 6 _ rfl
     have df6 := D5.out.free 6 (by simp)
     have d7 := D5.out.cell 7 _ rfl
     have df7 := D5.out.free 7 (by simp)
     have d8 := D5.out.cell 8 _ rfl
     have df8 := D5.out.free 8 (by simp)
     have d9 := D5.out.cell 9 _ rfl
     have df9 := D5.out.free 9 (by simp)
     have d10 := D5.out.cell 10 _ rfl
     have df10 := D5.out.free 10 (by simp)
     have d11 := D5.out.cell 11 _ rfl
     have df11 := D5.out.free 11 (by simp)
     have d12 := D5.out.cell 12 _ rfl
     have df12 := D5.out.free 12 (by simp)
     have d13 := D5.out.cell 13 _ rfl
     have df13 := D5.out.free 13 (by simp)
     have d14 := D5.out.cell 14 _ rfl
     have df14 := D5.out.free 14 (by simp)
     have d15 := D5.out.cell 15 _ rfl
     have df15 := D5.out.free 15 (by simp)
     go_wp2_with fail
     have O8 := D5.out.other w.heap.size 7 (.int .u16 (nw : Int)) (by omega)
     have HAp := (Apart.refl w.heap.size W5).put 7 (.int .u16 (nw : Int))
     obtain ⟨W9, hW9, hC9, hA9, hb9⟩ := anew16 O8 rfl (.int .u32 (x.sip : Int)) (.int .u16 (x.sport : Int)) (.int .u32 (x.dip : Int)) (.int .u16 (x.dport : Int)) (.int .u32 (q : Int)) (.int .u32 (ack : Int)) (.int .u8 (flags : Int)) (.int .u16 (nw : Int)) (.int .u16 (mss : Int)) (.int .i64 scale) (.bool sack) (.slice A0 L.length c0) (.bool true) (.int .u32 (vx : Int)) (.int .u32 (ex : Int)) (.string data)
     rw [hW9]
     clear m0 mf0 d0 df0 m1 mf1 d1 df1 m2 mf2 d2 df2 m3 mf3 d3 df3 m4 mf4 d4 df4 m5 mf5 d5 df5 m6 mf6 d6 df6 m7 mf7 d7 df7 m8 mf8 d8 df8 m9 mf9 d9 df9 m10 mf10 d10 df10 m11 mf11 d11 df11 m12 mf12 d12 df12 m13 mf13 d13 df13 m14 mf14 d14 df14 m15 mf15 d15 df15
     have e0 := hC9.cell 0 _ rfl
     have e1 := hC9.cell 1 _ rfl
     have e2 := hC9.cell 2 _ rfl
     have e3 := hC9.cell 3 _ rfl
     have e4 := hC9.cell 4 _ rfl
     have e5 := hC9.cell 5 _ rfl
     have e6 := hC9.cell 6 _ rfl
     have e7 := hC9.cell 7 _ rfl
     have e8 := hC9.cell 8 _ rfl
     have e9 := hC9.cell 9 _ rfl
     have e10 := hC9.cell 10 _ rfl
     have e11 := hC9.cell 11 _ rfl
     have e12 := hC9.cell 12 _ rfl
     have e13 := hC9.cell 13 _ rfl
     have e14 := hC9.cell 14 _ rfl
     have e15 := hC9.cell 15 _ rfl
     have R9 := Lib.hid (((R5.out.apart w.heap.size (fun b h2 => by omega) HAp).apart (w.heap.size + 1 + 1) (fun b h2 => by omega) hA9).blk)
     have B9 := Lib.hid ((B5.out.setCell (Nat.le_refl w.heap.size) (p := ⟨w.heap.size, 7, none⟩) (.int .u16 (nw : Int))).trans (hb9.mono (by omega)))
     rw [HV.out, HE.out]
     refine bodyPost_ret (v := sv ⟨x.sip, x.sport, x.dip, x.dport, q, ack, flags, nw, ⟨mss, scale, sack, L, true, vx, ex⟩, data⟩ A0 c0) ?_ rfl ⟨⟨A0, c0, rfl, R9.out⟩, B9.out⟩
     simp [results, Tryz.f10, go_sem, e0, e1, e2, e3, e4, e5, e6, e7, e8, e9, e10, e11, e12, e13, e14, e15]
theorem turnedR8 (s : Sg) (A : Option Addr) (c : Nat) (x : Sh) (w : World) (hbk : BlkR w A s.opts.blocks) (k : s.ok) (hl : s.opts.blocks.length ≤ 1000) (xk : x.ok)
   (u1 : -9223372036854775808 ≤ x.up) (u2 : x.up ≤ 9223372036854775807) (d1 : -9223372036854775808 ≤ x.down) (d2 : x.down ≤ 9223372036854775807) :
   Calls Tryz.prog 10 #[sv s A c, xv x] w fun r w' => (∃ A' c', r = .returned (sv (turned s x) A' c') ∧ BlkR w' A' (turned s x).opts.blocks) ∧ Below w.heap.size w w' := by
 by_cases h : s.flags / 16 % 2 = 1
 · cases ht : s.opts.time
   · exact tdR_yf s A c x w hbk k hl xk u1 u2 d1 d2 h ht
   · exact tdR_yt s A c x w hbk k hl xk u1 u2 d1 d2 h ht
 · cases ht : s.opts.time
   · exact tdR_nf s A c x w hbk k hl xk u1 u2 d1 d2 h ht
   · exact tdR_nt s A c x w hbk k hl xk u1 u2 d1 d2 h ht
end Go.Proofs.YtpmnmnflaijaaaaGreat.PktTdR
