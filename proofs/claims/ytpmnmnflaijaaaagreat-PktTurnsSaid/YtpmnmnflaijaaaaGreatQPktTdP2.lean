/-
  Laws for a proof of package pkt: 2 texts in one.
-/
import Derived.Test.YtpmnmnflaijaaaaGreatQOptTurn10
import Derived.Test.YtpmnmnflaijaaaaGreatQPktTP4
import Derived.Test.YtpmnmnflaijaaaaGreatQPkt163
import Derived.Test.YtpmnmnflaijaaaaGreatQIpD2
import Derived.Test.YtpmnmnflaijaaaaGreatQPktTdPA1
import Derived.BigRegion
namespace Go.Proofs.YtpmnmnflaijaaaaGreat.PktTdP
open Go.Proofs.YtpmnmnflaijaaaaGreat.Own
open Go.RowKit TupMath SumMath Litb Calm Rel RelT RelK IpMath OptMath OptRef OptPlc OptSame Boxes OptTake5 OptTk PktMath PktVal PktSmall PktCom PktOp PktTP Pkt16
open Cells (CellsAt Apart put_lit)
set_option linter.unusedVariables false
set_option linter.unusedSimpArgs false
set_option maxRecDepth 100000
attribute [local go_sem] Oper.semAt_some
set_option maxHeartbeats 16000000 in
theorem turnedP8n (s : Sg) (A : Option Addr) (c : Nat) (x : Sh) (w : World) (hbk : BlkR w A s.opts.blocks) (k : s.ok) (hl : s.opts.blocks.length ≤ 1000) (hd : s.data.size ≤ 1000000) (xk : x.ok)
   (u1 : -9223372036854775808 ≤ x.up) (u2 : x.up ≤ 9223372036854775807) (d1 : -9223372036854775808 ≤ x.down) (d2 : x.down ≤ 9223372036854775807) (hf : ¬ s.flags / 16 % 2 = 1) :
   Calls Tryz.prog 9 #[sv s A c, xv x] w fun r w' => (∃ A' c', r = .returned (sv (turned s x) A' c') ∧ Row (fun b => w.heap.size ≤ b) w' A' (turned s x).opts.blocks) ∧ Below w.heap.size w w' := by
 have C0 := ((CellsAt.new w (sc s A c) 30).later ((Below.refl _ (w.alloc (.cells (sc s A c) 30))).alloc (Nat.le_refl _) (.cells (xc x) 32))).later ((Below.refl _ ((w.alloc (.cells (sc s A c) 30)).alloc (.cells (xc x) 32))).alloc (Nat.le_refl _) (.cells #[.int .u32 0, .int .u16 0, .int .u32 0, .int .u16 0, .int .u32 0, .int .u32 0, .int .u8 0, .int .u16 0, .int .u16 0, .int .i64 0, .bool false, .slice none 0 0, .bool false, .int .u32 0, .int .u32 0, .string ⟨#[]⟩] 30))
 have X0 := (CellsAt.new (w.alloc (.cells (sc s A c) 30)) (xc x) 32).later ((Below.refl _ ((w.alloc (.cells (sc s A c) 30)).alloc (.cells (xc x) 32))).alloc (Nat.le_refl _) (.cells #[.int .u32 0, .int .u16 0, .int .u32 0, .int .u16 0, .int .u32 0, .int .u32 0, .int .u8 0, .int .u16 0, .int .u16 0, .int .i64 0, .bool false, .slice none 0 0, .bool false, .int .u32 0, .int .u32 0, .string ⟨#[]⟩] 30))
 have D0 := CellsAt.new ((w.alloc (.cells (sc s A c) 30)).alloc (.cells (xc x) 32)) #[.int .u32 0, .int .u16 0, .int .u32 0, .int .u16 0, .int .u32 0, .int .u32 0, .int .u8 0, .int .u16 0, .int .u16 0, .int .i64 0, .bool false, .slice none 0 0, .bool false, .int .u32 0, .int .u32 0, .string ⟨#[]⟩] 30
 simp only [World.size_alloc] at X0 D0
 have B0 := st_alloc (st_alloc (st_alloc (Below.refl _ w) (.cells (sc s A c) 30)) (.cells (xc x) 32)) (.cells #[.int .u32 0, .int .u16 0, .int .u32 0, .int .u16 0, .int .u32 0, .int .u32 0, .int .u8 0, .int .u16 0, .int .u16 0, .int .i64 0, .bool false, .slice none 0 0, .bool false, .int .u32 0, .int .u32 0, .string ⟨#[]⟩] 30)
 have HBK0 := Lib.hid hbk
 have HC0 := Lib.hid C0
 have HX0 := Lib.hid X0
 have HD0 := Lib.hid D0
 have HB0 := Lib.hid B0
 have hsz : (((w.alloc (.cells (sc s A c) 30)).alloc (.cells (xc x) 32)).alloc (.cells #[.int .u32 0, .int .u16 0, .int .u32 0, .int .u16 0, .int .u32 0, .int .u32 0, .int .u8 0, .int .u16 0, .int .u16 0, .int .i64 0, .bool false, .slice none 0 0, .bool false, .int .u32 0, .int .u32 0, .string ⟨#[]⟩] 30)).heap.size = w.heap.size + 3 := by simp
 have HZ := Lib.hid hsz
 clear C0 X0 D0 B0 hbk hsz
 go_enter Tryz.func9, Tryz.ntmps9
 go_wp2_with fail
 obtain ⟨W3, hW3⟩ : ∃ W3, (((w.alloc (.cells (sc s A c) 30)).alloc (.cells (xc x) 32)).alloc (.cells #[.int .u32 0, .int .u16 0, .int .u32 0, .int .u16 0, .int .u32 0, .int .u32 0, .int .u8 0, .int .u16 0, .int .u16 0, .int .i64 0, .bool false, .slice none 0 0, .bool false, .int .u32 0, .int .u32 0, .string ⟨#[]⟩] 30)) = W3 := ⟨_, rfl⟩
 rw [hW3] at HC0 HX0 HD0 HB0 HZ ⊢
 clear hW3
 have c0 := HC0.out.cell 0 _ rfl
 have cf0 := HC0.out.free 0 (by simp)
 have c1 := HC0.out.cell 1 _ rfl
 have cf1 := HC0.out.free 1 (by simp)
 have c2 := HC0.out.cell 2 _ rfl
 have cf2 := HC0.out.free 2 (by simp)
 have c3 := HC0.out.cell 3 _ rfl
 have cf3 := HC0.out.free 3 (by simp)
 have y0 := HX0.out.cell 0 _ rfl
 have y1 := HX0.out.cell 1 _ rfl
 have y2 := HX0.out.cell 2 _ rfl
 have y3 := HX0.out.cell 3 _ rfl
 go_region
 obtain ⟨W4a, hW4, hC4, hA4, hb4⟩ := putAddrs HC0.out (.int .u32 (x.sip : Int)) (.int .u16 (x.sport : Int)) (.int .u32 (x.dip : Int)) (.int .u16 (x.dport : Int))
 rw [hW4]
 have C4 := hC4.later ((Below.refl _ W4a).drew)
 have X4 := (HX0.out.apart (by omega) hA4).later ((Below.refl _ W4a).drew)
 have D4 := (HD0.out.apart (by omega) hA4).later ((Below.refl _ W4a).drew)
 have B4 := (HB0.out.trans hb4).drew
 obtain ⟨W4, hW⟩ : ∃ W4, W4a.drew = W4 := ⟨_, rfl⟩
 rw [hW] at C4 X4 D4 B4 ⊢
 have HC4 := Lib.hid C4
 have HX4 := Lib.hid X4
 have HD4 := Lib.hid D4
 have HB4 := Lib.hid B4
 clear hW hW4 hC4 hA4 hb4 C4 X4 D4 B4 HC0 HX0 HD0 HB0 HZ c0 c1 c2 c3 cf0 cf1 cf2 cf3 y0 y1 y2 y3 W3 W4a
 have kf := k.flags
 have kw := k.win
 have ks := k.seq
 have ka := k.ack
 have xs := xk.seq
 have xa := xk.ack
 have T5 := Lib.hid (fun W => scaledP s.win x.up x.down W kw u1 u2 d1 d2)
 have T6 := Lib.hid (fun W (hB : BlkR W A s.opts.blocks) => optionsP s.opts A c x W hB k.opts hl xk)
 have T7 := Lib.hid (fun W => IpD.cloneP s.data W hd)
 obtain ⟨q, hq⟩ : ∃ q, (s.seq + x.seq) % 4294967296 = q := ⟨_, rfl⟩
 obtain ⟨n, hn⟩ : ∃ n, winT s.win x.up x.down = n := ⟨_, rfl⟩
 obtain ⟨o2, ho2⟩ : ∃ o2, turnedO x.ack x.val x.echo s.opts = o2 := ⟨_, rfl⟩
 rw [hn] at T5
 rw [ho2] at T6
 have wq : IntKind.u32.wrap ((s.seq : Int) + (x.seq : Int)) = (q : Int) := by rw [IntKind.wrap_u32]; omega
 have wq2 : ((s.seq : Int) + (x.seq : Int)) % 4294967296 = (q : Int) := by omega
 have a16 : bits .and .u8 (s.flags : Int) 16 = ((s.flags / 16 % 2 * 16 : Nat) : Int) := and16 ⟨s.flags, by omega⟩
 have f1 : (((s.flags / 16 % 2 * 16 : Nat) : Int) != 0) = false := by
   have : s.flags / 16 % 2 = 0 := by omega
   rw [this]
   rfl
 have f2 : ((s.flags : Int) / 16 % 2 * 16 != 0) = false := by
   have : (s.flags : Int) / 16 % 2 * 16 = 0 := by omega
   rw [this]
   rfl
 have c4 := HC4.out.cell 4 _ rfl
 have cf4 := HC4.out.free 4 (by simp)
 have c5 := HC4.out.cell 5 _ rfl
 have cf5 := HC4.out.free 5 (by simp)
 have c6 := HC4.out.cell 6 _ rfl
 have cf6 := HC4.out.free 6 (by simp)
 have c7 := HC4.out.cell 7 _ rfl
 have cf7 := HC4.out.free 7 (by simp)
 have y4 := HX4.out.cell 4 _ rfl
 have y5 := HX4.out.cell 5 _ rfl
 have y8 := HX4.out.cell 8 _ rfl
 have y9 := HX4.out.cell 9 _ rfl
 have HV : Hid (turned s x = ⟨x.sip, x.sport, x.dip, x.dport, q, s.ack, s.flags, n, o2, s.data⟩) := Lib.hid (by
   unfold turned ackT
   rw [hq, hn, ho2, if_neg hf])
 clear hq hn ho2 hf
 go_wp2_with fail
 refine (T5.out _).mono ?_
 rintro e w5 ⟨rfl, hb5⟩
 obtain ⟨W5, hW5, hC5, hA5, hbb5⟩ := putSeq HC4.out (.int .u32 (q : Int))
 rw [hW5] at hb5
 have C6 := hC5.later hb5
 have X6 := (HX4.out.apart (by omega) hA5).later hb5
 have D6 := (HD4.out.apart (by omega) hA5).later hb5
 have B6 := st_call (HB4.out.trans hbb5) hb5
 have HC6 := Lib.hid C6
 have HX6 := Lib.hid X6
 have HD6 := Lib.hid D6
 have HB6 := Lib.hid B6
 clear hb5 hW5 hC5 hA5 hbb5 C6 X6 D6 B6 c4 cf4 c5 cf5 c6 cf6 c7 cf7 y4 y5 y8 y9
 have c7 := HC6.out.cell 7 _ rfl
 have cf7 := HC6.out.free 7 (by simp)
 have c8 := HC6.out.cell 8 _ rfl
 have cf8 := HC6.out.free 8 (by simp)
 have c9 := HC6.out.cell 9 _ rfl
 have cf9 := HC6.out.free 9 (by simp)
 have c10 := HC6.out.cell 10 _ rfl
 have cf10 := HC6.out.free 10 (by simp)
 have c11 := HC6.out.cell 11 _ rfl
 have cf11 := HC6.out.free 11 (by simp)
 have c12 := HC6.out.cell 12 _ rfl
 have cf12 := HC6.out.free 12 (by simp)
 have c13 := HC6.out.cell 13 _ rfl
 have cf13 := HC6.out.free 13 (by simp)
 have c14 := HC6.out.cell 14 _ rfl
 have cf14 := HC6.out.free 14 (by simp)
 have y0 := HX6.out.cell 0 _ rfl
 have y1 := HX6.out.cell 1 _ rfl
 have y2 := HX6.out.cell 2 _ rfl
 have y3 := HX6.out.cell 3 _ rfl
 have y4 := HX6.out.cell 4 _ rfl
 have y5 := HX6.out.cell 5 _ rfl
 have y6 := HX6.out.cell 6 _ rfl
 have y7 := HX6.out.cell 7 _ rfl
 have y8 := HX6.out.cell 8 _ rfl
 have y9 := HX6.out.cell 9 _ rfl
 go_wp2_with fail
 obtain ⟨W7, hW7, hC7, hA7, hbb7⟩ := putWin HC6.out (.int .u16 (n : Int))
 rw [hW7]
 have B7 := HB6.out.trans hbb7
 refine (T6.out W7 (HBK0.out.more B7)).mono ?_
 rintro e w7 ⟨⟨A2, cp2, rfl, hrow⟩, hb7⟩
 have HC7 := Lib.hid (hC7.later hb7)
 have HX7 := Lib.hid ((HX6.out.apart (by omega) hA7).later hb7)
 have HD7 := Lib.hid ((HD6.out.apart (by omega) hA7).later hb7)
 have HB7 := Lib.hid (st_call B7 hb7)
 have hlt7 := ((HD6.out.apart (by omega) hA7).lt)
 have HR7 := Lib.hid (hrow.imp (Q := fun b => w.heap.size + 1 + 1 < b) (fun b h2 => Nat.lt_of_lt_of_le hlt7 h2))
 clear hb7 hrow hW7 hC7 hA7 hbb7 B7 hlt7 c7 cf7 c8 cf8 c9 cf9 c10 cf10 c11 cf11 c12 cf12 c13 cf13 c14 cf14 y0 y1 y2 y3 y4 y5 y6 y7 y8 y9
 have c8 := HC7.out.cell 8 _ rfl
 have cf8 := HC7.out.free 8 (by simp)
 have c9 := HC7.out.cell 9 _ rfl
 have cf9 := HC7.out.free 9 (by simp)
 have c10 := HC7.out.cell 10 _ rfl
 have cf10 := HC7.out.free 10 (by simp)
 have c11 := HC7.out.cell 11 _ rfl
 have cf11 := HC7.out.free 11 (by simp)
 have c12 := HC7.out.cell 12 _ rfl
 have cf12 := HC7.out.free 12 (by simp)
 have c13 := HC7.out.cell 13 _ rfl
 have cf13 := HC7.out.free 13 (by simp)
 have c14 := HC7.out.cell 14 _ rfl
 have cf14 := HC7.out.free 14 (by simp)
 have c15 := HC7.out.cell 15 _ rfl
 have cf15 := HC7.out.free 15 (by simp)
 go_wp2_with fail
 obtain ⟨W8, hW8, hC8, hA8, hbb8⟩ := putOpts HC7.out (.int .u16 (o2.mss : Int)) (.int .i64 o2.scale) (.bool o2.sack) (.slice A2 o2.blocks.length cp2) (.bool o2.time) (.int .u32 (o2.val : Int)) (.int .u32 (o2.echo : Int))
 rw [hW8]
 refine (T7.out W8).mono ?_
 rintro e w8 ⟨rfl, hb8⟩
 have HC8 := Lib.hid (hC8.later hb8)
 have HD8 := Lib.hid ((HD7.out.apart (by omega) hA8).later hb8)
 have HB8 := Lib.hid (st_call (HB7.out.trans hbb8) hb8)
 have HR8 := Lib.hid ((HR7.out.apart w.heap.size (fun b h2 => by omega) hA8).more hb8)
 clear hb8 hW8 hC8 hA8 hbb8 c8 cf8 c9 cf9 c10 cf10 c11 cf11 c12 cf12 c13 cf13 c14 cf14 c15 cf15
 have c0 := HC8.out.cell 0 _ rfl
 have cf0 := HC8.out.free 0 (by simp)
 have c1 := HC8.out.cell 1 _ rfl
 have cf1 := HC8.out.free 1 (by simp)
 have c2 := HC8.out.cell 2 _ rfl
 have cf2 := HC8.out.free 2 (by simp)
 have c3 := HC8.out.cell 3 _ rfl
 have cf3 := HC8.out.free 3 (by simp)
 have c4 := HC8.out.cell 4 _ rfl
 have cf4 := HC8.out.free 4 (by simp)
 have c5 := HC8.out.cell 5 _ rfl
 have cf5 := HC8.out.free 5 (by simp)
 have c6 := HC8.out.cell 6 _ rfl
 have cf6 := HC8.out.free 6 (by simp)
 have c7 := HC8.out.cell 7 _ rfl
 have cf7 := HC8.out.free 7 (by simp)
 have c8 := HC8.out.cell 8 _ rfl
 have cf8 := HC8.out.free 8 (by simp)
 have c9 := HC8.out.cell 9 _ rfl
 have cf9 := HC8.out.free 9 (by simp)
 have c10 := HC8.out.cell 10 _ rfl
 have cf10 := HC8.out.free 10 (by simp)
 have c11 := HC8.out.cell 11 _ rfl
 have cf11 := HC8.out.free 11 (by simp)
 have c12 := HC8.out.cell 12 _ rfl
 have cf12 := HC8.out.free 12 (by simp)
 have c13 := HC8.out.cell 13 _ rfl
 have cf13 := HC8.out.free 13 (by simp)
 have c14 := HC8.out.cell 14 _ rfl
 have cf14 := HC8.out.free 14 (by simp)
 have c15 := HC8.out.cell 15 _ rfl
 have cf15 := HC8.out.free 15 (by simp)
 have d0 := HD8.out.cell 0 _ rfl
 have df0 := HD8.out.free 0 (by simp)
 have d1 := HD8.out.cell 1 _ rfl
 have df1 := HD8.out.free 1 (by simp)
 have d2 := HD8.out.cell 2 _ rfl
 have df2 := HD8.out.free 2 (by simp)
 have d3 := HD8.out.cell 3 _ rfl
 have df3 := HD8.out.free 3 (by simp)
 have d4 := HD8.out.cell 4 _ rfl
 have df4 := HD8.out.free 4 (by simp)
 have d5 := HD8.out.cell 5 _ rfl
 have df5 := HD8.out.free 5 (by simp)
 have d6 := HD8.out.cell 6 _ rfl
 have df6 := HD8.out.free 6 (by simp)
 have d7 := HD8.out.cell 7 _ rfl
 have df7 := HD8.out.free 7 (by simp)
 have d8 := HD8.out.cell 8 _ rfl
 have df8 := HD8.out.free 8 (by simp)
 have d9 := HD8.out.cell 9 _ rfl
 have df9 := HD8.out.free 9 (by simp)
 have d10 := HD8.out.cell 10 _ rfl
 have df10 := HD8.out.free 10 (by simp)
 have d11 := HD8.out.cell 11 _ rfl
 have df11 := HD8.out.free 11 (by simp)
 have d12 := HD8.out.cell 12 _ rfl
 have df12 := HD8.out.free 12 (by simp)
 have d13 := HD8.out.cell 13 _ rfl
 have df13 := HD8.out.free 13 (by simp)
 have d14 := HD8.out.cell 14 _ rfl
 have df14 := HD8.out.free 14 (by simp)
 have d15 := HD8.out.cell 15 _ rfl
 have df15 := HD8.out.free 15 (by simp)
 go_wp2_with fail
 have O8 := HD8.out.other w.heap.size 15 (.string s.data) (by omega)
 have HAp := (Apart.refl w.heap.size w8).put 15 (.string s.data)
 obtain ⟨W9, hW9, hC9, hA9, hb9⟩ := anew16 O8 rfl (.int .u32 (x.sip : Int)) (.int .u16 (x.sport : Int)) (.int .u32 (x.dip : Int)) (.int .u16 (x.dport : Int)) (.int .u32 (q : Int)) (.int .u32 (s.ack : Int)) (.int .u8 (s.flags : Int)) (.int .u16 (n : Int)) (.int .u16 (o2.mss : Int)) (.int .i64 o2.scale) (.bool o2.sack) (.slice A2 o2.blocks.length cp2) (.bool o2.time) (.int .u32 (o2.val : Int)) (.int .u32 (o2.echo : Int)) (.string s.data)
 rw [hW9]
 clear c0 cf0 d0 df0 c1 cf1 d1 df1 c2 cf2 d2 df2 c3 cf3 d3 df3 c4 cf4 d4 df4 c5 cf5 d5 df5 c6 cf6 d6 df6 c7 cf7 d7 df7 c8 cf8 d8 df8 c9 cf9 d9 df9 c10 cf10 d10 df10 c11 cf11 d11 df11 c12 cf12 d12 df12 c13 cf13 d13 df13 c14 cf14 d14 df14 c15 cf15 d15 df15
 have e0 := hC9.cell 0 _ rfl
 have e1 := hC9.cell 1 _ rfl
 have e2 := hC9.cell 2 _ rfl
 have e3 := hC9.cell 3 _ rfl
 have e4 := hC9.cell 4 _ rfl
 have e5 := hC9.cell 5 _ rfl
 have e6 := hC9.cell 6 _ rfl
 have e7 := hC9.cell 7 _ rfl
 have e8 := hC9.cell 8 _ rfl
 have e9 := hC9.cell 9 _ rfl
 have e10 := hC9.cell 10 _ rfl
 have e11 := hC9.cell 11 _ rfl
 have e12 := hC9.cell 12 _ rfl
 have e13 := hC9.cell 13 _ rfl
 have e14 := hC9.cell 14 _ rfl
 have e15 := hC9.cell 15 _ rfl
 have R9 := Lib.hid (((HR8.out.apart w.heap.size (fun b h2 => by omega) HAp).apart (w.heap.size + 1 + 1) (fun b h2 => by omega) hA9).imp (Q := fun b => w.heap.size ≤ b) (fun b h2 => by omega))
 have B9 := Lib.hid ((HB8.out.setCell (Nat.le_refl w.heap.size) (p := ⟨w.heap.size, 15, none⟩) (.string s.data)).trans (hb9.mono (by omega)))
 rw [HV.out]
 refine bodyPost_ret (v := sv ⟨x.sip, x.sport, x.dip, x.dport, q, s.ack, s.flags, n, o2, s.data⟩ A2 cp2) ?_ rfl ⟨⟨A2, cp2, rfl, R9.out⟩, B9.out⟩
 simp [results, Tryz.f9, go_sem, e0, e1, e2, e3, e4, e5, e6, e7, e8, e9, e10, e11, e12, e13, e14, e15]
end Go.Proofs.YtpmnmnflaijaaaaGreat.PktTdP
namespace Go.Proofs.YtpmnmnflaijaaaaGreat.PktTdP
open Go.Proofs.YtpmnmnflaijaaaaGreat.Own
open Go.RowKit TupMath SumMath Litb Calm Rel RelT RelK IpMath OptMath OptRef OptPlc OptSame Boxes OptTake5 OptTk PktMath PktVal PktSmall PktCom PktOp PktTP Pkt16
open Cells (CellsAt Apart put_lit)
set_option linter.unusedVariables false
set_option linter.unusedSimpArgs false
set_option maxRecDepth 100000
attribute [local go_sem] Oper.semAt_some
theorem turnedP8 (s : Sg) (A : Option Addr) (c : Nat) (x : Sh) (w : World) (hbk : BlkR w A s.opts.blocks) (k : s.ok) (hl : s.opts.blocks.length ≤ 1000) (hd : s.data.size ≤ 1000000) (xk : x.ok)
   (u1 : -9223372036854775808 ≤ x.up) (u2 : x.up ≤ 9223372036854775807) (d1 : -9223372036854775808 ≤ x.down) (d2 : x.down ≤ 9223372036854775807) :
   Calls Tryz.prog 9 #[sv s A c, xv x] w fun r w' => (∃ A' c', r = .returned (sv (turned s x) A' c') ∧ Row (fun b => w.heap.size ≤ b) w' A' (turned s x).opts.blocks) ∧ Below w.heap.size w w' := by
 by_cases hf : s.flags / 16 % 2 = 1
 · exact turnedP8y s A c x w hbk k hl hd xk u1 u2 d1 d2 hf
 · exact turnedP8n s A c x w hbk k hl hd xk u1 u2 d1 d2 hf
end Go.Proofs.YtpmnmnflaijaaaaGreat.PktTdP
