/-
  Proved: the statement 'Rows.PktReadsSaid': for every input the Go function transomlaw08.PktReads returns true, and each argument reads behind the call as it read before. Conditions: none of our own; those of the given row.
-/
import Derived.Test.YtpmnmnflaijaaaaQPktAlive1
import Derived.Test.YtpmnmnflaijaaaaQPktDecX3
import Derived.Test.YtpmnmnflaijaaaaQPktSameR1
import Derived.Test.YtpmnmnflaijaaaaQCalm1
import Derived.Test.YtpmnmnflaijaaaaRows
import Derived.WalkKit
import Derived.ProofKit
import Derived.OpenShut
import Derived.ShutString
import Derived.ChangeOld
import Derived.Below
namespace Go.Proofs.Ytpmnmnflaijaaaa.pktReads
open Go.ChangeShapes Go.WideShapes Go.ChangeAt Go.RowKit
open Go.ChangeMaps (open_string shut_string)
open TupMath SumMath IpMath Litb Calm Rel IpRef OptMath OptSame OptTake5 OptTk PktMath PktVal PktCom PktDecC PktBox PktAlive PktDecX
open Cells (CellsAt)
set_option linter.unusedVariables false

theorem own : ownKnob Try.prog.godebug = none := by kernel_rfl
theorem laidOut : laidOutB Try.prog = true := by kernel_rfl

theorem dec8_len (S : ByteArray) : (dec8 S).2.opts.blocks.length ≤ 40 := by
  by_cases h0 : (dec8 S).1 = 0
  · obtain ⟨c, k, r, hd⟩ := dec_rd h0
    rw [hd]
    exact PktRw.rd_few r
  · have e : (dec8 S).2 = zeroS := dec8_bad h0
    rw [e]
    exact Nat.zero_le _

/-! The walk: the Go text returns true, and writes nothing that was there. -/
set_option maxRecDepth 100000 in
set_option maxHeartbeats 16000000 in
theorem walk (a0 : ByteArray) (w : World) (w0 : a0.size ≤ maxLen) :
    Calls Try.prog 4 #[.string a0] w fun e w' => e = .returned (.bool true) ∧ Below w.heap.size w w' := by
  have hm : a0.size ≤ 9223372036854775807 := by unfold maxLen at w0; omega
  by_cases hl : 4096 < a0.size
  · have hl2 : (4096 : Int) < (a0.size : Int) := by omega
    go_enter Try.func4, Try.ntmps4
    go_wp2_with fail
    refine (alive_any _).mono ?_
    rintro e w' ⟨rfl, hb⟩
    have HB := Lib.hid hb
    clear hb
    go_wp2_with fail
    go_ret
    exact ⟨rfl, HB.out⟩
  have hl2 : ¬ (4096 : Int) < (a0.size : Int) := by omega
  obtain ⟨n, hn⟩ : ∃ n, (dec8 a0).1 = n := ⟨_, rfl⟩
  obtain ⟨s, hs⟩ : ∃ s, (dec8 a0).2 = s := ⟨_, rfl⟩
  have hlen := dec8_len a0
  rw [hs] at hlen
  have H1 := Lib.hid (fun W => decX a0 n s W (by omega) (by rw [← hn, ← hs]))
  have H2 := Lib.hid (fun W => decXR a0 n s W (by omega) (by rw [← hn, ← hs]))
  have H3 := Lib.hid (fun A c Q q W (hA : OptSame.BlkR W A s.opts.blocks) (hQ : OptSame.BlkR W Q s.opts.blocks) => PktSameR.sameR8 s s A c Q q W hA hQ (by omega) (by omega))
  rw [sameS_yes rfl] at H3
  have qn : ((n : Int) == (n : Int)) = true := beq_self_eq_true _
  clear hn hs hlen hl
  go_enter Try.func4, Try.ntmps4
  go_wp2_with fail
  refine (H1.out _).mono ?_
  rintro e w1 ⟨⟨A1, c1, rfl, hr1⟩, hb⟩
  have bl := (Below.refl _ w1).alloc (Nat.le_refl _) (.cells (sc s A1 c1) 30)
  have B1 := Lib.hid (st_alloc hb (.cells (sc s A1 c1) 30))
  have X1 := Lib.hid (CellsAt.new w1 (sc s A1 c1) 30)
  have R1 := Lib.hid (hr1.more bl)
  clear hb hr1 bl
  go_wp2_with fail
  refine (H2.out _).mono ?_
  rintro e w2 ⟨⟨A2, c2, rfl, hr2⟩, hb⟩
  have bl := (Below.refl _ w2).alloc (Nat.le_refl _) (.cells (sc s A2 c2) 30)
  have B2 := Lib.hid (st_alloc (st_call B1.out hb) (.cells (sc s A2 c2) 30))
  have X2 := Lib.hid ((X1.out.later hb).later bl)
  have Y2 := Lib.hid (CellsAt.new w2 (sc s A2 c2) 30)
  have R2 := Lib.hid ((R1.out.more hb).more bl)
  have S2 := Lib.hid (hr2.more bl)
  have T2 := Lib.hid (H3.out A1 c1 A2 c2 _ R2.out S2.out)
  clear hb hr2 bl X1 R1 R2 S2
  go_upto_region 5 with fail
  refine wp_region_lit ?_
  refine step_seg rfl _ rfl _ rfl _ _ _ X2.out ?_
  refine step_seg rfl _ rfl _ rfl _ _ _ Y2.out ?_
  go_wp2_with fail
  refine T2.out.mono ?_
  rintro e w3 ⟨rfl, hb⟩
  have B3 := Lib.hid (st_call B2.out hb)
  clear hb
  go_wp2_with fail
  refine (alive_any _).mono ?_
  rintro e w' ⟨rfl, hb⟩
  have B4 := Lib.hid (st_call B3.out hb)
  clear hb
  go_wp2_with fail
  go_ret
  exact ⟨rfl, B4.out⟩

/-! The row's step, after the guide's own way. -/
set_option maxRecDepth 100000 in
theorem lifted (os : Os) (started : os.Started) (H : Type) (enc : TypeId × Value → H) :
    ReturnsInHanded {} Try.checked os 4 .any (Rows.pktReadsSpec.pre6 enc Try.prog Try.f4 Rows.pktReadsRow.domain false) (Rows.pktReadsSpec.post enc Try.prog Try.f4 false true false false) := by
  refine returnsInHanded_of_change (C := Try.checked) own started (by kernel_rfl) Try.func4
    (ChangeSpec.witness6 (enc := enc) (C := Try.checked) false ⟨#[], #[.string ByteArray.empty], []⟩ 8 (by kernel_rfl) (by kernel_rfl) (by kernel_rfl) (by kernel_rfl)) ?_
  intro W base args ds gs before hval0 hW hcnd _
  have hval : ∀ (j : Nat) t v, Try.f4.params[j]? = some t → args[j]? = some v → Value.okWide Try.prog W .any base t v := hval0
  have hW' := hW
  obtain ⟨p, q, hA0, hV, rfl, hfz, hnd⟩ := hW
  have hA : DataW.TrodAll enc Try.prog W 0 (fun _ => true) true Try.f4.params.toList args.toList ds p := hA0
  rw [Try.params4] at hA hval
  obtain ⟨v0, vs0, d0, ds0, p0, q0, hargs, rfl, rfl, h0, r0⟩ := trodAll_cons hA
  obtain ⟨rfl, rfl, rfl⟩ := trodAll_nil r0
  obtain rfl : args = #[v0] := by cases args; simp_all
  obtain ⟨rfl, rfl⟩ := trodVars_none hV
  have k0 := h0
  have lt0 : ∀ x ∈ p0, x.block < W.heap.size := by obtain ⟨m, hm⟩ := k0; exact DataW.trod_lt m _ _ _ hm
  obtain ⟨a0, rfl, _, _, w0⟩ := open_string Try.underlying9 (hval 0 9 v0 rfl rfl) h0
  clear hA0 hval0
  refine (walk a0 W w0).mono fun e W' ⟨he, bel⟩ => ?_
  subst he
  exact ⟨_, rfl, _, _, _, [], _, [], hW', trodAll_mk1 (shut_bool Try.underlying4 _), (trodAll_cons_mk (Below.trod laidOut (by kernel_rfl) (of_decide_eq_true (by kernel_rfl)) k0 bel lt0) trodAll_mk0), rfl, bel.frame _, fun h => by cases h⟩

theorem over : Rows.pktReadsRow.holds Try.pinned (OpenSpec.ofChange Rows.pktReadsSpec) :=
  OpenClaim.holds_of_wide 4 Try.f4 rfl rfl rfl rfl rfl rfl rfl ⟨rfl, rfl, rfl, rfl, rfl⟩ rfl rfl rfl rfl rfl (by kernel_rfl) Try.func4 (by kernel_rfl)
    (of_decide_eq_true (by kernel_rfl)) (by unfold Func.isWrapper; first | (rw [if_pos (by decide +kernel)]; kernel_rfl) | (rw [if_neg (by decide +kernel)]; exact ⟨rfl, rfl⟩))
    (fun os started H enc _ => lifted os started H enc)

/-- The statement. -/
theorem proved : Rows.PktReadsSaid := over
#print axioms proved
end Go.Proofs.Ytpmnmnflaijaaaa.pktReads
