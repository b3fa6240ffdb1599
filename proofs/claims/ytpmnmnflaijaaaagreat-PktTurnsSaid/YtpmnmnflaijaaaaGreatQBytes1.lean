/-
  Laws for a proof of package pkt: 1 texts in one.
-/
import Derived.Test.YtpmnmnflaijaaaaGreatQOwn1
import Derived.Test.YtpmnmnflaijaaaaGreatQTcpMath5
import Derived.Laws.BitsAllLaws
import Derived.Laws.IdiomStrings
namespace Go.Proofs.YtpmnmnflaijaaaaGreat.Bytes
open Go.RowKit Own TupMath
set_option linter.unusedVariables false
set_option maxRecDepth 100000
theorem info_u8 : (Tryz.prog.info? 5).map (fun i => (i.zero, i.size, i.bytes)) = some (some (.int .u8 0), 1, 1) := by kernel_rfl
def enc8 (L : List Nat) : List Value := L.map fun x : Nat => Value.int .u8 (x : Int)
theorem enc8_app (L M : List Nat) : enc8 (L ++ M) = enc8 L ++ enc8 M := List.map_append
theorem enc8_at {L : List Nat} {j : Nat} (h : j < L.length) : (enc8 L)[j]? = some (.int .u8 (L[j] : Int)) := by unfold enc8; rw [List.getElem?_map, List.getElem?_eq_getElem h]; rfl
def Own8 (w : World) (base : Nat) (v : Value) (L : List Nat) : Prop := w.ownsRow base 5 1 v L.length (enc8 L)
theorem own8_nil (w : World) (base : Nat) : Own8 w base (.slice none 0 0) [] := World.ownsRow_nil _ _ _ _
theorem Own8.stays {w w' base v L} (h : Own8 w base v L) (hb : Below w.heap.size w w') : Own8 w' base v L := own_stays h hb
theorem app8 {ops : Array Oper} {rest : List Oper} {o : Oper} {a : Act} {Q : Exit → Act → World → Prop} (W : World) (hgd : o.guard = none) (s x : Operand)
   (ho : o.op = .call { callee := .builtin .append, args := #[s, x], argTypes := #[50, 50] })
   (base : Nat) (v : Value) (L : List Nat) (hs : a.eval s = v) (hown : Own8 W base v L)
   (p : Nat) (q : Int) (hq : q = (p : Int)) (B : Nat) (hB : W.heap.size = B) (hx : a.eval x = .slice (some ⟨B, 0, none⟩) 1 1) (hbase : base ≤ W.heap.size) (hn : L.length + 1 ≤ 1099511627776)
   (h : ∀ A' c' w', Own8 w' base (.slice A' (L.length + 1) c') (L ++ [p]) → Below base W w' → wpList Tryz.prog ops Q rest (a.put o.dst (.slice A' (L.length + 1) c')) w') :
   wpList Tryz.prog ops Q (o :: rest) a (W.alloc (.cells #[.int .u8 q] 5)) := by
 subst hq
 obtain ⟨i0, hi, hz0, hz1, hz2⟩ := info_parts info_u8
 refine wpList_app W hgd s x 50 ho base 5 i0 _ 1 1 Tryz.underlying50 hi hz0 hz1 hz2 rfl (by decide) v L.length _ hs hown 1 #[.int .u8 (p : Int)] B hB hx rfl (by intro u hu; simp at hu; subst hu; rfl) hbase hn (by decide) ?_
 intro A' c' w' h1 h2
 refine h A' c' w' ?_ h2
 unfold Own8
 rw [List.length_append, List.length_singleton, enc8_app]
 exact h1
theorem str8 {w : World} {base : Nat} {A : Option Addr} {n c : Nat} {L : List Nat} (h : Own8 w base (.slice A n c) L) (hn : n = L.length) (h0 : 0 < L.length) (hL : ∀ x ∈ L, x ≤ 255) :
   (convert 50 9 (.slice A n c)).run Tryz.prog w = .ok (.string (ofB L)) w := by
 subst hn
 obtain ⟨g, rfl, _, hg, hc, _⟩ := own_at h h0
 have r := run_convert_bytes_back (P := Tryz.prog) w 50 9 5 ⟨g, 0, none⟩ c (L.map UInt8.ofNat) Tryz.underlying50 Tryz.underlying5 Tryz.underlying9 (fun j hj => by
   have hj' : j < L.length := by simpa using hj
   have h2 := hL L[j] (List.getElem_mem hj')
   have h1 : (UInt8.ofNat L[j]).toNat = L[j] := by simp; omega
   have := hc j _ (enc8_at hj')
   rw [Go.WideShapes.add_plain]
   refine this.trans ?_
   rw [List.getElem_map, h1])
 rw [List.length_map] at r
 exact r
end Go.Proofs.YtpmnmnflaijaaaaGreat.Bytes
