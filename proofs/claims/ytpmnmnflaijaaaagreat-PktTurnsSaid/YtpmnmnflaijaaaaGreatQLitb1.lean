/-
  Laws for a proof of package pkt: 1 texts in one.
-/
import Derived.Test.YtpmnmnflaijaaaaGreatQTcpMath5
import Derived.WalkKit
import Derived.ProofKit
import Derived.IntWalk
import Derived.Below
import Derived.BigQuiet
import Derived.Deep.QuietTactic
import Derived.Deep.RegionWith
import Derived.Deep.DeepCutAuto
import Derived.Lib.Hide
import Derived.Laws.BitsAllLaws
import Derived.Laws.IdiomStrings
import Derived.WalkSmall
import Derived.Test.YtpmnmnflaijaaaaGreatChecked
namespace Go.Proofs.YtpmnmnflaijaaaaGreat.Litb
open Go.RowKit TupMath
set_option linter.unusedVariables false
set_option maxRecDepth 100000
theorem ret_str {a b : ByteArray} (h : a = b) : Ending.returned (.string a) = .returned (.string b) := by rw [h]
theorem st_alloc {w W : World} (h : Below w.heap.size w W) (o : Obj) : Below w.heap.size w (W.alloc o) := h.alloc h.size o
theorem st_call {w W W' : World} (h : Below w.heap.size w W) (hb : Below W.heap.size W W') : Below w.heap.size w W' := h.trans (hb.mono h.size)
theorem st_drew {w W : World} (h : Below w.heap.size w W) : Below w.heap.size w W.drew := h.drew
theorem lit_back (P : Program) (src dst e : TypeId) (hs : P.underlying src = some (.slice e)) (he : P.underlying e = some (.int .u8)) (hd : P.underlying dst = some .string) (l : List Nat) (hl : ∀ x ∈ l, x ≤ 255) (w : World) (T : TypeId) (fr : Nat × Nat) (B : Nat) (hB : w.heap.size = B) :
   (convert src dst (.slice (some ⟨B, 0, none⟩) l.length l.length)).run P (w.alloc (.cells (l.map fun x : Nat => Value.int .u8 (x : Int)).toArray T fr)) = .ok (.string (ofB l)) (w.alloc (.cells (l.map fun x : Nat => Value.int .u8 (x : Int)).toArray T fr)) := by
 subst hB
 have h := run_convert_bytes_back (P := P) (w.alloc (.cells (l.map fun x : Nat => Value.int .u8 (x : Int)).toArray T fr)) src dst e ⟨w.heap.size, 0, none⟩ l.length (l.map UInt8.ofNat) hs he hd (fun j hj => by
   rw [Go.WideShapes.add_plain, Nat.zero_add]
   refine (World.cell?_alloc_mark w _ T fr j).trans ?_
   have hj' : j < l.length := by simpa using hj
   have h2 := hl l[j] (List.getElem_mem hj')
   have h1 : (UInt8.ofNat l[j]).toNat = l[j] := by simp; omega
   simp only [List.getElem?_toArray, List.getElem?_map, List.getElem?_eq_getElem hj', Option.map_some, List.getElem_map, h1])
 simp only [List.length_map] at h
 exact h
theorem lit2_back (P : Program) (src dst e : TypeId) (hs : P.underlying src = some (.slice e)) (he : P.underlying e = some (.int .u8)) (hd : P.underlying dst = some .string) (x y : Nat) (hx : x ≤ 255) (hy : y ≤ 255) (u v : Int) (hu : u = (x : Int)) (hv : v = (y : Int)) (w : World) (T : TypeId) :
   (convert src dst (.slice (some ⟨w.heap.size, 0, none⟩) 2 2)).run P (w.alloc (.cells #[.int .u8 u, .int .u8 v] T)) = .ok (.string (ofB [x, y])) (w.alloc (.cells #[.int .u8 u, .int .u8 v] T)) := by
 subst hu hv
 have h1 : ∀ z ∈ [x, y], z ≤ 255 := by intro z hz; simp at hz; omega
 exact lit_back P src dst e hs he hd [x, y] h1 w T (0, 0) _ rfl
theorem held_back (P : Program) (src dst e : TypeId) (hs : P.underlying src = some (.slice e)) (he : P.underlying e = some (.int .u8)) (hd : P.underlying dst = some .string) (l : List Nat) (hl : ∀ x ∈ l, x ≤ 255) (w : World) (b c : Nat)
   (hc : ∀ (j : Nat) (x : Nat), l[j]? = some x → w.cell? ⟨b, j, none⟩ = some (.int .u8 (x : Int))) :
   (convert src dst (.slice (some ⟨b, 0, none⟩) l.length c)).run P w = .ok (.string (ofB l)) w := by
 have h := run_convert_bytes_back (P := P) w src dst e ⟨b, 0, none⟩ c (l.map UInt8.ofNat) hs he hd (fun j hj => by
   have hj' : j < l.length := by simpa using hj
   have h2 := hl l[j] (List.getElem_mem hj')
   have h1 : (UInt8.ofNat l[j]).toNat = l[j] := by simp; omega
   rw [Go.WideShapes.add_plain, Nat.zero_add]
   refine (hc j _ (List.getElem?_eq_getElem hj')).trans ?_
   rw [List.getElem_map, h1])
 simp only [List.length_map] at h
 exact h
theorem row_cells (w : World) (s : ByteArray) (cap : Nat) (T : TypeId) (m : Nat) (hm : s.size ≤ m) (j : Nat) (h : j < s.size) :
   (w.drew.alloc (.cells (bytesRow s cap) T (m, m + 1))).cell? ⟨w.heap.size, j, none⟩ = some (.int .u8 ((s[j].toNat : Nat) : Int)) ∧ (w.drew.alloc (.cells (bytesRow s cap) T (m, m + 1))).frozen? ⟨w.heap.size, j, none⟩ = false := by
 refine ⟨?_, ?_⟩
 · have h1 := World.cell?_alloc_mark w.drew (bytesRow s cap) T (m, m + 1) j
   have h2 := bytesRow_at s cap j h
   exact h1.trans h2
 · have h1 := World.frozen?_alloc_mark w.drew (bytesRow s cap) T m (m + 1) j
   refine Eq.trans h1 ?_
   have : ¬ m ≤ j := by omega
   simp [this]
end Go.Proofs.YtpmnmnflaijaaaaGreat.Litb
