/-
  Appending one span, or one number, to a list that the call owns.
-/
import Derived.Test.YtpglooaebndbiaaSpanLay
namespace Go.Proofs.Ytpglooaebndbiaa.SpanApp
open Go.RowKit SpanLay

theorem info_span : (Try.prog.info? 35).map (fun i => (i.zero, i.size, i.bytes)) = some (some (.agg #[.int .u64 0, .int .u64 0]), 2, 16) := by kernel_rfl

theorem app_span {ops : Array Oper} {rest : List Oper} {o : Oper} {a : Act} {Q : Exit → Act → World → Prop} (W : World) (hgd : o.guard = none) (s x : Operand)
    (ho : o.op = .call { callee := .builtin .append, args := #[s, x], argTypes := #[33, 33] })
    (base : Nat) (v : Value) (n : Nat) (L : List (Int × Int)) (hs : a.eval s = v) (hown : W.ownsRow base 35 2 v n (L.flatMap encS))
    (p q : Int) (B : Nat) (hB : W.heap.size = B) (hx : a.eval x = .slice (some ⟨B, 0, none⟩) 1 1) (hbase : base ≤ W.heap.size) (hn : n + 1 ≤ 1099511627776)
    (h : ∀ A' c' w', w'.ownsRow base 35 2 (.slice A' (n + 1) c') (n + 1) ((L ++ [(p, q)]).flatMap encS) → Below base W w' → wpList Try.prog ops Q rest (a.put o.dst (.slice A' (n + 1) c')) w') :
    wpList Try.prog ops Q (o :: rest) a (W.alloc (.cells #[.int .u64 p, .int .u64 q] 35)) := by
  obtain ⟨i0, hi, hz0, hz1, hz2⟩ := info_parts info_span
  refine wpList_app W hgd s x 33 ho base 35 i0 _ 2 16 Try.underlying33 hi hz0 hz1 hz2 rfl (by decide) v n _ hs hown 1 #[.int .u64 p, .int .u64 q] B hB hx rfl (by intro u hu; simp at hu; rcases hu with rfl | rfl <;> rfl) hbase hn (by decide) ?_
  intro A' c' w' h1 h2
  refine h A' c' w' ?_ h2
  rw [encS_snoc]
  exact h1

theorem stp_span {ops : Array Oper} {o : Oper} {a : Act} {K : Act → World → Prop} {Q : Exit → Act → World → Prop} {E : Prop} (W : World) (hgd : o.guard = none) (s x : Operand)
    (ho : o.op = .call { callee := .builtin .append, args := #[s, x], argTypes := #[33, 33] })
    (base : Nat) (v : Value) (n : Nat) (L : List (Int × Int)) (hs : a.eval s = v) (hown : W.ownsRow base 35 2 v n (L.flatMap encS))
    (p q : Int) (B : Nat) (hx : a.eval x = .slice (some ⟨B, 0, none⟩) 1 1) (hblk : W.heap[B]? = some (.cells #[.int .u64 p, .int .u64 q] 35 (0, 0))) (hbase : base ≤ W.heap.size) (hn : n + 1 ≤ 1099511627776)
    (h : ∀ A' c' w', w'.ownsRow base 35 2 (.slice A' (n + 1) c') (n + 1) ((L ++ [(p, q)]).flatMap encS) → Below base W w' → K (a.put o.dst (.slice A' (n + 1) c')) w') :
    if Region.wanted o (yielded ops a.tmps) = true then Oper.wp Try.prog o a W K Q else E := by
  obtain ⟨i0, hi, hz0, hz1, hz2⟩ := info_parts info_span
  refine step_app W hgd s x 33 ho base 35 i0 _ 2 16 Try.underlying33 hi hz0 hz1 hz2 rfl (by decide) v n _ hs hown 1 B #[.int .u64 p, .int .u64 q] hx hblk rfl (by intro u hu; simp at hu; rcases hu with rfl | rfl <;> rfl) hbase hn (by decide) ?_
  intro A' c' w' h1 h2
  refine h A' c' w' ?_ h2
  rw [encS_snoc]
  exact h1
theorem app_span2 {ops : Array Oper} {rest : List Oper} {o : Oper} {a : Act} {Q : Exit → Act → World → Prop} (W : World) (hgd : o.guard = none) (s x : Operand)
    (ho : o.op = .call { callee := .builtin .append, args := #[s, x], argTypes := #[33, 33] })
    (base : Nat) (v : Value) (n : Nat) (L : List (Int × Int)) (hs : a.eval s = v) (hown : W.ownsRow base 35 2 v n (L.flatMap encS))
    (p q r u : Int) (B : Nat) (hB : W.heap.size = B) (hx : a.eval x = .slice (some ⟨B, 0, none⟩) 2 2) (hbase : base ≤ W.heap.size) (hn : n + 2 ≤ 1099511627776)
    (h : ∀ A' c' w', w'.ownsRow base 35 2 (.slice A' (n + 2) c') (n + 2) ((L ++ [(p, q), (r, u)]).flatMap encS) → Below base W w' → wpList Try.prog ops Q rest (a.put o.dst (.slice A' (n + 2) c')) w') :
    wpList Try.prog ops Q (o :: rest) a (W.alloc (.cells #[.int .u64 p, .int .u64 q, .int .u64 r, .int .u64 u] 35)) := by
  obtain ⟨i0, hi, hz0, hz1, hz2⟩ := info_parts info_span
  refine wpList_app W hgd s x 33 ho base 35 i0 _ 2 16 Try.underlying33 hi hz0 hz1 hz2 rfl (by decide) v n _ hs hown 2 #[.int .u64 p, .int .u64 q, .int .u64 r, .int .u64 u] B hB hx rfl (by intro u hu; simp at hu; rcases hu with rfl | rfl | rfl | rfl <;> rfl) hbase hn (by decide) ?_
  intro A' c' w' h1 h2
  refine h A' c' w' ?_ h2
  rw [List.flatMap_append]
  exact h1
end Go.Proofs.Ytpglooaebndbiaa.SpanApp
