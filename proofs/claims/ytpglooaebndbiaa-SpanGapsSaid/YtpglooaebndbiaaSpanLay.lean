/-
  How a list of spans lies in memory: words for the contracts of package span and of the document's own answer.
-/
import Derived.Test.YtpglooaebndbiaaChecked
import Derived.WalkKit
import Derived.ProofKit
import Derived.Deep.QuietTactic
import Derived.BigQuiet
import Derived.Lib.Hide
import Derived.IntWalk
import Derived.Outline
import Derived.WalkSmall
namespace Go.Proofs.Ytpglooaebndbiaa.SpanLay
open Go.RowKit

theorem ret_bool {a b : Bool} (h : a = b) : Ending.returned (.bool a) = .returned (.bool b) := by rw [h]
theorem ret_int {k : IntKind} {a b : Int} (h : a = b) : Ending.returned (.int k a) = .returned (.int k b) := by rw [h]

/-- The numbers of a span fit a uint64. -/
def Fit (x : Int × Int) : Prop := 0 ≤ x.1 ∧ x.1 ≤ 18446744073709551615 ∧ 0 ≤ x.2 ∧ x.2 ≤ 18446744073709551615

/-- A slice of n spans at A reads as L, below block B. -/
def SpR (w : World) (B : Nat) (A : Option Addr) (n : Nat) (L : List (Int × Int)) : Prop :=
  n = L.length ∧ (0 < n → ∃ b off, A = some ⟨b, off, none⟩ ∧ b < B ∧ ∀ (j : Nat) (h : j < L.length), w.cell? ⟨b, off + j * 2, none⟩ = some (.int .u64 L[j].1) ∧ w.cell? ⟨b, off + j * 2 + 1, none⟩ = some (.int .u64 L[j].2))

theorem SpR.len {w B A n L} (h : SpR w B A n L) : n = L.length := h.1
theorem SpR.at_ {w B A n L} (h : SpR w B A n L) {k : Nat} (hk : k < n) : ∃ b off, A = some ⟨b, off, none⟩ ∧ b < B ∧ ∀ (j : Nat) (h : j < L.length), w.cell? ⟨b, off + j * 2, none⟩ = some (.int .u64 L[j].1) ∧ w.cell? ⟨b, off + j * 2 + 1, none⟩ = some (.int .u64 L[j].2) := h.2 (by omega)
theorem SpR.keep {w w' B A n L} (h : SpR w B A n L) (hk : ∀ b o, b < B → w'.cell? ⟨b, o, none⟩ = w.cell? ⟨b, o, none⟩) : SpR w' B A n L :=
  ⟨h.1, fun hn => by
    obtain ⟨b, off, e, hb, hc⟩ := h.2 hn
    exact ⟨b, off, e, hb, fun j hj => by rw [hk _ _ hb, hk _ _ hb]; exact hc j hj⟩⟩
theorem SpR.below {w w' B A n L} (h : SpR w B A n L) (hb : Below B w w') : SpR w' B A n L := h.keep fun b o hp => hb.cell (p := ⟨b, o, none⟩) hp
theorem SpR.mono {w B B' A n L} (h : SpR w B A n L) (hB : B ≤ B') : SpR w B' A n L :=
  ⟨h.1, fun hn => by
    obtain ⟨b, off, e, hb, hc⟩ := h.2 hn
    exact ⟨b, off, e, by omega, hc⟩⟩

/-- A goal at which the walk is to stand: 'go_wp2_with (at_builtin; refine stop_here ?_)', then 'refine stop_go (law ..)'. -/
def Stop (p : Prop) : Prop := p
theorem stop_here {p : Prop} (h : Stop p) : p := h
theorem stop_go {p : Prop} (h : p) : Stop p := h

/-- A slice of n numbers at A reads as N, below block B. -/
def NmR (w : World) (B : Nat) (A : Option Addr) (n : Nat) (N : List Int) : Prop :=
  n = N.length ∧ (0 < n → ∃ b off, A = some ⟨b, off, none⟩ ∧ b < B ∧ ∀ (j : Nat) (h : j < N.length), w.cell? ⟨b, off + j, none⟩ = some (.int .u64 N[j]))
theorem NmR.len {w B A n N} (h : NmR w B A n N) : n = N.length := h.1
theorem NmR.at_ {w B A n N} (h : NmR w B A n N) {k : Nat} (hk : k < n) : ∃ b off, A = some ⟨b, off, none⟩ ∧ b < B ∧ ∀ (j : Nat) (h : j < N.length), w.cell? ⟨b, off + j, none⟩ = some (.int .u64 N[j]) := h.2 (by omega)
theorem NmR.keep {w w' B A n N} (h : NmR w B A n N) (hk : ∀ b o, b < B → w'.cell? ⟨b, o, none⟩ = w.cell? ⟨b, o, none⟩) : NmR w' B A n N :=
  ⟨h.1, fun hn => by
    obtain ⟨b, off, e, hb, hc⟩ := h.2 hn
    exact ⟨b, off, e, hb, fun j hj => by rw [hk _ _ hb]; exact hc j hj⟩⟩
theorem NmR.below {w w' B A n N} (h : NmR w B A n N) (hb : Below B w w') : NmR w' B A n N := h.keep fun b o hp => hb.cell (p := ⟨b, o, none⟩) hp
theorem NmR.mono {w B B' A n N} (h : NmR w B A n N) (hB : B ≤ B') : NmR w B' A n N :=
  ⟨h.1, fun hn => by
    obtain ⟨b, off, e, hb, hc⟩ := h.2 hn
    exact ⟨b, off, e, by omega, hc⟩⟩
theorem NmR.nil (w : World) (B : Nat) (A : Option Addr) : NmR w B A 0 [] := ⟨rfl, fun h => absurd h (by omega)⟩
theorem SpR.nil (w : World) (B : Nat) (A : Option Addr) : SpR w B A 0 [] := ⟨rfl, fun h => absurd h (by omega)⟩

/-! What the call itself owns. -/
def encS (x : Int × Int) : List Value := [.int .u64 x.1, .int .u64 x.2]
def encN (x : Int) : List Value := [.int .u64 x]
theorem encS_at : ∀ (L : List (Int × Int)) (j : Nat) (h : j < L.length), (L.flatMap encS)[j * 2]? = some (.int .u64 L[j].1) ∧ (L.flatMap encS)[j * 2 + 1]? = some (.int .u64 L[j].2)
  | x :: L, 0, _ => ⟨rfl, rfl⟩
  | x :: L, j + 1, h => by
    have ih := encS_at L j (by simpa using h)
    rw [show (j + 1) * 2 = j * 2 + 2 from by omega, show j * 2 + 2 + 1 = (j * 2 + 1) + 2 from by omega]
    exact ih
theorem encN_at : ∀ (L : List Int) (j : Nat) (h : j < L.length), (L.flatMap encN)[j]? = some (.int .u64 L[j])
  | x :: L, 0, _ => rfl
  | x :: L, j + 1, h => encN_at L j (by simpa using h)
theorem encS_len (L : List (Int × Int)) : (L.flatMap encS).length = L.length * 2 := by
  induction L with
  | nil => rfl
  | cons x L ih => rw [List.flatMap_cons, List.length_append, ih]; simp [encS]; omega
theorem encN_len (L : List Int) : (L.flatMap encN).length = L.length := by
  induction L with
  | nil => rfl
  | cons x L ih => rw [List.flatMap_cons, List.length_append, ih]; simp [encN]; omega
theorem encS_snoc (L : List (Int × Int)) (x : Int × Int) : (L ++ [x]).flatMap encS = L.flatMap encS ++ [.int .u64 x.1, .int .u64 x.2] := by
  rw [List.flatMap_append]
  rfl
theorem encN_snoc (L : List Int) (x : Int) : (L ++ [x]).flatMap encN = L.flatMap encN ++ [.int .u64 x] := by
  rw [List.flatMap_append]
  rfl

theorem encS_last (M : List (Int × Int)) (s t u : Int) : ((M ++ [(s, t)]).flatMap encS).set (M.length * 2 + 1) (.int .u64 u) = (M ++ [(s, u)]).flatMap encS := by
  rw [encS_snoc, encS_snoc, List.set_append_right _ _ (by rw [encS_len]; omega), encS_len, show M.length * 2 + 1 - M.length * 2 = 1 from by omega]
  rfl
theorem own_form {w : World} {base e size : Nat} {v : Value} {n : Nat} {xs : List Value} (h : w.ownsRow base e size v n xs) : ∃ A c, v = .slice A n c := by
  rcases h.2 with ⟨rfl, rfl⟩ | ⟨g, cap, cur, rfl, _⟩ <;> exact ⟨_, _, rfl⟩

theorem own_at {w : World} {base e size : Nat} {A : Option Addr} {n c : Nat} {xs : List Value} (h : w.ownsRow base e size (.slice A n c) n xs) (hn : 0 < n) :
    ∃ g, A = some ⟨g, 0, none⟩ ∧ base ≤ g ∧ g < w.heap.size ∧ (∀ j u, xs[j]? = some u → w.cell? ⟨g, 0 + j, none⟩ = some u) ∧ ∀ j, w.frozen? ⟨g, j, none⟩ = false := by
  rcases h.2 with ⟨_, rfl⟩ | ⟨g, cap, cur, hv, hg, hh, hc, hm, hs, ht⟩
  · omega
  · injection hv with h1 h2 h3
    subst h1 h3
    refine ⟨g, rfl, hg, ?_, fun j u hj => ?_, fun j => ?_⟩
    · rcases Nat.lt_or_ge g w.heap.size with hlt | hge
      · exact hlt
      · rw [Array.getElem?_eq_none hge] at hh; cases hh
    · rw [h.cellAt]
      · rw [Nat.zero_add]; exact hj
      · have := h.1
        have := (List.getElem?_eq_some_iff.1 hj).1
        omega
    · exact h.frozenAt j

theorem SpR.of_own {w : World} {base e : Nat} {A : Option Addr} {n c : Nat} {L : List (Int × Int)} (h : w.ownsRow base e 2 (.slice A n c) n (L.flatMap encS)) : SpR w w.heap.size A n L := by
  have hl := h.1
  rw [encS_len] at hl
  refine ⟨by omega, fun hn => ?_⟩
  obtain ⟨g, rfl, _, hg, hc, _⟩ := own_at h hn
  refine ⟨g, 0, rfl, hg, fun j hj => ?_⟩
  obtain ⟨h1, h2⟩ := encS_at L j hj
  exact ⟨hc _ _ h1, by rw [Nat.add_assoc]; exact hc _ _ h2⟩
theorem NmR.of_own {w : World} {base e : Nat} {A : Option Addr} {n c : Nat} {L : List Int} (h : w.ownsRow base e 1 (.slice A n c) n (L.flatMap encN)) : NmR w w.heap.size A n L := by
  have hl := h.1
  rw [encN_len] at hl
  refine ⟨by omega, fun hn => ?_⟩
  obtain ⟨g, rfl, _, hg, hc, _⟩ := own_at h hn
  exact ⟨g, 0, rfl, hg, fun j hj => hc _ _ (encN_at L j hj)⟩

/-- 'v = append(v, c1, ..)', the new ones in a block of their own that has just been laid. -/
theorem wpList_app {P : Program} {ops : Array Oper} {rest : List Oper} {o : Oper} {a : Act} {Q : Exit → Act → World → Prop} (W : World) (hgd : o.guard = none) (s x : Operand) (t : TypeId)
    (ho : o.op = .call { callee := .builtin .append, args := #[s, x], argTypes := #[t, t] })
    (base : Nat) (e : TypeId) (i : TypeInfo) (z : Value) (size bytes : Nat) (ht : P.underlying t = some (.slice e)) (hi : P.info? e = some i) (hz : i.zero = some z)
    (hsize : i.size = size) (hby : i.bytes = bytes) (hzs : z.cells.size = size) (hsz : 0 < size)
    (v : Value) (n : Nat) (xs : List Value) (hs : a.eval s = v) (hown : W.ownsRow base e size v n xs)
    (m : Nat) (cs : Array Value) (B : Nat) (hB : W.heap.size = B) (hx : a.eval x = .slice (some ⟨B, 0, none⟩) m m) (hcs : cs.size = m * size) (h1 : ∀ u ∈ cs.toList, u.oneCell' = true)
    (hbase : base ≤ W.heap.size) (hn : n + m ≤ 1099511627776) (hb64 : bytes ≤ 64)
    (h : ∀ A' c' w', w'.ownsRow base e size (.slice A' (n + m) c') (n + m) (xs ++ cs.toList) → Below base W w' → wpList P ops Q rest (a.put o.dst (.slice A' (n + m) c')) w') :
    wpList P ops Q (o :: rest) a (W.alloc (.cells cs e)) := by
  subst hB
  refine wpList_append_own _ hgd s x t ho base e i z size bytes ht hi hz hsize hby hzs hsz v n xs hs (hown.alloc _) ⟨W.heap.size, 0, none⟩ m m cs.toList hx (by simpa using hcs) ?_ h1 (by unfold maxLen; omega) ?_ (by simp; omega) ?_
  · intro j u hj
    have : (⟨W.heap.size, 0, none⟩ : Addr).add j = ⟨W.heap.size, j, none⟩ := by
      unfold Addr.add
      split <;> simp_all
    rw [this, cell_of_row _ _ _ cs e _ (heap_alloc_new W _)]
    simpa using hj
  · have : (n + m) * bytes ≤ 1099511627776 * 64 := Nat.mul_le_mul hn hb64
    omega
  · intro v' w' h2 h3 _
    obtain ⟨A', c', rfl⟩ := own_form h2
    refine h A' c' w' h2 ?_
    refine (((Below.refl base W).alloc hbase _).grown h3 (by simp; omega) fun k hk => ?_)
    exact (hown.lt k hk).1

/-- The same at one operation, in whatever world, the new ones' block known whole: for a region that draws its order. -/
theorem step_app {P : Program} {ops : Array Oper} {o : Oper} {a : Act} {K : Act → World → Prop} {Q : Exit → Act → World → Prop} {E : Prop} (W : World) (hgd : o.guard = none) (s x : Operand) (t : TypeId)
    (ho : o.op = .call { callee := .builtin .append, args := #[s, x], argTypes := #[t, t] })
    (base : Nat) (e : TypeId) (i : TypeInfo) (z : Value) (size bytes : Nat) (ht : P.underlying t = some (.slice e)) (hi : P.info? e = some i) (hz : i.zero = some z)
    (hsize : i.size = size) (hby : i.bytes = bytes) (hzs : z.cells.size = size) (hsz : 0 < size)
    (v : Value) (n : Nat) (xs : List Value) (hs : a.eval s = v) (hown : W.ownsRow base e size v n xs)
    (m B : Nat) (cs : Array Value) (hx : a.eval x = .slice (some ⟨B, 0, none⟩) m m) (hblk : W.heap[B]? = some (.cells cs e (0, 0))) (hcs : cs.size = m * size) (h1 : ∀ u ∈ cs.toList, u.oneCell' = true)
    (hbase : base ≤ W.heap.size) (hn : n + m ≤ 1099511627776) (hb64 : bytes ≤ 64)
    (h : ∀ A' c' w', w'.ownsRow base e size (.slice A' (n + m) c') (n + m) (xs ++ cs.toList) → Below base W w' → K (a.put o.dst (.slice A' (n + m) c')) w') :
    if Region.wanted o (yielded ops a.tmps) = true then Oper.wp P o a W K Q else E := by
  rw [if_pos (by simp [Region.wanted, hgd])]
  refine wp_append_own _ s x t ho base e i z size bytes ht hi hz hsize hby hzs hsz v n xs hs hown ⟨B, 0, none⟩ m m cs.toList hx (by simpa using hcs) ?_ h1 (by unfold maxLen; omega) ?_ hbase ?_
  · intro j u hj
    have : (⟨B, 0, none⟩ : Addr).add j = ⟨B, j, none⟩ := by
      unfold Addr.add
      split <;> simp_all
    rw [this, cell_of_row _ _ _ cs e _ hblk]
    simpa using hj
  · have : (n + m) * bytes ≤ 1099511627776 * 64 := Nat.mul_le_mul hn hb64
    omega
  · intro v' w' h2 h3 _
    obtain ⟨A', c', rfl⟩ := own_form h2
    refine h A' c' w' h2 ?_
    exact (Below.refl base W).grown h3 hbase fun k hk => (hown.lt k hk).1

/-- What a call hands back that makes a list of numbers, or of spans. -/
def NmOut (w : World) (N : List Int) (e : Ending) (w' : World) : Prop := ∃ A n c, e = .returned (.slice A n c) ∧ NmR w' w'.heap.size A n N ∧ Below w.heap.size w w'
def SpOut (w : World) (L : List (Int × Int)) (e : Ending) (w' : World) : Prop := ∃ A n c, e = .returned (.slice A n c) ∧ SpR w' w'.heap.size A n L ∧ Below w.heap.size w w'
end Go.Proofs.Ytpglooaebndbiaa.SpanLay
