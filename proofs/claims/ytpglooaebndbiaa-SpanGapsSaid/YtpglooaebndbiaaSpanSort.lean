/-
  What the functions of package span answer: a list of spans that the call owns, sorted by where they begin.
-/
import Derived.Test.YtpglooaebndbiaaSpanLay
import Derived.Test.YtpglooaebndbiaaSpanPlain2
import Derived.Test.YtpglooaebndbiaaSpanShelf
import Derived.Shelf.SlSortCmp.NoneTotal
namespace Go.Proofs.Ytpglooaebndbiaa.SpanSort
open Go.Shelf Go.RowKit SpanLay SpanPlain SpanPlain2
open Go.Sort (HoldsK holdsK_grow holdsK_ahead holdsK_putRowK grow PermIn SortedIn SWO putRowK putRow mapBlock grow_grow alloc_eq_grow flatK)

def cmpI (a b : Int) : Int := if a < b then -1 else if b < a then 1 else 0

theorem compare_any (a b : Int) (w : World) :
    Calls Try.prog 55 #[.int .u64 a, .int .u64 b] w fun e w' => e = .returned (.int .i64 (cmpI a b)) ∧ w = w' := by
  rcases Int.lt_trichotomy a b with h | h | h
  · go_enter Try.func55, Try.ntmps55
    go_wp2
    go_ret
    exact ⟨ret_int (by unfold cmpI; rw [if_pos h]), rfl⟩
  · subst h
    go_enter Try.func55, Try.ntmps55
    go_wp2
    go_ret
    exact ⟨ret_int (by unfold cmpI; rw [if_neg (by omega), if_neg (by omega)]), rfl⟩
  · have h' : ¬ a < b := by omega
    go_enter Try.func55, Try.ntmps55
    go_wp2
    go_ret
    exact ⟨ret_int (by unfold cmpI; rw [if_neg (by omega), if_pos h]), rfl⟩

theorem from_any (x y : Int × Int) (W : World) : Calls Try.prog 49 #[.agg #[.int .u64 x.1, .int .u64 x.2], .agg #[.int .u64 y.1, .int .u64 y.2]] W fun e w' => e = .returned (.int .i64 (cmpI x.1 y.1)) ∧ ∃ q os', w' = grow (W.drewN q) os' := by
  have hcon := fun W' => compare_any x.1 y.1 W'
  generalize cmpI x.1 y.1 = r at hcon ⊢
  go_enter Try.func49, Try.ntmps49
  go_wp2_with (go_at_call 55; refine (hcon _).mono ?_; rintro e w' ⟨rfl, rfl⟩)
  go_ret
  exact ⟨rfl, 0, _, by rw [alloc_eq_grow, alloc_eq_grow, grow_grow]; rfl⟩

theorem lt_from (x y : Int × Int) : ltOf (fun x y : Int × Int => cmpI x.1 y.1) x y = decide (x.1 < y.1) := by
  unfold ltOf cmpI
  by_cases h1 : x.1 < y.1
  · simp [h1]
  · by_cases h2 : y.1 < x.1 <;> simp [h1, h2]
theorem swo_from : SWO (ltOf fun x y : Int × Int => cmpI x.1 y.1) where
  irrefl x := by rw [lt_from]; simp
  trans x y z h1 h2 := by rw [lt_from] at *; simp at *; omega
  ntrans x y z h1 h2 := by rw [lt_from] at *; simp at *; omega

theorem below_sorted {w : World} {base g n : Nat} {os : Array Obj} (d : Array (Int × Int)) (hg : base ≤ g) (hB : base ≤ w.heap.size) : Below base w (sortWorldK encS 2 w g 0 n d os) := by
  refine ⟨rfl, rfl, rfl, ?_, fun k hk => ?_⟩
  · simp [sortWorldK, grow, putRowK, Sort.ahead]
  · have hne : g ≠ k := by omega
    have h1 : (sortWorldK encS 2 w g 0 n d os).heap[k]? = (putRowK encS 2 (Sort.ahead w n) g 0 d).heap[k]? := by
      unfold sortWorldK grow
      rw [Array.getElem?_append_left (by simp [putRowK, Sort.ahead]; omega)]
    rw [h1]
    simp [putRowK, putRow, mapBlock, Sort.ahead, Array.getElem?_modify, hne]

/-- What sorting leaves of a list that the call owns. -/
def Sorted (w : World) (base : Nat) (A : Option Addr) (n : Nat) (L : List (Int × Int)) (e : Ending) (w' : World) : Prop :=
  e = .returned (.tuple #[]) ∧ ∃ D : List (Int × Int), D.Perm L ∧ (D.Pairwise fun s t => s.1 ≤ t.1) ∧ SpR w' w'.heap.size A n D ∧ Below base w w'

theorem holds_own {w : World} {base e g c n : Nat} {L : List (Int × Int)} (h : w.ownsRow base e 2 (.slice (some ⟨g, 0, none⟩) n c) n (L.flatMap encS)) : HoldsK encS 2 w g 0 L.toArray := by
  intro j hj
  have hl := h.1
  rw [encS_len] at hl
  rw [Go.Sort.size_flatK, List.size_toArray] at hj
  refine ⟨?_, h.frozenAt _⟩
  rw [Nat.zero_add, h.cellAt j (by omega), Go.Sort.get_flatK _ _ _ _ (by simpa using hj)]
  have hd : j / 2 < L.length := by omega
  obtain ⟨e1, e2⟩ := encS_at L (j / 2) hd
  rw [show L.toArray[j / 2]! = L[j / 2] from by simp [hd]]
  rcases Nat.mod_two_eq_zero_or_one j with hm | hm
  · rw [show j / 2 * 2 = j from by omega] at e1
    rw [e1, hm]
    rfl
  · rw [show j / 2 * 2 + 1 = j from by omega] at e2
    rw [e2, hm]
    rfl

theorem sort_any (base : Nat) (A : Option Addr) (n c : Nat) (L : List (Int × Int)) (w : World) (hown : w.ownsRow base 35 2 (.slice A n c) n (L.flatMap encS)) (hm : n ≤ 1000000000) (hB : base ≤ w.heap.size) :
    Calls Try.prog 54 #[.slice A n c, .func (.func 49) #[] #[]] w (Sorted w base A n L) := by
  have hl := hown.1
  rw [encS_len] at hl
  rcases Nat.eq_zero_or_pos n with h0 | h0
  · subst h0
    obtain rfl : L = [] := List.eq_nil_of_length_eq_zero (by omega)
    have hcon := AnyF.slices_SortFunc_none Try.sortSp A c (.func (.func 49) #[] #[]) w
    change Calls Try.prog 54 _ _ _ at hcon
    refine hcon.mono ?_
    rintro e w' ⟨rfl, rfl⟩
    exact ⟨rfl, [], List.Perm.refl _, List.Pairwise.nil, SpR.nil _ _ _, Below.refl _ _⟩
  · obtain ⟨g, rfl, hg, hgs, _, _⟩ := own_at hown h0
    have eg : ∀ args w, (callFunc 49 args).run Try.prog w = .ok (.enter 49 args) w := enters_of Try.func49 (by kernel_rfl) rfl
    have hsz : L.toArray.size = n := by simp; omega
    have hcon := AnyQ.slices_SortFunc Try.sortSp 2 Try.isAgg35 Try.sizeOf35 encS (fun _ => rfl) (fun x v hv => by simp [encS] at hv; rcases hv with rfl | rfl <;> rfl) (fun x y => cmpI x.1 y.1) swo_from 49 #[] g 0 c L.toArray w eg
      (fun _ _ _ _ x y => from_any x y _) (holds_own hown) hgs (by omega)
    rw [hsz] at hcon
    change Calls Try.prog 54 _ _ _ at hcon
    refine hcon.mono ?_
    rintro e w' ⟨rfl, d', m, os, ⟨hp1, hp2, hp3⟩, hs, rfl⟩
    have hd : d'.size = n := by rw [hp1, hsz]
    refine ⟨rfl, d'.toList, ?_, ?_, ⟨by simp [hd], fun _ => ⟨g, 0, rfl, ?_, fun j hj => ?_⟩⟩, below_sorted d' hg hB⟩
    · rw [Array.extract_eq_self_of_le (by omega), Array.extract_eq_self_of_le (by omega)] at hp3
      simpa using hp3
    · rw [List.pairwise_iff_getElem]
      intro i j hi hj hij
      have := hs i j (Nat.zero_le _) hij (by simp at hj; omega)
      rw [lt_from, decide_eq_false_iff_not] at this
      simp only [Array.length_toList] at hi hj
      rw [getElem!_pos d' j hj, getElem!_pos d' i hi] at this
      simp only [Array.getElem_toList]
      omega
    · simp [sortWorldK, grow, putRowK, Sort.ahead]; omega
    · simp only [Array.length_toList] at hj
      have hH := holdsK_grow encS 2 _ os g 0 d' (by simp [putRowK, Sort.ahead]; omega) (holdsK_putRowK encS 2 _ g 0 L.toArray d' (holdsK_ahead encS 2 w m g 0 L.toArray (holds_own hown)) hp1)
      have c0 := (hH.cell (i := j) (c := 0) hj (by omega)).1
      have c1 := (hH.cell (i := j) (c := 1) hj (by omega)).1
      rw [getElem!_pos d' j hj] at c0 c1
      exact ⟨c0, c1⟩
end Go.Proofs.Ytpglooaebndbiaa.SpanSort
