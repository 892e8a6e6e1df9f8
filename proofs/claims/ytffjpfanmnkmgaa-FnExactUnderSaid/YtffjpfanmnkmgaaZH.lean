/-
  What is proved here: plain facts on heaps as lists of pairs: up, down, picking the least, order; contracts of the laws' small functions on items and on slices of items; items that are copied, marked, and held against their marks; contracts of less, of the place above, and of the exchange of two items, on both sides; an item goes up in a heap, on both sides alike; whether a list is a heap, as the model and as the code tell it; an item goes up in a heap, as the model has it; HeapOk, as the code and as the model tell it; the place of an id on both sides; a copy of items as a heap of one's own; push; an item goes down in a heap, as the code has it; push, pop and arrange on a heap of the code's own; pop and arrange on a heap of the code's own; plain facts on heaps: what goes up or down leaves a heap of the same items; the first is the least; plain facts on heaps: what is left when the first is taken; what a lesser key leaves. No conditions beyond those that each theorem states.
-/
import Derived.Test.YtffjpfanmnkmgaaW1
import Derived.BigRegion
import Derived.IntWalk
import Derived.Maps.OwnSet
import Derived.Laws.EntriesVeiled
import Derived.Test.YtffjpfanmnkmgaaW2
set_option linter.unusedSimpArgs false
set_option linter.unusedVariables false
namespace Go.Proofs.Ytffjpfanmnkmgaa

/-- An item as two numbers: key and id. -/
abbrev It := Int × Int
def lessI (a b : It) : Bool := decide (a.1 < b.1 ∨ a.1 = b.1 ∧ a.2 < b.2)
theorem lessI_trans {a b c : It} (h : lessI a b = true) (k : lessI b c = true) : lessI a c = true := by
  simp only [lessI, decide_eq_true_eq] at *
  omega
theorem lessI_asymm {a b : It} (h : lessI a b = true) : lessI b a = false := by
  simp only [lessI, decide_eq_true_eq, decide_eq_false_iff_not] at *
  omega
theorem lessI_neg_trans {a b c : It} (h : lessI a b = false) (k : lessI b c = false) : lessI a c = false := by
  simp only [lessI, decide_eq_false_iff_not] at *
  omega
theorem lessI_irrefl (a : It) : lessI a a = false := by
  simp [lessI]

def atI (L : List It) (k : Nat) : It := L.getD k (0, 0)
theorem atI_eq {L : List It} {k : Nat} (h : k < L.length) : atI L k = L[k] := by simp [atI, h]
theorem atI_set {L : List It} {i k : Nat} {x : It} (hi : i < L.length) : atI (L.set i x) k = if k = i then x else atI L k := by
  unfold atI
  rw [List.getD_eq_getElem?_getD, List.getD_eq_getElem?_getD, List.getElem?_set]
  by_cases h : i = k
  · subst h; simp [hi]
  · rw [if_neg h, if_neg (fun e => h e.symm)]

/-- Two items change places. -/
def swapI (L : List It) (i j : Nat) : List It := (L.set i (atI L j)).set j (atI L i)
theorem swapI_len (L : List It) (i j : Nat) : (swapI L i j).length = L.length := by simp [swapI]

/-- Up, as long as it is less than the one above. -/
def upI (L : List It) (k : Nat) : List It :=
  if h : 0 < k ∧ lessI (atI L k) (atI L ((k - 1) / 2)) = true then upI (swapI L k ((k - 1) / 2)) ((k - 1) / 2) else L
termination_by k
decreasing_by omega
theorem upI_step {L : List It} {k : Nat} (h0 : 0 < k) (h : lessI (atI L k) (atI L ((k - 1) / 2)) = true) : upI L k = upI (swapI L k ((k - 1) / 2)) ((k - 1) / 2) := by
  rw [upI]; simp [h0, h]
theorem upI_zero (L : List It) : upI L 0 = L := by rw [upI]; simp
theorem upI_stop {L : List It} {k : Nat} (h : lessI (atI L k) (atI L ((k - 1) / 2)) = false) : upI L k = L := by
  rw [upI]; simp [h]
theorem upI_len (L : List It) (k : Nat) : (upI L k).length = L.length := by
  induction k using Nat.strongRecOn generalizing L with
  | ind k ih =>
    rw [upI]
    split
    · rename_i h
      rw [ih _ (by omega), swapI_len]
    · rfl

/-- The least so far of a place and the first i below it. -/
def bestI (L : List It) (p : Nat) : Nat → Nat
  | 0 => p
  | i + 1 => if 2 * p + 1 + i < L.length ∧ lessI (atI L (2 * p + 1 + i)) (atI L (bestI L p i)) = true then 2 * p + 1 + i else bestI L p i
def pickI (L : List It) (p : Nat) : Nat := bestI L p 2
theorem bestI_lt {L : List It} {p : Nat} (hp : p < L.length) : ∀ i, bestI L p i < L.length
  | 0 => hp
  | i + 1 => by
    unfold bestI
    split
    · rename_i h; exact h.1
    · exact bestI_lt hp i
theorem bestI_ge {L : List It} {p : Nat} : ∀ i, p ≤ bestI L p i
  | 0 => Nat.le_refl _
  | i + 1 => by
    unfold bestI
    split
    · omega
    · exact bestI_ge i
theorem bestI_yes {L : List It} {p i : Nat} (h : 2 * p + 1 + i < L.length) (k : lessI (atI L (2 * p + 1 + i)) (atI L (bestI L p i)) = true) : bestI L p (i + 1) = 2 * p + 1 + i := by
  rw [bestI, if_pos ⟨h, k⟩]
theorem bestI_no {L : List It} {p i : Nat} (k : lessI (atI L (2 * p + 1 + i)) (atI L (bestI L p i)) = false) : bestI L p (i + 1) = bestI L p i := by
  rw [bestI, if_neg (by rw [k]; simp)]
theorem bestI_out {L : List It} {p i : Nat} (h : L.length ≤ 2 * p + 1 + i) : bestI L p (i + 1) = bestI L p i := by
  rw [bestI, if_neg (by omega)]
theorem pickI_out {L : List It} {p i : Nat} (hi : i ≤ 2) (h : i = 2 ∨ L.length ≤ 2 * p + 1 + i) : pickI L p = bestI L p i := by
  rcases h with rfl | h
  · rfl
  · unfold pickI
    match i, hi, h with
    | 0, _, h => rw [bestI_out (by omega), bestI_out (by omega)]
    | 1, _, h => rw [bestI_out (by omega)]
    | 2, _, h => rfl

theorem pickI_ge (L : List It) (p : Nat) : p ≤ pickI L p := bestI_ge 2
theorem pickI_lt {L : List It} {p : Nat} (hp : p < L.length) : pickI L p < L.length := bestI_lt hp 2
theorem pickI_none {L : List It} {p : Nat} (hp : L.length ≤ p) : pickI L p = p := by
  rw [pickI_out (i := 0) (by omega) (.inr (by omega))]; rfl
theorem pickI_lt' {L : List It} {p : Nat} (h : pickI L p ≠ p) : pickI L p < L.length := by
  rcases Nat.lt_or_ge p L.length with hp | hp
  · exact pickI_lt hp
  · exact absurd (pickI_none hp) h

/-- Down, by way of the lesser of the two below. -/
def downI (L : List It) (p : Nat) : List It :=
  if h : pickI L p ≠ p then downI (swapI L p (pickI L p)) (pickI L p) else L
termination_by L.length - p
decreasing_by
  have := pickI_ge L p
  have := pickI_lt' h
  rw [swapI_len]
  omega
theorem downI_step {L : List It} {p : Nat} (h : pickI L p ≠ p) : downI L p = downI (swapI L p (pickI L p)) (pickI L p) := by
  rw [downI]; simp [h]
theorem downI_stop {L : List It} {p : Nat} (h : pickI L p = p) : downI L p = L := by
  rw [downI]; simp [h]
theorem downI_len_aux (n : Nat) : ∀ (L : List It) (p : Nat), L.length - p = n → (downI L p).length = L.length := by
  induction n using Nat.strongRecOn with
  | ind n ih =>
    intro L p hn
    by_cases h : pickI L p = p
    · rw [downI_stop h]
    · rw [downI_step h]
      have h1 := pickI_ge L p
      have h2 := pickI_lt' h
      rw [ih (L.length - pickI L p) (by omega) _ _ (by rw [swapI_len]), swapI_len]
theorem downI_len (L : List It) (p : Nat) : (downI L p).length = L.length := downI_len_aux _ L p rfl

/-- The lesser of the two below, the first where there is one alone. -/
def lowI (L : List It) (p : Nat) : Nat := if 2 * p + 2 < L.length ∧ lessI (atI L (2 * p + 2)) (atI L (2 * p + 1)) = true then 2 * p + 2 else 2 * p + 1
theorem pickI_low_yes {L : List It} {p : Nat} (h1 : 2 * p + 1 < L.length) (h : lessI (atI L (lowI L p)) (atI L p) = true) : pickI L p = lowI L p := by
  unfold pickI
  unfold lowI at h ⊢
  by_cases h2 : 2 * p + 2 < L.length ∧ lessI (atI L (2 * p + 2)) (atI L (2 * p + 1)) = true
  · rw [if_pos h2] at h ⊢
    cases hc : lessI (atI L (2 * p + 1)) (atI L p) with
    | true =>
      have e : bestI L p 1 = 2 * p + 1 := bestI_yes (by omega) hc
      exact bestI_yes (i := 1) (by omega) (by rw [e]; exact h2.2)
    | false =>
      have e : bestI L p 1 = p := bestI_no (i := 0) hc
      exact bestI_yes (i := 1) (by omega) (by rw [e]; exact h)
  · rw [if_neg h2] at h ⊢
    have e : bestI L p 1 = 2 * p + 1 := bestI_yes (by omega) h
    by_cases h3 : 2 * p + 2 < L.length
    · have hn : lessI (atI L (2 * p + 2)) (atI L (2 * p + 1)) = false := by
        cases hx : lessI (atI L (2 * p + 2)) (atI L (2 * p + 1)) with
        | false => rfl
        | true => exact absurd ⟨h3, hx⟩ h2
      rw [bestI_no (i := 1) (by rw [e]; exact hn), e]
    · rw [bestI_out (i := 1) (by omega), e]
theorem pickI_low_no {L : List It} {p : Nat} (h1 : 2 * p + 1 < L.length) (h : lessI (atI L (lowI L p)) (atI L p) = false) : pickI L p = p := by
  unfold pickI
  unfold lowI at h
  by_cases h2 : 2 * p + 2 < L.length ∧ lessI (atI L (2 * p + 2)) (atI L (2 * p + 1)) = true
  · rw [if_pos h2] at h
    have hc : lessI (atI L (2 * p + 1)) (atI L p) = false := lessI_neg_trans (lessI_asymm h2.2) h
    have e : bestI L p 1 = p := bestI_no (i := 0) hc
    rw [bestI_no (i := 1) (by rw [e]; exact h), e]
  · rw [if_neg h2] at h
    have e : bestI L p 1 = p := bestI_no (i := 0) h
    by_cases h3 : 2 * p + 2 < L.length
    · have hn : lessI (atI L (2 * p + 2)) (atI L (2 * p + 1)) = false := by
        cases hx : lessI (atI L (2 * p + 2)) (atI L (2 * p + 1)) with
        | false => rfl
        | true => exact absurd ⟨h3, hx⟩ h2
      rw [bestI_no (i := 1) (by rw [e]; exact lessI_neg_trans hn h), e]
    · rw [bestI_out (i := 1) (by omega), e]
theorem pickI_leaf {L : List It} {p : Nat} (h : L.length ≤ 2 * p + 1) : pickI L p = p := by
  rw [pickI_out (i := 0) (by omega) (.inr (by omega))]; rfl

/-- Down from place n less 1, and so on to 0. -/
def arrI : Nat → List It → List It
  | 0, L => L
  | n + 1, L => arrI n (downI L n)
theorem arrI_len : ∀ (n : Nat) (L : List It), (arrI n L).length = L.length
  | 0, _ => rfl
  | n + 1, L => by rw [arrI, arrI_len n, downI_len]

/-- Are the first n no less than what is above them? -/
def ordI (L : List It) (n : Nat) : Bool := (List.range n).all fun i => !(decide (0 < i) && lessI (atI L i) (atI L ((i - 1) / 2)))
/-- Has i an id that none of the first k has? -/
def newI (L : List It) (i k : Nat) : Bool := (List.range k).all fun j => (atI L j).2 != (atI L i).2
/-- Have the first n unlike ids? -/
def idsI (L : List It) (n : Nat) : Bool := (List.range n).all fun i => newI L i i
/-- Is it a heap? -/
def heapI (L : List It) : Bool := decide (L.length ≤ 100) && (idsI L L.length && ordI L L.length)
theorem ordI_succ (L : List It) (n : Nat) : ordI L (n + 1) = (ordI L n && !(decide (0 < n) && lessI (atI L n) (atI L ((n - 1) / 2)))) := by
  simp [ordI, List.range_succ, List.all_append]
theorem idsI_succ (L : List It) (n : Nat) : idsI L (n + 1) = (idsI L n && newI L n n) := by
  simp [idsI, List.range_succ, List.all_append]
theorem newI_succ (L : List It) (i k : Nat) : newI L i (k + 1) = (newI L i k && ((atI L k).2 != (atI L i).2)) := by
  simp [newI, List.range_succ, List.all_append]
theorem all_range_false {n k : Nat} {f : Nat → Bool} (h : k < n) (hf : f k = false) : (List.range n).all f = false := by
  cases ha : (List.range n).all f with
  | false => rfl
  | true =>
    rw [List.all_eq_true] at ha
    have := ha k (List.mem_range.2 h)
    rw [hf] at this
    cases this
theorem ordI_false {L : List It} {n k : Nat} (h : k < n) (h0 : 0 < k) (hl : lessI (atI L k) (atI L ((k - 1) / 2)) = true) : ordI L n = false :=
  all_range_false h (by simp [h0, hl])
theorem newI_false {L : List It} {i k j : Nat} (h : j < k) (he : (atI L j).2 = (atI L i).2) : newI L i k = false :=
  all_range_false h (by simp [he])
theorem idsI_false {L : List It} {n k : Nat} (h : k < n) (he : newI L k k = false) : idsI L n = false := all_range_false h he
theorem heapI_ord_no {L : List It} (h : ordI L L.length = false) : heapI L = false := by simp [heapI, h]
theorem heapI_ids_no {L : List It} (h : idsI L L.length = false) : heapI L = false := by simp [heapI, h]
theorem heapI_len_no {L : List It} (h : 100 < L.length) : heapI L = false := by
  simp [heapI]; omega
theorem heapI_yes {L : List It} (h1 : idsI L L.length = true) (h2 : ordI L L.length = true) : heapI L = decide (L.length ≤ 100) := by simp [heapI, h1, h2]
theorem heapI_of {L : List It} (h0 : L.length ≤ 100) (h1 : idsI L L.length = true) : heapI L = ordI L L.length := by simp [heapI, h0, h1]

/-- The place of an id. -/
def findI (L : List It) (id : Int) : Option Nat := L.findIdx? fun a => a.2 == id
def placeI (L : List It) (id : Int) : Int := match findI L id with | some k => k | none => -1
theorem placeI_at {L : List It} {id : Int} {k : Nat} (h : k < L.length) (he : (L[k].2 == id) = true) (hb : ∀ j (hj : j < k), (L[j].2 == id) = false) : placeI L id = k := by
  have : findI L id = some k := by
    unfold findI
    rw [List.findIdx?_eq_some_iff_getElem]
    exact ⟨h, he, fun j hj => by simpa using hb j hj⟩
  rw [placeI, this]
theorem placeI_none {L : List It} {id : Int} (h : ∀ j (hj : j < L.length), (L[j].2 == id) = false) : placeI L id = -1 := by
  have : findI L id = none := by
    unfold findI
    rw [List.findIdx?_eq_none_iff]
    intro x hx
    obtain ⟨j, hj, rfl⟩ := List.mem_iff_getElem.1 hx
    exact h j hj
  rw [placeI, this]
theorem placeI_lt {L : List It} {id : Int} (h : 0 ≤ placeI L id) : ∃ k : Nat, placeI L id = k ∧ k < L.length := by
  unfold placeI at h ⊢
  cases hf : findI L id with
  | none => rw [hf] at h; simp at h
  | some k =>
    refine ⟨k, rfl, ?_⟩
    unfold findI at hf
    rw [List.findIdx?_eq_some_iff_getElem] at hf
    exact hf.1
theorem placeI_ge (L : List It) (id : Int) : -1 ≤ placeI L id := by
  unfold placeI
  cases findI L id <;> simp

end Go.Proofs.Ytffjpfanmnkmgaa

set_option linter.unusedSimpArgs false
set_option linter.unusedVariables false
namespace Go.Proofs.Ytffjpfanmnkmgaa
open Go.RowKit

/-- The cells of items, one behind the other. -/
def cs2 : List It → List Value
  | [] => []
  | a :: l => .int .i64 a.1 :: .int .i64 a.2 :: cs2 l
theorem cs2_append : ∀ (l m : List It), cs2 (l ++ m) = cs2 l ++ cs2 m
  | [], _ => rfl
  | a :: l, m => by simp [cs2, cs2_append l m]
theorem cs2_length : ∀ (l : List It), (cs2 l).length = l.length * 2
  | [] => rfl
  | a :: l => by simp [cs2, cs2_length l]; omega
theorem cs2_at : ∀ (l : List It) (k : Nat) (h : k < l.length), (cs2 l)[k * 2]? = some (.int .i64 l[k].1) ∧ (cs2 l)[k * 2 + 1]? = some (.int .i64 l[k].2)
  | a :: l, 0, _ => ⟨rfl, rfl⟩
  | a :: l, k + 1, h => by
    have h' : k < l.length := by simpa using h
    obtain ⟨x, y⟩ := cs2_at l k h'
    have e0 : (k + 1) * 2 = k * 2 + 2 := by omega
    refine ⟨?_, ?_⟩
    · rw [e0]; simpa [cs2] using x
    · rw [e0, show k * 2 + 2 + 1 = (k * 2 + 1) + 2 from by omega]; simpa [cs2] using y
theorem cs2_set : ∀ (l : List It) (k : Nat) (x : It), cs2 (l.set k x) = ((cs2 l).set (k * 2) (.int .i64 x.1)).set (k * 2 + 1) (.int .i64 x.2)
  | [], _, _ => by simp [cs2]
  | a :: l, 0, x => by simp [cs2]
  | a :: l, k + 1, x => by
    have e0 : (k + 1) * 2 = k * 2 + 2 := by omega
    rw [e0, show k * 2 + 2 + 1 = (k * 2 + 1) + 2 from by omega]
    simp [cs2, cs2_set l k x]
theorem cs2_take : ∀ (l : List It) (k : Nat), cs2 (l.take k) = (cs2 l).take (k * 2)
  | [], _ => by simp [cs2]
  | a :: l, 0 => by simp [cs2]
  | a :: l, k + 1 => by
    rw [show (k + 1) * 2 = k * 2 + 2 from by omega]
    simp [cs2, cs2_take l k]

/-- The slice at A reads as the items L, below block B. -/
def ItemsAt (w : World) (B : Nat) (A : Option Addr) (L : List It) : Prop := CellsAt w B A (cs2 L)
theorem ItemsAt.cell {w : World} {B : Nat} {A : Option Addr} {L : List It} (h : ItemsAt w B A L) (h0 : 0 < L.length) :
    ∃ g off, A = some ⟨g, off, none⟩ ∧ g < B ∧ ∀ k (hk : k < L.length), w.cell? ⟨g, off + k * 2, none⟩ = some (.int .i64 L[k].1) ∧ w.cell? ⟨g, off + k * 2 + 1, none⟩ = some (.int .i64 L[k].2) := by
  obtain ⟨g, off, e, hg, hc⟩ := h (by rw [cs2_length]; omega)
  refine ⟨g, off, e, hg, fun k hk => ?_⟩
  obtain ⟨x, y⟩ := cs2_at L k hk
  have hl := cs2_length L
  refine ⟨?_, ?_⟩
  · rw [hc (k * 2) (by omega), ← x, List.getElem?_eq_getElem]
  · rw [Nat.add_assoc, hc (k * 2 + 1) (by omega), ← y, List.getElem?_eq_getElem]
theorem ItemsAt.bl {w w' : World} {A : Option Addr} {L : List It} (h : ItemsAt w w.heap.size A L) (hb : Bl w w') : ItemsAt w' w'.heap.size A L := CellsAt.bl h hb
theorem ItemsAt.bl' {w w' : World} {B : Nat} {A : Option Addr} {L : List It} (h : ItemsAt w B A L) (hB : B ≤ w.heap.size) (hb : Bl w w') : ItemsAt w' B A L := CellsAt.bl' h hB hb
theorem ItemsAt.more {w : World} {B B' : Nat} {A : Option Addr} {L : List It} (h : ItemsAt w B A L) (hB : B ≤ B') : ItemsAt w B' A L := CellsAt.more h hB
theorem ItemsAt.grown_ {w w' : World} {B : Nat} {A : Option Addr} {L : List It} {row : Option Nat} (h : ItemsAt w B A L) (hB : B ≤ w.heap.size) (hg : w.grownBy w' row)
    (hne : ∀ g, blockOf A = some g → g < B → some g ≠ row) : ItemsAt w' B A L := CellsAt.grown_ h hB hg hne

/-- The value v owns the items L, in blocks from B on. -/
def OwnI (w : World) (B : Nat) (v : Value) (L : List It) : Prop := Owns 82 2 w B v L.length (cs2 L)
/-- The items may be written. -/
def ItemsW (w : World) (A : Option Addr) (n : Nat) : Prop := RowsW 82 2 w A n

theorem infoItem : (Try.prog.info? 82).map (fun i => (i.zero, i.size, i.bytes)) = some (some (.agg #[.int .i64 0, .int .i64 0]), 2, 16) := by kernel_rfl

-- (szItemS_any left out)
-- (szItemS_small left out)

-- (toItem_any left out)

-- (eqItem_yes left out)

-- (eqItemS_yes left out)

end Go.Proofs.Ytffjpfanmnkmgaa

set_option linter.unusedSimpArgs false
set_option linter.unusedVariables false
namespace Go.Proofs.Ytffjpfanmnkmgaa
open Go.RowKit

/-- The cells of n new items. -/
def mk2 (n : Nat) : Array Value := madeCells (Value.agg #[.int .i64 0, .int .i64 0]).cells (n * 2)
theorem size_mk2 (n : Nat) : (mk2 n).size = n * 2 := size_madeCells _ _
theorem make_items (n : Nat) (hn : n ≤ 1048576) (w : World) : (Instr.makeSlice 78 (.int .i64 (n : Int)) (.int .i64 (n : Int))).run Try.prog w = .ok (.slice (some ⟨w.heap.size, 0, none⟩) n n) (w.alloc (.cells (mk2 n) 82)) := by
  obtain ⟨i0, hi, hz0, hz1, hz2⟩ := info_parts infoItem
  have h := run_make_rowN (P := Try.prog) 78 82 i0 _ Try.underlying78 hi hz0 .i64 .i64 n n (Nat.le_refl _) (by rw [hz2]; omega) (by omega) w
  rw [hz1] at h
  exact h

/-- What a copy of items leaves: a row of its own. -/
def ItemsMade (n : Nat) (L : List It) (w : World) (e : Ending) (w' : World) : Prop :=
  ∃ g, e = .returned (.slice (some ⟨g, 0, none⟩) n n) ∧ OwnI w' w.heap.size (.slice (some ⟨g, 0, none⟩) n n) L ∧ Bl w w' ∧ w.heap.size < w'.heap.size

/-- A row whose first k items are those of L. -/
def Filled (w : World) (g n k : Nat) (L : List It) : Prop := ∃ cur : Array Value, w.heap[g]? = some (.cells cur 82 (0, 0)) ∧ cur.size = n * 2 ∧ ∀ j (h : j < k) (h' : j < L.length), cur[j * 2]? = some (.int .i64 L[j].1) ∧ cur[j * 2 + 1]? = some (.int .i64 L[j].2)
theorem Filled.cells {w : World} {g n k : Nat} {L : List It} (h : Filled w g n k L) : (∀ o, w.frozen? ⟨g, o, none⟩ = false) ∧ g < w.heap.size ∧ ∀ o, o < n * 2 → ∃ v, w.cell? ⟨g, o, none⟩ = some v := by
  obtain ⟨cur, hb, hs, _⟩ := h
  refine ⟨fun o => by simp [World.frozen?, hb], (Array.getElem?_eq_some_iff.1 hb).1, fun o ho => ⟨cur[o]'(by omega), ?_⟩⟩
  simp [World.cell?, hb, show o < cur.size from by omega]
theorem Filled.step {w : World} {g n k : Nat} {L : List It} (h : Filled w g n k L) (hk : k < n) (hl : k < L.length) {x y : Int} (hx : L[k].1 = x) (hy : L[k].2 = y) :
    Filled ((w.setCell ⟨g, k * 2, none⟩ (.int .i64 x)).setCell ⟨g, k * 2 + 1, none⟩ (.int .i64 y)) g n (k + 1) L := by
  obtain ⟨cur, hb, hs, hf⟩ := h
  refine ⟨(cur.setIfInBounds (k * 2) (.int .i64 x)).setIfInBounds (k * 2 + 1) (.int .i64 y), heap_setCell_same _ g _ _ _ _ (heap_setCell_same w g _ cur _ _ hb), by simpa using hs, fun j hj hj' => ?_⟩
  rcases Nat.lt_or_ge j k with h | h
  · obtain ⟨a, b⟩ := hf j h hj'
    refine ⟨?_, ?_⟩
    · rw [Array.getElem?_setIfInBounds_ne (by omega), Array.getElem?_setIfInBounds_ne (by omega)]; exact a
    · rw [Array.getElem?_setIfInBounds_ne (by omega), Array.getElem?_setIfInBounds_ne (by omega)]; exact b
  · obtain rfl : j = k := by omega
    refine ⟨?_, ?_⟩
    · rw [Array.getElem?_setIfInBounds_ne (by omega), Array.getElem?_setIfInBounds_self_of_lt (by omega), hx]
    · rw [Array.getElem?_setIfInBounds_self_of_lt (by simp; omega), hy]
theorem list_ext2 {c : List Value} {L : List It} (hs : c.length = L.length * 2) (h : ∀ j (h' : j < L.length), c[j * 2]? = some (.int .i64 L[j].1) ∧ c[j * 2 + 1]? = some (.int .i64 L[j].2)) : c = cs2 L := by
  apply List.ext_getElem?
  intro i
  rcases Nat.lt_or_ge i (L.length * 2) with hi | hi
  · have hj : i / 2 < L.length := by omega
    obtain ⟨a, b⟩ := h (i / 2) hj
    obtain ⟨x, y⟩ := cs2_at L (i / 2) hj
    rcases Nat.mod_two_eq_zero_or_one i with hm | hm
    · rw [show i = i / 2 * 2 from by omega, a, x]
    · rw [show i = i / 2 * 2 + 1 from by omega, b, y]
  · rw [List.getElem?_eq_none (by omega), List.getElem?_eq_none (by rw [cs2_length]; omega)]
theorem Filled.own {w : World} {B g n : Nat} {L : List It} (h : Filled w g n n L) (hn : n = L.length) (hm : n ≤ 1048576) (hB : B ≤ g) : OwnI w B (.slice (some ⟨g, 0, none⟩) n n) L := by
  obtain ⟨cur, hb, hs, hf⟩ := h
  subst hn
  refine ⟨by rw [cs2_length], .inr ⟨g, L.length, cur, rfl, hB, hb, Nat.le_refl _, by unfold maxLen; omega, hs, ?_⟩⟩
  rw [List.take_of_length_le (by simp; omega)]
  exact list_ext2 (by simpa using hs) fun j hj => by
    obtain ⟨a, b⟩ := hf j hj hj
    exact ⟨by simpa using a, by simpa using b⟩

-- (toItemS_any left out)

-- (markItemS_any left out)

-- (heldItemS_any left out)

end Go.Proofs.Ytffjpfanmnkmgaa

set_option linter.unusedSimpArgs false
set_option linter.unusedVariables false
namespace Go.Proofs.Ytffjpfanmnkmgaa
open Go.RowKit

theorem less_key {a b c d : Int} (h : ¬ a = c) : lessI (a, b) (c, d) = decide (a < c) := by
  simp [lessI, h]
theorem less_id {a b d : Int} : lessI (a, b) (a, d) = decide (b < d) := by
  simp [lessI]

set_option maxHeartbeats 400000 in
theorem itemLess_any (a b c d : Int) (w : World) :
    Calls Try.prog 139 #[.agg #[.int .i64 a, .int .i64 b], .agg #[.int .i64 c, .int .i64 d]] w fun e w' => e = .returned (.bool (lessI (a, b) (c, d))) ∧ Bl w w' := by
  by_cases h : a = c
  · subst h
    have h' : (a != a) = false := by simp
    go_enter Try.func139, Try.ntmps139
    go_wp2
    go_ret
    exact ⟨ret_bool less_id.symm, (by repeat' (first | exact Bl.refl _ | with_reducible assumption | with_reducible refine Bl.drew_ ?_ | with_reducible refine Bl.drewN_ ?_ _ | with_reducible refine Bl.alloc_ ?_ _ | with_reducible refine Bl.trans_ ?_ (by assumption) | with_reducible refine Bl.trans_ ?_ (And.left (by assumption))))⟩
  · have h' : (a != c) = true := by simpa using h
    go_enter Try.func139, Try.ntmps139
    go_wp2
    go_ret
    exact ⟨ret_bool (less_key h).symm, (by repeat' (first | exact Bl.refl _ | with_reducible assumption | with_reducible refine Bl.drew_ ?_ | with_reducible refine Bl.drewN_ ?_ _ | with_reducible refine Bl.alloc_ ?_ _ | with_reducible refine Bl.trans_ ?_ (by assumption) | with_reducible refine Bl.trans_ ?_ (And.left (by assumption))))⟩

-- (l2Less_any left out)

set_option maxHeartbeats 400000 in
theorem above_any (k : Nat) (w : World) (hk : 0 < k) (hm : k ≤ 1048576) :
    Calls Try.prog 142 #[.int .i64 (k : Int)] w fun e w' => e = .returned (.int .i64 (((k - 1) / 2 : Nat) : Int)) ∧ w = w' := by
  have h0 : (0 : Int) ≤ (k : Int) - 1 := by omega
  go_enter Try.func142, Try.ntmps142
  go_wp2
  go_ret
  exact ⟨ret_int (by omega), rfl⟩

/-- A heap of the code's own: its list, and less. -/
def HBox (w : World) (hb : Nat) (v : Value) : Prop := w.cell? ⟨hb, 0, none⟩ = some v ∧ w.cell? ⟨hb, 1, none⟩ = some (.func (.func 139) #[] #[]) ∧ w.frozen? ⟨hb, 0, none⟩ = false
theorem HBox.bl {w w' : World} {hb : Nat} {v : Value} (h : HBox w hb v) (hlt : hb < w.heap.size) (k : Bl w w') : HBox w' hb v := by
  obtain ⟨a, b⟩ := bcell k
  exact ⟨(a _ _ hlt).trans h.1, (a _ _ hlt).trans h.2.1, (b _ _ hlt).trans h.2.2⟩
theorem HBox.lt {w : World} {hb : Nat} {v : Value} (h : HBox w hb v) : hb < w.heap.size := World.block_lt_of_cell? _ _ h.1
theorem HBox.grown_ {w w' : World} {hb : Nat} {v : Value} {row : Option Nat} (h : HBox w hb v) (k : w.grownBy w' row) (hne : some hb ≠ row) : HBox w' hb v := by
  have e := k.block hb h.lt hne
  exact ⟨(World.cell?_of_block (a := ⟨hb, 0, none⟩) e).trans h.1, (World.cell?_of_block (a := ⟨hb, 1, none⟩) e).trans h.2.1, (World.frozen?_of_block (a := ⟨hb, 0, none⟩) e).trans h.2.2⟩

/-- The row at block g owns the items L. -/
def RowI (w : World) (g n c : Nat) (L : List It) : Prop := OwnI w g (.slice (some ⟨g, 0, none⟩) n c) L ∧ n = L.length
theorem RowI.cells {w : World} {g n c : Nat} {L : List It} (h : RowI w g n c L) : (∀ o, w.frozen? ⟨g, o, none⟩ = false) ∧ g < w.heap.size ∧
    ∀ k (hk : k < L.length), w.cell? ⟨g, k * 2, none⟩ = some (.int .i64 (atI L k).1) ∧ w.cell? ⟨g, k * 2 + 1, none⟩ = some (.int .i64 (atI L k).2) := by
  obtain ⟨h, rfl⟩ := h
  have h' : w.ownsRow g 82 2 (.slice (some ⟨g, 0, none⟩) L.length c) L.length (cs2 L) := h
  refine ⟨fun o => World.ownsRow.frozenAt h' o, ?_, fun k hk => ?_⟩
  · exact (World.ownsRow.lt h' g rfl).2
  · obtain ⟨x, y⟩ := cs2_at L k hk
    rw [atI_eq hk]
    exact ⟨(World.ownsRow.cellAt h' _ (by omega)).trans x, (World.ownsRow.cellAt h' _ (by omega)).trans y⟩
theorem RowI.bl {w w' : World} {g n c : Nat} {L : List It} (h : RowI w g n c L) (k : Bl w w') : RowI w' g n c L := ⟨Owns.bl h.1 k, h.2⟩
theorem RowI.set {w : World} {g n c : Nat} {L : List It} (h : RowI w g n c L) (k : Nat) (x y : Int) :
    RowI ((w.setCell ⟨g, k * 2, none⟩ (.int .i64 x)).setCell ⟨g, k * 2 + 1, none⟩ (.int .i64 y)) g n c (L.set k (x, y)) ∧
      w.grownBy ((w.setCell ⟨g, k * 2, none⟩ (.int .i64 x)).setCell ⟨g, k * 2 + 1, none⟩ (.int .i64 y)) (some g) := by
  obtain ⟨h, rfl⟩ := h
  have h1 := Owns.stored (show Owns 82 2 w g (.slice (some ⟨g, 0, none⟩) L.length c) L.length (cs2 L) from h) (k * 2) (.int .i64 x)
  have h2 := Owns.stored h1.1 (k * 2 + 1) (.int .i64 y)
  refine ⟨⟨?_, by simp⟩, grown_trans h1.2 h2.2⟩
  unfold OwnI
  rw [cs2_set, List.length_set]
  exact h2.1

theorem swap_world {w : World} {g n c i j : Nat} {L : List It} (h : RowI w g n c L) :
    RowI ((((w.setCell ⟨g, i * 2, none⟩ (.int .i64 (atI L j).1)).setCell ⟨g, i * 2 + 1, none⟩ (.int .i64 (atI L j).2)).setCell ⟨g, j * 2, none⟩ (.int .i64 (atI L i).1)).setCell ⟨g, j * 2 + 1, none⟩ (.int .i64 (atI L i).2)) g n c (swapI L i j) ∧
      w.grownBy ((((w.setCell ⟨g, i * 2, none⟩ (.int .i64 (atI L j).1)).setCell ⟨g, i * 2 + 1, none⟩ (.int .i64 (atI L j).2)).setCell ⟨g, j * 2, none⟩ (.int .i64 (atI L i).1)).setCell ⟨g, j * 2 + 1, none⟩ (.int .i64 (atI L i).2)) (some g) := by
  obtain ⟨a, b⟩ := h.set i (atI L j).1 (atI L j).2
  obtain ⟨a', b'⟩ := a.set j (atI L i).1 (atI L i).2
  exact ⟨a', grown_trans b b'⟩

/-- What an exchange, or many, leave: the items are now these; nothing else has turned. -/
def RowTo (g n c : Nat) (L : List It) (w : World) (e : Ending) (w' : World) : Prop := e = .returned (.tuple #[]) ∧ RowI w' g n c L ∧ w.grownBy w' (some g)

set_option maxHeartbeats 1000000 in
theorem swap_any (hb g n c i j : Nat) (L : List It) (w : World) (hm : n ≤ 1048576) (hR : RowI w g n c L) (hH : HBox w hb (.slice (some ⟨g, 0, none⟩) n c)) (hi : i < n) (hj : j < n) (hij : i ≠ j) :
    Calls Try.prog 143 #[.pointer (some ⟨hb, 0, none⟩), .int .i64 (i : Int), .int .i64 (j : Int)] w (RowTo g n c (swapI L i j) w) := by
  have R := Lib.hid hR
  obtain ⟨hfz, hg, hc⟩ := hR.cells
  obtain ⟨h0, h1, h2⟩ := hH
  have hn := hR.2
  obtain ⟨a1, a2⟩ := hc i (by omega)
  obtain ⟨b1, b2⟩ := hc j (by omega)
  have f1 := hfz (i * 2)
  have f2 := hfz (i * 2 + 1)
  have f3 := hfz (j * 2)
  have f4 := hfz (j * 2 + 1)
  clear hfz hc hR h2 hn
  generalize hx : (atI L i).1 = x at a1
  generalize hy : (atI L i).2 = y at a2
  generalize hx' : (atI L j).1 = x' at b1
  generalize hy' : (atI L j).2 = y' at b2
  have HX := Lib.hid hx
  have HY := Lib.hid hy
  have HX' := Lib.hid hx'
  have HY' := Lib.hid hy'
  clear hx hy hx' hy'
  have i0 : (i : Int) < (n : Int) := by omega
  have j0 : (j : Int) < (n : Int) := by omega
  go_enter Try.func143, Try.ntmps143
  go_wp2
  go_region
  go_end0
  rw [← HX.out, ← HY.out, ← HX'.out, ← HY'.out]
  obtain ⟨u, v⟩ := swap_world (i := i) (j := j) R.out
  exact ⟨rfl, u.bl (Bl.refl _).drew_, grown_bl v (Bl.refl _).drew_⟩

-- (l2Swap_any left out)

end Go.Proofs.Ytffjpfanmnkmgaa

set_option linter.unusedSimpArgs false
set_option linter.unusedVariables false
namespace Go.Proofs.Ytffjpfanmnkmgaa
open Go.RowKit

theorem above_at (k m : Nat) (w : World) (hk : 0 < k) (hm : k ≤ 1048576) (h : m = (k - 1) / 2) :
    Calls Try.prog 142 #[.int .i64 (k : Int)] w fun e w' => e = .returned (.int .i64 (m : Int)) ∧ w = w' := by
  subst h
  exact above_any k w hk hm
-- (l2Swap_at left out)

theorem itemLess_at (a b c d : Int) (r : Bool) (w : World) (h : lessI (a, b) (c, d) = r) :
    Calls Try.prog 139 #[.agg #[.int .i64 a, .int .i64 b], .agg #[.int .i64 c, .int .i64 d]] w fun e w' => e = .returned (.bool r) ∧ Bl w w' := by
  subst h
  exact itemLess_any a b c d w
-- (l2Less_at left out)

set_option maxHeartbeats 2000000 in
theorem rise_any (hb g n c k : Nat) (L : List It) (w : World) (hm : n ≤ 1048576) (hR : RowI w g n c L) (hH : HBox w hb (.slice (some ⟨g, 0, none⟩) n c)) (hne : hb ≠ g) (hk : k < n) :
    Calls Try.prog 113 #[.pointer (some ⟨hb, 0, none⟩), .int .i64 (k : Int)] w (RowTo g n c (upI L k) w) := by
  have R := Lib.hid hR
  have H := Lib.hid hH
  have hbl := hH.lt
  clear hR hH
  go_enter Try.func113, Try.ntmps113
  go_wp2
  go_loopw [1] (fun p wr => ∃ (k' : Nat) (L' : List It), p = .int .i64 (k' : Int) ∧ k' < n ∧ RowI wr g n c L' ∧ w.grownBy wr (some g) ∧ upI L' k' = upI L k) (fun p _ => (intOf p).toNat)
  case atStart => exact ⟨k, L, rfl, hk, R.out, World.grownBy.refl w _, rfl⟩
  case round =>
    obtain ⟨k', L', rfl, hk', hR', hG, hE⟩ := hrel
    have R' := Lib.hid hR'
    have G := Lib.hid hG
    have E := Lib.hid hE
    obtain ⟨h0, h1, h2⟩ := H.out.grown_ hG (by simp; exact hne)
    obtain ⟨hfz, hg, hc⟩ := hR'.cells
    have hn := hR'.2
    have hbs : hb < wr.heap.size := Nat.lt_of_lt_of_le hbl hG.size
    clear hR' hG hE hfz h2
    by_cases hz : 0 < k'
    · obtain ⟨m, hmd⟩ : ∃ m, m = (k' - 1) / 2 := ⟨_, rfl⟩
      have hmk : m < k' := by omega
      obtain ⟨a1, a2⟩ := hc k' (by omega)
      obtain ⟨b1, b2⟩ := hc m (by omega)
      have HM := Lib.hid hmd
      have HN := Lib.hid hn
      have HC := Lib.hid hc
      clear hmd hn hc
      have hL : lessI (atI L' k') (atI L' m) = lessI ((atI L' k').1, (atI L' k').2) ((atI L' m).1, (atI L' m).2) := rfl
      generalize (atI L' k').1 = x at a1 hL
      generalize (atI L' k').2 = y at a2 hL
      generalize (atI L' m).1 = x' at b1 hL
      generalize (atI L' m).2 = y' at b2 hL
      have HL := Lib.hid hL
      clear hL
      have i0 : (k' : Int) < (n : Int) := by omega
      have j0 : (m : Int) < (n : Int) := by omega
      have z0 : (0 : Int) < (k' : Int) := by omega
      have HSH := Lib.hid (show ∀ wx, Bl wr wx → Bl wr wx ∧ wx.cell? ⟨hb, 0, none⟩ = some (.slice (some ⟨g, 0, none⟩) n c) ∧ wx.cell? ⟨hb, 1, none⟩ = some (.func (.func 139) #[] #[]) ∧ wx.cell? ⟨g, k' * 2, none⟩ = some (.int .i64 x) ∧ wx.cell? ⟨g, k' * 2 + 1, none⟩ = some (.int .i64 y) ∧ wx.cell? ⟨g, m * 2, none⟩ = some (.int .i64 x') ∧ wx.cell? ⟨g, m * 2 + 1, none⟩ = some (.int .i64 y') from fun wx hb' => by
        have q := (bcell hb').1
        exact ⟨hb', (q _ _ hbs).trans h0, (q _ _ hbs).trans h1, (q _ _ hg).trans a1, (q _ _ hg).trans a2, (q _ _ hg).trans b1, (q _ _ hg).trans b2⟩)
      clear h0 h1 a1 a2 b1 b2
      cases hb2 : lessI (x, y) (x', y') with
      | true =>
        have HT := Lib.hid (HL.out.trans hb2)
        have HL := Lib.hid hb2
        clear hb2
        go_wp2_with fail
        refine wp_region_held_drew (S := fun wx => Bl wr wx ∧ wx.cell? ⟨hb, 0, none⟩ = some (.slice (some ⟨g, 0, none⟩) n c) ∧ wx.cell? ⟨hb, 1, none⟩ = some (.func (.func 139) #[] #[]) ∧ wx.cell? ⟨g, k' * 2, none⟩ = some (.int .i64 x) ∧ wx.cell? ⟨g, k' * 2 + 1, none⟩ = some (.int .i64 y) ∧ wx.cell? ⟨g, m * 2, none⟩ = some (.int .i64 x') ∧ wx.cell? ⟨g, m * 2 + 1, none⟩ = some (.int .i64 y')) (by kernel_rfl) ?_ (fun hHeld => ?_)
        · (exact HSH.out _ (by repeat' (first | exact Bl.refl _ | with_reducible assumption | with_reducible refine Bl.drew_ ?_ | with_reducible refine Bl.drewN_ ?_ _ | with_reducible refine Bl.alloc_ ?_ _ | with_reducible refine Bl.trans_ ?_ (by assumption) | with_reducible refine Bl.trans_ ?_ (And.left (by assumption)))))
        refine wpAnyH_take (i := 0) (v := ?_) rfl (by kernel_rfl) (by kernel_rfl) (by kernel_rfl) (fun _ _ _ h => h) (Or.inl ⟨by kernel_rfl, ?_⟩) (by assumption) ?_
        rotate_left
        · (intro wx hSw; (try dsimp only at hSw); go_simp; try (with_reducible rfl))
        try simp only [Act.put, List.getElem_toArray, List.getElem_cons_succ, List.getElem_cons_zero, List.setIfInBounds_toArray, List.set_cons_zero, List.set_cons_succ]
        refine wpAnyH_take (i := 1) (v := ?_) rfl (by kernel_rfl) (by kernel_rfl) (by kernel_rfl) (fun _ _ _ h => h) (Or.inl ⟨by kernel_rfl, ?_⟩) (by assumption) ?_
        rotate_left
        · (intro wx hSw; (try dsimp only at hSw); go_simp; try (with_reducible rfl))
        try simp only [Act.put, List.getElem_toArray, List.getElem_cons_succ, List.getElem_cons_zero, List.setIfInBounds_toArray, List.set_cons_zero, List.set_cons_succ]
        refine wpAnyH_take (i := 2) (v := ?_) rfl (by kernel_rfl) (by kernel_rfl) (by kernel_rfl) (fun _ _ _ h => h) (Or.inl ⟨by kernel_rfl, ?_⟩) (by assumption) ?_
        rotate_left
        · (intro wx hSw; (try dsimp only at hSw); go_simp; try (with_reducible rfl))
        try simp only [Act.put, List.getElem_toArray, List.getElem_cons_succ, List.getElem_cons_zero, List.setIfInBounds_toArray, List.set_cons_zero, List.set_cons_succ]
        refine wpAnyH_take (i := 3) (v := ?_) rfl (by kernel_rfl) (by kernel_rfl) (by kernel_rfl) (fun _ _ _ h => h) (Or.inl ⟨by kernel_rfl, ?_⟩) (by assumption) ?_
        rotate_left
        · (intro wx hSw; (try dsimp only at hSw); go_simp; try (with_reducible rfl))
        try simp only [Act.put, List.getElem_toArray, List.getElem_cons_succ, List.getElem_cons_zero, List.setIfInBounds_toArray, List.set_cons_zero, List.set_cons_succ]
        refine wpAnyH_take (i := 4) (v := ?_) rfl (by kernel_rfl) (by kernel_rfl) (by kernel_rfl) (fun _ _ _ h => h) (Or.inl ⟨by kernel_rfl, ?_⟩) (by assumption) ?_
        rotate_left
        · (intro wx hSw; (try dsimp only at hSw); go_simp; try (with_reducible rfl))
        try simp only [Act.put, List.getElem_toArray, List.getElem_cons_succ, List.getElem_cons_zero, List.setIfInBounds_toArray, List.set_cons_zero, List.set_cons_succ]
        refine wpAnyH_take (i := 5) (v := ?_) rfl (by kernel_rfl) (by kernel_rfl) (by kernel_rfl) (fun _ _ _ h => h) (Or.inl ⟨by kernel_rfl, ?_⟩) (by assumption) ?_
        rotate_left
        · (intro wx hSw; (try dsimp only at hSw); go_simp; try (with_reducible rfl))
        try simp only [Act.put, List.getElem_toArray, List.getElem_cons_succ, List.getElem_cons_zero, List.setIfInBounds_toArray, List.set_cons_zero, List.set_cons_succ]
        refine wpAnyH_take (i := 6) (v := ?_) rfl (by kernel_rfl) (by kernel_rfl) (by kernel_rfl) (fun _ _ _ h => h) (Or.inl ⟨by kernel_rfl, ?_⟩) (by assumption) ?_
        rotate_left
        · (intro wx hSw; (try dsimp only at hSw); go_simp; try (with_reducible rfl))
        try simp only [Act.put, List.getElem_toArray, List.getElem_cons_succ, List.getElem_cons_zero, List.setIfInBounds_toArray, List.set_cons_zero, List.set_cons_succ]
        refine wpAnyH_take (i := 7) (v := ?_) rfl (by kernel_rfl) (by kernel_rfl) (by kernel_rfl) (fun _ _ _ h => h) (Or.inl ⟨by kernel_rfl, ?_⟩) (by assumption) ?_
        rotate_left
        · (intro wx hSw; (try dsimp only at hSw); go_simp; try (with_reducible rfl))
        try simp only [Act.put, List.getElem_toArray, List.getElem_cons_succ, List.getElem_cons_zero, List.setIfInBounds_toArray, List.set_cons_zero, List.set_cons_succ]
        refine wpAnyH_take (i := 8) (v := ?_) rfl (by kernel_rfl) (by kernel_rfl) (by kernel_rfl) (fun _ _ _ h => h) (Or.inl ⟨by kernel_rfl, ?_⟩) (by assumption) ?_
        rotate_left
        · (intro wx hSw; (try dsimp only at hSw); go_simp; try (with_reducible rfl))
        try simp only [Act.put, List.getElem_toArray, List.getElem_cons_succ, List.getElem_cons_zero, List.setIfInBounds_toArray, List.set_cons_zero, List.set_cons_succ]
        refine wpAnyH_take (i := 9) (v := ?_) rfl (by kernel_rfl) (by kernel_rfl) (by kernel_rfl) (fun _ _ _ h => h) (Or.inl ⟨by kernel_rfl, ?_⟩) (by assumption) ?_
        rotate_left
        · (intro wx hSw; (try dsimp only at hSw); go_simp; try (with_reducible rfl))
        try simp only [Act.put, List.getElem_toArray, List.getElem_cons_succ, List.getElem_cons_zero, List.setIfInBounds_toArray, List.set_cons_zero, List.set_cons_succ]
        refine wpAnyH_take (i := 10) (v := ?_) rfl (by kernel_rfl) (by kernel_rfl) (by kernel_rfl) (fun _ _ _ h => h) (Or.inl ⟨by kernel_rfl, ?_⟩) (by assumption) ?_
        rotate_left
        · (intro wx hSw; (try dsimp only at hSw); go_simp; try (with_reducible rfl))
        try simp only [Act.put, List.getElem_toArray, List.getElem_cons_succ, List.getElem_cons_zero, List.setIfInBounds_toArray, List.set_cons_zero, List.set_cons_succ]
        refine wpAnyH_take (i := 11) (v := ?_) rfl (by kernel_rfl) (by kernel_rfl) (by kernel_rfl) (fun _ _ _ h => h) (Or.inl ⟨by kernel_rfl, ?_⟩) (by assumption) ?_
        rotate_left
        · (intro wx hSw; (try dsimp only at hSw); go_simp; try (with_reducible rfl))
        try simp only [Act.put, List.getElem_toArray, List.getElem_cons_succ, List.getElem_cons_zero, List.setIfInBounds_toArray, List.set_cons_zero, List.set_cons_succ]
        refine wpAnyH_take (i := 12) (v := ?_) rfl (by kernel_rfl) (by kernel_rfl) (by kernel_rfl) (fun _ _ _ h => h) (Or.inl ⟨by kernel_rfl, ?_⟩) (by assumption) ?_
        rotate_left
        · (intro wx hSw; (try dsimp only at hSw); go_simp; try (with_reducible rfl))
        try simp only [Act.put, List.getElem_toArray, List.getElem_cons_succ, List.getElem_cons_zero, List.setIfInBounds_toArray, List.set_cons_zero, List.set_cons_succ]
        refine wpAnyH_take (i := 13) (v := ?_) rfl (by kernel_rfl) (by kernel_rfl) (by kernel_rfl) (fun _ _ _ h => h) (Or.inl ⟨by kernel_rfl, ?_⟩) (by assumption) ?_
        rotate_left
        · (intro wx hSw; (try dsimp only at hSw); go_simp; try (with_reducible rfl))
        try simp only [Act.put, List.getElem_toArray, List.getElem_cons_succ, List.getElem_cons_zero, List.setIfInBounds_toArray, List.set_cons_zero, List.set_cons_succ]
        refine wpAnyH_take (i := 14) (v := ?_) rfl (by kernel_rfl) (by kernel_rfl) (by kernel_rfl) (fun _ _ _ h => h) (Or.inl ⟨by kernel_rfl, ?_⟩) (by assumption) ?_
        rotate_left
        · (intro wx hSw; (try dsimp only at hSw); go_simp; try (with_reducible rfl))
        try simp only [Act.put, List.getElem_toArray, List.getElem_cons_succ, List.getElem_cons_zero, List.setIfInBounds_toArray, List.set_cons_zero, List.set_cons_succ]
        refine wpAnyH_take (i := 15) (v := ?_) rfl (by kernel_rfl) (by kernel_rfl) (by kernel_rfl) (fun _ _ _ h => h) (Or.inl ⟨by kernel_rfl, ?_⟩) (by assumption) ?_
        rotate_left
        · (intro wx hSw; (try dsimp only at hSw); go_simp; try (with_reducible rfl))
        try simp only [Act.put, List.getElem_toArray, List.getElem_cons_succ, List.getElem_cons_zero, List.setIfInBounds_toArray, List.set_cons_zero, List.set_cons_succ]
        refine wpAnyH_take (i := 16) (v := ?_) rfl (by kernel_rfl) (by kernel_rfl) (by kernel_rfl) (fun _ _ _ h => h) (Or.inl ⟨by kernel_rfl, ?_⟩) (by assumption) ?_
        rotate_left
        · (intro wx hSw; (try dsimp only at hSw); go_simp; try (with_reducible rfl))
        try simp only [Act.put, List.getElem_toArray, List.getElem_cons_succ, List.getElem_cons_zero, List.setIfInBounds_toArray, List.set_cons_zero, List.set_cons_succ]
        refine wpAnyH_take (i := 17) (v := ?_) rfl (by kernel_rfl) (by kernel_rfl) (by kernel_rfl) (fun _ _ _ h => h) (Or.inl ⟨by kernel_rfl, ?_⟩) (by assumption) ?_
        rotate_left
        · (intro wx hSw; (try dsimp only at hSw); go_simp; try (with_reducible rfl))
        try simp only [Act.put, List.getElem_toArray, List.getElem_cons_succ, List.getElem_cons_zero, List.setIfInBounds_toArray, List.set_cons_zero, List.set_cons_succ]
        refine wpAnyH_take (i := 18) (v := ?_) rfl (by kernel_rfl) (by kernel_rfl) (by kernel_rfl) (fun _ _ _ h => h) (Or.inl ⟨by kernel_rfl, ?_⟩) (by assumption) ?_
        rotate_left
        · (intro wx hSw; (try dsimp only at hSw); go_simp; try (with_reducible rfl))
        try simp only [Act.put, List.getElem_toArray, List.getElem_cons_succ, List.getElem_cons_zero, List.setIfInBounds_toArray, List.set_cons_zero, List.set_cons_succ]
        refine wpAnyH_ready (rs := [19]) (by kernel_rfl) (by simp) ?_
        refine AllReadyH.cons rfl (fun K hK => ?_) AllReadyH.nil
        go_simp
        (go_at_call 142; refine (above_at k' m _ hz (by omega) HM.out).mono ?_; rintro e w' ⟨rfl, rfl⟩)
        try (go_wp2_with fail)
        refine hK.out _ _ ?_ (fun hHeld => ?_)
        · (exact HSH.out _ (by repeat' (first | exact Bl.refl _ | with_reducible assumption | with_reducible refine Bl.drew_ ?_ | with_reducible refine Bl.drewN_ ?_ _ | with_reducible refine Bl.alloc_ ?_ _ | with_reducible refine Bl.trans_ ?_ (by assumption) | with_reducible refine Bl.trans_ ?_ (And.left (by assumption)))))
        clear hK K
        try simp only [Act.put, List.getElem_toArray, List.getElem_cons_succ, List.getElem_cons_zero, List.setIfInBounds_toArray, List.set_cons_zero, List.set_cons_succ]
        refine wpAnyH_take (i := 20) (v := ?_) rfl (by kernel_rfl) (by kernel_rfl) (by kernel_rfl) (fun _ _ _ h => h) (Or.inl ⟨by kernel_rfl, ?_⟩) (by assumption) ?_
        rotate_left
        · (intro wx hSw; (try dsimp only at hSw); go_simp; try (with_reducible rfl))
        try simp only [Act.put, List.getElem_toArray, List.getElem_cons_succ, List.getElem_cons_zero, List.setIfInBounds_toArray, List.set_cons_zero, List.set_cons_succ]
        refine wpAnyH_take (i := 21) (v := ?_) rfl (by kernel_rfl) (by kernel_rfl) (by kernel_rfl) (fun _ _ _ h => h) (Or.inl ⟨by kernel_rfl, ?_⟩) (by assumption) ?_
        rotate_left
        · (intro wx hSw; (try dsimp only at hSw); go_simp; try (with_reducible rfl))
        try simp only [Act.put, List.getElem_toArray, List.getElem_cons_succ, List.getElem_cons_zero, List.setIfInBounds_toArray, List.set_cons_zero, List.set_cons_succ]
        refine wpAnyH_ready (rs := [22]) (by kernel_rfl) (by simp) ?_
        refine AllReadyH.cons rfl (fun K hK => ?_) AllReadyH.nil
        go_simp
        (go_at_call 139; refine (itemLess_at _ _ _ _ _ _ HL.out).mono ?_; rintro e w' ⟨rfl, hb'⟩; obtain ⟨hc', hf'⟩ := bcell hb')
        try (go_wp2_with fail)
        refine hK.out _ _ ?_ (fun hHeld => ?_)
        · (exact HSH.out _ (by repeat' (first | exact Bl.refl _ | with_reducible assumption | with_reducible refine Bl.drew_ ?_ | with_reducible refine Bl.drewN_ ?_ _ | with_reducible refine Bl.alloc_ ?_ _ | with_reducible refine Bl.trans_ ?_ (by assumption) | with_reducible refine Bl.trans_ ?_ (And.left (by assumption)))))
        clear hK K
        try simp only [Act.put, List.getElem_toArray, List.getElem_cons_succ, List.getElem_cons_zero, List.setIfInBounds_toArray, List.set_cons_zero, List.set_cons_succ]
        refine wpAnyH_take (i := 23) (v := ?_) rfl (by kernel_rfl) (by kernel_rfl) (by kernel_rfl) (fun _ _ _ h => h) (Or.inl ⟨by kernel_rfl, ?_⟩) (by assumption) ?_
        rotate_left
        · (intro wx hSw; (try dsimp only at hSw); go_simp; try (with_reducible rfl))
        try simp only [Act.put, List.getElem_toArray, List.getElem_cons_succ, List.getElem_cons_zero, List.setIfInBounds_toArray, List.set_cons_zero, List.set_cons_succ]
        refine wpAnyH_done (by kernel_rfl) ?_ _
        clear hHeld
        have B1 : Bl wr w' := (by repeat' (first | exact Bl.refl _ | with_reducible assumption | with_reducible refine Bl.drew_ ?_ | with_reducible refine Bl.drewN_ ?_ _ | with_reducible refine Bl.alloc_ ?_ _ | with_reducible refine Bl.trans_ ?_ (by assumption) | with_reducible refine Bl.trans_ ?_ (And.left (by assumption))))
        generalize w' = wz at *
        go_wp2_with fail
        refine (above_at k' m _ hz (by omega) HM.out).mono ?_
        rintro e w' ⟨rfl, rfl⟩
        go_wp2_with fail
        refine (swap_any hb g n c k' m L' _ hm (R'.out.bl B1) ((H.out.grown_ (G.out) (by simp; exact hne)).bl hbs B1) hk' (by omega) (by omega)).mono ?_
        rintro e w2 ⟨rfl, hR2, hG2⟩
        have R2 := Lib.hid hR2
        have G2 := Lib.hid hG2
        clear hR2 hG2
        go_wp2_with fail
        refine (above_at k' m _ hz (by omega) HM.out).mono ?_
        rintro e w' ⟨rfl, rfl⟩
        go_wp2
        go_roundw
        case rel => exact ⟨m, swapI L' k' m, rfl, by omega, R2.out, grown_trans (grown_bl G.out B1) G2.out, by rw [← E.out, HM.out]; exact (upI_step hz (by rw [← HM.out]; exact HT.out)).symm⟩
        case measure => simp [intOf]; omega
      | false =>
        have HT := Lib.hid (HL.out.trans hb2)
        have HL := Lib.hid hb2
        clear hb2
        go_wp2_with fail
        refine wp_region_held_drew (S := fun wx => Bl wr wx ∧ wx.cell? ⟨hb, 0, none⟩ = some (.slice (some ⟨g, 0, none⟩) n c) ∧ wx.cell? ⟨hb, 1, none⟩ = some (.func (.func 139) #[] #[]) ∧ wx.cell? ⟨g, k' * 2, none⟩ = some (.int .i64 x) ∧ wx.cell? ⟨g, k' * 2 + 1, none⟩ = some (.int .i64 y) ∧ wx.cell? ⟨g, m * 2, none⟩ = some (.int .i64 x') ∧ wx.cell? ⟨g, m * 2 + 1, none⟩ = some (.int .i64 y')) (by kernel_rfl) ?_ (fun hHeld => ?_)
        · (exact HSH.out _ (by repeat' (first | exact Bl.refl _ | with_reducible assumption | with_reducible refine Bl.drew_ ?_ | with_reducible refine Bl.drewN_ ?_ _ | with_reducible refine Bl.alloc_ ?_ _ | with_reducible refine Bl.trans_ ?_ (by assumption) | with_reducible refine Bl.trans_ ?_ (And.left (by assumption)))))
        refine wpAnyH_take (i := 0) (v := ?_) rfl (by kernel_rfl) (by kernel_rfl) (by kernel_rfl) (fun _ _ _ h => h) (Or.inl ⟨by kernel_rfl, ?_⟩) (by assumption) ?_
        rotate_left
        · (intro wx hSw; (try dsimp only at hSw); go_simp; try (with_reducible rfl))
        try simp only [Act.put, List.getElem_toArray, List.getElem_cons_succ, List.getElem_cons_zero, List.setIfInBounds_toArray, List.set_cons_zero, List.set_cons_succ]
        refine wpAnyH_take (i := 1) (v := ?_) rfl (by kernel_rfl) (by kernel_rfl) (by kernel_rfl) (fun _ _ _ h => h) (Or.inl ⟨by kernel_rfl, ?_⟩) (by assumption) ?_
        rotate_left
        · (intro wx hSw; (try dsimp only at hSw); go_simp; try (with_reducible rfl))
        try simp only [Act.put, List.getElem_toArray, List.getElem_cons_succ, List.getElem_cons_zero, List.setIfInBounds_toArray, List.set_cons_zero, List.set_cons_succ]
        refine wpAnyH_take (i := 2) (v := ?_) rfl (by kernel_rfl) (by kernel_rfl) (by kernel_rfl) (fun _ _ _ h => h) (Or.inl ⟨by kernel_rfl, ?_⟩) (by assumption) ?_
        rotate_left
        · (intro wx hSw; (try dsimp only at hSw); go_simp; try (with_reducible rfl))
        try simp only [Act.put, List.getElem_toArray, List.getElem_cons_succ, List.getElem_cons_zero, List.setIfInBounds_toArray, List.set_cons_zero, List.set_cons_succ]
        refine wpAnyH_take (i := 3) (v := ?_) rfl (by kernel_rfl) (by kernel_rfl) (by kernel_rfl) (fun _ _ _ h => h) (Or.inl ⟨by kernel_rfl, ?_⟩) (by assumption) ?_
        rotate_left
        · (intro wx hSw; (try dsimp only at hSw); go_simp; try (with_reducible rfl))
        try simp only [Act.put, List.getElem_toArray, List.getElem_cons_succ, List.getElem_cons_zero, List.setIfInBounds_toArray, List.set_cons_zero, List.set_cons_succ]
        refine wpAnyH_take (i := 4) (v := ?_) rfl (by kernel_rfl) (by kernel_rfl) (by kernel_rfl) (fun _ _ _ h => h) (Or.inl ⟨by kernel_rfl, ?_⟩) (by assumption) ?_
        rotate_left
        · (intro wx hSw; (try dsimp only at hSw); go_simp; try (with_reducible rfl))
        try simp only [Act.put, List.getElem_toArray, List.getElem_cons_succ, List.getElem_cons_zero, List.setIfInBounds_toArray, List.set_cons_zero, List.set_cons_succ]
        refine wpAnyH_take (i := 5) (v := ?_) rfl (by kernel_rfl) (by kernel_rfl) (by kernel_rfl) (fun _ _ _ h => h) (Or.inl ⟨by kernel_rfl, ?_⟩) (by assumption) ?_
        rotate_left
        · (intro wx hSw; (try dsimp only at hSw); go_simp; try (with_reducible rfl))
        try simp only [Act.put, List.getElem_toArray, List.getElem_cons_succ, List.getElem_cons_zero, List.setIfInBounds_toArray, List.set_cons_zero, List.set_cons_succ]
        refine wpAnyH_take (i := 6) (v := ?_) rfl (by kernel_rfl) (by kernel_rfl) (by kernel_rfl) (fun _ _ _ h => h) (Or.inl ⟨by kernel_rfl, ?_⟩) (by assumption) ?_
        rotate_left
        · (intro wx hSw; (try dsimp only at hSw); go_simp; try (with_reducible rfl))
        try simp only [Act.put, List.getElem_toArray, List.getElem_cons_succ, List.getElem_cons_zero, List.setIfInBounds_toArray, List.set_cons_zero, List.set_cons_succ]
        refine wpAnyH_take (i := 7) (v := ?_) rfl (by kernel_rfl) (by kernel_rfl) (by kernel_rfl) (fun _ _ _ h => h) (Or.inl ⟨by kernel_rfl, ?_⟩) (by assumption) ?_
        rotate_left
        · (intro wx hSw; (try dsimp only at hSw); go_simp; try (with_reducible rfl))
        try simp only [Act.put, List.getElem_toArray, List.getElem_cons_succ, List.getElem_cons_zero, List.setIfInBounds_toArray, List.set_cons_zero, List.set_cons_succ]
        refine wpAnyH_take (i := 8) (v := ?_) rfl (by kernel_rfl) (by kernel_rfl) (by kernel_rfl) (fun _ _ _ h => h) (Or.inl ⟨by kernel_rfl, ?_⟩) (by assumption) ?_
        rotate_left
        · (intro wx hSw; (try dsimp only at hSw); go_simp; try (with_reducible rfl))
        try simp only [Act.put, List.getElem_toArray, List.getElem_cons_succ, List.getElem_cons_zero, List.setIfInBounds_toArray, List.set_cons_zero, List.set_cons_succ]
        refine wpAnyH_take (i := 9) (v := ?_) rfl (by kernel_rfl) (by kernel_rfl) (by kernel_rfl) (fun _ _ _ h => h) (Or.inl ⟨by kernel_rfl, ?_⟩) (by assumption) ?_
        rotate_left
        · (intro wx hSw; (try dsimp only at hSw); go_simp; try (with_reducible rfl))
        try simp only [Act.put, List.getElem_toArray, List.getElem_cons_succ, List.getElem_cons_zero, List.setIfInBounds_toArray, List.set_cons_zero, List.set_cons_succ]
        refine wpAnyH_take (i := 10) (v := ?_) rfl (by kernel_rfl) (by kernel_rfl) (by kernel_rfl) (fun _ _ _ h => h) (Or.inl ⟨by kernel_rfl, ?_⟩) (by assumption) ?_
        rotate_left
        · (intro wx hSw; (try dsimp only at hSw); go_simp; try (with_reducible rfl))
        try simp only [Act.put, List.getElem_toArray, List.getElem_cons_succ, List.getElem_cons_zero, List.setIfInBounds_toArray, List.set_cons_zero, List.set_cons_succ]
        refine wpAnyH_take (i := 11) (v := ?_) rfl (by kernel_rfl) (by kernel_rfl) (by kernel_rfl) (fun _ _ _ h => h) (Or.inl ⟨by kernel_rfl, ?_⟩) (by assumption) ?_
        rotate_left
        · (intro wx hSw; (try dsimp only at hSw); go_simp; try (with_reducible rfl))
        try simp only [Act.put, List.getElem_toArray, List.getElem_cons_succ, List.getElem_cons_zero, List.setIfInBounds_toArray, List.set_cons_zero, List.set_cons_succ]
        refine wpAnyH_take (i := 12) (v := ?_) rfl (by kernel_rfl) (by kernel_rfl) (by kernel_rfl) (fun _ _ _ h => h) (Or.inl ⟨by kernel_rfl, ?_⟩) (by assumption) ?_
        rotate_left
        · (intro wx hSw; (try dsimp only at hSw); go_simp; try (with_reducible rfl))
        try simp only [Act.put, List.getElem_toArray, List.getElem_cons_succ, List.getElem_cons_zero, List.setIfInBounds_toArray, List.set_cons_zero, List.set_cons_succ]
        refine wpAnyH_take (i := 13) (v := ?_) rfl (by kernel_rfl) (by kernel_rfl) (by kernel_rfl) (fun _ _ _ h => h) (Or.inl ⟨by kernel_rfl, ?_⟩) (by assumption) ?_
        rotate_left
        · (intro wx hSw; (try dsimp only at hSw); go_simp; try (with_reducible rfl))
        try simp only [Act.put, List.getElem_toArray, List.getElem_cons_succ, List.getElem_cons_zero, List.setIfInBounds_toArray, List.set_cons_zero, List.set_cons_succ]
        refine wpAnyH_take (i := 14) (v := ?_) rfl (by kernel_rfl) (by kernel_rfl) (by kernel_rfl) (fun _ _ _ h => h) (Or.inl ⟨by kernel_rfl, ?_⟩) (by assumption) ?_
        rotate_left
        · (intro wx hSw; (try dsimp only at hSw); go_simp; try (with_reducible rfl))
        try simp only [Act.put, List.getElem_toArray, List.getElem_cons_succ, List.getElem_cons_zero, List.setIfInBounds_toArray, List.set_cons_zero, List.set_cons_succ]
        refine wpAnyH_take (i := 15) (v := ?_) rfl (by kernel_rfl) (by kernel_rfl) (by kernel_rfl) (fun _ _ _ h => h) (Or.inl ⟨by kernel_rfl, ?_⟩) (by assumption) ?_
        rotate_left
        · (intro wx hSw; (try dsimp only at hSw); go_simp; try (with_reducible rfl))
        try simp only [Act.put, List.getElem_toArray, List.getElem_cons_succ, List.getElem_cons_zero, List.setIfInBounds_toArray, List.set_cons_zero, List.set_cons_succ]
        refine wpAnyH_take (i := 16) (v := ?_) rfl (by kernel_rfl) (by kernel_rfl) (by kernel_rfl) (fun _ _ _ h => h) (Or.inl ⟨by kernel_rfl, ?_⟩) (by assumption) ?_
        rotate_left
        · (intro wx hSw; (try dsimp only at hSw); go_simp; try (with_reducible rfl))
        try simp only [Act.put, List.getElem_toArray, List.getElem_cons_succ, List.getElem_cons_zero, List.setIfInBounds_toArray, List.set_cons_zero, List.set_cons_succ]
        refine wpAnyH_take (i := 17) (v := ?_) rfl (by kernel_rfl) (by kernel_rfl) (by kernel_rfl) (fun _ _ _ h => h) (Or.inl ⟨by kernel_rfl, ?_⟩) (by assumption) ?_
        rotate_left
        · (intro wx hSw; (try dsimp only at hSw); go_simp; try (with_reducible rfl))
        try simp only [Act.put, List.getElem_toArray, List.getElem_cons_succ, List.getElem_cons_zero, List.setIfInBounds_toArray, List.set_cons_zero, List.set_cons_succ]
        refine wpAnyH_take (i := 18) (v := ?_) rfl (by kernel_rfl) (by kernel_rfl) (by kernel_rfl) (fun _ _ _ h => h) (Or.inl ⟨by kernel_rfl, ?_⟩) (by assumption) ?_
        rotate_left
        · (intro wx hSw; (try dsimp only at hSw); go_simp; try (with_reducible rfl))
        try simp only [Act.put, List.getElem_toArray, List.getElem_cons_succ, List.getElem_cons_zero, List.setIfInBounds_toArray, List.set_cons_zero, List.set_cons_succ]
        refine wpAnyH_ready (rs := [19]) (by kernel_rfl) (by simp) ?_
        refine AllReadyH.cons rfl (fun K hK => ?_) AllReadyH.nil
        go_simp
        (go_at_call 142; refine (above_at k' m _ hz (by omega) HM.out).mono ?_; rintro e w' ⟨rfl, rfl⟩)
        try (go_wp2_with fail)
        refine hK.out _ _ ?_ (fun hHeld => ?_)
        · (exact HSH.out _ (by repeat' (first | exact Bl.refl _ | with_reducible assumption | with_reducible refine Bl.drew_ ?_ | with_reducible refine Bl.drewN_ ?_ _ | with_reducible refine Bl.alloc_ ?_ _ | with_reducible refine Bl.trans_ ?_ (by assumption) | with_reducible refine Bl.trans_ ?_ (And.left (by assumption)))))
        clear hK K
        try simp only [Act.put, List.getElem_toArray, List.getElem_cons_succ, List.getElem_cons_zero, List.setIfInBounds_toArray, List.set_cons_zero, List.set_cons_succ]
        refine wpAnyH_take (i := 20) (v := ?_) rfl (by kernel_rfl) (by kernel_rfl) (by kernel_rfl) (fun _ _ _ h => h) (Or.inl ⟨by kernel_rfl, ?_⟩) (by assumption) ?_
        rotate_left
        · (intro wx hSw; (try dsimp only at hSw); go_simp; try (with_reducible rfl))
        try simp only [Act.put, List.getElem_toArray, List.getElem_cons_succ, List.getElem_cons_zero, List.setIfInBounds_toArray, List.set_cons_zero, List.set_cons_succ]
        refine wpAnyH_take (i := 21) (v := ?_) rfl (by kernel_rfl) (by kernel_rfl) (by kernel_rfl) (fun _ _ _ h => h) (Or.inl ⟨by kernel_rfl, ?_⟩) (by assumption) ?_
        rotate_left
        · (intro wx hSw; (try dsimp only at hSw); go_simp; try (with_reducible rfl))
        try simp only [Act.put, List.getElem_toArray, List.getElem_cons_succ, List.getElem_cons_zero, List.setIfInBounds_toArray, List.set_cons_zero, List.set_cons_succ]
        refine wpAnyH_ready (rs := [22]) (by kernel_rfl) (by simp) ?_
        refine AllReadyH.cons rfl (fun K hK => ?_) AllReadyH.nil
        go_simp
        (go_at_call 139; refine (itemLess_at _ _ _ _ _ _ HL.out).mono ?_; rintro e w' ⟨rfl, hb'⟩; obtain ⟨hc', hf'⟩ := bcell hb')
        try (go_wp2_with fail)
        refine hK.out _ _ ?_ (fun hHeld => ?_)
        · (exact HSH.out _ (by repeat' (first | exact Bl.refl _ | with_reducible assumption | with_reducible refine Bl.drew_ ?_ | with_reducible refine Bl.drewN_ ?_ _ | with_reducible refine Bl.alloc_ ?_ _ | with_reducible refine Bl.trans_ ?_ (by assumption) | with_reducible refine Bl.trans_ ?_ (And.left (by assumption)))))
        clear hK K
        try simp only [Act.put, List.getElem_toArray, List.getElem_cons_succ, List.getElem_cons_zero, List.setIfInBounds_toArray, List.set_cons_zero, List.set_cons_succ]
        refine wpAnyH_take (i := 23) (v := ?_) rfl (by kernel_rfl) (by kernel_rfl) (by kernel_rfl) (fun _ _ _ h => h) (Or.inl ⟨by kernel_rfl, ?_⟩) (by assumption) ?_
        rotate_left
        · (intro wx hSw; (try dsimp only at hSw); go_simp; try (with_reducible rfl))
        try simp only [Act.put, List.getElem_toArray, List.getElem_cons_succ, List.getElem_cons_zero, List.setIfInBounds_toArray, List.set_cons_zero, List.set_cons_succ]
        refine wpAnyH_done (by kernel_rfl) ?_ _
        clear hHeld
        have B1 : Bl wr w' := (by repeat' (first | exact Bl.refl _ | with_reducible assumption | with_reducible refine Bl.drew_ ?_ | with_reducible refine Bl.drewN_ ?_ _ | with_reducible refine Bl.alloc_ ?_ _ | with_reducible refine Bl.trans_ ?_ (by assumption) | with_reducible refine Bl.trans_ ?_ (And.left (by assumption))))
        generalize w' = wz at *
        go_wp2
        go_end0
        exact ⟨rfl, by rw [← E.out, upI_stop (by rw [← HM.out]; exact HT.out)]; exact R'.out.bl B1, grown_bl G.out B1⟩
    · obtain rfl : k' = 0 := by omega
      have z0 : decide ((0 : Int) < ((0 : Nat) : Int)) = false := by simp
      clear hc hn h0 h1
      go_wp2_with fail
      refine wp_region_held_drew (S := fun wx => Bl wr wx) (by kernel_rfl) ?_ (fun hHeld => ?_)
      · (exact (by repeat' (first | exact Bl.refl _ | with_reducible assumption | with_reducible refine Bl.drew_ ?_ | with_reducible refine Bl.drewN_ ?_ _ | with_reducible refine Bl.alloc_ ?_ _ | with_reducible refine Bl.trans_ ?_ (by assumption) | with_reducible refine Bl.trans_ ?_ (And.left (by assumption)))))
      refine wpAnyH_take (i := 0) (v := ?_) rfl (by kernel_rfl) (by kernel_rfl) (by kernel_rfl) (fun _ _ _ h => h) (Or.inl ⟨by kernel_rfl, ?_⟩) (by assumption) ?_
      rotate_left
      · (intro wx hSw; (try dsimp only at hSw); go_simp; try (with_reducible rfl))
      try simp only [Act.put, List.getElem_toArray, List.getElem_cons_succ, List.getElem_cons_zero, List.setIfInBounds_toArray, List.set_cons_zero, List.set_cons_succ]
      refine wpAnyH_take (i := 1) (v := ?_) rfl (by kernel_rfl) (by kernel_rfl) (by kernel_rfl) (fun _ _ _ h => h) (Or.inl ⟨by kernel_rfl, ?_⟩) (by assumption) ?_
      rotate_left
      · (intro wx hSw; (try dsimp only at hSw); go_simp; try (with_reducible rfl))
      try simp only [Act.put, List.getElem_toArray, List.getElem_cons_succ, List.getElem_cons_zero, List.setIfInBounds_toArray, List.set_cons_zero, List.set_cons_succ]
      refine wpAnyH_take (i := 2) (v := ?_) rfl (by kernel_rfl) (by kernel_rfl) (by kernel_rfl) (fun _ _ _ h => h) (Or.inl ⟨by kernel_rfl, ?_⟩) (by assumption) ?_
      rotate_left
      · (intro wx hSw; (try dsimp only at hSw); go_simp; try (with_reducible rfl))
      try simp only [Act.put, List.getElem_toArray, List.getElem_cons_succ, List.getElem_cons_zero, List.setIfInBounds_toArray, List.set_cons_zero, List.set_cons_succ]
      refine wpAnyH_take (i := 3) (v := undef) rfl (by kernel_rfl) (by kernel_rfl) (by kernel_rfl) (fun _ _ _ h => h) (Or.inr ⟨by kernel_rfl, rfl⟩) (by assumption) ?_
      try simp only [Act.put, List.getElem_toArray, List.getElem_cons_succ, List.getElem_cons_zero, List.setIfInBounds_toArray, List.set_cons_zero, List.set_cons_succ]
      refine wpAnyH_take (i := 4) (v := undef) rfl (by kernel_rfl) (by kernel_rfl) (by kernel_rfl) (fun _ _ _ h => h) (Or.inr ⟨by kernel_rfl, rfl⟩) (by assumption) ?_
      try simp only [Act.put, List.getElem_toArray, List.getElem_cons_succ, List.getElem_cons_zero, List.setIfInBounds_toArray, List.set_cons_zero, List.set_cons_succ]
      refine wpAnyH_take (i := 5) (v := undef) rfl (by kernel_rfl) (by kernel_rfl) (by kernel_rfl) (fun _ _ _ h => h) (Or.inr ⟨by kernel_rfl, rfl⟩) (by assumption) ?_
      try simp only [Act.put, List.getElem_toArray, List.getElem_cons_succ, List.getElem_cons_zero, List.setIfInBounds_toArray, List.set_cons_zero, List.set_cons_succ]
      refine wpAnyH_take (i := 6) (v := undef) rfl (by kernel_rfl) (by kernel_rfl) (by kernel_rfl) (fun _ _ _ h => h) (Or.inr ⟨by kernel_rfl, rfl⟩) (by assumption) ?_
      try simp only [Act.put, List.getElem_toArray, List.getElem_cons_succ, List.getElem_cons_zero, List.setIfInBounds_toArray, List.set_cons_zero, List.set_cons_succ]
      refine wpAnyH_take (i := 7) (v := undef) rfl (by kernel_rfl) (by kernel_rfl) (by kernel_rfl) (fun _ _ _ h => h) (Or.inr ⟨by kernel_rfl, rfl⟩) (by assumption) ?_
      try simp only [Act.put, List.getElem_toArray, List.getElem_cons_succ, List.getElem_cons_zero, List.setIfInBounds_toArray, List.set_cons_zero, List.set_cons_succ]
      refine wpAnyH_take (i := 8) (v := undef) rfl (by kernel_rfl) (by kernel_rfl) (by kernel_rfl) (fun _ _ _ h => h) (Or.inr ⟨by kernel_rfl, rfl⟩) (by assumption) ?_
      try simp only [Act.put, List.getElem_toArray, List.getElem_cons_succ, List.getElem_cons_zero, List.setIfInBounds_toArray, List.set_cons_zero, List.set_cons_succ]
      refine wpAnyH_take (i := 9) (v := undef) rfl (by kernel_rfl) (by kernel_rfl) (by kernel_rfl) (fun _ _ _ h => h) (Or.inr ⟨by kernel_rfl, rfl⟩) (by assumption) ?_
      try simp only [Act.put, List.getElem_toArray, List.getElem_cons_succ, List.getElem_cons_zero, List.setIfInBounds_toArray, List.set_cons_zero, List.set_cons_succ]
      refine wpAnyH_take (i := 10) (v := undef) rfl (by kernel_rfl) (by kernel_rfl) (by kernel_rfl) (fun _ _ _ h => h) (Or.inr ⟨by kernel_rfl, rfl⟩) (by assumption) ?_
      try simp only [Act.put, List.getElem_toArray, List.getElem_cons_succ, List.getElem_cons_zero, List.setIfInBounds_toArray, List.set_cons_zero, List.set_cons_succ]
      refine wpAnyH_take (i := 11) (v := undef) rfl (by kernel_rfl) (by kernel_rfl) (by kernel_rfl) (fun _ _ _ h => h) (Or.inr ⟨by kernel_rfl, rfl⟩) (by assumption) ?_
      try simp only [Act.put, List.getElem_toArray, List.getElem_cons_succ, List.getElem_cons_zero, List.setIfInBounds_toArray, List.set_cons_zero, List.set_cons_succ]
      refine wpAnyH_take (i := 12) (v := undef) rfl (by kernel_rfl) (by kernel_rfl) (by kernel_rfl) (fun _ _ _ h => h) (Or.inr ⟨by kernel_rfl, rfl⟩) (by assumption) ?_
      try simp only [Act.put, List.getElem_toArray, List.getElem_cons_succ, List.getElem_cons_zero, List.setIfInBounds_toArray, List.set_cons_zero, List.set_cons_succ]
      refine wpAnyH_take (i := 13) (v := undef) rfl (by kernel_rfl) (by kernel_rfl) (by kernel_rfl) (fun _ _ _ h => h) (Or.inr ⟨by kernel_rfl, rfl⟩) (by assumption) ?_
      try simp only [Act.put, List.getElem_toArray, List.getElem_cons_succ, List.getElem_cons_zero, List.setIfInBounds_toArray, List.set_cons_zero, List.set_cons_succ]
      refine wpAnyH_take (i := 14) (v := undef) rfl (by kernel_rfl) (by kernel_rfl) (by kernel_rfl) (fun _ _ _ h => h) (Or.inr ⟨by kernel_rfl, rfl⟩) (by assumption) ?_
      try simp only [Act.put, List.getElem_toArray, List.getElem_cons_succ, List.getElem_cons_zero, List.setIfInBounds_toArray, List.set_cons_zero, List.set_cons_succ]
      refine wpAnyH_take (i := 15) (v := undef) rfl (by kernel_rfl) (by kernel_rfl) (by kernel_rfl) (fun _ _ _ h => h) (Or.inr ⟨by kernel_rfl, rfl⟩) (by assumption) ?_
      try simp only [Act.put, List.getElem_toArray, List.getElem_cons_succ, List.getElem_cons_zero, List.setIfInBounds_toArray, List.set_cons_zero, List.set_cons_succ]
      refine wpAnyH_take (i := 16) (v := undef) rfl (by kernel_rfl) (by kernel_rfl) (by kernel_rfl) (fun _ _ _ h => h) (Or.inr ⟨by kernel_rfl, rfl⟩) (by assumption) ?_
      try simp only [Act.put, List.getElem_toArray, List.getElem_cons_succ, List.getElem_cons_zero, List.setIfInBounds_toArray, List.set_cons_zero, List.set_cons_succ]
      refine wpAnyH_take (i := 17) (v := undef) rfl (by kernel_rfl) (by kernel_rfl) (by kernel_rfl) (fun _ _ _ h => h) (Or.inr ⟨by kernel_rfl, rfl⟩) (by assumption) ?_
      try simp only [Act.put, List.getElem_toArray, List.getElem_cons_succ, List.getElem_cons_zero, List.setIfInBounds_toArray, List.set_cons_zero, List.set_cons_succ]
      refine wpAnyH_take (i := 18) (v := undef) rfl (by kernel_rfl) (by kernel_rfl) (by kernel_rfl) (fun _ _ _ h => h) (Or.inr ⟨by kernel_rfl, rfl⟩) (by assumption) ?_
      try simp only [Act.put, List.getElem_toArray, List.getElem_cons_succ, List.getElem_cons_zero, List.setIfInBounds_toArray, List.set_cons_zero, List.set_cons_succ]
      refine wpAnyH_ready (rs := [19]) (by kernel_rfl) (by simp) ?_
      refine AllReadyH.cons rfl (fun K hK => ?_) AllReadyH.nil
      go_simp
      refine hK.out _ _ ?_ (fun hHeld => ?_)
      · (exact (by repeat' (first | exact Bl.refl _ | with_reducible assumption | with_reducible refine Bl.drew_ ?_ | with_reducible refine Bl.drewN_ ?_ _ | with_reducible refine Bl.alloc_ ?_ _ | with_reducible refine Bl.trans_ ?_ (by assumption) | with_reducible refine Bl.trans_ ?_ (And.left (by assumption)))))
      clear hK K
      try simp only [Act.put, List.getElem_toArray, List.getElem_cons_succ, List.getElem_cons_zero, List.setIfInBounds_toArray, List.set_cons_zero, List.set_cons_succ]
      refine wpAnyH_take (i := 20) (v := undef) rfl (by kernel_rfl) (by kernel_rfl) (by kernel_rfl) (fun _ _ _ h => h) (Or.inr ⟨by kernel_rfl, rfl⟩) (by assumption) ?_
      try simp only [Act.put, List.getElem_toArray, List.getElem_cons_succ, List.getElem_cons_zero, List.setIfInBounds_toArray, List.set_cons_zero, List.set_cons_succ]
      refine wpAnyH_take (i := 21) (v := undef) rfl (by kernel_rfl) (by kernel_rfl) (by kernel_rfl) (fun _ _ _ h => h) (Or.inr ⟨by kernel_rfl, rfl⟩) (by assumption) ?_
      try simp only [Act.put, List.getElem_toArray, List.getElem_cons_succ, List.getElem_cons_zero, List.setIfInBounds_toArray, List.set_cons_zero, List.set_cons_succ]
      refine wpAnyH_ready (rs := [22]) (by kernel_rfl) (by simp) ?_
      refine AllReadyH.cons rfl (fun K hK => ?_) AllReadyH.nil
      go_simp
      refine hK.out _ _ ?_ (fun hHeld => ?_)
      · (exact (by repeat' (first | exact Bl.refl _ | with_reducible assumption | with_reducible refine Bl.drew_ ?_ | with_reducible refine Bl.drewN_ ?_ _ | with_reducible refine Bl.alloc_ ?_ _ | with_reducible refine Bl.trans_ ?_ (by assumption) | with_reducible refine Bl.trans_ ?_ (And.left (by assumption)))))
      clear hK K
      try simp only [Act.put, List.getElem_toArray, List.getElem_cons_succ, List.getElem_cons_zero, List.setIfInBounds_toArray, List.set_cons_zero, List.set_cons_succ]
      refine wpAnyH_take (i := 23) (v := ?_) rfl (by kernel_rfl) (by kernel_rfl) (by kernel_rfl) (fun _ _ _ h => h) (Or.inl ⟨by kernel_rfl, ?_⟩) (by assumption) ?_
      rotate_left
      · (intro wx hSw; (try dsimp only at hSw); go_simp; try (with_reducible rfl))
      try simp only [Act.put, List.getElem_toArray, List.getElem_cons_succ, List.getElem_cons_zero, List.setIfInBounds_toArray, List.set_cons_zero, List.set_cons_succ]
      refine wpAnyH_done (by kernel_rfl) ?_ _
      clear hHeld
      go_wp2
      go_end0
      exact ⟨rfl, by rw [← E.out, upI_zero]; exact R'.out.bl (by repeat' (first | exact Bl.refl _ | with_reducible assumption | with_reducible refine Bl.drew_ ?_ | with_reducible refine Bl.drewN_ ?_ _ | with_reducible refine Bl.alloc_ ?_ _ | with_reducible refine Bl.trans_ ?_ (by assumption) | with_reducible refine Bl.trans_ ?_ (And.left (by assumption)))), grown_bl G.out (by repeat' (first | exact Bl.refl _ | with_reducible assumption | with_reducible refine Bl.drew_ ?_ | with_reducible refine Bl.drewN_ ?_ _ | with_reducible refine Bl.alloc_ ?_ _ | with_reducible refine Bl.trans_ ?_ (by assumption) | with_reducible refine Bl.trans_ ?_ (And.left (by assumption))))⟩

end Go.Proofs.Ytffjpfanmnkmgaa

set_option linter.unusedSimpArgs false
set_option linter.unusedVariables false
namespace Go.Proofs.Ytffjpfanmnkmgaa
open Go.RowKit
open Go.ChangeMaps Go.MapKept
open Go.Maps (Keyed IsMap Tidy)

theorem plainElem_bool_inv {H : Type} {P : Program} {e : TypeId} (he : P.underlying e = some .bool) {v : Value} {z : DataW H × List MemPlace} (h : plainElem P e v = some z) : ∃ x, v = .bool x ∧ z = (.lit (.bool x), []) := by
  unfold plainElem at h
  rw [he] at h
  cases v <;> simp at h
  exact ⟨_, rfl, h.symm⟩
theorem ownsMap_lookup_bool {H : Type} {P : Program} {w : World} {b n : Nat} {k : TypeId} {D : DataW H} {t e : TypeId} (h : w.ownsMap P k (plainElem P e) b n D) (K : Keyed P k) (ht : P.underlying t = some (.map k e)) (he : P.underlying e = some .bool) (hz : (zeroValue e).run P w = .ok (.bool false) w)
    {key : Value} {kl : Lit} (hkey : keyOf P k key = some kl) : ∃ c, (Instr.lookup t (.map (some b)) key false).run P w = .ok (.bool c) w ∧ D.atKey kl (.lit (.bool false)) = .lit (.bool c) := by
  obtain ⟨v, ps, hrun, hv⟩ := h.lookup K ht hz (plainElem_bool he false) hkey
  obtain ⟨c, rfl, hc⟩ := plainElem_bool_inv he hv
  simp only [Prod.mk.injEq] at hc
  exact ⟨c, hrun, hc.1⟩
theorem wpList_lookup_own_bool {H : Type} {P : Program} (w : World) {ops : Array Oper} {rest : List Oper} {o : Oper} {a : Act} {Q : Exit → Act → World → Prop}
    (hg : o.guard = none) (m x : Operand) (t : TypeId) (hop : o.op = Op.lookup t m x false)
    (k e : TypeId) (K : Keyed P k) (ht : P.underlying t = some (.map k e)) (he : P.underlying e = some .bool) (hz : (zeroValue e).run P w = .ok (.bool false) w) (b n : Nat) (D : DataW H)
    (hm : a.eval m = .map (some b)) (hown : w.ownsMap P k (plainElem P e) b n D) (key : Value) (kl : Lit) (hx : a.eval x = key) (hkey : keyOf P k key = some kl)
    (hK : ∀ c : Bool, D.atKey kl (.lit (.bool false)) = .lit (.bool c) → wpList P ops Q rest (a.put o.dst (.bool c)) w) :
    wpList P ops Q (o :: rest) a w := by
  refine wpList_plain hg fun K' hK' => ?_
  obtain ⟨c, hrun, hat⟩ := ownsMap_lookup_bool hown K ht he hz hkey
  unfold Oper.wp
  simp [execOp, hop, hm, hx, hrun, Result.andThen]
  exact hK' _ _ (hK c hat)

/-- The set of ids of the first k items, as a map to true. -/
def seenD (L : List It) : Nat → DataW Unit
  | 0 => .map []
  | k + 1 => (seenD L k).put (.int .i64 (atI L k).2) (.lit (.bool true))
theorem seenD_isMap (L : List It) : ∀ k, IsMap (seenD L k)
  | 0 => ⟨[], rfl⟩
  | k + 1 => (seenD_isMap L k).put _ _
theorem seenD_at (L : List It) (id : Int) : ∀ k, (seenD L k).atKey (.int .i64 id) (.lit (.bool false)) = .lit (.bool (!(List.range k).all fun j => (atI L j).2 != id))
  | 0 => rfl
  | k + 1 => by
    unfold seenD
    by_cases h : (atI L k).2 = id
    · subst h
      rw [Maps.atKey_put_same (seenD_isMap L k) (by simp [WideAt.IsKeyLit])]
      simp [List.range_succ, List.all_append]
    · rw [Maps.atKey_put_other (by intro e; injection e with _ e; exact h e.symm), seenD_at L id k]
      simp [List.range_succ, List.all_append, h]

/-- All ids are numbers of 64 bits. -/
def WfI (L : List It) : Prop := ∀ k, (Lit.int .i64 (atI L k).2).wf = true
theorem zeroBool (w : World) : (zeroValue 4).run Try.prog w = .ok (.bool false) w := by kernel_rfl
theorem keyedInt : Keyed Try.prog 2 := Maps.int_keyed Try.underlying2

theorem run_makeMap_hint (n : Int) (w : World) : (Instr.makeMap 192 (some (.int .i64 n))).run Try.prog w = .ok (.map (some w.heap.size)) (w.alloc (.map #[] 0)) := by
  simp [Instr.makeMap, run_underlying Try.underlying192, asInt, asIntOf, Result.andThen]

set_option maxHeartbeats 1000000 in
theorem unlikeIds_any (A : Option Addr) (n c : Nat) (L : List It) (hn : n = L.length) (w : World) (hm : n ≤ 1048576) (hwf : WfI L) (H1 : ItemsAt w w.heap.size A L) :
    Calls Try.prog 138 #[.slice A n c] w fun e w' => e = .returned (.bool (idsI L n)) ∧ Bl w w' := by
  have K1 := Lib.hid H1
  have HN := Lib.hid hn
  have HW := Lib.hid hwf
  clear H1 hn hwf
  have hmm := run_makeMap_hint
  go_enter Try.func138, Try.ntmps138
  go_wp2
  clear hmm
  go_loopw [11] (fun i wr => ∃ k : Nat, k ≤ n ∧ i = .int .i64 k ∧ Bl w wr ∧ wr.ownsMap Try.prog 2 (plainElem Try.prog 4) w.heap.size k (seenD L k) ∧ idsI L k = true) (fun i _ => n - (intOf i).toNat)
  case atStart => exact ⟨0, by omega, rfl, (by repeat' (first | exact Bl.refl _ | with_reducible assumption | with_reducible refine Bl.drew_ ?_ | with_reducible refine Bl.drewN_ ?_ _ | with_reducible refine Bl.alloc_ ?_ _ | with_reducible refine Bl.trans_ ?_ (by assumption) | with_reducible refine Bl.trans_ ?_ (And.left (by assumption)))), World.ownsMap_made _ _ _ _, rfl⟩
  case round =>
    obtain ⟨k, hk, rfl, hbl, hown, hids⟩ := hrel
    have O := Lib.hid hown
    have ID := Lib.hid hids
    clear hown hids
    by_cases hlt : k < n
    · have hkl : k < L.length := by have := HN.out; omega
      obtain ⟨g1, o1, rfl, hg1, hc1⟩ := K1.out.cell (by omega)
      obtain ⟨p1, p2⟩ := hc1 k hkl
      rw [← (bcell hbl).1 _ _ hg1] at p1 p2
      clear hc1
      have hs := hbl.size
      have hx : L[k].2 = (atI L k).2 := by rw [atI_eq hkl]
      rw [hx] at p2
      generalize L[k].1 = x at p1
      generalize hy : (atI L k).2 = y at p2
      have HY := Lib.hid hy
      have WY := Lib.hid (show (Lit.int .i64 y).wf = true from by rw [← hy]; exact HW.out k)
      clear hx hy
      have hcur := Lib.hid (World.ownsMap.alloc O.out (.cells #[.int .i64 x, .int .i64 y] 82))
      have hat0 := seenD_at L y k
      have hnw : newI L k k = (List.range k).all (fun j => (atI L j).2 != y) := by unfold newI; rw [HY.out]
      rw [← hnw] at hat0
      clear hnw
      cases hnb : newI L k k with
      | true =>
        have HAT := Lib.hid (show ∀ c : Bool, (seenD L k).atKey (.int .i64 y) (.lit (.bool false)) = .lit (.bool c) → c = false from fun c h => by rw [hat0, hnb] at h; simpa using h.symm)
        have NB := Lib.hid hnb
        clear hat0 hnb
        go_wp2_with (first | (at_lookup; refine wpList_lookup_own_bool _ rfl _ _ 192 rfl 2 4 keyedInt Try.underlying192 Try.underlying4 (zeroBool _) w.heap.size k _ rfl hcur.out _ _ rfl (Maps.keyOf_int_mk Try.underlying2 WY.out) ?_; intro c hat; obtain rfl : c = false := HAT.out c hat; clear hat) | (at_mapUpdate; refine wpList_mapUpdate_own _ rfl _ _ _ 192 rfl 2 4 keyedInt Try.underlying192 _ w.heap.size k _ rfl hcur.out (by unfold maxLen; omega) _ _ _ rfl rfl (Maps.keyOf_int_mk Try.underlying2 WY.out) _ [] (plainElem_bool Try.underlying4 true) ?_; intro w1 hown1 hgrown1))
        have O1 := Lib.hid hown1
        have B1 : Bl w w1 := (hbl.alloc_ _).grown_ hgrown1 (fun g hg => by injection hg with hg; omega)
        clear hown1 hgrown1
        go_wp2
        go_roundw
        case rel => exact ⟨k + 1, by omega, by go_num, B1, by unfold seenD; rw [HY.out]; exact O1.out, by rw [idsI_succ, ID.out, NB.out]; rfl⟩
        case measure => simp [intOf]; omega
      | false =>
        have HAT := Lib.hid (show ∀ c : Bool, (seenD L k).atKey (.int .i64 y) (.lit (.bool false)) = .lit (.bool c) → c = true from fun c h => by rw [hat0, hnb] at h; simpa using h.symm)
        have NB := Lib.hid hnb
        clear hat0 hnb
        go_wp2_with (at_lookup; refine wpList_lookup_own_bool _ rfl _ _ 192 rfl 2 4 keyedInt Try.underlying192 Try.underlying4 (zeroBool _) w.heap.size k _ rfl hcur.out _ _ rfl (Maps.keyOf_int_mk Try.underlying2 WY.out) ?_; intro c hat; obtain rfl : c = true := HAT.out c hat; clear hat)
        go_ret
        exact ⟨ret_bool (idsI_false hlt NB.out).symm, hbl.alloc_ _⟩
    · have e : k = n := by omega
      subst e
      go_wp2
      go_ret
      exact ⟨ret_bool ID.out.symm, hbl⟩

end Go.Proofs.Ytffjpfanmnkmgaa

set_option linter.unusedSimpArgs false
set_option linter.unusedVariables false
namespace Go.Proofs.Ytffjpfanmnkmgaa
open Go.RowKit

-- (l2Up_any left out)

end Go.Proofs.Ytffjpfanmnkmgaa

set_option linter.unusedSimpArgs false
set_option linter.unusedVariables false
namespace Go.Proofs.Ytffjpfanmnkmgaa
open Go.RowKit

theorem ItemsAt.cellI {w : World} {B : Nat} {A : Option Addr} {L : List It} (h : ItemsAt w B A L) (h0 : 0 < L.length) :
    ∃ g off, A = some ⟨g, off, none⟩ ∧ g < B ∧ ∀ k (hk : k < L.length), w.cell? ⟨g, off + k * 2, none⟩ = some (.int .i64 (atI L k).1) ∧ w.cell? ⟨g, off + k * 2 + 1, none⟩ = some (.int .i64 (atI L k).2) := by
  obtain ⟨g, off, e, hg, hc⟩ := h.cell h0
  exact ⟨g, off, e, hg, fun k hk => by rw [atI_eq hk]; exact hc k hk⟩

set_option maxHeartbeats 2000000 in
theorem isHeap_any (hb : Nat) (A : Option Addr) (n c : Nat) (L : List It) (hn : n = L.length) (w : World) (hm : n ≤ 1048576) (H1 : ItemsAt w w.heap.size A L) (hH : HBox w hb (.slice A n c)) :
    Calls Try.prog 140 #[.pointer (some ⟨hb, 0, none⟩)] w fun e w' => e = .returned (.bool (ordI L n)) ∧ Bl w w' := by
  have K1 := Lib.hid H1
  have HN := Lib.hid hn
  have H := Lib.hid hH
  have hbs := hH.lt
  clear H1 hn hH
  go_enter Try.func140, Try.ntmps140
  go_wp2
  go_loopw [3] (fun i wr => ∃ k : Nat, 1 ≤ k ∧ (k ≤ n ∨ k = 1) ∧ i = .int .i64 k ∧ Bl w wr ∧ ordI L k = true) (fun i _ => n - (intOf i).toNat)
  case atStart => exact ⟨1, by omega, by omega, rfl, Bl.refl _, by simp [ordI]⟩
  case round =>
    obtain ⟨k, hk1, hk, rfl, hbl, hord⟩ := hrel
    have OR := Lib.hid hord
    clear hord
    obtain ⟨h0, h1, h2⟩ := H.out.bl hbs hbl
    clear h2
    by_cases hlt : k < n
    · have hkl : k < L.length := by have := HN.out; omega
      obtain ⟨m, hmd⟩ : ∃ m, m = (k - 1) / 2 := ⟨_, rfl⟩
      have hmk : m < k := by omega
      have HM := Lib.hid hmd
      clear hmd
      obtain ⟨g1, o1, rfl, hg1, hc1⟩ := K1.out.cellI (by omega)
      obtain ⟨a1, a2⟩ := hc1 k hkl
      obtain ⟨b1, b2⟩ := hc1 m (by omega)
      rw [← (bcell hbl).1 _ _ hg1] at a1 a2 b1 b2
      clear hc1
      have hL : lessI (atI L k) (atI L m) = lessI ((atI L k).1, (atI L k).2) ((atI L m).1, (atI L m).2) := rfl
      generalize (atI L k).1 = x at a1 hL
      generalize (atI L k).2 = y at a2 hL
      generalize (atI L m).1 = x' at b1 hL
      generalize (atI L m).2 = y' at b2 hL
      have HL := Lib.hid hL
      clear hL
      have i0 : (k : Int) < (n : Int) := by omega
      have j0 : (m : Int) < (n : Int) := by omega
      have hs := hbl.size
      have HSH := Lib.hid (show ∀ wx, Bl wr wx → Bl wr wx ∧ wx.cell? ⟨hb, 0, none⟩ = some (.slice (some ⟨g1, o1, none⟩) n c) ∧ wx.cell? ⟨hb, 1, none⟩ = some (.func (.func 139) #[] #[]) ∧ wx.cell? ⟨g1, o1 + k * 2, none⟩ = some (.int .i64 x) ∧ wx.cell? ⟨g1, o1 + k * 2 + 1, none⟩ = some (.int .i64 y) ∧ wx.cell? ⟨g1, o1 + m * 2, none⟩ = some (.int .i64 x') ∧ wx.cell? ⟨g1, o1 + m * 2 + 1, none⟩ = some (.int .i64 y') from fun wx hb' => by
        have q := (bcell hb').1
        exact ⟨hb', (q _ _ (by omega)).trans h0, (q _ _ (by omega)).trans h1, (q _ _ (by omega)).trans a1, (q _ _ (by omega)).trans a2, (q _ _ (by omega)).trans b1, (q _ _ (by omega)).trans b2⟩)
      clear a1 a2 b1 b2 h1
      cases hb2 : lessI (x, y) (x', y') with
      | true =>
        have HT := Lib.hid (HL.out.trans hb2)
        have HL := Lib.hid hb2
        clear hb2
        go_wp2_with fail
        refine wp_region_held_drew (S := fun wx => Bl wr wx ∧ wx.cell? ⟨hb, 0, none⟩ = some (.slice (some ⟨g1, o1, none⟩) n c) ∧ wx.cell? ⟨hb, 1, none⟩ = some (.func (.func 139) #[] #[]) ∧ wx.cell? ⟨g1, o1 + k * 2, none⟩ = some (.int .i64 x) ∧ wx.cell? ⟨g1, o1 + k * 2 + 1, none⟩ = some (.int .i64 y) ∧ wx.cell? ⟨g1, o1 + m * 2, none⟩ = some (.int .i64 x') ∧ wx.cell? ⟨g1, o1 + m * 2 + 1, none⟩ = some (.int .i64 y')) (by kernel_rfl) ?_ (fun hHeld => ?_)
        · (exact HSH.out _ (by repeat' (first | exact Bl.refl _ | with_reducible assumption | with_reducible refine Bl.drew_ ?_ | with_reducible refine Bl.drewN_ ?_ _ | with_reducible refine Bl.alloc_ ?_ _ | with_reducible refine Bl.trans_ ?_ (by assumption) | with_reducible refine Bl.trans_ ?_ (And.left (by assumption)))))
        refine wpAnyH_take (i := 0) (v := ?_) rfl (by kernel_rfl) (by kernel_rfl) (by kernel_rfl) (fun _ _ _ h => h) (Or.inl ⟨by kernel_rfl, ?_⟩) (by assumption) ?_
        rotate_left
        · (intro wx hSw; (try dsimp only at hSw); go_simp; try (with_reducible rfl))
        try simp only [Act.put, List.getElem_toArray, List.getElem_cons_succ, List.getElem_cons_zero, List.setIfInBounds_toArray, List.set_cons_zero, List.set_cons_succ]
        refine wpAnyH_take (i := 1) (v := ?_) rfl (by kernel_rfl) (by kernel_rfl) (by kernel_rfl) (fun _ _ _ h => h) (Or.inl ⟨by kernel_rfl, ?_⟩) (by assumption) ?_
        rotate_left
        · (intro wx hSw; (try dsimp only at hSw); go_simp; try (with_reducible rfl))
        try simp only [Act.put, List.getElem_toArray, List.getElem_cons_succ, List.getElem_cons_zero, List.setIfInBounds_toArray, List.set_cons_zero, List.set_cons_succ]
        refine wpAnyH_take (i := 2) (v := ?_) rfl (by kernel_rfl) (by kernel_rfl) (by kernel_rfl) (fun _ _ _ h => h) (Or.inl ⟨by kernel_rfl, ?_⟩) (by assumption) ?_
        rotate_left
        · (intro wx hSw; (try dsimp only at hSw); go_simp; try (with_reducible rfl))
        try simp only [Act.put, List.getElem_toArray, List.getElem_cons_succ, List.getElem_cons_zero, List.setIfInBounds_toArray, List.set_cons_zero, List.set_cons_succ]
        refine wpAnyH_take (i := 3) (v := ?_) rfl (by kernel_rfl) (by kernel_rfl) (by kernel_rfl) (fun _ _ _ h => h) (Or.inl ⟨by kernel_rfl, ?_⟩) (by assumption) ?_
        rotate_left
        · (intro wx hSw; (try dsimp only at hSw); go_simp; try (with_reducible rfl))
        try simp only [Act.put, List.getElem_toArray, List.getElem_cons_succ, List.getElem_cons_zero, List.setIfInBounds_toArray, List.set_cons_zero, List.set_cons_succ]
        refine wpAnyH_take (i := 4) (v := ?_) rfl (by kernel_rfl) (by kernel_rfl) (by kernel_rfl) (fun _ _ _ h => h) (Or.inl ⟨by kernel_rfl, ?_⟩) (by assumption) ?_
        rotate_left
        · (intro wx hSw; (try dsimp only at hSw); go_simp; try (with_reducible rfl))
        try simp only [Act.put, List.getElem_toArray, List.getElem_cons_succ, List.getElem_cons_zero, List.setIfInBounds_toArray, List.set_cons_zero, List.set_cons_succ]
        refine wpAnyH_take (i := 5) (v := ?_) rfl (by kernel_rfl) (by kernel_rfl) (by kernel_rfl) (fun _ _ _ h => h) (Or.inl ⟨by kernel_rfl, ?_⟩) (by assumption) ?_
        rotate_left
        · (intro wx hSw; (try dsimp only at hSw); go_simp; try (with_reducible rfl))
        try simp only [Act.put, List.getElem_toArray, List.getElem_cons_succ, List.getElem_cons_zero, List.setIfInBounds_toArray, List.set_cons_zero, List.set_cons_succ]
        refine wpAnyH_take (i := 6) (v := ?_) rfl (by kernel_rfl) (by kernel_rfl) (by kernel_rfl) (fun _ _ _ h => h) (Or.inl ⟨by kernel_rfl, ?_⟩) (by assumption) ?_
        rotate_left
        · (intro wx hSw; (try dsimp only at hSw); go_simp; try (with_reducible rfl))
        try simp only [Act.put, List.getElem_toArray, List.getElem_cons_succ, List.getElem_cons_zero, List.setIfInBounds_toArray, List.set_cons_zero, List.set_cons_succ]
        refine wpAnyH_take (i := 7) (v := ?_) rfl (by kernel_rfl) (by kernel_rfl) (by kernel_rfl) (fun _ _ _ h => h) (Or.inl ⟨by kernel_rfl, ?_⟩) (by assumption) ?_
        rotate_left
        · (intro wx hSw; (try dsimp only at hSw); go_simp; try (with_reducible rfl))
        try simp only [Act.put, List.getElem_toArray, List.getElem_cons_succ, List.getElem_cons_zero, List.setIfInBounds_toArray, List.set_cons_zero, List.set_cons_succ]
        refine wpAnyH_take (i := 8) (v := ?_) rfl (by kernel_rfl) (by kernel_rfl) (by kernel_rfl) (fun _ _ _ h => h) (Or.inl ⟨by kernel_rfl, ?_⟩) (by assumption) ?_
        rotate_left
        · (intro wx hSw; (try dsimp only at hSw); go_simp; try (with_reducible rfl))
        try simp only [Act.put, List.getElem_toArray, List.getElem_cons_succ, List.getElem_cons_zero, List.setIfInBounds_toArray, List.set_cons_zero, List.set_cons_succ]
        refine wpAnyH_take (i := 9) (v := ?_) rfl (by kernel_rfl) (by kernel_rfl) (by kernel_rfl) (fun _ _ _ h => h) (Or.inl ⟨by kernel_rfl, ?_⟩) (by assumption) ?_
        rotate_left
        · (intro wx hSw; (try dsimp only at hSw); go_simp; try (with_reducible rfl))
        try simp only [Act.put, List.getElem_toArray, List.getElem_cons_succ, List.getElem_cons_zero, List.setIfInBounds_toArray, List.set_cons_zero, List.set_cons_succ]
        refine wpAnyH_take (i := 10) (v := ?_) rfl (by kernel_rfl) (by kernel_rfl) (by kernel_rfl) (fun _ _ _ h => h) (Or.inl ⟨by kernel_rfl, ?_⟩) (by assumption) ?_
        rotate_left
        · (intro wx hSw; (try dsimp only at hSw); go_simp; try (with_reducible rfl))
        try simp only [Act.put, List.getElem_toArray, List.getElem_cons_succ, List.getElem_cons_zero, List.setIfInBounds_toArray, List.set_cons_zero, List.set_cons_succ]
        refine wpAnyH_take (i := 11) (v := ?_) rfl (by kernel_rfl) (by kernel_rfl) (by kernel_rfl) (fun _ _ _ h => h) (Or.inl ⟨by kernel_rfl, ?_⟩) (by assumption) ?_
        rotate_left
        · (intro wx hSw; (try dsimp only at hSw); go_simp; try (with_reducible rfl))
        try simp only [Act.put, List.getElem_toArray, List.getElem_cons_succ, List.getElem_cons_zero, List.setIfInBounds_toArray, List.set_cons_zero, List.set_cons_succ]
        refine wpAnyH_take (i := 12) (v := ?_) rfl (by kernel_rfl) (by kernel_rfl) (by kernel_rfl) (fun _ _ _ h => h) (Or.inl ⟨by kernel_rfl, ?_⟩) (by assumption) ?_
        rotate_left
        · (intro wx hSw; (try dsimp only at hSw); go_simp; try (with_reducible rfl))
        try simp only [Act.put, List.getElem_toArray, List.getElem_cons_succ, List.getElem_cons_zero, List.setIfInBounds_toArray, List.set_cons_zero, List.set_cons_succ]
        refine wpAnyH_take (i := 13) (v := ?_) rfl (by kernel_rfl) (by kernel_rfl) (by kernel_rfl) (fun _ _ _ h => h) (Or.inl ⟨by kernel_rfl, ?_⟩) (by assumption) ?_
        rotate_left
        · (intro wx hSw; (try dsimp only at hSw); go_simp; try (with_reducible rfl))
        try simp only [Act.put, List.getElem_toArray, List.getElem_cons_succ, List.getElem_cons_zero, List.setIfInBounds_toArray, List.set_cons_zero, List.set_cons_succ]
        refine wpAnyH_take (i := 14) (v := ?_) rfl (by kernel_rfl) (by kernel_rfl) (by kernel_rfl) (fun _ _ _ h => h) (Or.inl ⟨by kernel_rfl, ?_⟩) (by assumption) ?_
        rotate_left
        · (intro wx hSw; (try dsimp only at hSw); go_simp; try (with_reducible rfl))
        try simp only [Act.put, List.getElem_toArray, List.getElem_cons_succ, List.getElem_cons_zero, List.setIfInBounds_toArray, List.set_cons_zero, List.set_cons_succ]
        refine wpAnyH_take (i := 15) (v := ?_) rfl (by kernel_rfl) (by kernel_rfl) (by kernel_rfl) (fun _ _ _ h => h) (Or.inl ⟨by kernel_rfl, ?_⟩) (by assumption) ?_
        rotate_left
        · (intro wx hSw; (try dsimp only at hSw); go_simp; try (with_reducible rfl))
        try simp only [Act.put, List.getElem_toArray, List.getElem_cons_succ, List.getElem_cons_zero, List.setIfInBounds_toArray, List.set_cons_zero, List.set_cons_succ]
        refine wpAnyH_ready (rs := [16]) (by kernel_rfl) (by simp) ?_
        refine AllReadyH.cons rfl (fun K hK => ?_) AllReadyH.nil
        go_simp
        (go_at_call 142; refine (above_at k m _ (by omega) (by omega) HM.out).mono ?_; rintro e w' ⟨rfl, rfl⟩)
        try (go_wp2_with fail)
        refine hK.out _ _ ?_ (fun hHeld => ?_)
        · (exact HSH.out _ (by repeat' (first | exact Bl.refl _ | with_reducible assumption | with_reducible refine Bl.drew_ ?_ | with_reducible refine Bl.drewN_ ?_ _ | with_reducible refine Bl.alloc_ ?_ _ | with_reducible refine Bl.trans_ ?_ (by assumption) | with_reducible refine Bl.trans_ ?_ (And.left (by assumption)))))
        clear hK K
        try simp only [Act.put, List.getElem_toArray, List.getElem_cons_succ, List.getElem_cons_zero, List.setIfInBounds_toArray, List.set_cons_zero, List.set_cons_succ]
        refine wpAnyH_take (i := 17) (v := ?_) rfl (by kernel_rfl) (by kernel_rfl) (by kernel_rfl) (fun _ _ _ h => h) (Or.inl ⟨by kernel_rfl, ?_⟩) (by assumption) ?_
        rotate_left
        · (intro wx hSw; (try dsimp only at hSw); go_simp; try (with_reducible rfl))
        try simp only [Act.put, List.getElem_toArray, List.getElem_cons_succ, List.getElem_cons_zero, List.setIfInBounds_toArray, List.set_cons_zero, List.set_cons_succ]
        refine wpAnyH_take (i := 18) (v := ?_) rfl (by kernel_rfl) (by kernel_rfl) (by kernel_rfl) (fun _ _ _ h => h) (Or.inl ⟨by kernel_rfl, ?_⟩) (by assumption) ?_
        rotate_left
        · (intro wx hSw; (try dsimp only at hSw); go_simp; try (with_reducible rfl))
        try simp only [Act.put, List.getElem_toArray, List.getElem_cons_succ, List.getElem_cons_zero, List.setIfInBounds_toArray, List.set_cons_zero, List.set_cons_succ]
        refine wpAnyH_ready (rs := [19]) (by kernel_rfl) (by simp) ?_
        refine AllReadyH.cons rfl (fun K hK => ?_) AllReadyH.nil
        go_simp
        (go_at_call 139; refine (itemLess_at _ _ _ _ _ _ HL.out).mono ?_; rintro e w' ⟨rfl, hb'⟩; obtain ⟨hc', hf'⟩ := bcell hb')
        try (go_wp2_with fail)
        refine hK.out _ _ ?_ (fun hHeld => ?_)
        · (exact HSH.out _ (by repeat' (first | exact Bl.refl _ | with_reducible assumption | with_reducible refine Bl.drew_ ?_ | with_reducible refine Bl.drewN_ ?_ _ | with_reducible refine Bl.alloc_ ?_ _ | with_reducible refine Bl.trans_ ?_ (by assumption) | with_reducible refine Bl.trans_ ?_ (And.left (by assumption)))))
        clear hK K
        try simp only [Act.put, List.getElem_toArray, List.getElem_cons_succ, List.getElem_cons_zero, List.setIfInBounds_toArray, List.set_cons_zero, List.set_cons_succ]
        refine wpAnyH_done (by kernel_rfl) ?_ _
        clear hHeld
        have B1 : Bl w w' := hbl.trans_ (show Bl wr w' from (by repeat' (first | exact Bl.refl _ | with_reducible assumption | with_reducible refine Bl.drew_ ?_ | with_reducible refine Bl.drewN_ ?_ _ | with_reducible refine Bl.alloc_ ?_ _ | with_reducible refine Bl.trans_ ?_ (by assumption) | with_reducible refine Bl.trans_ ?_ (And.left (by assumption)))))
        generalize w' = wz at *
        go_wp2
        go_ret
        exact ⟨ret_bool (ordI_false hlt (by omega) (by rw [← HM.out]; exact HT.out)).symm, B1⟩
      | false =>
        have HT := Lib.hid (HL.out.trans hb2)
        have HL := Lib.hid hb2
        clear hb2
        go_wp2_with fail
        refine wp_region_held_drew (S := fun wx => Bl wr wx ∧ wx.cell? ⟨hb, 0, none⟩ = some (.slice (some ⟨g1, o1, none⟩) n c) ∧ wx.cell? ⟨hb, 1, none⟩ = some (.func (.func 139) #[] #[]) ∧ wx.cell? ⟨g1, o1 + k * 2, none⟩ = some (.int .i64 x) ∧ wx.cell? ⟨g1, o1 + k * 2 + 1, none⟩ = some (.int .i64 y) ∧ wx.cell? ⟨g1, o1 + m * 2, none⟩ = some (.int .i64 x') ∧ wx.cell? ⟨g1, o1 + m * 2 + 1, none⟩ = some (.int .i64 y')) (by kernel_rfl) ?_ (fun hHeld => ?_)
        · (exact HSH.out _ (by repeat' (first | exact Bl.refl _ | with_reducible assumption | with_reducible refine Bl.drew_ ?_ | with_reducible refine Bl.drewN_ ?_ _ | with_reducible refine Bl.alloc_ ?_ _ | with_reducible refine Bl.trans_ ?_ (by assumption) | with_reducible refine Bl.trans_ ?_ (And.left (by assumption)))))
        refine wpAnyH_take (i := 0) (v := ?_) rfl (by kernel_rfl) (by kernel_rfl) (by kernel_rfl) (fun _ _ _ h => h) (Or.inl ⟨by kernel_rfl, ?_⟩) (by assumption) ?_
        rotate_left
        · (intro wx hSw; (try dsimp only at hSw); go_simp; try (with_reducible rfl))
        try simp only [Act.put, List.getElem_toArray, List.getElem_cons_succ, List.getElem_cons_zero, List.setIfInBounds_toArray, List.set_cons_zero, List.set_cons_succ]
        refine wpAnyH_take (i := 1) (v := ?_) rfl (by kernel_rfl) (by kernel_rfl) (by kernel_rfl) (fun _ _ _ h => h) (Or.inl ⟨by kernel_rfl, ?_⟩) (by assumption) ?_
        rotate_left
        · (intro wx hSw; (try dsimp only at hSw); go_simp; try (with_reducible rfl))
        try simp only [Act.put, List.getElem_toArray, List.getElem_cons_succ, List.getElem_cons_zero, List.setIfInBounds_toArray, List.set_cons_zero, List.set_cons_succ]
        refine wpAnyH_take (i := 2) (v := ?_) rfl (by kernel_rfl) (by kernel_rfl) (by kernel_rfl) (fun _ _ _ h => h) (Or.inl ⟨by kernel_rfl, ?_⟩) (by assumption) ?_
        rotate_left
        · (intro wx hSw; (try dsimp only at hSw); go_simp; try (with_reducible rfl))
        try simp only [Act.put, List.getElem_toArray, List.getElem_cons_succ, List.getElem_cons_zero, List.setIfInBounds_toArray, List.set_cons_zero, List.set_cons_succ]
        refine wpAnyH_take (i := 3) (v := ?_) rfl (by kernel_rfl) (by kernel_rfl) (by kernel_rfl) (fun _ _ _ h => h) (Or.inl ⟨by kernel_rfl, ?_⟩) (by assumption) ?_
        rotate_left
        · (intro wx hSw; (try dsimp only at hSw); go_simp; try (with_reducible rfl))
        try simp only [Act.put, List.getElem_toArray, List.getElem_cons_succ, List.getElem_cons_zero, List.setIfInBounds_toArray, List.set_cons_zero, List.set_cons_succ]
        refine wpAnyH_take (i := 4) (v := ?_) rfl (by kernel_rfl) (by kernel_rfl) (by kernel_rfl) (fun _ _ _ h => h) (Or.inl ⟨by kernel_rfl, ?_⟩) (by assumption) ?_
        rotate_left
        · (intro wx hSw; (try dsimp only at hSw); go_simp; try (with_reducible rfl))
        try simp only [Act.put, List.getElem_toArray, List.getElem_cons_succ, List.getElem_cons_zero, List.setIfInBounds_toArray, List.set_cons_zero, List.set_cons_succ]
        refine wpAnyH_take (i := 5) (v := ?_) rfl (by kernel_rfl) (by kernel_rfl) (by kernel_rfl) (fun _ _ _ h => h) (Or.inl ⟨by kernel_rfl, ?_⟩) (by assumption) ?_
        rotate_left
        · (intro wx hSw; (try dsimp only at hSw); go_simp; try (with_reducible rfl))
        try simp only [Act.put, List.getElem_toArray, List.getElem_cons_succ, List.getElem_cons_zero, List.setIfInBounds_toArray, List.set_cons_zero, List.set_cons_succ]
        refine wpAnyH_take (i := 6) (v := ?_) rfl (by kernel_rfl) (by kernel_rfl) (by kernel_rfl) (fun _ _ _ h => h) (Or.inl ⟨by kernel_rfl, ?_⟩) (by assumption) ?_
        rotate_left
        · (intro wx hSw; (try dsimp only at hSw); go_simp; try (with_reducible rfl))
        try simp only [Act.put, List.getElem_toArray, List.getElem_cons_succ, List.getElem_cons_zero, List.setIfInBounds_toArray, List.set_cons_zero, List.set_cons_succ]
        refine wpAnyH_take (i := 7) (v := ?_) rfl (by kernel_rfl) (by kernel_rfl) (by kernel_rfl) (fun _ _ _ h => h) (Or.inl ⟨by kernel_rfl, ?_⟩) (by assumption) ?_
        rotate_left
        · (intro wx hSw; (try dsimp only at hSw); go_simp; try (with_reducible rfl))
        try simp only [Act.put, List.getElem_toArray, List.getElem_cons_succ, List.getElem_cons_zero, List.setIfInBounds_toArray, List.set_cons_zero, List.set_cons_succ]
        refine wpAnyH_take (i := 8) (v := ?_) rfl (by kernel_rfl) (by kernel_rfl) (by kernel_rfl) (fun _ _ _ h => h) (Or.inl ⟨by kernel_rfl, ?_⟩) (by assumption) ?_
        rotate_left
        · (intro wx hSw; (try dsimp only at hSw); go_simp; try (with_reducible rfl))
        try simp only [Act.put, List.getElem_toArray, List.getElem_cons_succ, List.getElem_cons_zero, List.setIfInBounds_toArray, List.set_cons_zero, List.set_cons_succ]
        refine wpAnyH_take (i := 9) (v := ?_) rfl (by kernel_rfl) (by kernel_rfl) (by kernel_rfl) (fun _ _ _ h => h) (Or.inl ⟨by kernel_rfl, ?_⟩) (by assumption) ?_
        rotate_left
        · (intro wx hSw; (try dsimp only at hSw); go_simp; try (with_reducible rfl))
        try simp only [Act.put, List.getElem_toArray, List.getElem_cons_succ, List.getElem_cons_zero, List.setIfInBounds_toArray, List.set_cons_zero, List.set_cons_succ]
        refine wpAnyH_take (i := 10) (v := ?_) rfl (by kernel_rfl) (by kernel_rfl) (by kernel_rfl) (fun _ _ _ h => h) (Or.inl ⟨by kernel_rfl, ?_⟩) (by assumption) ?_
        rotate_left
        · (intro wx hSw; (try dsimp only at hSw); go_simp; try (with_reducible rfl))
        try simp only [Act.put, List.getElem_toArray, List.getElem_cons_succ, List.getElem_cons_zero, List.setIfInBounds_toArray, List.set_cons_zero, List.set_cons_succ]
        refine wpAnyH_take (i := 11) (v := ?_) rfl (by kernel_rfl) (by kernel_rfl) (by kernel_rfl) (fun _ _ _ h => h) (Or.inl ⟨by kernel_rfl, ?_⟩) (by assumption) ?_
        rotate_left
        · (intro wx hSw; (try dsimp only at hSw); go_simp; try (with_reducible rfl))
        try simp only [Act.put, List.getElem_toArray, List.getElem_cons_succ, List.getElem_cons_zero, List.setIfInBounds_toArray, List.set_cons_zero, List.set_cons_succ]
        refine wpAnyH_take (i := 12) (v := ?_) rfl (by kernel_rfl) (by kernel_rfl) (by kernel_rfl) (fun _ _ _ h => h) (Or.inl ⟨by kernel_rfl, ?_⟩) (by assumption) ?_
        rotate_left
        · (intro wx hSw; (try dsimp only at hSw); go_simp; try (with_reducible rfl))
        try simp only [Act.put, List.getElem_toArray, List.getElem_cons_succ, List.getElem_cons_zero, List.setIfInBounds_toArray, List.set_cons_zero, List.set_cons_succ]
        refine wpAnyH_take (i := 13) (v := ?_) rfl (by kernel_rfl) (by kernel_rfl) (by kernel_rfl) (fun _ _ _ h => h) (Or.inl ⟨by kernel_rfl, ?_⟩) (by assumption) ?_
        rotate_left
        · (intro wx hSw; (try dsimp only at hSw); go_simp; try (with_reducible rfl))
        try simp only [Act.put, List.getElem_toArray, List.getElem_cons_succ, List.getElem_cons_zero, List.setIfInBounds_toArray, List.set_cons_zero, List.set_cons_succ]
        refine wpAnyH_take (i := 14) (v := ?_) rfl (by kernel_rfl) (by kernel_rfl) (by kernel_rfl) (fun _ _ _ h => h) (Or.inl ⟨by kernel_rfl, ?_⟩) (by assumption) ?_
        rotate_left
        · (intro wx hSw; (try dsimp only at hSw); go_simp; try (with_reducible rfl))
        try simp only [Act.put, List.getElem_toArray, List.getElem_cons_succ, List.getElem_cons_zero, List.setIfInBounds_toArray, List.set_cons_zero, List.set_cons_succ]
        refine wpAnyH_take (i := 15) (v := ?_) rfl (by kernel_rfl) (by kernel_rfl) (by kernel_rfl) (fun _ _ _ h => h) (Or.inl ⟨by kernel_rfl, ?_⟩) (by assumption) ?_
        rotate_left
        · (intro wx hSw; (try dsimp only at hSw); go_simp; try (with_reducible rfl))
        try simp only [Act.put, List.getElem_toArray, List.getElem_cons_succ, List.getElem_cons_zero, List.setIfInBounds_toArray, List.set_cons_zero, List.set_cons_succ]
        refine wpAnyH_ready (rs := [16]) (by kernel_rfl) (by simp) ?_
        refine AllReadyH.cons rfl (fun K hK => ?_) AllReadyH.nil
        go_simp
        (go_at_call 142; refine (above_at k m _ (by omega) (by omega) HM.out).mono ?_; rintro e w' ⟨rfl, rfl⟩)
        try (go_wp2_with fail)
        refine hK.out _ _ ?_ (fun hHeld => ?_)
        · (exact HSH.out _ (by repeat' (first | exact Bl.refl _ | with_reducible assumption | with_reducible refine Bl.drew_ ?_ | with_reducible refine Bl.drewN_ ?_ _ | with_reducible refine Bl.alloc_ ?_ _ | with_reducible refine Bl.trans_ ?_ (by assumption) | with_reducible refine Bl.trans_ ?_ (And.left (by assumption)))))
        clear hK K
        try simp only [Act.put, List.getElem_toArray, List.getElem_cons_succ, List.getElem_cons_zero, List.setIfInBounds_toArray, List.set_cons_zero, List.set_cons_succ]
        refine wpAnyH_take (i := 17) (v := ?_) rfl (by kernel_rfl) (by kernel_rfl) (by kernel_rfl) (fun _ _ _ h => h) (Or.inl ⟨by kernel_rfl, ?_⟩) (by assumption) ?_
        rotate_left
        · (intro wx hSw; (try dsimp only at hSw); go_simp; try (with_reducible rfl))
        try simp only [Act.put, List.getElem_toArray, List.getElem_cons_succ, List.getElem_cons_zero, List.setIfInBounds_toArray, List.set_cons_zero, List.set_cons_succ]
        refine wpAnyH_take (i := 18) (v := ?_) rfl (by kernel_rfl) (by kernel_rfl) (by kernel_rfl) (fun _ _ _ h => h) (Or.inl ⟨by kernel_rfl, ?_⟩) (by assumption) ?_
        rotate_left
        · (intro wx hSw; (try dsimp only at hSw); go_simp; try (with_reducible rfl))
        try simp only [Act.put, List.getElem_toArray, List.getElem_cons_succ, List.getElem_cons_zero, List.setIfInBounds_toArray, List.set_cons_zero, List.set_cons_succ]
        refine wpAnyH_ready (rs := [19]) (by kernel_rfl) (by simp) ?_
        refine AllReadyH.cons rfl (fun K hK => ?_) AllReadyH.nil
        go_simp
        (go_at_call 139; refine (itemLess_at _ _ _ _ _ _ HL.out).mono ?_; rintro e w' ⟨rfl, hb'⟩; obtain ⟨hc', hf'⟩ := bcell hb')
        try (go_wp2_with fail)
        refine hK.out _ _ ?_ (fun hHeld => ?_)
        · (exact HSH.out _ (by repeat' (first | exact Bl.refl _ | with_reducible assumption | with_reducible refine Bl.drew_ ?_ | with_reducible refine Bl.drewN_ ?_ _ | with_reducible refine Bl.alloc_ ?_ _ | with_reducible refine Bl.trans_ ?_ (by assumption) | with_reducible refine Bl.trans_ ?_ (And.left (by assumption)))))
        clear hK K
        try simp only [Act.put, List.getElem_toArray, List.getElem_cons_succ, List.getElem_cons_zero, List.setIfInBounds_toArray, List.set_cons_zero, List.set_cons_succ]
        refine wpAnyH_done (by kernel_rfl) ?_ _
        clear hHeld
        have B1 : Bl w w' := hbl.trans_ (show Bl wr w' from (by repeat' (first | exact Bl.refl _ | with_reducible assumption | with_reducible refine Bl.drew_ ?_ | with_reducible refine Bl.drewN_ ?_ _ | with_reducible refine Bl.alloc_ ?_ _ | with_reducible refine Bl.trans_ ?_ (by assumption) | with_reducible refine Bl.trans_ ?_ (And.left (by assumption)))))
        generalize w' = wz at *
        go_wp2
        go_roundw
        case rel => exact ⟨k + 1, by omega, by omega, by go_num, B1, by rw [ordI_succ, OR.out, ← HM.out, HT.out]; simp⟩
        case measure => simp [intOf]; omega
    · go_wp2
      go_ret
      refine ⟨ret_bool ?_, hbl⟩
      rcases Nat.lt_or_ge n k with h | h
      · have hn1 : n = 0 := by omega
        subst hn1
        rfl
      · obtain rfl : k = n := by omega
        exact OR.out.symm

set_option maxHeartbeats 1000000 in
theorem implHeapOk_any (A : Option Addr) (n c : Nat) (L : List It) (hn : n = L.length) (w : World) (hm : n ≤ 1048576) (hwf : WfI L) (H1 : ItemsAt w w.heap.size A L) :
    Calls Try.prog 107 #[.slice A n c] w fun e w' => e = .returned (.bool (heapI L)) ∧ Bl w w' := by
  have K1 := Lib.hid H1
  have HN := Lib.hid hn
  have HW := Lib.hid hwf
  clear H1 hn hwf
  by_cases h100 : 100 < n
  · have g0 : (100 : Int) < (n : Int) := by omega
    go_enter Try.func107, Try.ntmps107
    go_wp2
    go_ret
    exact ⟨ret_bool (heapI_len_no (by have := HN.out; omega)).symm, Bl.refl _⟩
  · have g0 : decide ((100 : Int) < (n : Int)) = false := by simp; omega
    cases hid : idsI L n with
    | false =>
      have ID := Lib.hid hid
      clear hid
      go_enter Try.func107, Try.ntmps107
      go_wp2_with fail
      refine (unlikeIds_any A n c L HN.out _ hm HW.out (K1.out.bl (Bl.refl _))).mono ?_
      rintro e w1 ⟨rfl, hb1⟩
      rw [ID.out]
      go_wp2
      go_ret
      exact ⟨ret_bool (heapI_ids_no (by rw [← HN.out]; exact ID.out)).symm, hb1⟩
    | true =>
      have ID := Lib.hid hid
      clear hid
      go_enter Try.func107, Try.ntmps107
      go_wp2_with fail
      refine (unlikeIds_any A n c L HN.out _ hm HW.out (K1.out.bl (Bl.refl _))).mono ?_
      rintro e w1 ⟨rfl, hb1⟩
      rw [ID.out]
      go_wp2_with fail
      refine (isHeap_any _ A n c L HN.out _ hm (K1.out.bl (by repeat' (first | exact Bl.refl _ | with_reducible assumption | with_reducible refine Bl.drew_ ?_ | with_reducible refine Bl.drewN_ ?_ _ | with_reducible refine Bl.alloc_ ?_ _ | with_reducible refine Bl.trans_ ?_ (by assumption) | with_reducible refine Bl.trans_ ?_ (And.left (by assumption))))) ?_).mono ?_
      · exact ⟨by simp [go_sem], by simp [go_sem], by simp [go_sem]⟩
      · rintro e w2 ⟨rfl, hb2⟩
        go_wp2
        go_ret
        exact ⟨ret_bool (by rw [heapI_of (by have := HN.out; omega) (by rw [← HN.out]; exact ID.out), ← HN.out]), (by repeat' (first | exact Bl.refl _ | with_reducible assumption | with_reducible refine Bl.drew_ ?_ | with_reducible refine Bl.drewN_ ?_ _ | with_reducible refine Bl.alloc_ ?_ _ | with_reducible refine Bl.trans_ ?_ (by assumption) | with_reducible refine Bl.trans_ ?_ (And.left (by assumption))))⟩

end Go.Proofs.Ytffjpfanmnkmgaa

set_option linter.unusedSimpArgs false
set_option linter.unusedVariables false
namespace Go.Proofs.Ytffjpfanmnkmgaa
open Go.RowKit

set_option maxHeartbeats 1000000 in
theorem placeOfId_any (A : Option Addr) (n c : Nat) (L : List It) (id : Int) (hn : n = L.length) (w : World) (hm : n ≤ 1048576) (H1 : ItemsAt w w.heap.size A L) :
    Calls Try.prog 108 #[.slice A n c, .int .i64 id] w fun e w' => e = .returned (.int .i64 (placeI L id)) ∧ Bl w w' := by
  have K1 := Lib.hid H1
  have HN := Lib.hid hn
  clear H1 hn
  go_enter Try.func108, Try.ntmps108
  go_wp2
  go_loopw [9] (fun i wr => ∃ k : Nat, k ≤ n ∧ i = .int .i64 k ∧ Bl w wr ∧ ∀ j (hj : j < L.length), j < k → (L[j].2 == id) = false) (fun i _ => n - (intOf i).toNat)
  case atStart => exact ⟨0, by omega, rfl, Bl.refl _, fun j _ h => absurd h (by omega)⟩
  case round =>
    obtain ⟨k, hk, rfl, hbl, hno⟩ := hrel
    have NO := Lib.hid hno
    clear hno
    by_cases hlt : k < n
    · have hkl : k < L.length := by have := HN.out; omega
      obtain ⟨g1, o1, rfl, hg1, hc1⟩ := K1.out.cell (by omega)
      obtain ⟨p1, p2⟩ := hc1 k hkl
      rw [← (bcell hbl).1 _ _ hg1] at p1 p2
      clear hc1
      generalize hx : L[k].1 = x at p1
      generalize hy : L[k].2 = y at p2
      have HY := Lib.hid hy
      clear hx hy
      by_cases hyi : (y == id) = true
      · go_wp2
        go_ret
        exact ⟨ret_int (placeI_at hkl (by rw [HY.out]; exact hyi) (fun j hj => NO.out j (by omega) hj)).symm, hbl.alloc_ _⟩
      · have hyi' : (y == id) = false := by simpa using hyi
        clear hyi
        go_wp2
        go_roundw
        case rel =>
          refine ⟨k + 1, by omega, by go_num, hbl.alloc_ _, fun j hj hjk => ?_⟩
          rcases Nat.lt_or_ge j k with h | h
          · exact NO.out j hj h
          · obtain rfl : j = k := by omega
            rw [HY.out]
            exact hyi'
        case measure => simp [intOf]; omega
    · go_wp2
      go_ret
      exact ⟨ret_int (placeI_none (fun j hj => NO.out j hj (by have := HN.out; omega))).symm, hbl⟩

-- (l2At_any left out)

theorem one2 (L : List It) : ∀ u ∈ cs2 L, u.oneCell' = true := by
  induction L with
  | nil => intro u hu; simp [cs2] at hu
  | cons a l ih =>
    intro u hu
    simp only [cs2, List.mem_cons] at hu
    rcases hu with rfl | rfl | hu
    · rfl
    · rfl
    · exact ih u hu
theorem ItemsAt.reads {w : World} {B n : Nat} {A : Option Addr} {L : List It} (h : ItemsAt w B A L) (hn : n = L.length) : Reads w B 2 A n (cs2 L) :=
  reads_of_cells h (by rw [cs2_length, hn]) (by decide)
theorem new2 (w : World) (x y : Value) (t : TypeId) : ∀ j u, [x, y][j]? = some u → (w.alloc (.cells #[x, y] t)).cell? ((⟨w.heap.size, 0, none⟩ : Addr).add j) = some u := by
  intro j u hj
  match j, hj with
  | 0, hj => simp at hj; subst hj; simp [Addr.add, go_sem]
  | 1, hj => simp at hj; subst hj; simp [Addr.add, go_sem]
  | (j + 2), hj => simp at hj

/-- A heap of one's own: its box, and its list. -/
def HeapIn (w : World) (B hb : Nat) (v : Value) (L : List It) : Prop := HBox w hb v ∧ OwnI w B v L ∧ B ≤ hb ∧ v.ownBlock ≠ some hb
/-- What a copy leaves. -/
def CopyPost (L : List It) (w : World) (e : Ending) (w' : World) : Prop := ∃ hb v, e = .returned (.pointer (some ⟨hb, 0, none⟩)) ∧ HeapIn w' w.heap.size hb v L ∧ Bl w w'

set_option maxHeartbeats 1000000 in
theorem copied_any (A : Option Addr) (n c : Nat) (L : List It) (hn : n = L.length) (w : World) (hm : n ≤ 1048576) (H1 : ItemsAt w w.heap.size A L) :
    Calls Try.prog 109 #[.slice A n c] w (CopyPost L w) := by
  obtain ⟨i0, hi, hz0, hz1, hz2⟩ := info_parts infoItem
  have I0 := Lib.hid hi
  have I1 := Lib.hid hz0
  have I2 := Lib.hid hz1
  have I3 := Lib.hid hz2
  have K1 := Lib.hid (H1.reads hn)
  have HN := Lib.hid hn
  clear H1 hn hi hz0 hz1 hz2
  go_enter Try.func109, Try.ntmps109
  go_wp2_with (at_builtin; refine wpList_append_any _ rfl _ _ _ rfl w.heap.size 82 i0 _ 2 16 Try.underlying78 I0.out I1.out I2.out I3.out rfl (by decide) (.slice none 0 0) 0 [] rfl (World.ownsRow_nil _ _ _ _) w.heap.size A n c (cs2 L) rfl K1.out (one2 L) ?c3 ?c4 (Nat.le_refl _) ?_)
  case c3 => unfold maxLen; omega
  case c4 => omega
  intro v w1 hown hgr hblk
  try simp only [Nat.zero_add, List.nil_append] at hown
  have O := Lib.hid (show OwnI w1 w.heap.size v L from by unfold OwnI Owns; rw [← HN.out]; exact hown)
  have B1 : Bl w w1 := (Bl.refl w).grown_ hgr (fun g hg => by cases hg)
  have LT := Lib.hid (Owns.lt O.out)
  clear hown hgr hblk
  have hs := B1.size
  obtain ⟨A', c', rfl, -⟩ := Owns.shape O.out
  go_wp2
  go_ret
  exact ⟨_, _, rfl, ⟨⟨by simp [go_sem], by simp [go_sem], by simp [go_sem]⟩, Owns.bl O.out ((Bl.refl _).alloc_ _), by omega, fun h => by have := (LT.out _ h).2; omega⟩, B1.alloc_ _⟩

end Go.Proofs.Ytffjpfanmnkmgaa

set_option linter.unusedSimpArgs false
set_option linter.unusedVariables false
namespace Go.Proofs.Ytffjpfanmnkmgaa
open Go.RowKit

set_option maxRecDepth 100000 in
set_option maxHeartbeats 4000000 in
theorem sink_any (hb g n c k : Nat) (L : List It) (w : World) (hm : n ≤ 1048576) (hR : RowI w g n c L) (hH : HBox w hb (.slice (some ⟨g, 0, none⟩) n c)) (hne : hb ≠ g) (hk : k ≤ n) :
    Calls Try.prog 141 #[.pointer (some ⟨hb, 0, none⟩), .int .i64 (k : Int)] w (RowTo g n c (downI L k) w) := by
  have R := Lib.hid hR
  have H := Lib.hid hH
  have hbl := hH.lt
  clear hR hH
  go_enter Try.func141, Try.ntmps141
  go_wp2
  go_loopw [1] (fun p wr => ∃ (k' : Nat) (L' : List It), p = .int .i64 (k' : Int) ∧ k' ≤ n ∧ RowI wr g n c L' ∧ w.grownBy wr (some g) ∧ downI L' k' = downI L k) (fun p _ => n - (intOf p).toNat)
  case atStart => exact ⟨k, L, rfl, hk, R.out, World.grownBy.refl w _, rfl⟩
  case round =>
    obtain ⟨wo, rfl⟩ : ∃ wo : World, wo = wr := ⟨_, rfl⟩
    obtain ⟨k', L', rfl, hk', hR', hG, hE⟩ := hrel
    have R' := Lib.hid hR'
    have G := Lib.hid hG
    have E := Lib.hid hE
    have HB := Lib.hid (H.out.grown_ hG (by simp; exact hne))
    obtain ⟨hfz, hg, hc⟩ := hR'.cells
    have hn := Lib.hid hR'.2
    have HC := Lib.hid hc
    have hbs : hb < wo.heap.size := Nat.lt_of_lt_of_le hbl hG.size
    clear hR' hG hE hfz hc
    go_wp2_with fail
    go_loopw [4, 5] (fun x y wr => ∃ (i b q : Nat), x = .int .i64 (b : Int) ∧ y = .int .i64 (q : Int) ∧ i ≤ 2 ∧ Hid (q = 2 * k' + 1 + i) ∧ Hid (b = bestI L' k' i) ∧ Bl wo wr) (fun _ y _ => 2 * k' + 3 - (intOf y).toNat)
    case atStart => exact ⟨0, k', 2 * k' + 1, rfl, by go_num, by omega, rfl, rfl, Bl.refl _⟩
    case round =>
      obtain ⟨i, b, q, rfl, rfl, hi2, hq, hb2, hB⟩ := hrel
      have hbn : b < n ∨ b = k' := by
        rcases Nat.lt_or_ge k' n with h | h
        · left; rw [hb2.out, hn.out]; exact bestI_lt (by have := hn.out; omega) i
        · right
          have h3 := pickI_out (L := L') (p := k') (i := i) hi2 (.inr (by have := hn.out; omega))
          rw [hb2.out, ← h3, pickI_none (by have := hn.out; omega)]
      by_cases hi : i < 2
      · by_cases hqn : q < n
        · have q1 : (q : Int) ≤ 2 * (k' : Int) + 2 := by have := hq.out; omega
          have q2 : (q : Int) < (n : Int) := by omega
          have hkq : k' < q := by have := hq.out; omega
          have hbn' : b < n := by omega
          have b0 : (b : Int) < (n : Int) := by omega
          obtain ⟨h0, h1, h2⟩ := HB.out
          obtain ⟨a1, a2⟩ := HC.out q (by have := hn.out; omega)
          obtain ⟨b1, b2⟩ := HC.out b (by have := hn.out; omega)
          have hL : lessI (atI L' q) (atI L' b) = lessI ((atI L' q).1, (atI L' q).2) ((atI L' b).1, (atI L' b).2) := rfl
          generalize (atI L' q).1 = x at a1 hL
          generalize (atI L' q).2 = y at a2 hL
          generalize (atI L' b).1 = x' at b1 hL
          generalize (atI L' b).2 = y' at b2 hL
          have HL := Lib.hid hL
          clear hL
          have HSH := Lib.hid (show ∀ wx, Bl wo wx → Bl wo wx ∧ wx.cell? ⟨hb, 0, none⟩ = some (.slice (some ⟨g, 0, none⟩) n c) ∧ wx.cell? ⟨hb, 1, none⟩ = some (.func (.func 139) #[] #[]) ∧ wx.cell? ⟨g, q * 2, none⟩ = some (.int .i64 x) ∧ wx.cell? ⟨g, q * 2 + 1, none⟩ = some (.int .i64 y) ∧ wx.cell? ⟨g, b * 2, none⟩ = some (.int .i64 x') ∧ wx.cell? ⟨g, b * 2 + 1, none⟩ = some (.int .i64 y') from fun wx hb' => by
            have q := (bcell hb').1
            exact ⟨hb', (q _ _ hbs).trans h0, (q _ _ hbs).trans h1, (q _ _ hg).trans a1, (q _ _ hg).trans a2, (q _ _ hg).trans b1, (q _ _ hg).trans b2⟩)
          clear h0 h1 h2 a1 a2 b1 b2 hbn
          obtain ⟨-, p0, p1, -⟩ := HSH.out wr hB
          cases hb3 : lessI (x, y) (x', y') with
          | true =>
            have HT := Lib.hid (HL.out.trans hb3)
            have HL := Lib.hid hb3
            clear hb3
            go_wp2_with fail
            refine wp_region_held_drew (S := fun wx => Bl wo wx ∧ wx.cell? ⟨hb, 0, none⟩ = some (.slice (some ⟨g, 0, none⟩) n c) ∧ wx.cell? ⟨hb, 1, none⟩ = some (.func (.func 139) #[] #[]) ∧ wx.cell? ⟨g, q * 2, none⟩ = some (.int .i64 x) ∧ wx.cell? ⟨g, q * 2 + 1, none⟩ = some (.int .i64 y) ∧ wx.cell? ⟨g, b * 2, none⟩ = some (.int .i64 x') ∧ wx.cell? ⟨g, b * 2 + 1, none⟩ = some (.int .i64 y')) (by kernel_rfl) ?_ (fun hHeld => ?_)
            · (exact HSH.out _ (hB.trans_ (show Bl wr _ from (by repeat' (first | exact Bl.refl _ | with_reducible assumption | with_reducible refine Bl.drew_ ?_ | with_reducible refine Bl.drewN_ ?_ _ | with_reducible refine Bl.alloc_ ?_ _ | with_reducible refine Bl.trans_ ?_ (by assumption) | with_reducible refine Bl.trans_ ?_ (And.left (by assumption)))))))
            refine wpAnyH_take (i := 0) (v := ?_) rfl (by kernel_rfl) (by kernel_rfl) (by kernel_rfl) (fun _ _ _ h => h) (Or.inl ⟨by kernel_rfl, ?_⟩) (by assumption) ?_
            rotate_left
            · (intro wx hSw; (try dsimp only at hSw); go_simp; try (with_reducible rfl))
            try simp only [Act.put, List.getElem_toArray, List.getElem_cons_succ, List.getElem_cons_zero, List.setIfInBounds_toArray, List.set_cons_zero, List.set_cons_succ]
            refine wpAnyH_take (i := 1) (v := ?_) rfl (by kernel_rfl) (by kernel_rfl) (by kernel_rfl) (fun _ _ _ h => h) (Or.inl ⟨by kernel_rfl, ?_⟩) (by assumption) ?_
            rotate_left
            · (intro wx hSw; (try dsimp only at hSw); go_simp; try (with_reducible rfl))
            try simp only [Act.put, List.getElem_toArray, List.getElem_cons_succ, List.getElem_cons_zero, List.setIfInBounds_toArray, List.set_cons_zero, List.set_cons_succ]
            refine wpAnyH_take (i := 2) (v := ?_) rfl (by kernel_rfl) (by kernel_rfl) (by kernel_rfl) (fun _ _ _ h => h) (Or.inl ⟨by kernel_rfl, ?_⟩) (by assumption) ?_
            rotate_left
            · (intro wx hSw; (try dsimp only at hSw); go_simp; try (with_reducible rfl))
            try simp only [Act.put, List.getElem_toArray, List.getElem_cons_succ, List.getElem_cons_zero, List.setIfInBounds_toArray, List.set_cons_zero, List.set_cons_succ]
            refine wpAnyH_take (i := 3) (v := ?_) rfl (by kernel_rfl) (by kernel_rfl) (by kernel_rfl) (fun _ _ _ h => h) (Or.inl ⟨by kernel_rfl, ?_⟩) (by assumption) ?_
            rotate_left
            · (intro wx hSw; (try dsimp only at hSw); go_simp; try (with_reducible rfl))
            try simp only [Act.put, List.getElem_toArray, List.getElem_cons_succ, List.getElem_cons_zero, List.setIfInBounds_toArray, List.set_cons_zero, List.set_cons_succ]
            refine wpAnyH_take (i := 4) (v := ?_) rfl (by kernel_rfl) (by kernel_rfl) (by kernel_rfl) (fun _ _ _ h => h) (Or.inl ⟨by kernel_rfl, ?_⟩) (by assumption) ?_
            rotate_left
            · (intro wx hSw; (try dsimp only at hSw); go_simp; try (with_reducible rfl))
            try simp only [Act.put, List.getElem_toArray, List.getElem_cons_succ, List.getElem_cons_zero, List.setIfInBounds_toArray, List.set_cons_zero, List.set_cons_succ]
            refine wpAnyH_take (i := 5) (v := ?_) rfl (by kernel_rfl) (by kernel_rfl) (by kernel_rfl) (fun _ _ _ h => h) (Or.inl ⟨by kernel_rfl, ?_⟩) (by assumption) ?_
            rotate_left
            · (intro wx hSw; (try dsimp only at hSw); go_simp; try (with_reducible rfl))
            try simp only [Act.put, List.getElem_toArray, List.getElem_cons_succ, List.getElem_cons_zero, List.setIfInBounds_toArray, List.set_cons_zero, List.set_cons_succ]
            refine wpAnyH_take (i := 6) (v := ?_) rfl (by kernel_rfl) (by kernel_rfl) (by kernel_rfl) (fun _ _ _ h => h) (Or.inl ⟨by kernel_rfl, ?_⟩) (by assumption) ?_
            rotate_left
            · (intro wx hSw; (try dsimp only at hSw); go_simp; try (with_reducible rfl))
            try simp only [Act.put, List.getElem_toArray, List.getElem_cons_succ, List.getElem_cons_zero, List.setIfInBounds_toArray, List.set_cons_zero, List.set_cons_succ]
            refine wpAnyH_take (i := 7) (v := ?_) rfl (by kernel_rfl) (by kernel_rfl) (by kernel_rfl) (fun _ _ _ h => h) (Or.inl ⟨by kernel_rfl, ?_⟩) (by assumption) ?_
            rotate_left
            · (intro wx hSw; (try dsimp only at hSw); go_simp; try (with_reducible rfl))
            try simp only [Act.put, List.getElem_toArray, List.getElem_cons_succ, List.getElem_cons_zero, List.setIfInBounds_toArray, List.set_cons_zero, List.set_cons_succ]
            refine wpAnyH_take (i := 8) (v := ?_) rfl (by kernel_rfl) (by kernel_rfl) (by kernel_rfl) (fun _ _ _ h => h) (Or.inl ⟨by kernel_rfl, ?_⟩) (by assumption) ?_
            rotate_left
            · (intro wx hSw; (try dsimp only at hSw); go_simp; try (with_reducible rfl))
            try simp only [Act.put, List.getElem_toArray, List.getElem_cons_succ, List.getElem_cons_zero, List.setIfInBounds_toArray, List.set_cons_zero, List.set_cons_succ]
            refine wpAnyH_take (i := 9) (v := ?_) rfl (by kernel_rfl) (by kernel_rfl) (by kernel_rfl) (fun _ _ _ h => h) (Or.inl ⟨by kernel_rfl, ?_⟩) (by assumption) ?_
            rotate_left
            · (intro wx hSw; (try dsimp only at hSw); go_simp; try (with_reducible rfl))
            try simp only [Act.put, List.getElem_toArray, List.getElem_cons_succ, List.getElem_cons_zero, List.setIfInBounds_toArray, List.set_cons_zero, List.set_cons_succ]
            refine wpAnyH_take (i := 10) (v := ?_) rfl (by kernel_rfl) (by kernel_rfl) (by kernel_rfl) (fun _ _ _ h => h) (Or.inl ⟨by kernel_rfl, ?_⟩) (by assumption) ?_
            rotate_left
            · (intro wx hSw; (try dsimp only at hSw); go_simp; try (with_reducible rfl))
            try simp only [Act.put, List.getElem_toArray, List.getElem_cons_succ, List.getElem_cons_zero, List.setIfInBounds_toArray, List.set_cons_zero, List.set_cons_succ]
            refine wpAnyH_take (i := 11) (v := ?_) rfl (by kernel_rfl) (by kernel_rfl) (by kernel_rfl) (fun _ _ _ h => h) (Or.inl ⟨by kernel_rfl, ?_⟩) (by assumption) ?_
            rotate_left
            · (intro wx hSw; (try dsimp only at hSw); go_simp; try (with_reducible rfl))
            try simp only [Act.put, List.getElem_toArray, List.getElem_cons_succ, List.getElem_cons_zero, List.setIfInBounds_toArray, List.set_cons_zero, List.set_cons_succ]
            refine wpAnyH_take (i := 12) (v := ?_) rfl (by kernel_rfl) (by kernel_rfl) (by kernel_rfl) (fun _ _ _ h => h) (Or.inl ⟨by kernel_rfl, ?_⟩) (by assumption) ?_
            rotate_left
            · (intro wx hSw; (try dsimp only at hSw); go_simp; try (with_reducible rfl))
            try simp only [Act.put, List.getElem_toArray, List.getElem_cons_succ, List.getElem_cons_zero, List.setIfInBounds_toArray, List.set_cons_zero, List.set_cons_succ]
            refine wpAnyH_take (i := 13) (v := ?_) rfl (by kernel_rfl) (by kernel_rfl) (by kernel_rfl) (fun _ _ _ h => h) (Or.inl ⟨by kernel_rfl, ?_⟩) (by assumption) ?_
            rotate_left
            · (intro wx hSw; (try dsimp only at hSw); go_simp; try (with_reducible rfl))
            try simp only [Act.put, List.getElem_toArray, List.getElem_cons_succ, List.getElem_cons_zero, List.setIfInBounds_toArray, List.set_cons_zero, List.set_cons_succ]
            refine wpAnyH_take (i := 14) (v := ?_) rfl (by kernel_rfl) (by kernel_rfl) (by kernel_rfl) (fun _ _ _ h => h) (Or.inl ⟨by kernel_rfl, ?_⟩) (by assumption) ?_
            rotate_left
            · (intro wx hSw; (try dsimp only at hSw); go_simp; try (with_reducible rfl))
            try simp only [Act.put, List.getElem_toArray, List.getElem_cons_succ, List.getElem_cons_zero, List.setIfInBounds_toArray, List.set_cons_zero, List.set_cons_succ]
            refine wpAnyH_take (i := 15) (v := ?_) rfl (by kernel_rfl) (by kernel_rfl) (by kernel_rfl) (fun _ _ _ h => h) (Or.inl ⟨by kernel_rfl, ?_⟩) (by assumption) ?_
            rotate_left
            · (intro wx hSw; (try dsimp only at hSw); go_simp; try (with_reducible rfl))
            try simp only [Act.put, List.getElem_toArray, List.getElem_cons_succ, List.getElem_cons_zero, List.setIfInBounds_toArray, List.set_cons_zero, List.set_cons_succ]
            refine wpAnyH_take (i := 16) (v := ?_) rfl (by kernel_rfl) (by kernel_rfl) (by kernel_rfl) (fun _ _ _ h => h) (Or.inl ⟨by kernel_rfl, ?_⟩) (by assumption) ?_
            rotate_left
            · (intro wx hSw; (try dsimp only at hSw); go_simp; try (with_reducible rfl))
            try simp only [Act.put, List.getElem_toArray, List.getElem_cons_succ, List.getElem_cons_zero, List.setIfInBounds_toArray, List.set_cons_zero, List.set_cons_succ]
            refine wpAnyH_take (i := 17) (v := ?_) rfl (by kernel_rfl) (by kernel_rfl) (by kernel_rfl) (fun _ _ _ h => h) (Or.inl ⟨by kernel_rfl, ?_⟩) (by assumption) ?_
            rotate_left
            · (intro wx hSw; (try dsimp only at hSw); go_simp; try (with_reducible rfl))
            try simp only [Act.put, List.getElem_toArray, List.getElem_cons_succ, List.getElem_cons_zero, List.setIfInBounds_toArray, List.set_cons_zero, List.set_cons_succ]
            refine wpAnyH_ready (rs := [18]) (by kernel_rfl) (by simp) ?_
            refine AllReadyH.cons rfl (fun K hK => ?_) AllReadyH.nil
            go_simp
            (go_at_call 139; refine (itemLess_at _ _ _ _ _ _ HL.out).mono ?_; rintro e w' ⟨rfl, hb'⟩; obtain ⟨hc', hf'⟩ := bcell hb')
            try (go_wp2_with fail)
            refine hK.out _ _ ?_ (fun hHeld => ?_)
            · (exact HSH.out _ (hB.trans_ (show Bl wr _ from (by repeat' (first | exact Bl.refl _ | with_reducible assumption | with_reducible refine Bl.drew_ ?_ | with_reducible refine Bl.drewN_ ?_ _ | with_reducible refine Bl.alloc_ ?_ _ | with_reducible refine Bl.trans_ ?_ (by assumption) | with_reducible refine Bl.trans_ ?_ (And.left (by assumption)))))))
            clear hK K
            try simp only [Act.put, List.getElem_toArray, List.getElem_cons_succ, List.getElem_cons_zero, List.setIfInBounds_toArray, List.set_cons_zero, List.set_cons_succ]
            refine wpAnyH_done (by kernel_rfl) ?_ _
            clear hHeld
            have B1 : Bl wo w' := hB.trans_ (show Bl wr w' from (by repeat' (first | exact Bl.refl _ | with_reducible assumption | with_reducible refine Bl.drew_ ?_ | with_reducible refine Bl.drewN_ ?_ _ | with_reducible refine Bl.alloc_ ?_ _ | with_reducible refine Bl.trans_ ?_ (by assumption) | with_reducible refine Bl.trans_ ?_ (And.left (by assumption)))))
            generalize w' = wz at *
            go_wp2
            go_roundw
            case rel => exact ⟨i + 1, q, q + 1, rfl, by go_num, by omega, show q + 1 = _ from by have := hq.out; omega, show q = _ from by rw [bestI_yes (by have := hn.out; have := hq.out; omega) (by rw [← hq.out, ← hb2.out]; exact HT.out)]; exact hq.out, B1⟩
            case measure => simp [intOf]; omega
          | false =>
            have HT := Lib.hid (HL.out.trans hb3)
            have HL := Lib.hid hb3
            clear hb3
            go_wp2_with fail
            refine wp_region_held_drew (S := fun wx => Bl wo wx ∧ wx.cell? ⟨hb, 0, none⟩ = some (.slice (some ⟨g, 0, none⟩) n c) ∧ wx.cell? ⟨hb, 1, none⟩ = some (.func (.func 139) #[] #[]) ∧ wx.cell? ⟨g, q * 2, none⟩ = some (.int .i64 x) ∧ wx.cell? ⟨g, q * 2 + 1, none⟩ = some (.int .i64 y) ∧ wx.cell? ⟨g, b * 2, none⟩ = some (.int .i64 x') ∧ wx.cell? ⟨g, b * 2 + 1, none⟩ = some (.int .i64 y')) (by kernel_rfl) ?_ (fun hHeld => ?_)
            · (exact HSH.out _ (hB.trans_ (show Bl wr _ from (by repeat' (first | exact Bl.refl _ | with_reducible assumption | with_reducible refine Bl.drew_ ?_ | with_reducible refine Bl.drewN_ ?_ _ | with_reducible refine Bl.alloc_ ?_ _ | with_reducible refine Bl.trans_ ?_ (by assumption) | with_reducible refine Bl.trans_ ?_ (And.left (by assumption)))))))
            refine wpAnyH_take (i := 0) (v := ?_) rfl (by kernel_rfl) (by kernel_rfl) (by kernel_rfl) (fun _ _ _ h => h) (Or.inl ⟨by kernel_rfl, ?_⟩) (by assumption) ?_
            rotate_left
            · (intro wx hSw; (try dsimp only at hSw); go_simp; try (with_reducible rfl))
            try simp only [Act.put, List.getElem_toArray, List.getElem_cons_succ, List.getElem_cons_zero, List.setIfInBounds_toArray, List.set_cons_zero, List.set_cons_succ]
            refine wpAnyH_take (i := 1) (v := ?_) rfl (by kernel_rfl) (by kernel_rfl) (by kernel_rfl) (fun _ _ _ h => h) (Or.inl ⟨by kernel_rfl, ?_⟩) (by assumption) ?_
            rotate_left
            · (intro wx hSw; (try dsimp only at hSw); go_simp; try (with_reducible rfl))
            try simp only [Act.put, List.getElem_toArray, List.getElem_cons_succ, List.getElem_cons_zero, List.setIfInBounds_toArray, List.set_cons_zero, List.set_cons_succ]
            refine wpAnyH_take (i := 2) (v := ?_) rfl (by kernel_rfl) (by kernel_rfl) (by kernel_rfl) (fun _ _ _ h => h) (Or.inl ⟨by kernel_rfl, ?_⟩) (by assumption) ?_
            rotate_left
            · (intro wx hSw; (try dsimp only at hSw); go_simp; try (with_reducible rfl))
            try simp only [Act.put, List.getElem_toArray, List.getElem_cons_succ, List.getElem_cons_zero, List.setIfInBounds_toArray, List.set_cons_zero, List.set_cons_succ]
            refine wpAnyH_take (i := 3) (v := ?_) rfl (by kernel_rfl) (by kernel_rfl) (by kernel_rfl) (fun _ _ _ h => h) (Or.inl ⟨by kernel_rfl, ?_⟩) (by assumption) ?_
            rotate_left
            · (intro wx hSw; (try dsimp only at hSw); go_simp; try (with_reducible rfl))
            try simp only [Act.put, List.getElem_toArray, List.getElem_cons_succ, List.getElem_cons_zero, List.setIfInBounds_toArray, List.set_cons_zero, List.set_cons_succ]
            refine wpAnyH_take (i := 4) (v := ?_) rfl (by kernel_rfl) (by kernel_rfl) (by kernel_rfl) (fun _ _ _ h => h) (Or.inl ⟨by kernel_rfl, ?_⟩) (by assumption) ?_
            rotate_left
            · (intro wx hSw; (try dsimp only at hSw); go_simp; try (with_reducible rfl))
            try simp only [Act.put, List.getElem_toArray, List.getElem_cons_succ, List.getElem_cons_zero, List.setIfInBounds_toArray, List.set_cons_zero, List.set_cons_succ]
            refine wpAnyH_take (i := 5) (v := ?_) rfl (by kernel_rfl) (by kernel_rfl) (by kernel_rfl) (fun _ _ _ h => h) (Or.inl ⟨by kernel_rfl, ?_⟩) (by assumption) ?_
            rotate_left
            · (intro wx hSw; (try dsimp only at hSw); go_simp; try (with_reducible rfl))
            try simp only [Act.put, List.getElem_toArray, List.getElem_cons_succ, List.getElem_cons_zero, List.setIfInBounds_toArray, List.set_cons_zero, List.set_cons_succ]
            refine wpAnyH_take (i := 6) (v := ?_) rfl (by kernel_rfl) (by kernel_rfl) (by kernel_rfl) (fun _ _ _ h => h) (Or.inl ⟨by kernel_rfl, ?_⟩) (by assumption) ?_
            rotate_left
            · (intro wx hSw; (try dsimp only at hSw); go_simp; try (with_reducible rfl))
            try simp only [Act.put, List.getElem_toArray, List.getElem_cons_succ, List.getElem_cons_zero, List.setIfInBounds_toArray, List.set_cons_zero, List.set_cons_succ]
            refine wpAnyH_take (i := 7) (v := ?_) rfl (by kernel_rfl) (by kernel_rfl) (by kernel_rfl) (fun _ _ _ h => h) (Or.inl ⟨by kernel_rfl, ?_⟩) (by assumption) ?_
            rotate_left
            · (intro wx hSw; (try dsimp only at hSw); go_simp; try (with_reducible rfl))
            try simp only [Act.put, List.getElem_toArray, List.getElem_cons_succ, List.getElem_cons_zero, List.setIfInBounds_toArray, List.set_cons_zero, List.set_cons_succ]
            refine wpAnyH_take (i := 8) (v := ?_) rfl (by kernel_rfl) (by kernel_rfl) (by kernel_rfl) (fun _ _ _ h => h) (Or.inl ⟨by kernel_rfl, ?_⟩) (by assumption) ?_
            rotate_left
            · (intro wx hSw; (try dsimp only at hSw); go_simp; try (with_reducible rfl))
            try simp only [Act.put, List.getElem_toArray, List.getElem_cons_succ, List.getElem_cons_zero, List.setIfInBounds_toArray, List.set_cons_zero, List.set_cons_succ]
            refine wpAnyH_take (i := 9) (v := ?_) rfl (by kernel_rfl) (by kernel_rfl) (by kernel_rfl) (fun _ _ _ h => h) (Or.inl ⟨by kernel_rfl, ?_⟩) (by assumption) ?_
            rotate_left
            · (intro wx hSw; (try dsimp only at hSw); go_simp; try (with_reducible rfl))
            try simp only [Act.put, List.getElem_toArray, List.getElem_cons_succ, List.getElem_cons_zero, List.setIfInBounds_toArray, List.set_cons_zero, List.set_cons_succ]
            refine wpAnyH_take (i := 10) (v := ?_) rfl (by kernel_rfl) (by kernel_rfl) (by kernel_rfl) (fun _ _ _ h => h) (Or.inl ⟨by kernel_rfl, ?_⟩) (by assumption) ?_
            rotate_left
            · (intro wx hSw; (try dsimp only at hSw); go_simp; try (with_reducible rfl))
            try simp only [Act.put, List.getElem_toArray, List.getElem_cons_succ, List.getElem_cons_zero, List.setIfInBounds_toArray, List.set_cons_zero, List.set_cons_succ]
            refine wpAnyH_take (i := 11) (v := ?_) rfl (by kernel_rfl) (by kernel_rfl) (by kernel_rfl) (fun _ _ _ h => h) (Or.inl ⟨by kernel_rfl, ?_⟩) (by assumption) ?_
            rotate_left
            · (intro wx hSw; (try dsimp only at hSw); go_simp; try (with_reducible rfl))
            try simp only [Act.put, List.getElem_toArray, List.getElem_cons_succ, List.getElem_cons_zero, List.setIfInBounds_toArray, List.set_cons_zero, List.set_cons_succ]
            refine wpAnyH_take (i := 12) (v := ?_) rfl (by kernel_rfl) (by kernel_rfl) (by kernel_rfl) (fun _ _ _ h => h) (Or.inl ⟨by kernel_rfl, ?_⟩) (by assumption) ?_
            rotate_left
            · (intro wx hSw; (try dsimp only at hSw); go_simp; try (with_reducible rfl))
            try simp only [Act.put, List.getElem_toArray, List.getElem_cons_succ, List.getElem_cons_zero, List.setIfInBounds_toArray, List.set_cons_zero, List.set_cons_succ]
            refine wpAnyH_take (i := 13) (v := ?_) rfl (by kernel_rfl) (by kernel_rfl) (by kernel_rfl) (fun _ _ _ h => h) (Or.inl ⟨by kernel_rfl, ?_⟩) (by assumption) ?_
            rotate_left
            · (intro wx hSw; (try dsimp only at hSw); go_simp; try (with_reducible rfl))
            try simp only [Act.put, List.getElem_toArray, List.getElem_cons_succ, List.getElem_cons_zero, List.setIfInBounds_toArray, List.set_cons_zero, List.set_cons_succ]
            refine wpAnyH_take (i := 14) (v := ?_) rfl (by kernel_rfl) (by kernel_rfl) (by kernel_rfl) (fun _ _ _ h => h) (Or.inl ⟨by kernel_rfl, ?_⟩) (by assumption) ?_
            rotate_left
            · (intro wx hSw; (try dsimp only at hSw); go_simp; try (with_reducible rfl))
            try simp only [Act.put, List.getElem_toArray, List.getElem_cons_succ, List.getElem_cons_zero, List.setIfInBounds_toArray, List.set_cons_zero, List.set_cons_succ]
            refine wpAnyH_take (i := 15) (v := ?_) rfl (by kernel_rfl) (by kernel_rfl) (by kernel_rfl) (fun _ _ _ h => h) (Or.inl ⟨by kernel_rfl, ?_⟩) (by assumption) ?_
            rotate_left
            · (intro wx hSw; (try dsimp only at hSw); go_simp; try (with_reducible rfl))
            try simp only [Act.put, List.getElem_toArray, List.getElem_cons_succ, List.getElem_cons_zero, List.setIfInBounds_toArray, List.set_cons_zero, List.set_cons_succ]
            refine wpAnyH_take (i := 16) (v := ?_) rfl (by kernel_rfl) (by kernel_rfl) (by kernel_rfl) (fun _ _ _ h => h) (Or.inl ⟨by kernel_rfl, ?_⟩) (by assumption) ?_
            rotate_left
            · (intro wx hSw; (try dsimp only at hSw); go_simp; try (with_reducible rfl))
            try simp only [Act.put, List.getElem_toArray, List.getElem_cons_succ, List.getElem_cons_zero, List.setIfInBounds_toArray, List.set_cons_zero, List.set_cons_succ]
            refine wpAnyH_take (i := 17) (v := ?_) rfl (by kernel_rfl) (by kernel_rfl) (by kernel_rfl) (fun _ _ _ h => h) (Or.inl ⟨by kernel_rfl, ?_⟩) (by assumption) ?_
            rotate_left
            · (intro wx hSw; (try dsimp only at hSw); go_simp; try (with_reducible rfl))
            try simp only [Act.put, List.getElem_toArray, List.getElem_cons_succ, List.getElem_cons_zero, List.setIfInBounds_toArray, List.set_cons_zero, List.set_cons_succ]
            refine wpAnyH_ready (rs := [18]) (by kernel_rfl) (by simp) ?_
            refine AllReadyH.cons rfl (fun K hK => ?_) AllReadyH.nil
            go_simp
            (go_at_call 139; refine (itemLess_at _ _ _ _ _ _ HL.out).mono ?_; rintro e w' ⟨rfl, hb'⟩; obtain ⟨hc', hf'⟩ := bcell hb')
            try (go_wp2_with fail)
            refine hK.out _ _ ?_ (fun hHeld => ?_)
            · (exact HSH.out _ (hB.trans_ (show Bl wr _ from (by repeat' (first | exact Bl.refl _ | with_reducible assumption | with_reducible refine Bl.drew_ ?_ | with_reducible refine Bl.drewN_ ?_ _ | with_reducible refine Bl.alloc_ ?_ _ | with_reducible refine Bl.trans_ ?_ (by assumption) | with_reducible refine Bl.trans_ ?_ (And.left (by assumption)))))))
            clear hK K
            try simp only [Act.put, List.getElem_toArray, List.getElem_cons_succ, List.getElem_cons_zero, List.setIfInBounds_toArray, List.set_cons_zero, List.set_cons_succ]
            refine wpAnyH_done (by kernel_rfl) ?_ _
            clear hHeld
            have B1 : Bl wo w' := hB.trans_ (show Bl wr w' from (by repeat' (first | exact Bl.refl _ | with_reducible assumption | with_reducible refine Bl.drew_ ?_ | with_reducible refine Bl.drewN_ ?_ _ | with_reducible refine Bl.alloc_ ?_ _ | with_reducible refine Bl.trans_ ?_ (by assumption) | with_reducible refine Bl.trans_ ?_ (And.left (by assumption)))))
            generalize w' = wz at *
            go_wp2
            go_roundw
            case rel => exact ⟨i + 1, b, q + 1, rfl, by go_num, by omega, show q + 1 = _ from by have := hq.out; omega, show b = _ from by rw [bestI_no (by rw [← hq.out, ← hb2.out]; exact HT.out)]; exact hb2.out, B1⟩
            case measure => simp [intOf]; omega
        · have q1 : (q : Int) ≤ 2 * (k' : Int) + 2 := by have := hq.out; omega
          have q2 : decide ((q : Int) < (n : Int)) = false := by simp; omega
          have HP := Lib.hid (show pickI L' k' = b from by rw [pickI_out (L := L') (p := k') (i := i) (by omega) (.inr (by have := hn.out; have := hq.out; omega))]; exact hb2.out.symm)
          have p0 := (HB.out.bl hbs hB).1
          have hbk' := pickI_ge L' k'
          by_cases hbk : b = k'
          · have e0 : ((b : Int) == (k' : Int)) = true := by simp [hbk]
            have HK := Lib.hid hbk
            clear hbk hbn hbk'
            go_wp2
            go_end0
            exact ⟨rfl, by rw [← E.out, downI_stop (by rw [HP.out, HK.out])]; exact R'.out.bl hB, grown_bl G.out hB⟩
          · have e0 : ((b : Int) == (k' : Int)) = false := by simp; omega
            have hbn' : b < n := by omega
            have hbk2 : k' < b := by have := HP.out; omega
            clear hbn hbk'
            go_wp2_with fail
            refine (swap_any hb g n c k' b L' _ hm (R'.out.bl hB) (HB.out.bl hbs hB) (by omega) hbn' (by omega)).mono ?_
            rintro e w2 ⟨rfl, hR2, hG2⟩
            have R2 := Lib.hid hR2
            have G2 := Lib.hid hG2
            clear hR2 hG2 p0
            go_wp2
            go_roundw
            case rel => exact ⟨b, swapI L' k' b, rfl, by omega, R2.out, grown_trans (grown_bl G.out hB) G2.out, by rw [← E.out]; have h := downI_step (L := L') (p := k') (by rw [HP.out]; omega); rw [HP.out] at h; exact h.symm⟩
            case measure => simp [intOf]; omega
      · have q1 : decide ((q : Int) ≤ 2 * (k' : Int) + 2) = false := by have := hq.out; simp; omega
        have HP := Lib.hid (show pickI L' k' = b from by rw [pickI_out (L := L') (p := k') (i := i) (by omega) (.inl (by omega))]; exact hb2.out.symm)
        have p0 := (HB.out.bl hbs hB).1
        have hbk' := pickI_ge L' k'
        by_cases hbk : b = k'
        · have e0 : ((b : Int) == (k' : Int)) = true := by simp [hbk]
          have HK := Lib.hid hbk
          clear hbk hbn hbk'
          go_wp2
          go_end0
          exact ⟨rfl, by rw [← E.out, downI_stop (by rw [HP.out, HK.out])]; exact R'.out.bl hB, grown_bl G.out hB⟩
        · have e0 : ((b : Int) == (k' : Int)) = false := by simp; omega
          have hbn' : b < n := by omega
          have hbk2 : k' < b := by have := HP.out; omega
          clear hbn hbk'
          go_wp2_with fail
          refine (swap_any hb g n c k' b L' _ hm (R'.out.bl hB) (HB.out.bl hbs hB) (by omega) hbn' (by omega)).mono ?_
          rintro e w2 ⟨rfl, hR2, hG2⟩
          have R2 := Lib.hid hR2
          have G2 := Lib.hid hG2
          clear hR2 hG2 p0
          go_wp2
          go_roundw
          case rel => exact ⟨b, swapI L' k' b, rfl, by omega, R2.out, grown_trans (grown_bl G.out hB) G2.out, by rw [← E.out]; have h := downI_step (L := L') (p := k') (by rw [HP.out]; omega); rw [HP.out] at h; exact h.symm⟩
          case measure => simp [intOf]; omega

end Go.Proofs.Ytffjpfanmnkmgaa

set_option linter.unusedSimpArgs false
set_option linter.unusedVariables false
namespace Go.Proofs.Ytffjpfanmnkmgaa
open Go.RowKit

theorem Owns.self_ {t : TypeId} {s : Nat} {w : World} {B g n c : Nat} {vs : List Value} (h : Owns t s w B (.slice (some ⟨g, 0, none⟩) n c) n vs) : Owns t s w g (.slice (some ⟨g, 0, none⟩) n c) n vs := by
  refine ⟨h.1, ?_⟩
  rcases h.2 with ⟨e, h0⟩ | ⟨g', cap, cur, e, hB, r⟩
  · simp at e
  · injection e with e1 e2 e3
    injection e1 with e1
    injection e1 with e1
    exact .inr ⟨g', cap, cur, by rw [e1, e3], by omega, r⟩
theorem Owns.at_base {t : TypeId} {s : Nat} {w : World} {B B' g n c : Nat} {vs : List Value} (h : Owns t s w B (.slice (some ⟨g, 0, none⟩) n c) n vs) (hB : B' ≤ g) : Owns t s w B' (.slice (some ⟨g, 0, none⟩) n c) n vs :=
  Owns.low (Owns.self_ h) hB

/-- What a push leaves. -/
def PushPost (B hb : Nat) (v0 : Value) (L : List It) (w : World) (e : Ending) (w' : World) : Prop :=
  e = .returned (.tuple #[]) ∧ ∃ g c, HeapIn w' B hb (.slice (some ⟨g, 0, none⟩) L.length c) L ∧ Turn (fun k => k = hb ∨ some k = v0.ownBlock) w w' ∧ (v0.ownBlock = some g ∨ w.heap.size ≤ g)

set_option maxRecDepth 100000 in
set_option maxHeartbeats 2000000 in
theorem push_any (B hb : Nat) (v : Value) (L : List It) (a b : Int) (w : World) (hm : L.length + 1 ≤ 1048576) (hH : HeapIn w B hb v L) (hB : B ≤ w.heap.size) :
    Calls Try.prog 110 #[.pointer (some ⟨hb, 0, none⟩), .agg #[.int .i64 a, .int .i64 b]] w (PushPost B hb v (upI (L ++ [(a, b)]) L.length) w) := by
  obtain ⟨i0, hi, hz0, hz1, hz2⟩ := info_parts infoItem
  have I0 := Lib.hid hi
  have I1 := Lib.hid hz0
  have I2 := Lib.hid hz1
  have I3 := Lib.hid hz2
  obtain ⟨hbx, hown, hBb, hnb⟩ := hH
  obtain ⟨A, c, rfl, hcm, -, -, -⟩ := Owns.shape hown
  have O := Lib.hid hown
  have NB := Lib.hid hnb
  have hlt := hbx.lt
  have HX := Lib.hid hbx
  obtain ⟨n, hn⟩ : ∃ n, n = L.length := ⟨_, rfl⟩
  rw [← hn] at hm
  obtain ⟨h0, h1, h2⟩ := hbx
  rw [← hn] at h0
  have HN := Lib.hid hn
  have O1 := Lib.hid (show (((w.alloc (.cells #[.int .i64 a, .int .i64 b] 82)).drew).alloc (.cells #[.int .i64 a, .int .i64 b] 82)).ownsRow B 82 2 (.slice A n c) n (cs2 L) from by rw [HN.out]; exact World.ownsRow.alloc (World.ownsRow.drew (World.ownsRow.alloc O.out _)) _)
  have NW := Lib.hid (show ∀ j u, ([.int .i64 a, .int .i64 b] : List Value)[j]? = some u → (((w.alloc (.cells #[.int .i64 a, .int .i64 b] 82)).drew).alloc (.cells #[.int .i64 a, .int .i64 b] 82)).cell? ((⟨w.heap.size + 1, 0, none⟩ : Addr).add j) = some u from by
    simpa using new2 ((w.alloc (.cells #[.int .i64 a, .int .i64 b] 82)).drew) (.int .i64 a) (.int .i64 b) 82)
  have NB2 := Lib.hid (show (Value.slice A n c).ownBlock ≠ some hb from by rw [ownBlock_slice]; rw [ownBlock_slice] at hnb; exact hnb)
  clear hi hz0 hz1 hz2 hnb hown hn
  go_enter Try.func110, Try.ntmps110
  go_wp2_with fail
  go_region_law (refine step_append_lies _ rfl (.tmp 8) (.tmp 10) 78 rfl B 82 i0 _ 2 16 Try.underlying78 I0.out I1.out I2.out I3.out rfl (by decide) (.slice A n c) n (cs2 L) rfl O1.out ⟨w.heap.size + 1, 0, none⟩ 1 1 [.int .i64 a, .int .i64 b] rfl rfl NW.out (one2 [(a, b)]) (by decide) (by unfold maxLen; omega) (by omega) (by simp; omega) _ rfl ?_; intro g cap w2 hown2 hgr2 hgv hlt2; have q0 := hgr2.cell (a := ⟨hb, 0, none⟩) (v := .slice A n c) (by simp [go_sem, h0, hlt]) (fun h => NB2.out h.symm); have q2 := (World.frozen?_of_block (a := ⟨hb, 0, none⟩) (hgr2.block hb (by simp; omega) (fun h => NB2.out h.symm))).trans (show _ = false from by simp [go_sem, h2, hlt]))
  all_goals
    have hgv' : (Value.slice A n c).ownBlock = some g ∨ g = w.heap.size + 2 := by
      rcases hgv with h | h
      · exact .inl h
      · right; simpa using h
    have hgb : hb ≠ g := by
      rintro rfl
      rcases hgv' with h | h
      · exact NB2.out h
      · omega
    have hBg : B ≤ g := by
      rcases hgv' with h | h
      · exact (Owns.lt_ O.out g (by rw [← ownBlock_slice A n c]; exact h)).1
      · omega
    have s2 := hgr2.size
    simp at s2
    have R3 := Lib.hid (show RowI (w2.setCell ⟨hb, 0, none⟩ (.slice (some ⟨g, 0, none⟩) (n + 1) cap)) g (n + 1) cap (L ++ [(a, b)]) from by
      have hl : n + 1 = (L ++ [(a, b)]).length := by simp; exact HN.out
      have hO : Owns 82 2 w2 B (.slice (some ⟨g, 0, none⟩) (n + 1) cap) (n + 1) (cs2 (L ++ [(a, b)])) := by
        unfold Owns
        rw [cs2_append]
        exact hown2
      refine ⟨?_, hl⟩
      unfold OwnI
      rw [← hl]
      exact Owns.setOther (Owns.self_ hO) (fun g' e => by injection e with e; subst e; exact fun h => hgb h.symm) _)
    have q1 := hgr2.cell (a := ⟨hb, 1, none⟩) (v := .func (.func 139) #[] #[]) (by simp [go_sem, h1, hlt]) (fun h => NB2.out h.symm)
    have H3 := Lib.hid (show HBox (w2.setCell ⟨hb, 0, none⟩ (.slice (some ⟨g, 0, none⟩) (n + 1) cap)) hb (.slice (some ⟨g, 0, none⟩) (n + 1) cap) from ⟨by simp [go_sem, q0], by simp [go_sem, q1], by simp [go_sem, q2]⟩)
    have T2 := Lib.hid (show Turn (fun k => k = hb ∨ some k = (Value.slice A L.length c).ownBlock) w (w2.setCell ⟨hb, 0, none⟩ (.slice (some ⟨g, 0, none⟩) (n + 1) cap)) from
      ((Turn.of_bl (S := fun k => k = hb ∨ some k = (Value.slice A L.length c).ownBlock) (show Bl w _ from (by repeat' (first | exact Bl.refl _ | with_reducible assumption | with_reducible refine Bl.drew_ ?_ | with_reducible refine Bl.drewN_ ?_ _ | with_reducible refine Bl.alloc_ ?_ _ | with_reducible refine Bl.trans_ ?_ (by assumption) | with_reducible refine Bl.trans_ ?_ (And.left (by assumption)))))).trans (Turn.of_grown (S := fun k => some k = (Value.slice A n c).ownBlock) hgr2 (fun k h => h.symm)) (fun i _ h => .inr (by rw [ownBlock_slice] at h ⊢; exact h))).set (.inl (.inl rfl)) _)
    have GV := Lib.hid hgv'
    clear hown2 hgr2 hgv hgv' q0 q1 q2
    generalize w2.setCell ⟨hb, 0, none⟩ (.slice (some ⟨g, 0, none⟩) (n + 1) cap) = w3 at *
    obtain ⟨h0, h1, h2⟩ := H3.out
    go_wp2_with fail
    refine (rise_any hb g (n + 1) cap n _ _ (by omega) R3.out H3.out hgb (by omega)).mono ?_
    rintro e w4 ⟨rfl, hR4, hG4⟩
    have R4 := Lib.hid hR4
    have G4 := Lib.hid hG4
    clear hR4 hG4
    go_wp2
    go_end0
    have HB4 := H3.out.grown_ G4.out (by simp; exact hgb)
    have hl4 := R4.out.2
    refine ⟨rfl, g, cap, ⟨?_, ?_, hBb, by simp [Value.ownBlock]; exact fun h => hgb h.symm⟩, ?_, ?_⟩
    · rw [← HN.out, ← hl4]; exact HB4
    · have h5 := R4.out.1
      rw [← HN.out, ← hl4]
      unfold OwnI at h5 ⊢
      rw [← hl4] at h5 ⊢
      exact Owns.at_base h5 hBg
    · refine T2.out.trans (Turn.of_grown (S := fun k => k = g) G4.out (fun k h => by injection h with h; exact h.symm)) (fun i hi h => ?_)
      rcases GV.out with h' | h'
      · right; rw [h]; rw [ownBlock_slice] at h' ⊢; exact h'.symm
      · omega
    · rcases GV.out with h' | h'
      · left; rw [ownBlock_slice] at h' ⊢; exact h'
      · right; omega

end Go.Proofs.Ytffjpfanmnkmgaa

set_option linter.unusedSimpArgs false
set_option linter.unusedVariables false
namespace Go.Proofs.Ytffjpfanmnkmgaa
open Go.RowKit

/-- What is left when the first is taken. -/
def popL (L : List It) : List It := downI ((L.set 0 (atI L (L.length - 1))).take (L.length - 1)) 0
theorem RowI.cut {w : World} {g n c m : Nat} {L : List It} (h : RowI w g n c L) (hm : m ≤ n) : RowI w g m c (L.take m) := by
  obtain ⟨h, rfl⟩ := h
  refine ⟨?_, by rw [List.length_take]; omega⟩
  have h1 := Owns.take_ (show Owns 82 2 w g (.slice (some ⟨g, 0, none⟩) L.length c) L.length (cs2 L) from h) hm (by simp)
  unfold OwnI
  rw [cs2_take, List.length_take, Nat.min_eq_left hm]
  exact h1
theorem RowI.room {w : World} {g n c : Nat} {L : List It} (h : RowI w g n c L) : n ≤ c := by
  obtain ⟨h, rfl⟩ := h
  have h' : w.ownsRow g 82 2 (.slice (some ⟨g, 0, none⟩) L.length c) L.length (cs2 L) := h
  rcases h'.2 with ⟨e, _⟩ | ⟨g', cap, cur, e, _, _, hnc, _⟩
  · simp at e
  · injection e with e1 e2 e3
    omega
theorem RowI.setOther {w : World} {g n c : Nat} {L : List It} (h : RowI w g n c L) {p : Addr} (hp : g ≠ p.block) (u : Value) : RowI (w.setCell p u) g n c L :=
  ⟨Owns.setOther h.1 (fun g' e => by injection e with e; subst e; exact hp) u, h.2⟩
theorem RowI.set0 {w : World} {g n c : Nat} {L : List It} (h : RowI w g n c L) (x y : Int) :
    RowI ((w.setCell ⟨g, 0, none⟩ (.int .i64 x)).setCell ⟨g, 1, none⟩ (.int .i64 y)) g n c (L.set 0 (x, y)) := by
  have := (h.set 0 x y).1
  simpa using this

/-- What a pop leaves. -/
def PopPost (hb g n c : Nat) (L : List It) (w : World) (e : Ending) (w' : World) : Prop :=
  e = .returned (.agg #[.int .i64 (atI L 0).1, .int .i64 (atI L 0).2]) ∧ RowI w' g n c (popL L) ∧ HBox w' hb (.slice (some ⟨g, 0, none⟩) n c) ∧ Turn (fun k => k = hb ∨ k = g) w w'

set_option maxHeartbeats 2000000 in
theorem pop_any (hb g m c : Nat) (L : List It) (w : World) (hm : m + 1 ≤ 1048576) (hR : RowI w g (m + 1) c L) (hH : HBox w hb (.slice (some ⟨g, 0, none⟩) (m + 1) c)) (hne : hb ≠ g) :
    Calls Try.prog 111 #[.pointer (some ⟨hb, 0, none⟩)] w (PopPost hb g m c L w) := by
  have R := Lib.hid hR
  have hroom := hR.room
  obtain ⟨hfz, hg, hc⟩ := hR.cells
  have hn := hR.2
  have hbl := hH.lt
  have H := Lib.hid hH
  obtain ⟨h0, h1, h2⟩ := hH
  obtain ⟨a1, a2⟩ := hc 0 (by omega)
  obtain ⟨b1, b2⟩ := hc m (by omega)
  have f1 := hfz 0
  have f2 := hfz 1
  rw [Nat.zero_mul] at a1 a2
  clear hfz hc hR
  have HN := Lib.hid hn
  clear hn
  generalize hx : (atI L 0).1 = x at a1
  generalize hy : (atI L 0).2 = y at a2
  generalize hx' : (atI L m).1 = x' at b1
  generalize hy' : (atI L m).2 = y' at b2
  have HX := Lib.hid hx
  have HY := Lib.hid hy
  have HX' := Lib.hid hx'
  have HY' := Lib.hid hy'
  clear hx hy hx' hy'
  have i0 : (m : Int) < ((m + 1 : Nat) : Int) := by omega
  have i1 : (0 : Int) < ((m + 1 : Nat) : Int) := by omega
  have i2 : (m : Int) ≤ (c : Int) := by omega
  go_enter Try.func111, Try.ntmps111
  go_wp2_with fail
  go_region
  go_wp2_with fail
  have L1 : ((L.set 0 (x', y')).take m) = ((L.set 0 (atI L (L.length - 1))).take (L.length - 1)) := by
    rw [← HN.out, Nat.add_sub_cancel, ← HX'.out, ← HY'.out]
  have HL1 := Lib.hid L1
  clear L1
  have R1 := Lib.hid (((R.out.set0 x' y').cut (m := m) (by omega)).setOther (p := ⟨hb, 0, none⟩) (fun h => hne h.symm) (.slice (some ⟨g, 0, none⟩) m c))
  have hsz : ((((w.setCell ⟨g, 0, none⟩ (.int .i64 x')).setCell ⟨g, 1, none⟩ (.int .i64 y')).setCell ⟨hb, 0, none⟩ (.slice (some ⟨g, 0, none⟩) m c))).heap.size = w.heap.size := by simp
  have HB1 := Lib.hid (show HBox ((((w.setCell ⟨g, 0, none⟩ (.int .i64 x')).setCell ⟨g, 1, none⟩ (.int .i64 y')).setCell ⟨hb, 0, none⟩ (.slice (some ⟨g, 0, none⟩) m c))) hb (.slice (some ⟨g, 0, none⟩) m c) from ⟨by simp [go_sem, h0, hne], by simp [go_sem, h1, hne], by simp [go_sem, h2, hne]⟩)
  have T1 := Lib.hid (show Turn (fun k => k = hb ∨ k = g) w ((((w.setCell ⟨g, 0, none⟩ (.int .i64 x')).setCell ⟨g, 1, none⟩ (.int .i64 y')).setCell ⟨hb, 0, none⟩ (.slice (some ⟨g, 0, none⟩) m c))) from (((Turn.refl _ w).set (.inl (.inr rfl)) _).set (.inl (.inr rfl)) _).set (.inl (.inl rfl)) _)
  generalize ((((w.setCell ⟨g, 0, none⟩ (.int .i64 x')).setCell ⟨g, 1, none⟩ (.int .i64 y')).setCell ⟨hb, 0, none⟩ (.slice (some ⟨g, 0, none⟩) m c))) = wa at *
  refine (sink_any hb g m c 0 _ _ (by omega) (R1.out.bl (by repeat' (first | exact Bl.refl _ | with_reducible assumption | with_reducible refine Bl.drew_ ?_ | with_reducible refine Bl.drewN_ ?_ _ | with_reducible refine Bl.alloc_ ?_ _ | with_reducible refine Bl.trans_ ?_ (by assumption) | with_reducible refine Bl.trans_ ?_ (And.left (by assumption))))) (HB1.out.bl (by omega) (by repeat' (first | exact Bl.refl _ | with_reducible assumption | with_reducible refine Bl.drew_ ?_ | with_reducible refine Bl.drewN_ ?_ _ | with_reducible refine Bl.alloc_ ?_ _ | with_reducible refine Bl.trans_ ?_ (by assumption) | with_reducible refine Bl.trans_ ?_ (And.left (by assumption))))) hne (by omega)).mono ?_
  rintro e w4 ⟨rfl, hR4, hG4⟩
  have R4 := Lib.hid hR4
  have G4 := Lib.hid hG4
  clear hR4 hG4
  have hb4 := (HB1.out.bl (by omega) (show Bl wa ((wa.alloc (.cells #[.int .i64 0, .int .i64 0] 82)).alloc (.cells #[.int .i64 x, .int .i64 y] 82)).drew from (by repeat' (first | exact Bl.refl _ | with_reducible assumption | with_reducible refine Bl.drew_ ?_ | with_reducible refine Bl.drewN_ ?_ _ | with_reducible refine Bl.alloc_ ?_ _ | with_reducible refine Bl.trans_ ?_ (by assumption) | with_reducible refine Bl.trans_ ?_ (And.left (by assumption)))))).grown_ G4.out (by simp; exact hne)
  have HB4 := Lib.hid hb4
  have c1 := G4.out.cell (a := ⟨w.heap.size + 1, 0, none⟩) (v := .int .i64 x) (by simp [go_sem, ← hsz]) (by simp; omega)
  have c2 := G4.out.cell (a := ⟨w.heap.size + 1, 1, none⟩) (v := .int .i64 y) (by simp [go_sem, ← hsz]) (by simp; omega)
  have c3 := G4.out.cell (a := ⟨w.heap.size, 0, none⟩) (v := .int .i64 0) (by simp [go_sem, ← hsz]) (by simp; omega)
  have c4 := G4.out.cell (a := ⟨w.heap.size, 1, none⟩) (v := .int .i64 0) (by simp [go_sem, ← hsz]) (by simp; omega)
  have hblk := G4.out.block w.heap.size (by simp; omega) (by simp; omega)
  have f3 := (World.frozen?_of_block (a := ⟨w.heap.size, 0, none⟩) hblk).trans (show _ = false from by simp [go_sem, ← hsz])
  have f4 := (World.frozen?_of_block (a := ⟨w.heap.size, 1, none⟩) hblk).trans (show _ = false from by simp [go_sem, ← hsz])
  have HZ := Lib.hid hsz
  clear hb4 hblk hsz
  go_wp2
  refine bodyPost_ret (v := .agg #[.int .i64 x, .int .i64 y]) (by simp [results, Try.results111, go_sem, c3, c4]) rfl ⟨by rw [← HX.out, ← HY.out], ?_, ?_, ?_⟩
  · have h5 := (R4.out.setOther (p := ⟨w.heap.size, 0, none⟩) (by show g ≠ w.heap.size; omega) (.int .i64 x)).setOther (p := ⟨w.heap.size, 1, none⟩) (by show g ≠ w.heap.size; omega) (.int .i64 y)
    unfold popL
    rw [← HL1.out]
    exact h5
  · obtain ⟨k0, k1, k2⟩ := HB4.out
    have hne2 : ¬ w.heap.size = hb := by omega
    have hne3 : ¬ hb = w.heap.size := by omega
    exact ⟨by simp [go_sem, k0, hne2, hne3], by simp [go_sem, k1, hne2, hne3], by simp [go_sem, k2, hne2, hne3]⟩
  · refine Turn.set (Turn.set (T1.out.trans ((Turn.of_bl (S := fun k => k = hb ∨ k = g) (show Bl wa _ from (by repeat' (first | exact Bl.refl _ | with_reducible assumption | with_reducible refine Bl.drew_ ?_ | with_reducible refine Bl.drewN_ ?_ _ | with_reducible refine Bl.alloc_ ?_ _ | with_reducible refine Bl.trans_ ?_ (by assumption) | with_reducible refine Bl.trans_ ?_ (And.left (by assumption)))))).trans (Turn.of_grown (S := fun k => k = hb ∨ k = g) G4.out (fun k h => by injection h with h; exact .inr h.symm)) (fun i _ h => h)) (fun i _ h => h)) (.inr ?_) _) (.inr ?_) _ <;> exact Nat.le_refl _

end Go.Proofs.Ytffjpfanmnkmgaa

set_option linter.unusedSimpArgs false
set_option linter.unusedVariables false
namespace Go.Proofs.Ytffjpfanmnkmgaa

/-- None is less than what is above it. -/
def Ord (L : List It) : Prop := ∀ i, i < L.length → 0 < i → lessI (atI L i) (atI L ((i - 1) / 2)) = false
theorem ordI_iff (L : List It) : ordI L L.length = true ↔ Ord L := by
  unfold ordI Ord
  rw [List.all_eq_true]
  constructor
  · intro h i hi h0
    have := h i (List.mem_range.2 hi)
    simpa [h0] using this
  · intro h i hi
    rw [List.mem_range] at hi
    by_cases h0 : 0 < i
    · simp [h i hi h0]
    · simp [h0]

theorem atI_swap {L : List It} {i j k : Nat} (hi : i < L.length) (hj : j < L.length) : atI (swapI L i j) k = if k = j then atI L i else if k = i then atI L j else atI L k := by
  unfold swapI
  rw [atI_set (by simpa using hj)]
  split
  · rfl
  · rw [atI_set hi]
theorem swapI_perm {L : List It} {i j : Nat} (hi : i < L.length) (hj : j < L.length) : (swapI L i j).Perm L := by
  unfold swapI
  rw [atI_eq hi, atI_eq hj]
  exact List.set_set_perm hi hj

theorem upI_perm (k : Nat) : ∀ (L : List It), k < L.length → (upI L k).Perm L := by
  induction k using Nat.strongRecOn with
  | ind k ih =>
    intro L hk
    by_cases h : 0 < k ∧ lessI (atI L k) (atI L ((k - 1) / 2)) = true
    · rw [upI_step h.1 h.2]
      exact (ih _ (by omega) _ (by rw [swapI_len]; omega)).trans (swapI_perm hk (by omega))
    · rw [upI]
      simp only [h, dite_false]
      exact List.Perm.refl _

theorem upI_ord (k : Nat) : ∀ (L : List It), k < L.length → (∀ i, i < L.length → 0 < i → i ≠ k → lessI (atI L i) (atI L ((i - 1) / 2)) = false) →
    (∀ i, i < L.length → 0 < i → (i - 1) / 2 = k → 0 < k → lessI (atI L i) (atI L ((k - 1) / 2)) = false) → Ord (upI L k) := by
  induction k using Nat.strongRecOn with
  | ind k ih =>
    intro L hk h1 h2
    by_cases h : 0 < k ∧ lessI (atI L k) (atI L ((k - 1) / 2)) = true
    · obtain ⟨h0, hl⟩ := h
      rw [upI_step h0 hl]
      have hp : (k - 1) / 2 < k := by omega
      have hpl : (k - 1) / 2 < L.length := by omega
      refine ih ((k - 1) / 2) hp _ (by rw [swapI_len]; omega) (fun i hi hi0 hip => ?_) (fun i hi hi0 hip hp0 => ?_)
      · rw [swapI_len] at hi
        rw [atI_swap hk hpl, atI_swap hk hpl, if_neg hip]
        by_cases hik : i = k
        · subst hik
          rw [if_pos rfl, if_pos rfl]
          exact lessI_asymm hl
        · rw [if_neg hik]
          by_cases hpi : (i - 1) / 2 = (k - 1) / 2
          · rw [if_pos hpi]
            cases hc : lessI (atI L i) (atI L k) with
            | false => rfl
            | true =>
              have a := lessI_trans hc hl
              have b := h1 i hi hi0 hik
              rw [hpi, a] at b
              cases b
          · rw [if_neg hpi]
            by_cases hpk : (i - 1) / 2 = k
            · rw [if_pos hpk]
              exact h2 i hi hi0 hpk h0
            · rw [if_neg hpk]
              exact h1 i hi hi0 hik
      · rw [swapI_len] at hi
        have hq : ((k - 1) / 2 - 1) / 2 ≠ (k - 1) / 2 := by omega
        have hq2 : ((k - 1) / 2 - 1) / 2 ≠ k := by omega
        rw [atI_swap hk hpl, atI_swap hk hpl, if_neg hq, if_neg hq2, if_neg (by omega)]
        by_cases hik : i = k
        · rw [if_pos hik]
          exact h1 _ hpl hp0 (by omega)
        · rw [if_neg hik]
          have a := h1 i hi hi0 hik
          rw [hip] at a
          exact lessI_neg_trans a (h1 _ hpl hp0 (by omega))
    · rw [upI]
      simp only [h, dite_false]
      intro i hi hi0
      by_cases hik : i = k
      · subst hik
        cases hc : lessI (atI L i) (atI L ((i - 1) / 2)) with
        | false => rfl
        | true => exact absurd ⟨hi0, hc⟩ h
      · exact h1 i hi hi0 hik

theorem pickI_child {L : List It} {p : Nat} (h : pickI L p ≠ p) : pickI L p = 2 * p + 1 ∨ pickI L p = 2 * p + 2 := by
  unfold pickI at h ⊢
  rw [bestI] at h ⊢
  split at h
  · rename_i h1; rw [if_pos h1]; right; rfl
  · rename_i h1
    rw [if_neg h1]
    rw [bestI] at h ⊢
    split at h
    · rename_i h2; rw [if_pos h2]; left; rfl
    · exact absurd rfl h
theorem pickI_least {L : List It} {p i : Nat} (hi : i < L.length) (h : i = p ∨ i = 2 * p + 1 ∨ i = 2 * p + 2) : lessI (atI L i) (atI L (pickI L p)) = false := by
  have step : ∀ j, lessI (atI L (bestI L p j)) (atI L (bestI L p (j + 1))) = false := fun j => by
    by_cases c : 2 * p + 1 + j < L.length ∧ lessI (atI L (2 * p + 1 + j)) (atI L (bestI L p j)) = true
    · rw [bestI_yes c.1 c.2]; exact lessI_asymm c.2
    · rw [bestI, if_neg c]; exact lessI_irrefl _
  have at_ : ∀ j, 2 * p + 1 + j < L.length → lessI (atI L (2 * p + 1 + j)) (atI L (bestI L p (j + 1))) = false := fun j hj => by
    by_cases c : 2 * p + 1 + j < L.length ∧ lessI (atI L (2 * p + 1 + j)) (atI L (bestI L p j)) = true
    · rw [bestI_yes c.1 c.2]; exact lessI_irrefl _
    · rw [bestI, if_neg c]
      cases hc : lessI (atI L (2 * p + 1 + j)) (atI L (bestI L p j)) with
      | false => rfl
      | true => exact absurd ⟨hj, hc⟩ c
  unfold pickI
  rcases h with rfl | rfl | rfl
  · exact lessI_neg_trans (step 0) (step 1)
  · exact lessI_neg_trans (at_ 0 hi) (step 1)
  · exact at_ 1 hi

theorem downI_perm_aux (n : Nat) : ∀ (L : List It) (p : Nat), L.length - p = n → (downI L p).Perm L := by
  induction n using Nat.strongRecOn with
  | ind n ih =>
    intro L p hn
    by_cases h : pickI L p = p
    · rw [downI_stop h]
    · rw [downI_step h]
      have h1 := pickI_ge L p
      have h2 := pickI_lt' h
      exact (ih (L.length - pickI L p) (by omega) _ _ (by rw [swapI_len])).trans (swapI_perm (by omega) h2)
theorem downI_perm (L : List It) (p : Nat) : (downI L p).Perm L := downI_perm_aux _ L p rfl
theorem arrI_perm : ∀ (n : Nat) (L : List It), (arrI n L).Perm L
  | 0, L => List.Perm.refl _
  | n + 1, L => by rw [arrI]; exact (arrI_perm n _).trans (downI_perm L n)

theorem downI_ord_aux (n : Nat) : ∀ (L : List It) (p : Nat), L.length - p = n → (∀ i, i < L.length → 0 < i → (i - 1) / 2 ≠ p → lessI (atI L i) (atI L ((i - 1) / 2)) = false) →
    (∀ i, i < L.length → 0 < i → (i - 1) / 2 = p → 0 < p → lessI (atI L i) (atI L ((p - 1) / 2)) = false) → Ord (downI L p) := by
  induction n using Nat.strongRecOn with
  | ind n ih =>
    intro L p hn h1 h2
    by_cases h : pickI L p = p
    · rw [downI_stop h]
      intro i hi hi0
      by_cases hip : (i - 1) / 2 = p
      · have := pickI_least (L := L) (p := p) hi (by omega)
        rw [h] at this
        rw [hip]
        exact this
      · exact h1 i hi hi0 hip
    · have hge := pickI_ge L p
      have hlt := pickI_lt' h
      have hch := pickI_child h
      have hpl : p < L.length := by omega
      rw [downI_step h]
      generalize hm : pickI L p = m at *
      have hpm : (m - 1) / 2 = p := by omega
      refine ih (L.length - m) (by omega) _ m (by rw [swapI_len]) (fun i hi hi0 him => ?_) (fun i hi hi0 him hm0 => ?_)
      · rw [swapI_len] at hi
        rw [atI_swap hpl hlt, atI_swap hpl hlt, if_neg (show ¬ (i - 1) / 2 = m from him)]
        by_cases hi1 : i = m
        · rw [if_pos hi1, hi1, hpm, if_pos rfl]
          have := pickI_least (L := L) (p := p) hpl (.inl rfl)
          rw [hm] at this
          exact this
        · rw [if_neg hi1]
          by_cases hi2 : i = p
          · rw [if_pos hi2, if_neg (by omega)]
            rw [hi2]
            exact h2 m hlt (by omega) hpm (by omega)
          · rw [if_neg hi2]
            by_cases hip : (i - 1) / 2 = p
            · rw [if_pos hip]
              have := pickI_least (L := L) (p := p) hi (by omega)
              rw [hm] at this
              exact this
            · rw [if_neg hip]
              exact h1 i hi hi0 hip
      · rw [swapI_len] at hi
        rw [atI_swap hpl hlt, atI_swap hpl hlt, if_neg (by omega), if_neg (by omega), hpm, if_neg (by omega), if_pos rfl]
        have := h1 i hi hi0 (by omega)
        rw [him] at this
        exact this
theorem downI_ord {L : List It} {p : Nat} (h1 : ∀ i, i < L.length → 0 < i → (i - 1) / 2 ≠ p → lessI (atI L i) (atI L ((i - 1) / 2)) = false)
    (h2 : ∀ i, i < L.length → 0 < i → (i - 1) / 2 = p → 0 < p → lessI (atI L i) (atI L ((p - 1) / 2)) = false) : Ord (downI L p) := downI_ord_aux _ L p rfl h1 h2

/-- In a heap none is less than the first. -/
theorem Ord.least {L : List It} (h : Ord L) : ∀ i, i < L.length → lessI (atI L i) (atI L 0) = false := by
  intro i
  induction i using Nat.strongRecOn with
  | ind i ih =>
    intro hi
    by_cases h0 : 0 < i
    · exact lessI_neg_trans (h i hi h0) (ih _ (by omega) (by omega))
    · obtain rfl : i = 0 := by omega
      exact lessI_irrefl _

theorem idsI_iff (L : List It) : idsI L L.length = true ↔ (L.map (·.2)).Nodup := by
  unfold idsI newI
  rw [List.all_eq_true]
  have e : (L.map (·.2)).Nodup ↔ ∀ i j (hi : i < L.length) (hj : j < L.length), i < j → L[i].2 ≠ L[j].2 := by
    unfold List.Nodup
    rw [List.pairwise_iff_getElem]
    simp
  rw [e]
  constructor
  · intro h i j hi hj hij
    have a := h j (List.mem_range.2 hj)
    rw [List.all_eq_true] at a
    have b := a i (List.mem_range.2 hij)
    rw [atI_eq hi, atI_eq hj] at b
    simpa using b
  · intro h j hj
    rw [List.mem_range] at hj
    rw [List.all_eq_true]
    intro i hi
    rw [List.mem_range] at hi
    rw [atI_eq (by omega), atI_eq hj]
    simpa using h i j (by omega) hj hi
theorem heapI_iff (L : List It) : heapI L = true ↔ L.length ≤ 100 ∧ (L.map (·.2)).Nodup ∧ Ord L := by
  unfold heapI
  rw [Bool.and_eq_true, Bool.and_eq_true, decide_eq_true_eq, idsI_iff, ordI_iff]
theorem placeI_neg {L : List It} {id : Int} (h : placeI L id < 0) : id ∉ L.map (·.2) := by
  intro hm
  rw [List.mem_map] at hm
  obtain ⟨a, ha, rfl⟩ := hm
  unfold placeI at h
  cases hf : findI L a.2 with
  | none =>
    unfold findI at hf
    rw [List.findIdx?_eq_none_iff] at hf
    have := hf a ha
    simp at this
  | some k =>
    rw [hf] at h
    simp at h
    omega
theorem atI_append {L : List It} {x : It} {i : Nat} : atI (L ++ [x]) i = if i = L.length then x else atI L i := by
  unfold atI
  rw [List.getD_eq_getElem?_getD, List.getD_eq_getElem?_getD]
  by_cases h : i = L.length
  · subst h; simp
  · rw [if_neg h]
    rcases Nat.lt_or_ge i L.length with h' | h'
    · rw [List.getElem?_append_left h']
    · rw [List.getElem?_eq_none (by simp; omega), List.getElem?_eq_none (by omega)]

/-- What is pushed into a heap leaves a heap of all of them. -/
theorem push_heap {L : List It} {x : It} (h : heapI L = true) (h1 : L.length ≠ 100) (h2 : placeI L x.2 < 0) : heapI (upI (L ++ [x]) L.length) = true ∧ (upI (L ++ [x]) L.length).Perm (L ++ [x]) := by
  obtain ⟨a, b, c⟩ := (heapI_iff L).1 h
  have hp := upI_perm L.length (L ++ [x]) (by simp)
  refine ⟨(heapI_iff _).2 ⟨by rw [upI_len]; simp; omega, ?_, ?_⟩, hp⟩
  · rw [(hp.map (·.2)).nodup_iff, List.map_append]
    rw [List.nodup_append]
    exact ⟨b, by simp, fun u hu v hv => by
      simp at hv
      rintro rfl
      exact placeI_neg h2 (hv ▸ hu)⟩
  · refine upI_ord _ _ (by simp) (fun i hi hi0 hne => ?_) (fun i hi hi0 hip _ => ?_)
    · have hi' : i < L.length := by simp at hi; omega
      rw [atI_append, atI_append, if_neg hne, if_neg (by omega)]
      exact c i hi' hi0
    · simp at hi
      omega

end Go.Proofs.Ytffjpfanmnkmgaa

set_option linter.unusedSimpArgs false
set_option linter.unusedVariables false
namespace Go.Proofs.Ytffjpfanmnkmgaa

/-- The last one in the place of the first, which is gone. -/
def cutI (L : List It) : List It := (L.set 0 (atI L (L.length - 1))).take (L.length - 1)
theorem cutI_perm (f : It) (t : List It) : (cutI (f :: t)).Perm t := by
  unfold cutI
  rcases List.eq_nil_or_concat t with rfl | ⟨t', z, rfl⟩
  · simp
  · have e : atI (f :: (t' ++ [z])) ((f :: (t' ++ [z])).length - 1) = z := by
      simp [atI]
    simp only [List.concat_eq_append] at *
    rw [e]
    simp only [List.set_cons_zero, List.length_cons, List.length_append, List.length_nil, Nat.zero_add, Nat.add_sub_cancel]
    rw [List.take_succ_cons, List.take_append_of_le_length (Nat.le_refl _), List.take_length]
    exact (List.perm_append_comm (l₁ := [z]) (l₂ := t'))
theorem cutI_at {L : List It} {i : Nat} (h0 : 0 < i) (hi : i < L.length - 1) : atI (cutI L) i = atI L i := by
  unfold cutI
  rw [show atI ((L.set 0 (atI L (L.length - 1))).take (L.length - 1)) i = atI (L.set 0 (atI L (L.length - 1))) i from by
    unfold atI
    simp only [List.getD_eq_getElem?_getD, List.getElem?_take, if_pos hi]]
  rw [atI_set (by omega), if_neg (by omega)]
theorem cutI_len (L : List It) : (cutI L).length = L.length - 1 := by
  unfold cutI
  rw [List.length_take, List.length_set]
  omega
/-- What a pop leaves of a heap is a heap of all but the first, which is the least. -/
theorem pop_heap {f : It} {t : List It} (h : heapI (f :: t) = true) : heapI (downI (cutI (f :: t)) 0) = true ∧ (downI (cutI (f :: t)) 0).Perm t ∧ f.2 ∉ t.map (·.2) ∧ ∀ a ∈ f :: t, lessI a f = false := by
  obtain ⟨a, b, c⟩ := (heapI_iff _).1 h
  have hp := (downI_perm (cutI (f :: t)) 0).trans (cutI_perm f t)
  rw [List.map_cons, List.nodup_cons] at b
  refine ⟨(heapI_iff _).2 ⟨by rw [hp.length_eq]; simp at a; omega, ?_, ?_⟩, hp, b.1, fun x hx => ?_⟩
  · rw [(hp.map (·.2)).nodup_iff]
    exact b.2
  · refine downI_ord (fun i hi hi0 hne => ?_) (fun i hi hi0 hip hp0 => absurd hp0 (by omega))
    rw [cutI_len] at hi
    rw [cutI_at hi0 hi, cutI_at (by omega) (by omega)]
    exact c i (by omega) hi0
  · obtain ⟨i, hi, rfl⟩ := List.mem_iff_getElem.1 hx
    have := c.least i hi
    rw [atI_eq hi] at this
    simpa [atI] using this

theorem placeI_id {L : List It} {id : Int} {k : Nat} (h : placeI L id = k) : k < L.length ∧ (atI L k).2 = id := by
  unfold placeI at h
  cases hf : findI L id with
  | none => rw [hf] at h; simp at h <;> omega
  | some j =>
    rw [hf] at h
    simp at h
    obtain rfl : j = k := by omega
    unfold findI at hf
    rw [List.findIdx?_eq_some_iff_getElem] at hf
    obtain ⟨hj, he, _⟩ := hf
    exact ⟨hj, by rw [atI_eq hj]; simpa using he⟩
theorem set_map {L : List It} {k : Nat} {x : It} (hk : k < L.length) (h : x.2 = (atI L k).2) : (L.set k x).map (·.2) = L.map (·.2) := by
  apply List.ext_getElem?
  intro i
  rw [List.getElem?_map, List.getElem?_map, List.getElem?_set]
  by_cases hi : k = i
  · subst hi
    rw [if_pos rfl, if_pos hk, List.getElem?_eq_getElem hk]
    simp [h, atI_eq hk]
  · rw [if_neg hi]
/-- A lesser key leaves a heap; the others are there. -/
theorem less_heap {L : List It} {id key : Int} {k : Nat} (h : heapI L = true) (hk : placeI L id = k) (hkey : key ≤ (atI L k).1) :
    heapI (upI (L.set k (key, (atI L k).2)) k) = true ∧ (∀ a ∈ L, a.2 ≠ id → a ∈ upI (L.set k (key, (atI L k).2)) k) ∧ (key, id) ∈ upI (L.set k (key, (atI L k).2)) k ∧ (upI (L.set k (key, (atI L k).2)) k).length = L.length := by
  obtain ⟨a, b, c⟩ := (heapI_iff _).1 h
  obtain ⟨hkl, hid⟩ := placeI_id hk
  have hp := upI_perm k (L.set k (key, (atI L k).2)) (by simpa using hkl)
  have hle : lessI (atI L k) (key, (atI L k).2) = false := by
    simp only [lessI, decide_eq_false_iff_not]
    omega
  refine ⟨(heapI_iff _).2 ⟨by rw [upI_len, List.length_set]; exact a, ?_, ?_⟩, fun x hx hne => hp.mem_iff.2 ?_, hp.mem_iff.2 ?_, by rw [upI_len, List.length_set]⟩
  · rw [(hp.map (·.2)).nodup_iff, set_map (x := (key, (atI L k).2)) hkl rfl]
    exact b
  · refine upI_ord _ _ (by simpa using hkl) (fun i hi hi0 hne => ?_) (fun i hi hi0 hip hk0 => ?_)
    · rw [List.length_set] at hi
      rw [atI_set hkl, atI_set hkl, if_neg hne]
      by_cases hpk : (i - 1) / 2 = k
      · rw [if_pos hpk]
        have := c i hi hi0
        rw [hpk] at this
        exact lessI_neg_trans this hle
      · rw [if_neg hpk]
        exact c i hi hi0
    · rw [List.length_set] at hi
      rw [atI_set hkl, atI_set hkl, if_neg (by omega), if_neg (by omega)]
      have h1 := c i hi hi0
      rw [hip] at h1
      exact lessI_neg_trans h1 (c k hkl hk0)
  · obtain ⟨j, hj, rfl⟩ := List.mem_iff_getElem.1 hx
    have hjk : j ≠ k := by
      rintro rfl
      rw [atI_eq hj] at hid
      exact hne hid
    exact List.mem_iff_getElem.2 ⟨j, by simpa using hj, by rw [List.getElem_set_ne (fun e => hjk e.symm)]⟩
  · exact List.mem_iff_getElem.2 ⟨k, by simpa using hkl, by rw [List.getElem_set_self]; rw [← hid]⟩

end Go.Proofs.Ytffjpfanmnkmgaa
