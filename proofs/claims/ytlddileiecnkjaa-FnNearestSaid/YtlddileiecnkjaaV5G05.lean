/-
  What is proved here: plain facts on heaps as lists of pairs: up, down, picking the least, order; contracts of the laws' small functions on items and on slices of items; items that are copied, marked, and held against their marks; contracts of less, of the place above, and of the exchange of two items, on both sides. No conditions beyond those that each theorem states.
-/
import Derived.Test.YtlddileiecnkjaaV5G01
import Derived.BigRegion
set_option linter.unusedSimpArgs false
set_option linter.unusedVariables false
namespace Go.Proofs.Ytlddileiecnkjaa

/-- An item as two numbers: key and id. -/
abbrev It := Int × Int
def lessI (a b : It) : Bool := decide (a.1 < b.1 ∨ a.1 = b.1 ∧ a.2 < b.2)
theorem lessI_trans {a b c : It} (h : lessI a b = true) (k : lessI b c = true) : lessI a c = true := by
  simp only [lessI, decide_eq_true_eq] at *
  omega
theorem lessI_asymm {a b : It} (h : lessI a b = true) : lessI b a = false := by
  simp only [lessI, decide_eq_true_eq, decide_eq_false_iff_not] at *
  omega
theorem lessI_neg_trans {a b c : It} (h : lessI a b = false) (k : lessI b c = false) : lessI a c = false := by
  simp only [lessI, decide_eq_false_iff_not] at *
  omega
theorem lessI_irrefl (a : It) : lessI a a = false := by
  simp [lessI]

def atI (L : List It) (k : Nat) : It := L.getD k (0, 0)
theorem atI_eq {L : List It} {k : Nat} (h : k < L.length) : atI L k = L[k] := by simp [atI, h]
theorem atI_set {L : List It} {i k : Nat} {x : It} (hi : i < L.length) : atI (L.set i x) k = if k = i then x else atI L k := by
  unfold atI
  rw [List.getD_eq_getElem?_getD, List.getD_eq_getElem?_getD, List.getElem?_set]
  by_cases h : i = k
  · subst h; simp [hi]
  · rw [if_neg h, if_neg (fun e => h e.symm)]

/-- Two items change places. -/
def swapI (L : List It) (i j : Nat) : List It := (L.set i (atI L j)).set j (atI L i)
theorem swapI_len (L : List It) (i j : Nat) : (swapI L i j).length = L.length := by simp [swapI]

/-- Up, as long as it is less than the one above. -/
def upI (L : List It) (k : Nat) : List It :=
  if h : 0 < k ∧ lessI (atI L k) (atI L ((k - 1) / 2)) = true then upI (swapI L k ((k - 1) / 2)) ((k - 1) / 2) else L
termination_by k
decreasing_by omega
theorem upI_step {L : List It} {k : Nat} (h0 : 0 < k) (h : lessI (atI L k) (atI L ((k - 1) / 2)) = true) : upI L k = upI (swapI L k ((k - 1) / 2)) ((k - 1) / 2) := by
  rw [upI]; simp [h0, h]
theorem upI_zero (L : List It) : upI L 0 = L := by rw [upI]; simp
theorem upI_stop {L : List It} {k : Nat} (h : lessI (atI L k) (atI L ((k - 1) / 2)) = false) : upI L k = L := by
  rw [upI]; simp [h]
theorem upI_len (L : List It) (k : Nat) : (upI L k).length = L.length := by
  induction k using Nat.strongRecOn generalizing L with
  | ind k ih =>
    rw [upI]
    split
    · rename_i h
      rw [ih _ (by omega), swapI_len]
    · rfl

/-- The least so far of a place and the first i below it. -/
def bestI (L : List It) (p : Nat) : Nat → Nat
  | 0 => p
  | i + 1 => if 2 * p + 1 + i < L.length ∧ lessI (atI L (2 * p + 1 + i)) (atI L (bestI L p i)) = true then 2 * p + 1 + i else bestI L p i
def pickI (L : List It) (p : Nat) : Nat := bestI L p 2
theorem bestI_lt {L : List It} {p : Nat} (hp : p < L.length) : ∀ i, bestI L p i < L.length
  | 0 => hp
  | i + 1 => by
    unfold bestI
    split
    · rename_i h; exact h.1
    · exact bestI_lt hp i
theorem bestI_ge {L : List It} {p : Nat} : ∀ i, p ≤ bestI L p i
  | 0 => Nat.le_refl _
  | i + 1 => by
    unfold bestI
    split
    · omega
    · exact bestI_ge i
theorem bestI_yes {L : List It} {p i : Nat} (h : 2 * p + 1 + i < L.length) (k : lessI (atI L (2 * p + 1 + i)) (atI L (bestI L p i)) = true) : bestI L p (i + 1) = 2 * p + 1 + i := by
  rw [bestI, if_pos ⟨h, k⟩]
theorem bestI_no {L : List It} {p i : Nat} (k : lessI (atI L (2 * p + 1 + i)) (atI L (bestI L p i)) = false) : bestI L p (i + 1) = bestI L p i := by
  rw [bestI, if_neg (by rw [k]; simp)]
theorem bestI_out {L : List It} {p i : Nat} (h : L.length ≤ 2 * p + 1 + i) : bestI L p (i + 1) = bestI L p i := by
  rw [bestI, if_neg (by omega)]
theorem pickI_out {L : List It} {p i : Nat} (hi : i ≤ 2) (h : i = 2 ∨ L.length ≤ 2 * p + 1 + i) : pickI L p = bestI L p i := by
  rcases h with rfl | h
  · rfl
  · unfold pickI
    match i, hi, h with
    | 0, _, h => rw [bestI_out (by omega), bestI_out (by omega)]
    | 1, _, h => rw [bestI_out (by omega)]
    | 2, _, h => rfl

theorem pickI_ge (L : List It) (p : Nat) : p ≤ pickI L p := bestI_ge 2
theorem pickI_lt {L : List It} {p : Nat} (hp : p < L.length) : pickI L p < L.length := bestI_lt hp 2
theorem pickI_none {L : List It} {p : Nat} (hp : L.length ≤ p) : pickI L p = p := by
  rw [pickI_out (i := 0) (by omega) (.inr (by omega))]; rfl
theorem pickI_lt' {L : List It} {p : Nat} (h : pickI L p ≠ p) : pickI L p < L.length := by
  rcases Nat.lt_or_ge p L.length with hp | hp
  · exact pickI_lt hp
  · exact absurd (pickI_none hp) h

/-- Down, by way of the lesser of the two below. -/
def downI (L : List It) (p : Nat) : List It :=
  if h : pickI L p ≠ p then downI (swapI L p (pickI L p)) (pickI L p) else L
termination_by L.length - p
decreasing_by
  have := pickI_ge L p
  have := pickI_lt' h
  rw [swapI_len]
  omega
theorem downI_step {L : List It} {p : Nat} (h : pickI L p ≠ p) : downI L p = downI (swapI L p (pickI L p)) (pickI L p) := by
  rw [downI]; simp [h]
theorem downI_stop {L : List It} {p : Nat} (h : pickI L p = p) : downI L p = L := by
  rw [downI]; simp [h]
theorem downI_len_aux (n : Nat) : ∀ (L : List It) (p : Nat), L.length - p = n → (downI L p).length = L.length := by
  induction n using Nat.strongRecOn with
  | ind n ih =>
    intro L p hn
    by_cases h : pickI L p = p
    · rw [downI_stop h]
    · rw [downI_step h]
      have h1 := pickI_ge L p
      have h2 := pickI_lt' h
      rw [ih (L.length - pickI L p) (by omega) _ _ (by rw [swapI_len]), swapI_len]
theorem downI_len (L : List It) (p : Nat) : (downI L p).length = L.length := downI_len_aux _ L p rfl





end Go.Proofs.Ytlddileiecnkjaa

set_option linter.unusedSimpArgs false
set_option linter.unusedVariables false
namespace Go.Proofs.Ytlddileiecnkjaa
open Go.RowKit

/-- The cells of items, one behind the other. -/
def cs2 : List It → List Value
  | [] => []
  | a :: l => .int .i64 a.1 :: .int .i64 a.2 :: cs2 l
theorem cs2_append : ∀ (l m : List It), cs2 (l ++ m) = cs2 l ++ cs2 m
  | [], _ => rfl
  | a :: l, m => by simp [cs2, cs2_append l m]
theorem cs2_length : ∀ (l : List It), (cs2 l).length = l.length * 2
  | [] => rfl
  | a :: l => by simp [cs2, cs2_length l]; omega
theorem cs2_at : ∀ (l : List It) (k : Nat) (h : k < l.length), (cs2 l)[k * 2]? = some (.int .i64 l[k].1) ∧ (cs2 l)[k * 2 + 1]? = some (.int .i64 l[k].2)
  | a :: l, 0, _ => ⟨rfl, rfl⟩
  | a :: l, k + 1, h => by
    have h' : k < l.length := by simpa using h
    obtain ⟨x, y⟩ := cs2_at l k h'
    have e0 : (k + 1) * 2 = k * 2 + 2 := by omega
    refine ⟨?_, ?_⟩
    · rw [e0]; simpa [cs2] using x
    · rw [e0, show k * 2 + 2 + 1 = (k * 2 + 1) + 2 from by omega]; simpa [cs2] using y
theorem cs2_set : ∀ (l : List It) (k : Nat) (x : It), cs2 (l.set k x) = ((cs2 l).set (k * 2) (.int .i64 x.1)).set (k * 2 + 1) (.int .i64 x.2)
  | [], _, _ => by simp [cs2]
  | a :: l, 0, x => by simp [cs2]
  | a :: l, k + 1, x => by
    have e0 : (k + 1) * 2 = k * 2 + 2 := by omega
    rw [e0, show k * 2 + 2 + 1 = (k * 2 + 1) + 2 from by omega]
    simp [cs2, cs2_set l k x]
theorem cs2_take : ∀ (l : List It) (k : Nat), cs2 (l.take k) = (cs2 l).take (k * 2)
  | [], _ => by simp [cs2]
  | a :: l, 0 => by simp [cs2]
  | a :: l, k + 1 => by
    rw [show (k + 1) * 2 = k * 2 + 2 from by omega]
    simp [cs2, cs2_take l k]

/-- The slice at A reads as the items L, below block B. -/
def ItemsAt (w : World) (B : Nat) (A : Option Addr) (L : List It) : Prop := CellsAt w B A (cs2 L)
theorem ItemsAt.cell {w : World} {B : Nat} {A : Option Addr} {L : List It} (h : ItemsAt w B A L) (h0 : 0 < L.length) :
    ∃ g off, A = some ⟨g, off, none⟩ ∧ g < B ∧ ∀ k (hk : k < L.length), w.cell? ⟨g, off + k * 2, none⟩ = some (.int .i64 L[k].1) ∧ w.cell? ⟨g, off + k * 2 + 1, none⟩ = some (.int .i64 L[k].2) := by
  obtain ⟨g, off, e, hg, hc⟩ := h (by rw [cs2_length]; omega)
  refine ⟨g, off, e, hg, fun k hk => ?_⟩
  obtain ⟨x, y⟩ := cs2_at L k hk
  have hl := cs2_length L
  refine ⟨?_, ?_⟩
  · rw [hc (k * 2) (by omega), ← x, List.getElem?_eq_getElem]
  · rw [Nat.add_assoc, hc (k * 2 + 1) (by omega), ← y, List.getElem?_eq_getElem]
theorem ItemsAt.bl {w w' : World} {A : Option Addr} {L : List It} (h : ItemsAt w w.heap.size A L) (hb : Bl w w') : ItemsAt w' w'.heap.size A L := CellsAt.bl h hb
theorem ItemsAt.more {w : World} {B B' : Nat} {A : Option Addr} {L : List It} (h : ItemsAt w B A L) (hB : B ≤ B') : ItemsAt w B' A L := CellsAt.more h hB
theorem ItemsAt.grown_ {w w' : World} {B : Nat} {A : Option Addr} {L : List It} {row : Option Nat} (h : ItemsAt w B A L) (hB : B ≤ w.heap.size) (hg : w.grownBy w' row)
    (hne : ∀ g, blockOf A = some g → g < B → some g ≠ row) : ItemsAt w' B A L := CellsAt.grown_ h hB hg hne

/-- The value v owns the items L, in blocks from B on. -/
def OwnI (w : World) (B : Nat) (v : Value) (L : List It) : Prop := Owns 68 2 w B v L.length (cs2 L)

theorem infoItem : (Try.prog.info? 68).map (fun i => (i.zero, i.size, i.bytes)) = some (some (.agg #[.int .i64 0, .int .i64 0]), 2, 16) := by kernel_rfl





end Go.Proofs.Ytlddileiecnkjaa

set_option linter.unusedSimpArgs false
set_option linter.unusedVariables false
namespace Go.Proofs.Ytlddileiecnkjaa
open Go.RowKit



/-- A row whose first k items are those of L. -/
def Filled (w : World) (g n k : Nat) (L : List It) : Prop := ∃ cur : Array Value, w.heap[g]? = some (.cells cur 68 (0, 0)) ∧ cur.size = n * 2 ∧ ∀ j (h : j < k) (h' : j < L.length), cur[j * 2]? = some (.int .i64 L[j].1) ∧ cur[j * 2 + 1]? = some (.int .i64 L[j].2)
theorem Filled.cells {w : World} {g n k : Nat} {L : List It} (h : Filled w g n k L) : (∀ o, w.frozen? ⟨g, o, none⟩ = false) ∧ g < w.heap.size ∧ ∀ o, o < n * 2 → ∃ v, w.cell? ⟨g, o, none⟩ = some v := by
  obtain ⟨cur, hb, hs, _⟩ := h
  refine ⟨fun o => by simp [World.frozen?, hb], (Array.getElem?_eq_some_iff.1 hb).1, fun o ho => ⟨cur[o]'(by omega), ?_⟩⟩
  simp [World.cell?, hb, show o < cur.size from by omega]
theorem Filled.step {w : World} {g n k : Nat} {L : List It} (h : Filled w g n k L) (hk : k < n) (hl : k < L.length) {x y : Int} (hx : L[k].1 = x) (hy : L[k].2 = y) :
    Filled ((w.setCell ⟨g, k * 2, none⟩ (.int .i64 x)).setCell ⟨g, k * 2 + 1, none⟩ (.int .i64 y)) g n (k + 1) L := by
  obtain ⟨cur, hb, hs, hf⟩ := h
  refine ⟨(cur.setIfInBounds (k * 2) (.int .i64 x)).setIfInBounds (k * 2 + 1) (.int .i64 y), heap_setCell_same _ g _ _ _ _ (heap_setCell_same w g _ cur _ _ hb), by simpa using hs, fun j hj hj' => ?_⟩
  rcases Nat.lt_or_ge j k with h | h
  · obtain ⟨a, b⟩ := hf j h hj'
    refine ⟨?_, ?_⟩
    · rw [Array.getElem?_setIfInBounds_ne (by omega), Array.getElem?_setIfInBounds_ne (by omega)]; exact a
    · rw [Array.getElem?_setIfInBounds_ne (by omega), Array.getElem?_setIfInBounds_ne (by omega)]; exact b
  · obtain rfl : j = k := by omega
    refine ⟨?_, ?_⟩
    · rw [Array.getElem?_setIfInBounds_ne (by omega), Array.getElem?_setIfInBounds_self_of_lt (by omega), hx]
    · rw [Array.getElem?_setIfInBounds_self_of_lt (by simp; omega), hy]
theorem list_ext2 {c : List Value} {L : List It} (hs : c.length = L.length * 2) (h : ∀ j (h' : j < L.length), c[j * 2]? = some (.int .i64 L[j].1) ∧ c[j * 2 + 1]? = some (.int .i64 L[j].2)) : c = cs2 L := by
  apply List.ext_getElem?
  intro i
  rcases Nat.lt_or_ge i (L.length * 2) with hi | hi
  · have hj : i / 2 < L.length := by omega
    obtain ⟨a, b⟩ := h (i / 2) hj
    obtain ⟨x, y⟩ := cs2_at L (i / 2) hj
    rcases Nat.mod_two_eq_zero_or_one i with hm | hm
    · rw [show i = i / 2 * 2 from by omega, a, x]
    · rw [show i = i / 2 * 2 + 1 from by omega, b, y]
  · rw [List.getElem?_eq_none (by omega), List.getElem?_eq_none (by rw [cs2_length]; omega)]
theorem Filled.own {w : World} {B g n : Nat} {L : List It} (h : Filled w g n n L) (hn : n = L.length) (hm : n ≤ 1048576) (hB : B ≤ g) : OwnI w B (.slice (some ⟨g, 0, none⟩) n n) L := by
  obtain ⟨cur, hb, hs, hf⟩ := h
  subst hn
  refine ⟨by rw [cs2_length], .inr ⟨g, L.length, cur, rfl, hB, hb, Nat.le_refl _, by unfold maxLen; omega, hs, ?_⟩⟩
  rw [List.take_of_length_le (by simp; omega)]
  exact list_ext2 (by simpa using hs) fun j hj => by
    obtain ⟨a, b⟩ := hf j hj hj
    exact ⟨by simpa using a, by simpa using b⟩




end Go.Proofs.Ytlddileiecnkjaa

set_option linter.unusedSimpArgs false
set_option linter.unusedVariables false
namespace Go.Proofs.Ytlddileiecnkjaa
open Go.RowKit

theorem less_key {a b c d : Int} (h : ¬ a = c) : lessI (a, b) (c, d) = decide (a < c) := by
  simp [lessI, h]
theorem less_id {a b d : Int} : lessI (a, b) (a, d) = decide (b < d) := by
  simp [lessI]

set_option maxHeartbeats 400000 in
theorem itemLess_any (a b c d : Int) (w : World) :
    Calls Try.prog 151 #[.agg #[.int .i64 a, .int .i64 b], .agg #[.int .i64 c, .int .i64 d]] w fun e w' => e = .returned (.bool (lessI (a, b) (c, d))) ∧ Bl w w' := by
  by_cases h : a = c
  · subst h
    have h' : (a != a) = false := by simp
    go_enter Try.func151, Try.ntmps151
    go_wp2
    go_ret
    exact ⟨ret_bool less_id.symm, (by repeat' (first | exact Bl.refl _ | with_reducible assumption | with_reducible refine Bl.drew_ ?_ | with_reducible refine Bl.drewN_ ?_ _ | with_reducible refine Bl.alloc_ ?_ _ | with_reducible refine Bl.trans_ ?_ (by assumption) | with_reducible refine Bl.trans_ ?_ (And.left (by assumption))))⟩
  · have h' : (a != c) = true := by simpa using h
    go_enter Try.func151, Try.ntmps151
    go_wp2
    go_ret
    exact ⟨ret_bool (less_key h).symm, (by repeat' (first | exact Bl.refl _ | with_reducible assumption | with_reducible refine Bl.drew_ ?_ | with_reducible refine Bl.drewN_ ?_ _ | with_reducible refine Bl.alloc_ ?_ _ | with_reducible refine Bl.trans_ ?_ (by assumption) | with_reducible refine Bl.trans_ ?_ (And.left (by assumption))))⟩

set_option maxHeartbeats 400000 in
theorem l2Less_any (a b c d : Int) (w : World) :
    Calls Try.prog 101 #[.agg #[.int .i64 a, .int .i64 b], .agg #[.int .i64 c, .int .i64 d]] w fun e w' => e = .returned (.bool (lessI (a, b) (c, d))) ∧ Bl w w' := by
  by_cases h1 : a < c
  · go_enter Try.func101, Try.ntmps101
    go_wp2
    go_ret
    exact ⟨ret_bool (by simp [lessI]; omega), (by repeat' (first | exact Bl.refl _ | with_reducible assumption | with_reducible refine Bl.drew_ ?_ | with_reducible refine Bl.drewN_ ?_ _ | with_reducible refine Bl.alloc_ ?_ _ | with_reducible refine Bl.trans_ ?_ (by assumption) | with_reducible refine Bl.trans_ ?_ (And.left (by assumption))))⟩
  · by_cases h2 : a = c
    · subst h2
      by_cases h3 : b < d
      · go_enter Try.func101, Try.ntmps101
        go_wp2
        go_ret
        exact ⟨ret_bool (by simp [lessI]; omega), (by repeat' (first | exact Bl.refl _ | with_reducible assumption | with_reducible refine Bl.drew_ ?_ | with_reducible refine Bl.drewN_ ?_ _ | with_reducible refine Bl.alloc_ ?_ _ | with_reducible refine Bl.trans_ ?_ (by assumption) | with_reducible refine Bl.trans_ ?_ (And.left (by assumption))))⟩
      · go_enter Try.func101, Try.ntmps101
        go_wp2
        go_ret
        exact ⟨ret_bool (by simp [lessI]; omega), (by repeat' (first | exact Bl.refl _ | with_reducible assumption | with_reducible refine Bl.drew_ ?_ | with_reducible refine Bl.drewN_ ?_ _ | with_reducible refine Bl.alloc_ ?_ _ | with_reducible refine Bl.trans_ ?_ (by assumption) | with_reducible refine Bl.trans_ ?_ (And.left (by assumption))))⟩
    · go_enter Try.func101, Try.ntmps101
      go_wp2
      go_ret
      exact ⟨ret_bool (by simp [lessI]; omega), (by repeat' (first | exact Bl.refl _ | with_reducible assumption | with_reducible refine Bl.drew_ ?_ | with_reducible refine Bl.drewN_ ?_ _ | with_reducible refine Bl.alloc_ ?_ _ | with_reducible refine Bl.trans_ ?_ (by assumption) | with_reducible refine Bl.trans_ ?_ (And.left (by assumption))))⟩

set_option maxHeartbeats 400000 in
theorem above_any (k : Nat) (w : World) (hk : 0 < k) (hm : k ≤ 1048576) :
    Calls Try.prog 174 #[.int .i64 (k : Int)] w fun e w' => e = .returned (.int .i64 (((k - 1) / 2 : Nat) : Int)) ∧ w = w' := by
  have h0 : (0 : Int) ≤ (k : Int) - 1 := by omega
  go_enter Try.func174, Try.ntmps174
  go_wp2
  go_ret
  exact ⟨ret_int (by omega), rfl⟩

/-- A heap of the code's own: its list, and less. -/
def HBox (w : World) (hb : Nat) (v : Value) : Prop := w.cell? ⟨hb, 0, none⟩ = some v ∧ w.cell? ⟨hb, 1, none⟩ = some (.func (.func 151) #[] #[]) ∧ w.frozen? ⟨hb, 0, none⟩ = false
theorem HBox.bl {w w' : World} {hb : Nat} {v : Value} (h : HBox w hb v) (hlt : hb < w.heap.size) (k : Bl w w') : HBox w' hb v := by
  obtain ⟨a, b⟩ := bcell k
  exact ⟨(a _ _ hlt).trans h.1, (a _ _ hlt).trans h.2.1, (b _ _ hlt).trans h.2.2⟩
theorem HBox.lt {w : World} {hb : Nat} {v : Value} (h : HBox w hb v) : hb < w.heap.size := World.block_lt_of_cell? _ _ h.1
theorem HBox.grown_ {w w' : World} {hb : Nat} {v : Value} {row : Option Nat} (h : HBox w hb v) (k : w.grownBy w' row) (hne : some hb ≠ row) : HBox w' hb v := by
  have e := k.block hb h.lt hne
  exact ⟨(World.cell?_of_block (a := ⟨hb, 0, none⟩) e).trans h.1, (World.cell?_of_block (a := ⟨hb, 1, none⟩) e).trans h.2.1, (World.frozen?_of_block (a := ⟨hb, 0, none⟩) e).trans h.2.2⟩

/-- The row at block g owns the items L. -/
def RowI (w : World) (g n c : Nat) (L : List It) : Prop := OwnI w g (.slice (some ⟨g, 0, none⟩) n c) L ∧ n = L.length
theorem RowI.cells {w : World} {g n c : Nat} {L : List It} (h : RowI w g n c L) : (∀ o, w.frozen? ⟨g, o, none⟩ = false) ∧ g < w.heap.size ∧
    ∀ k (hk : k < L.length), w.cell? ⟨g, k * 2, none⟩ = some (.int .i64 (atI L k).1) ∧ w.cell? ⟨g, k * 2 + 1, none⟩ = some (.int .i64 (atI L k).2) := by
  obtain ⟨h, rfl⟩ := h
  have h' : w.ownsRow g 68 2 (.slice (some ⟨g, 0, none⟩) L.length c) L.length (cs2 L) := h
  refine ⟨fun o => World.ownsRow.frozenAt h' o, ?_, fun k hk => ?_⟩
  · exact (World.ownsRow.lt h' g rfl).2
  · obtain ⟨x, y⟩ := cs2_at L k hk
    rw [atI_eq hk]
    exact ⟨(World.ownsRow.cellAt h' _ (by omega)).trans x, (World.ownsRow.cellAt h' _ (by omega)).trans y⟩
theorem RowI.bl {w w' : World} {g n c : Nat} {L : List It} (h : RowI w g n c L) (k : Bl w w') : RowI w' g n c L := ⟨Owns.bl h.1 k, h.2⟩
theorem RowI.set {w : World} {g n c : Nat} {L : List It} (h : RowI w g n c L) (k : Nat) (x y : Int) :
    RowI ((w.setCell ⟨g, k * 2, none⟩ (.int .i64 x)).setCell ⟨g, k * 2 + 1, none⟩ (.int .i64 y)) g n c (L.set k (x, y)) ∧
      w.grownBy ((w.setCell ⟨g, k * 2, none⟩ (.int .i64 x)).setCell ⟨g, k * 2 + 1, none⟩ (.int .i64 y)) (some g) := by
  obtain ⟨h, rfl⟩ := h
  have h1 := Owns.stored (show Owns 68 2 w g (.slice (some ⟨g, 0, none⟩) L.length c) L.length (cs2 L) from h) (k * 2) (.int .i64 x)
  have h2 := Owns.stored h1.1 (k * 2 + 1) (.int .i64 y)
  refine ⟨⟨?_, by simp⟩, grown_trans h1.2 h2.2⟩
  unfold OwnI
  rw [cs2_set, List.length_set]
  exact h2.1

theorem swap_world {w : World} {g n c i j : Nat} {L : List It} (h : RowI w g n c L) :
    RowI ((((w.setCell ⟨g, i * 2, none⟩ (.int .i64 (atI L j).1)).setCell ⟨g, i * 2 + 1, none⟩ (.int .i64 (atI L j).2)).setCell ⟨g, j * 2, none⟩ (.int .i64 (atI L i).1)).setCell ⟨g, j * 2 + 1, none⟩ (.int .i64 (atI L i).2)) g n c (swapI L i j) ∧
      w.grownBy ((((w.setCell ⟨g, i * 2, none⟩ (.int .i64 (atI L j).1)).setCell ⟨g, i * 2 + 1, none⟩ (.int .i64 (atI L j).2)).setCell ⟨g, j * 2, none⟩ (.int .i64 (atI L i).1)).setCell ⟨g, j * 2 + 1, none⟩ (.int .i64 (atI L i).2)) (some g) := by
  obtain ⟨a, b⟩ := h.set i (atI L j).1 (atI L j).2
  obtain ⟨a', b'⟩ := a.set j (atI L i).1 (atI L i).2
  exact ⟨a', grown_trans b b'⟩

/-- What an exchange, or many, leave: the items are now these; nothing else has turned. -/
def RowTo (g n c : Nat) (L : List It) (w : World) (e : Ending) (w' : World) : Prop := e = .returned (.tuple #[]) ∧ RowI w' g n c L ∧ w.grownBy w' (some g)

set_option maxHeartbeats 1000000 in
theorem swap_any (hb g n c i j : Nat) (L : List It) (w : World) (hm : n ≤ 1048576) (hR : RowI w g n c L) (hH : HBox w hb (.slice (some ⟨g, 0, none⟩) n c)) (hi : i < n) (hj : j < n) (hij : i ≠ j) :
    Calls Try.prog 175 #[.pointer (some ⟨hb, 0, none⟩), .int .i64 (i : Int), .int .i64 (j : Int)] w (RowTo g n c (swapI L i j) w) := by
  have R := Lib.hid hR
  obtain ⟨hfz, hg, hc⟩ := hR.cells
  obtain ⟨h0, h1, h2⟩ := hH
  have hn := hR.2
  obtain ⟨a1, a2⟩ := hc i (by omega)
  obtain ⟨b1, b2⟩ := hc j (by omega)
  have f1 := hfz (i * 2)
  have f2 := hfz (i * 2 + 1)
  have f3 := hfz (j * 2)
  have f4 := hfz (j * 2 + 1)
  clear hfz hc hR h2 hn
  generalize hx : (atI L i).1 = x at a1
  generalize hy : (atI L i).2 = y at a2
  generalize hx' : (atI L j).1 = x' at b1
  generalize hy' : (atI L j).2 = y' at b2
  have HX := Lib.hid hx
  have HY := Lib.hid hy
  have HX' := Lib.hid hx'
  have HY' := Lib.hid hy'
  clear hx hy hx' hy'
  have i0 : (i : Int) < (n : Int) := by omega
  have j0 : (j : Int) < (n : Int) := by omega
  go_enter Try.func175, Try.ntmps175
  go_wp2
  go_region
  go_end0
  rw [← HX.out, ← HY.out, ← HX'.out, ← HY'.out]
  obtain ⟨u, v⟩ := swap_world (i := i) (j := j) R.out
  exact ⟨rfl, u.bl (Bl.refl _).drew_, grown_bl v (Bl.refl _).drew_⟩


end Go.Proofs.Ytlddileiecnkjaa
