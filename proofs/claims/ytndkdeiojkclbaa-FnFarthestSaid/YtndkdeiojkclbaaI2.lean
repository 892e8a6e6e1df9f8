/-
  What is proved here: items that are copied, marked, and held against their marks. No conditions beyond those that each theorem states.
-/
import Derived.Test.YtndkdeiojkclbaaI1
set_option linter.unusedSimpArgs false
set_option linter.unusedVariables false
namespace Go.Proofs.Ytndkdeiojkclbaa
open Go.RowKit

/-- The cells of n new items. -/
def mk2 (n : Nat) : Array Value := madeCells (Value.agg #[.int .i64 0, .int .i64 0]).cells (n * 2)
theorem size_mk2 (n : Nat) : (mk2 n).size = n * 2 := size_madeCells _ _
theorem make_items (n : Nat) (hn : n ≤ 1048576) (w : World) : (Instr.makeSlice 71 (.int .i64 (n : Int)) (.int .i64 (n : Int))).run Try.prog w = .ok (.slice (some ⟨w.heap.size, 0, none⟩) n n) (w.alloc (.cells (mk2 n) 50)) := by
  obtain ⟨i0, hi, hz0, hz1, hz2⟩ := info_parts infoItem
  have h := run_make_rowN (P := Try.prog) 71 50 i0 _ Try.underlying71 hi hz0 .i64 .i64 n n (Nat.le_refl _) (by rw [hz2]; omega) (by omega) w
  rw [hz1] at h
  exact h

/-- What a copy of items leaves: a row of its own. -/
def ItemsMade (n : Nat) (L : List It) (w : World) (e : Ending) (w' : World) : Prop :=
  ∃ g, e = .returned (.slice (some ⟨g, 0, none⟩) n n) ∧ OwnI w' w.heap.size (.slice (some ⟨g, 0, none⟩) n n) L ∧ Bl w w' ∧ w.heap.size < w'.heap.size

/-- A row whose first k items are those of L. -/
def Filled (w : World) (g n k : Nat) (L : List It) : Prop := ∃ cur : Array Value, w.heap[g]? = some (.cells cur 50 (0, 0)) ∧ cur.size = n * 2 ∧ ∀ j (h : j < k) (h' : j < L.length), cur[j * 2]? = some (.int .i64 L[j].1) ∧ cur[j * 2 + 1]? = some (.int .i64 L[j].2)
theorem Filled.cells {w : World} {g n k : Nat} {L : List It} (h : Filled w g n k L) : (∀ o, w.frozen? ⟨g, o, none⟩ = false) ∧ g < w.heap.size ∧ ∀ o, o < n * 2 → ∃ v, w.cell? ⟨g, o, none⟩ = some v := by
  obtain ⟨cur, hb, hs, _⟩ := h
  refine ⟨fun o => by simp [World.frozen?, hb], (Array.getElem?_eq_some_iff.1 hb).1, fun o ho => ⟨cur[o]'(by omega), ?_⟩⟩
  simp [World.cell?, hb, show o < cur.size from by omega]
theorem Filled.step {w : World} {g n k : Nat} {L : List It} (h : Filled w g n k L) (hk : k < n) (hl : k < L.length) {x y : Int} (hx : L[k].1 = x) (hy : L[k].2 = y) :
    Filled ((w.setCell ⟨g, k * 2, none⟩ (.int .i64 x)).setCell ⟨g, k * 2 + 1, none⟩ (.int .i64 y)) g n (k + 1) L := by
  obtain ⟨cur, hb, hs, hf⟩ := h
  refine ⟨(cur.setIfInBounds (k * 2) (.int .i64 x)).setIfInBounds (k * 2 + 1) (.int .i64 y), heap_setCell_same _ g _ _ _ _ (heap_setCell_same w g _ cur _ _ hb), by simpa using hs, fun j hj hj' => ?_⟩
  rcases Nat.lt_or_ge j k with h | h
  · obtain ⟨a, b⟩ := hf j h hj'
    refine ⟨?_, ?_⟩
    · rw [Array.getElem?_setIfInBounds_ne (by omega), Array.getElem?_setIfInBounds_ne (by omega)]; exact a
    · rw [Array.getElem?_setIfInBounds_ne (by omega), Array.getElem?_setIfInBounds_ne (by omega)]; exact b
  · obtain rfl : j = k := by omega
    refine ⟨?_, ?_⟩
    · rw [Array.getElem?_setIfInBounds_ne (by omega), Array.getElem?_setIfInBounds_self_of_lt (by omega), hx]
    · rw [Array.getElem?_setIfInBounds_self_of_lt (by simp; omega), hy]
theorem list_ext2 {c : List Value} {L : List It} (hs : c.length = L.length * 2) (h : ∀ j (h' : j < L.length), c[j * 2]? = some (.int .i64 L[j].1) ∧ c[j * 2 + 1]? = some (.int .i64 L[j].2)) : c = cs2 L := by
  apply List.ext_getElem?
  intro i
  rcases Nat.lt_or_ge i (L.length * 2) with hi | hi
  · have hj : i / 2 < L.length := by omega
    obtain ⟨a, b⟩ := h (i / 2) hj
    obtain ⟨x, y⟩ := cs2_at L (i / 2) hj
    rcases Nat.mod_two_eq_zero_or_one i with hm | hm
    · rw [show i = i / 2 * 2 from by omega, a, x]
    · rw [show i = i / 2 * 2 + 1 from by omega, b, y]
  · rw [List.getElem?_eq_none (by omega), List.getElem?_eq_none (by rw [cs2_length]; omega)]
theorem Filled.own {w : World} {B g n : Nat} {L : List It} (h : Filled w g n n L) (hn : n = L.length) (hm : n ≤ 1048576) (hB : B ≤ g) : OwnI w B (.slice (some ⟨g, 0, none⟩) n n) L := by
  obtain ⟨cur, hb, hs, hf⟩ := h
  subst hn
  refine ⟨by rw [cs2_length], .inr ⟨g, L.length, cur, rfl, hB, hb, Nat.le_refl _, by unfold maxLen; omega, hs, ?_⟩⟩
  rw [List.take_of_length_le (by simp; omega)]
  exact list_ext2 (by simpa using hs) fun j hj => by
    obtain ⟨a, b⟩ := hf j hj hj
    exact ⟨by simpa using a, by simpa using b⟩

-- (toItemS_any left out)

-- (markItemS_any left out)

-- (heldItemS_any left out)

end Go.Proofs.Ytndkdeiojkclbaa
