/-
  What is proved here: contracts of the laws' small functions on items and on slices of items. No conditions beyond those that each theorem states.
-/
import Derived.Test.YtndkdeiojkclbaaW1
import Derived.Test.YtndkdeiojkclbaaHM
set_option linter.unusedSimpArgs false
set_option linter.unusedVariables false
namespace Go.Proofs.Ytndkdeiojkclbaa
open Go.RowKit

/-- The cells of items, one behind the other. -/
def cs2 : List It → List Value
  | [] => []
  | a :: l => .int .i64 a.1 :: .int .i64 a.2 :: cs2 l
theorem cs2_append : ∀ (l m : List It), cs2 (l ++ m) = cs2 l ++ cs2 m
  | [], _ => rfl
  | a :: l, m => by simp [cs2, cs2_append l m]
theorem cs2_length : ∀ (l : List It), (cs2 l).length = l.length * 2
  | [] => rfl
  | a :: l => by simp [cs2, cs2_length l]; omega
theorem cs2_at : ∀ (l : List It) (k : Nat) (h : k < l.length), (cs2 l)[k * 2]? = some (.int .i64 l[k].1) ∧ (cs2 l)[k * 2 + 1]? = some (.int .i64 l[k].2)
  | a :: l, 0, _ => ⟨rfl, rfl⟩
  | a :: l, k + 1, h => by
    have h' : k < l.length := by simpa using h
    obtain ⟨x, y⟩ := cs2_at l k h'
    have e0 : (k + 1) * 2 = k * 2 + 2 := by omega
    refine ⟨?_, ?_⟩
    · rw [e0]; simpa [cs2] using x
    · rw [e0, show k * 2 + 2 + 1 = (k * 2 + 1) + 2 from by omega]; simpa [cs2] using y
theorem cs2_set : ∀ (l : List It) (k : Nat) (x : It), cs2 (l.set k x) = ((cs2 l).set (k * 2) (.int .i64 x.1)).set (k * 2 + 1) (.int .i64 x.2)
  | [], _, _ => by simp [cs2]
  | a :: l, 0, x => by simp [cs2]
  | a :: l, k + 1, x => by
    have e0 : (k + 1) * 2 = k * 2 + 2 := by omega
    rw [e0, show k * 2 + 2 + 1 = (k * 2 + 1) + 2 from by omega]
    simp [cs2, cs2_set l k x]
theorem cs2_take : ∀ (l : List It) (k : Nat), cs2 (l.take k) = (cs2 l).take (k * 2)
  | [], _ => by simp [cs2]
  | a :: l, 0 => by simp [cs2]
  | a :: l, k + 1 => by
    rw [show (k + 1) * 2 = k * 2 + 2 from by omega]
    simp [cs2, cs2_take l k]

/-- The slice at A reads as the items L, below block B. -/
def ItemsAt (w : World) (B : Nat) (A : Option Addr) (L : List It) : Prop := CellsAt w B A (cs2 L)
theorem ItemsAt.cell {w : World} {B : Nat} {A : Option Addr} {L : List It} (h : ItemsAt w B A L) (h0 : 0 < L.length) :
    ∃ g off, A = some ⟨g, off, none⟩ ∧ g < B ∧ ∀ k (hk : k < L.length), w.cell? ⟨g, off + k * 2, none⟩ = some (.int .i64 L[k].1) ∧ w.cell? ⟨g, off + k * 2 + 1, none⟩ = some (.int .i64 L[k].2) := by
  obtain ⟨g, off, e, hg, hc⟩ := h (by rw [cs2_length]; omega)
  refine ⟨g, off, e, hg, fun k hk => ?_⟩
  obtain ⟨x, y⟩ := cs2_at L k hk
  have hl := cs2_length L
  refine ⟨?_, ?_⟩
  · rw [hc (k * 2) (by omega), ← x, List.getElem?_eq_getElem]
  · rw [Nat.add_assoc, hc (k * 2 + 1) (by omega), ← y, List.getElem?_eq_getElem]
theorem ItemsAt.bl {w w' : World} {A : Option Addr} {L : List It} (h : ItemsAt w w.heap.size A L) (hb : Bl w w') : ItemsAt w' w'.heap.size A L := CellsAt.bl h hb
theorem ItemsAt.bl' {w w' : World} {B : Nat} {A : Option Addr} {L : List It} (h : ItemsAt w B A L) (hB : B ≤ w.heap.size) (hb : Bl w w') : ItemsAt w' B A L := CellsAt.bl' h hB hb
theorem ItemsAt.more {w : World} {B B' : Nat} {A : Option Addr} {L : List It} (h : ItemsAt w B A L) (hB : B ≤ B') : ItemsAt w B' A L := CellsAt.more h hB
theorem ItemsAt.grown_ {w w' : World} {B : Nat} {A : Option Addr} {L : List It} {row : Option Nat} (h : ItemsAt w B A L) (hB : B ≤ w.heap.size) (hg : w.grownBy w' row)
    (hne : ∀ g, blockOf A = some g → g < B → some g ≠ row) : ItemsAt w' B A L := CellsAt.grown_ h hB hg hne

/-- The value v owns the items L, in blocks from B on. -/
def OwnI (w : World) (B : Nat) (v : Value) (L : List It) : Prop := Owns 50 2 w B v L.length (cs2 L)
/-- The items may be written. -/
def ItemsW (w : World) (A : Option Addr) (n : Nat) : Prop := RowsW 50 2 w A n

theorem infoItem : (Try.prog.info? 50).map (fun i => (i.zero, i.size, i.bytes)) = some (some (.agg #[.int .i64 0, .int .i64 0]), 2, 16) := by kernel_rfl

-- (szItemS_any left out)
-- (szItemS_small left out)

-- (toItem_any left out)

-- (eqItem_yes left out)

-- (eqItemS_yes left out)

end Go.Proofs.Ytndkdeiojkclbaa
