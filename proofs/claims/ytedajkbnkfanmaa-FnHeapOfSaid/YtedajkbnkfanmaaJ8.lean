/-
  What is proved here: HeapLess, on both sides. No conditions beyond those that each theorem states.
-/
import Derived.Test.YtedajkbnkfanmaaJ6
set_option linter.unusedSimpArgs false
set_option linter.unusedVariables false
namespace Go.Proofs.Ytedajkbnkfanmaa
open Go.RowKit

theorem cs2_setKey : ∀ (l : List It) (k : Nat) (x : Int), k < l.length → cs2 (l.set k (x, (atI l k).2)) = (cs2 l).set (k * 2) (.int .i64 x)
  | [], _, _, h => absurd h (by simp)
  | a :: l, 0, x, _ => by simp [cs2, atI]
  | a :: l, k + 1, x, h => by
    have h' : k < l.length := by simpa using h
    have ih := cs2_setKey l k x h'
    have e : atI (a :: l) (k + 1) = atI l k := by simp [atI]
    rw [e, List.set_cons_succ, show (k + 1) * 2 = k * 2 + 1 + 1 from by omega]
    simp only [cs2, List.set_cons_succ]
    rw [ih]
theorem RowI.setKey {w : World} {g n c k : Nat} {L : List It} (h : RowI w g n c L) (hk : k < n) (x : Int) :
    RowI (w.setCell ⟨g, k * 2, none⟩ (.int .i64 x)) g n c (L.set k (x, (atI L k).2)) ∧ w.grownBy (w.setCell ⟨g, k * 2, none⟩ (.int .i64 x)) (some g) := by
  obtain ⟨h, rfl⟩ := h
  have h1 := Owns.stored (show Owns 30 2 w g (.slice (some ⟨g, 0, none⟩) L.length c) L.length (cs2 L) from h) (k * 2) (.int .i64 x)
  refine ⟨⟨?_, by simp⟩, h1.2⟩
  unfold OwnI
  rw [cs2_setKey _ _ _ hk, List.length_set]
  exact h1.1

/-- May the item of that id get that key? -/
def lessB (L : List It) (id key : Int) : Bool := heapI L && (decide (0 ≤ placeI L id) && decide (key ≤ (atI L (placeI L id).toNat).1))
def lessR (L : List It) (id key : Int) : List It := if lessB L id key = true then upI (L.set (placeI L id).toNat (key, (atI L (placeI L id).toNat).2)) (placeI L id).toNat else []
theorem lessR_len (L : List It) (id key : Int) : (lessR L id key).length ≤ L.length := by
  unfold lessR
  split
  · rw [upI_len, List.length_set]; exact Nat.le_refl _
  · simp
theorem lessB_no1 {L : List It} {id key : Int} (h : heapI L = false) : lessB L id key = false := by simp [lessB, h]
theorem lessB_no2 {L : List It} {id key : Int} (h : placeI L id = -1) : lessB L id key = false := by simp [lessB, h]
theorem lessB_no3 {L : List It} {id key : Int} {k : Nat} (h : placeI L id = k) (hk : (atI L k).1 < key) : lessB L id key = false := by
  simp [lessB, h]; intro _; omega
theorem lessB_yes {L : List It} {id key : Int} {k : Nat} (h0 : heapI L = true) (h : placeI L id = k) (hk : key ≤ (atI L k).1) : lessB L id key = true := by
  simp [lessB, h0, h, hk]
theorem lessR_yes {L : List It} {id key : Int} {k : Nat} (h0 : lessB L id key = true) (h : placeI L id = k) : lessR L id key = upI (L.set k (key, (atI L k).2)) k := by
  unfold lessR
  rw [if_pos h0, h]
  rfl
theorem ItemsOk.no {r : Bool} {R : List It} {w : World} {e : Ending} {w' : World} (h : r = false) (hR : r = false → R = []) (he : e = .returned (.tuple #[.slice none 0 0, .bool false])) (hb : Bl w w') : ItemsOk R r w e w' :=
  ⟨_, by rw [he, h], by rw [hR h]; exact Owns.nil_ _ _ _ _, hb⟩
theorem lessR_no {L : List It} {id key : Int} (h : lessB L id key = false) : lessR L id key = [] := if_neg (by rw [h]; simp)
-- (placeOfId_at left out)
-- (l2At_at left out)

-- (implHeapLess_any left out)

-- (specHeapLess_any left out)

end Go.Proofs.Ytedajkbnkfanmaa
