/-
  What is proved here: the weight of an arc, as the model looks it up. No conditions beyond those that each theorem states.
-/
import Derived.Test.YtndkdeiojkclbaaA6
set_option linter.unusedSimpArgs false
set_option linter.unusedVariables false
namespace Go.Proofs.Ytndkdeiojkclbaa
open Go.RowKit

/-- Does an arc have these ends? -/
def isEnds (u v : Int) (a : Arc3) : Bool := a.1 == u && a.2.1 == v
/-- The weight of the first arc of these ends; 0: there is none. -/
def wtL (u v : Int) : List Arc3 → Int
  | [] => 0
  | a :: l => if isEnds u v a = true then a.2.2 else wtL u v l
theorem wtL_none {u v : Int} : ∀ {L : List Arc3}, (∀ k (h : k < L.length), isEnds u v L[k] = false) → wtL u v L = 0
  | [], _ => rfl
  | a :: l, h => by
    have h0 := h 0 (by simp)
    simp only [List.getElem_cons_zero] at h0
    unfold wtL
    rw [if_neg (by rw [h0]; simp)]
    exact wtL_none fun k hk => by
      have h' := h (k + 1) (by simp; omega)
      rwa [List.getElem_cons_succ] at h'
theorem wtL_at {u v : Int} : ∀ {L : List Arc3} {k : Nat} (h : k < L.length), isEnds u v L[k] = true → (∀ j (hj : j < k), isEnds u v (L[j]'(by omega)) = false) → wtL u v L = L[k].2.2
  | a :: l, 0, _, hk, _ => by
    simp only [List.getElem_cons_zero] at hk ⊢
    unfold wtL
    rw [if_pos hk]
  | a :: l, k + 1, h, hk, hj => by
    have h0 := hj 0 (by omega)
    simp only [List.getElem_cons_zero] at h0
    unfold wtL
    rw [if_neg (by rw [h0]; simp)]
    simp only [List.getElem_cons_succ] at hk ⊢
    exact wtL_at (by simpa using h) hk fun j hjk => by
      have h' := hj (j + 1) (by omega)
      rwa [List.getElem_cons_succ] at h'

theorem isEnds_no1 {u v : Int} {a : Arc3} (h : (a.1 == u) = false) : isEnds u v a = false := by unfold isEnds; rw [h, Bool.false_and]
theorem isEnds_no2 {u v : Int} {a : Arc3} (h : (a.2.1 == v) = false) : isEnds u v a = false := by unfold isEnds; rw [h, Bool.and_false]
theorem isEnds_yes {u v : Int} {a : Arc3} (h : (a.1 == u) = true) (h' : (a.2.1 == v) = true) : isEnds u v a = true := by unfold isEnds; rw [h, h']; rfl

theorem box2g {w wx : World} {a b : Value} {t : TypeId} (h : Bl (w.alloc (.cells #[a, b] t)) wx) : wx.cell? ⟨w.heap.size, 0, none⟩ = some a ∧ wx.cell? ⟨w.heap.size, 1, none⟩ = some b := by
  have hc := (bcell h).1
  exact ⟨by rw [hc _ _ (by simp)]; simp [go_sem], by rw [hc _ _ (by simp)]; simp [go_sem]⟩

-- (l1Weight_any left out)

/-- The weight of an arc of a graph; 0 where the graph is not right. -/
def weightOf (N : Int) (L : List Arc3) (u v : Int) : Int := if okB N L = true then wtL u v L else 0

-- (specWeight_any left out)

end Go.Proofs.Ytndkdeiojkclbaa
