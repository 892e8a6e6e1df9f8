/-
  What is proved here: the walk of the law FnPop: at every code that can be read it returns true and leaves what was there as it was. No conditions beyond those that each theorem states.
-/
import Derived.Test.YtedajkbnkfanmaaR4
import Derived.Test.YtedajkbnkfanmaaHM3
import Derived.Test.YtedajkbnkfanmaaJ10
set_option linter.unusedSimpArgs false
set_option linter.unusedVariables false
namespace Go.Proofs.Ytedajkbnkfanmaa
open Go.RowKit

theorem popRest_all {L : List It} (h : popB L = true) : heapI (popRest L) = true ∧ popFirst L ∈ L ∧ popFirst L ∉ popRest L ∧ (popRest L).length + 1 = L.length ∧ (∀ a ∈ L, lessI a (popFirst L) = false ∧ (a ≠ popFirst L → a ∈ popRest L)) := by
  have hb := h
  simp only [popB, Bool.and_eq_true, decide_eq_true_eq] at hb
  rcases L with _ | ⟨f, t⟩
  · simp at hb
  · obtain ⟨h1, h2, h3, h4⟩ := pop_heap hb.1
    rw [show popRest (f :: t) = downI (cutI (f :: t)) 0 from if_pos h, show popFirst (f :: t) = f from by unfold popFirst; rw [if_pos h]; rfl]
    refine ⟨h1, by simp, fun hm => h3 (List.mem_map.2 ⟨f, h2.mem_iff.1 hm, rfl⟩), by rw [h2.length_eq]; simp, fun a ha => ⟨h4 a ha, fun hne => h2.mem_iff.2 ?_⟩⟩
    rw [List.mem_cons] at ha
    exact ha.resolve_left hne
theorem popRest_wf {L : List It} (h : WfL L) : WfL (popRest L) := by
  cases hp : popB L with
  | false =>
    rw [show popRest L = [] from if_neg (by rw [hp]; simp)]
    intro k
    simp [atI]; decide
  | true =>
    rw [show popRest L = popL L from if_pos hp]
    unfold popL
    refine downI_all (P := fun x => (Lit.int .i64 x.1).wf = true ∧ (Lit.int .i64 x.2).wf = true) (fun k => ?_) 0
    have hs := set_all (P := fun x => (Lit.int .i64 x.1).wf = true ∧ (Lit.int .i64 x.2).wf = true) h (h (L.length - 1)) 0
    rcases Nat.lt_or_ge k (L.length - 1) with hk | hk
    · rw [show atI ((L.set 0 (atI L (L.length - 1))).take (L.length - 1)) k = atI (L.set 0 (atI L (L.length - 1))) k from by
        simp only [atI, List.getD_eq_getElem?_getD, List.getElem?_take, if_pos hk]]
      exact hs k
    · rw [show atI ((L.set 0 (atI L (L.length - 1))).take (L.length - 1)) k = (0, 0) from by
        show List.getD _ _ _ = _
        rw [List.getD_eq_getElem?_getD, List.getElem?_eq_none (by rw [List.length_take]; omega)]; rfl]
      exact ⟨by decide, by decide⟩
theorem popRest_le (L : List It) : (popRest L).length ≤ L.length := by
  unfold popRest
  split
  · unfold popL
    rw [downI_len, List.length_take, List.length_set]
    omega
  · simp
-- (drawHeapPop_any left out)

-- (lawPop_any left out)

end Go.Proofs.Ytedajkbnkfanmaa
