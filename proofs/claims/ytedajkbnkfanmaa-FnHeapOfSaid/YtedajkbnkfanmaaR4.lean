/-
  What is proved here: the law FnPush: what is pushed is there with all others, in a heap. No conditions beyond those that each theorem states.
-/
import Derived.Test.YtedajkbnkfanmaaR3
set_option linter.unusedSimpArgs false
set_option linter.unusedVariables false
namespace Go.Proofs.Ytedajkbnkfanmaa
open Go.RowKit

/-- Items and one more that are drawn by a code. -/
def DrawnP (w : World) (e : Ending) (w' : World) : Prop :=
  ∃ v L x y, e = .returned (.tuple #[v, .agg #[.int .i64 x, .int .i64 y]]) ∧ OwnI w' w.heap.size v L ∧ WfL L ∧ L.length ≤ 20 ∧ (Lit.int .i64 x).wf = true ∧ (Lit.int .i64 y).wf = true ∧ Bl w w'

-- (drawHeapPush_any left out)

theorem pushR_wf {L : List It} {x : It} (h : WfL L) (h1 : (Lit.int .i64 x.1).wf = true) (h2 : (Lit.int .i64 x.2).wf = true) : WfL (pushR L x) := by
  cases hp : pushB L x with
  | false => rw [pushR_no hp]; intro k; simp [atI]; decide
  | true =>
    rw [pushR_yes hp]
    have hP := upI_perm L.length (L ++ [x]) (by simp)
    intro k
    rcases Nat.lt_or_ge k (upI (L ++ [x]) L.length).length with hk | hk
    · have hm : atI (upI (L ++ [x]) L.length) k ∈ L ++ [x] := hP.mem_iff.1 (by rw [atI_eq hk]; exact List.getElem_mem hk)
      rw [List.mem_append] at hm
      rcases hm with hm | hm
      · obtain ⟨j, hj, e⟩ := List.mem_iff_getElem.1 hm
        rw [← e, ← atI_eq hj]
        exact h j
      · simp at hm
        rw [hm]
        exact ⟨h1, h2⟩
    · have e : atI (upI (L ++ [x]) L.length) k = (0, 0) := by simp [atI, hk]
      rw [e]
      exact ⟨by decide, by decide⟩

end Go.Proofs.Ytedajkbnkfanmaa
