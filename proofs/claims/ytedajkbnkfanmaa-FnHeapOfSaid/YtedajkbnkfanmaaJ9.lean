/-
  What is proved here: HeapPush, as the code has it. No conditions beyond those that each theorem states.
-/
import Derived.Test.YtedajkbnkfanmaaJ8
set_option linter.unusedSimpArgs false
set_option linter.unusedVariables false
namespace Go.Proofs.Ytedajkbnkfanmaa
open Go.RowKit

/-- May the item be put in? -/
def pushB (L : List It) (x : It) : Bool := heapI L && (decide (L.length ≠ 100) && decide (placeI L x.2 < 0))
def pushR (L : List It) (x : It) : List It := if pushB L x = true then upI (L ++ [x]) L.length else []
theorem pushB_no1 {L : List It} {x : It} (h : heapI L = false) : pushB L x = false := by simp [pushB, h]
theorem pushB_no2 {L : List It} {x : It} (h : L.length = 100) : pushB L x = false := by simp [pushB, h]
theorem pushB_no3 {L : List It} {x : It} (h : 0 ≤ placeI L x.2) : pushB L x = false := by
  simp [pushB]; intro _ _; exact h
theorem pushB_yes {L : List It} {x : It} (h : heapI L = true) (h1 : L.length ≠ 100) (h2 : placeI L x.2 < 0) : pushB L x = true := by simp [pushB, h, h1, h2]
theorem pushR_no {L : List It} {x : It} (h : pushB L x = false) : pushR L x = [] := if_neg (by rw [h]; simp)
theorem pushR_yes {L : List It} {x : It} (h : pushB L x = true) : pushR L x = upI (L ++ [x]) L.length := if_pos h
theorem pushB_len {L : List It} {x : It} (h : pushB L x = true) : L.length < 100 := by
  simp [pushB, heapI] at h
  omega
theorem pushR_len (L : List It) (x : It) : (pushR L x).length ≤ 100 := by
  cases h : pushB L x with
  | true =>
    have := pushB_len h
    rw [pushR_yes h, upI_len]
    simp
    omega
  | false => rw [pushR_no h]; simp

-- (implHeapPush_any left out)

end Go.Proofs.Ytedajkbnkfanmaa
