/-
  What is proved here: spec.Weighed answers as the code does. No conditions beyond those that each theorem states.
-/
import Derived.Test.YtmdmbobjdhjadaaG3
set_option linter.unusedSimpArgs false
set_option linter.unusedVariables false
namespace Go.Proofs.Ytmdmbobjdhjadaa
open Go.RowKit

theorem pair_eq {N u v : Int} {L : List Arc3} (h : okB N L = true) : pairB N u v = (nodeB N u && nodeB N v && !(u == v)) := by
  obtain ⟨h1, h2, _⟩ := okB_elim h
  have hw : wrap64 (N - 1) = N - 1 := IntWalk.wrap64_in _ (by omega)
  unfold pairB nodeB inB
  rw [hw, Bool.eq_iff_iff]
  simp
  omega
theorem weighed_len (u v x : Int) (L : List Arc3) : (weighedL u v x L).length ≤ L.length + 1 := by
  have h : (restL u v L).length ≤ L.length := by unfold restL; exact List.length_filter_le _ _
  unfold weighedL
  split
  · exact Nat.le_trans (putL_len _ _) (by omega)
  · omega

-- (specWeighed_any left out)

end Go.Proofs.Ytmdmbobjdhjadaa
