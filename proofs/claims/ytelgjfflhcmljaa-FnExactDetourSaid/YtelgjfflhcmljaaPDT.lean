/-
  What is proved here: plain facts about a graph without one of its arcs. No conditions beyond those that each theorem states.
-/
import Derived.Test.YtelgjfflhcmljaaPW
import Derived.Test.YtelgjfflhcmljaaNF4
import Derived.Test.YtelgjfflhcmljaaG2
set_option linter.unusedSimpArgs false
set_option linter.unusedVariables false
namespace Go.Proofs.Ytelgjfflhcmljaa
open Go.RowKit

theorem restL_ok {N u v : Int} {L : List Arc3} (ho : okB N L = true) : okB N (restL u v L) = true := by
  obtain ⟨h1, h2, h3, ha, hp⟩ := okB_elim ho
  refine okB_intro h1 h2 ?_ (fun a h => ha a ((List.mem_filter.1 h).1)) (restL_sorted u v hp)
  have : (restL u v L).length ≤ L.length := by unfold restL; exact List.length_filter_le _ _
  omega
theorem restL_nopair {N u v : Int} {L : List Arc3} (ho : okB N L = true) (h : pairB N u v = false) : restL u v L = L := by
  obtain ⟨h1, h2, h3, ha, hp⟩ := okB_elim ho
  refine restL_same fun b hb => ?_
  have hb' := ha b hb
  unfold arcB at hb'
  unfold pairB at h
  simp only [decide_eq_true_eq, decide_eq_false_iff_not] at hb' h
  rw [Bool.eq_false_iff]
  intro he
  rw [isEnds_iff] at he
  obtain ⟨e1, e2⟩ := he
  rw [e1, e2] at hb'
  exact h hb'.1
theorem weighed0 (u v : Int) (L : List Arc3) : weighedL u v 0 L = restL u v L := by unfold weighedL; rw [if_neg (by omega)]
theorem weighedB0 {N u v : Int} {L : List Arc3} (ho : okB N L = true) : weighedB N L u v 0 = pairB N u v := by
  unfold weighedB
  rw [weighed0, restL_ok ho, ho, show inB 0 0 1000 = true from by decide]
  simp
/-- How far it is without an arc. -/
def detI (N : Int) (L : List Arc3) (s t u v : Int) : Int := if has2 N L s t = true then dAt (distL N (restL u v L) s) t else -1

end Go.Proofs.Ytelgjfflhcmljaa
