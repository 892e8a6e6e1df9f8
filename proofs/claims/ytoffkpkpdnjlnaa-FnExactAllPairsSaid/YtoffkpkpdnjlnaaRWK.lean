/-
  What is proved here: plain words on the rows of all distances. No conditions beyond those that each theorem states.
-/
import Derived.Test.YtoffkpkpdnjlnaaNS2
import Derived.Test.YtoffkpkpdnjlnaaWS
set_option linter.unusedSimpArgs false
set_option linter.unusedVariables false
namespace Go.Proofs.Ytoffkpkpdnjlnaa
open Go.RowKit

/-- The rows of all distances. -/
def rowsK (q : Nat) (L : List Arc3) (k : Nat) : List (List Int) := (List.range k).map fun (j : Nat) => distL q L (j : Int)
theorem rowsK_len (q : Nat) (L : List Arc3) (k : Nat) : (rowsK q L k).length = k := by simp [rowsK]
theorem rowsK_at {q : Nat} {L : List Arc3} {k j : Nat} (h : j < (rowsK q L k).length) : (rowsK q L k)[j] = distL q L (j : Int) := by simp [rowsK]
theorem rowsK_succ (q : Nat) (L : List Arc3) (k : Nat) : rowsK q L (k + 1) = rowsK q L k ++ [distL q L (k : Int)] := by simp [rowsK, List.range_succ]

end Go.Proofs.Ytoffkpkpdnjlnaa
