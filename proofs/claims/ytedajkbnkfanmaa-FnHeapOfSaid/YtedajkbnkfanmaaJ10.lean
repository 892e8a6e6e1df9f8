/-
  What is proved here: HeapPop as the model has it. No conditions beyond those that each theorem states.
-/
import Derived.Test.YtedajkbnkfanmaaJ7
set_option linter.unusedSimpArgs false
set_option linter.unusedVariables false
namespace Go.Proofs.Ytedajkbnkfanmaa
open Go.RowKit

-- (specHeapPop_any left out)

end Go.Proofs.Ytedajkbnkfanmaa
