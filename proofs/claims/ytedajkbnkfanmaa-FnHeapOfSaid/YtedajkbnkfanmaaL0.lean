/-
  What is proved here: whatever items come in read as a list of pairs of numbers of 64 bits. No conditions.
-/
import Derived.Test.YtedajkbnkfanmaaRows
import Derived.Test.YtedajkbnkfanmaaI2
import Derived.Test.YtedajkbnkfanmaaZ0
import Derived.ProofKit
import Derived.OpenShut
import Derived.ShutString
import Derived.ChangeOld
import Derived.Deep.Slices
import Derived.Deep.Fields
import Derived.ChangeSame
import Derived.Lib.SmallJoins
set_option linter.unusedSimpArgs false
set_option linter.unusedVariables false
namespace Go.Proofs.Ytedajkbnkfanmaa
open Go.ChangeShapes Go.WideShapes Go.ChangeAt Go.RowKit Go.Deep Go.Joins


/-- Keys and ids are numbers of 64 bits. -/
def WfL (L : List It) : Prop := ∀ k, (Lit.int .i64 (atI L k).1).wf = true ∧ (Lit.int .i64 (atI L k).2).wf = true

-- (open_items left out)

end Go.Proofs.Ytedajkbnkfanmaa
