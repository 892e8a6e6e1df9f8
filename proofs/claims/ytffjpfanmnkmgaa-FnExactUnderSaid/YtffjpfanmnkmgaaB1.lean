/-
  What is proved here: the walk of the exact law on GraphOk: at every graph that can be read it returns true and leaves what was there as it was. No conditions beyond those that each theorem states.
-/
import Derived.Test.YtffjpfanmnkmgaaA4
import Derived.Test.YtffjpfanmnkmgaaA6
set_option linter.unusedSimpArgs false
set_option linter.unusedVariables false
namespace Go.Proofs.Ytffjpfanmnkmgaa
open Go.RowKit


theorem szGraph_small (N : Int) (A : Option Addr) (n c : Nat) (w : World) (hn : n ≤ 1048576) :
    Calls Try.prog 39 #[.agg #[.int .i64 N, .slice A n c], .int .i64 1048576] w fun e w' => e = .returned (.int .i64 (1048576 - n)) ∧ Bl w w' :=
  (szGraph_any N A n c 1048576 w (by omega) (by omega) (by omega)).mono fun e w' ⟨he, hb⟩ => ⟨by rw [he, if_neg (by omega)], hb⟩

-- (lawGraphOk_any left out)

end Go.Proofs.Ytffjpfanmnkmgaa
