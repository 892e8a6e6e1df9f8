/-
  What is proved here: HeapOk, as the code and as the model tell it. No conditions beyond those that each theorem states.
-/
import Derived.Test.YtelgjfflhcmljaaI8
import Derived.Test.YtelgjfflhcmljaaI5
import Derived.Laws.EntriesVeiled
set_option linter.unusedSimpArgs false
set_option linter.unusedVariables false
namespace Go.Proofs.Ytelgjfflhcmljaa
open Go.RowKit

theorem ItemsAt.cellI {w : World} {B : Nat} {A : Option Addr} {L : List It} (h : ItemsAt w B A L) (h0 : 0 < L.length) :
    ∃ g off, A = some ⟨g, off, none⟩ ∧ g < B ∧ ∀ k (hk : k < L.length), w.cell? ⟨g, off + k * 2, none⟩ = some (.int .i64 (atI L k).1) ∧ w.cell? ⟨g, off + k * 2 + 1, none⟩ = some (.int .i64 (atI L k).2) := by
  obtain ⟨g, off, e, hg, hc⟩ := h.cell h0
  exact ⟨g, off, e, hg, fun k hk => by rw [atI_eq hk]; exact hc k hk⟩

-- (isHeap_any left out)

-- (implHeapOk_any left out)

end Go.Proofs.Ytelgjfflhcmljaa
