/-
  What is proved here: the walk of the exact law on HeapOk: at all items that can be read it returns true and leaves what was there as it was. No conditions beyond those that each theorem states.
-/
import Derived.Test.YtedajkbnkfanmaaJ1
set_option linter.unusedSimpArgs false
set_option linter.unusedVariables false
namespace Go.Proofs.Ytedajkbnkfanmaa
open Go.RowKit

theorem OwnI.at_ {w : World} {B : Nat} {A : Option Addr} {n c : Nat} {L : List It} (h : OwnI w B (.slice A n c) L) : ItemsAt w w.heap.size A L := by
  obtain ⟨A', c', e, _, hc, _⟩ := Owns.shape h
  injection e with e1 e2 e3
  rw [e1]
  exact hc
theorem OwnI.rows_ {w : World} {B : Nat} {A : Option Addr} {n c : Nat} {L : List It} (h : OwnI w B (.slice A n c) L) (hn : n = L.length) : ItemsW w A n := by
  subst hn
  obtain ⟨A', c', e, _, _, hc, _⟩ := Owns.shape h
  injection e with e1 e2 e3
  rw [e1]
  exact hc

-- (lawHeapOk_any left out)

end Go.Proofs.Ytedajkbnkfanmaa
