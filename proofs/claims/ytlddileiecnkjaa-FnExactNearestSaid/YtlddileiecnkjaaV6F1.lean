/-
  What is proved here: arcs in order with one more, as the model puts it in. No conditions beyond those that each theorem states.
-/
import Derived.Test.YtlddileiecnkjaaV6G03
set_option linter.unusedSimpArgs false
set_option linter.unusedVariables false
namespace Go.Proofs.Ytlddileiecnkjaa
open Go.RowKit

/-- One round of putting an arc in: the arcs so far; is it in? -/
def putStep (a : Arc3) (s : List Arc3 × Bool) (x : Arc3) : List Arc3 × Bool :=
  ((if !s.2 && !(aheadB x.1 x.2.1 a.1 a.2.1) then s.1 ++ [a] else s.1) ++ (if (x.1 != a.1) || (x.2.1 != a.2.1) then [x] else []), s.2 || !(aheadB x.1 x.2.1 a.1 a.2.1))
def putSt (a : Arc3) (L : List Arc3) (k : Nat) : List Arc3 × Bool := (L.take k).foldl (putStep a) ([], false)
/-- The arcs with one more. -/
def putL (a : Arc3) (L : List Arc3) : List Arc3 := if (putSt a L L.length).2 = true then (putSt a L L.length).1 else (putSt a L L.length).1 ++ [a]


theorem OwnA.bl {w w' : World} {B : Nat} {v : Value} {L : List Arc3} (h : OwnA w B v L) (hb : Bl w w') : OwnA w' B v L :=
  ⟨h.1, h.2.imp id (fun ⟨g, cap, cur, a, b, c, d⟩ => ⟨g, cap, cur, a, b, (Below.block (show Below w.heap.size w w' from hb) g (Array.getElem?_eq_some_iff.1 c).1).trans c, d⟩)⟩


end Go.Proofs.Ytlddileiecnkjaa
