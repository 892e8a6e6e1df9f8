/-
  No cell of these rows narrows 'for every input' (looked for: loops, veiled, ifaces, maps, wideKeys, modest, calm, conditions, laid).
  DERIVED. THE GIVEN ROWS OF THIS SEAT. 12 by the template 'for every input the law returns true; each argument reads behind the call as it read before'; 0 by the template 'total and deterministic' (their statements: YtkfladkncfbgmaaTotals.lean).
  GIVEN WITH THE SEED: the statements are not yours to turn. If you find one false, say at which input.
  Laid BY PROGRAM, IN A SANDBOX (cutbox-rows.mjs): the forced cells as the released guide's own fill.sh prints them over the translation d43941496a8ca94f… (all of the seat's roots in one cut). By AI agents, Wed Nov 11 2026. No macro, syntax, notation, axiom, sorry.
-/
import Derived.Test.YtkfladkncfbgmaaChecked
import GoSem.Claim
import GoSem.ClaimJoined
import GoSem.ClaimMapViews
import Derived.JoinedTies
import Derived.KernelRfl
namespace Go.Proofs.Ytkfladkncfbgmaa
/- THE CELL 'sum', in the pinned program and in every row, IS THE sha256 OF THE DUMP (.gsa) THAT YtkfladkncfbgmaaProg.lean LOADS. Nothing in Lean hashes anything: it is a label: what it is worth is what the hold of that sum in a sandbox is worth. -/
noncomputable def Try.pinned : Pinned := { name := "ytkfladkncfbgmaa", sum := "d43941496a8ca94f66e2dd7aebbf7baeb6f31116681734fb3b87f14e6da36fcd", checked := Try.checked }
namespace Rows
def none {H : Type} : Left H := { results := [], args := [] }

/-- 'laws.FnFromAll': WHATEVER THE INPUT: true; the input reads as it did. -/
def fnFromAllSpec : ChangeSpec := { name := "fnFromAll", fn := fun _ => fun
  | [d] => { results := [.lit (.bool true)], args := [d] }
  | _ => none }
def fnFromAllRow : OpenClaim := { program := "ytkfladkncfbgmaa", sum := "d43941496a8ca94f66e2dd7aebbf7baeb6f31116681734fb3b87f14e6da36fcd", func := "loop.example/g00546/laws.FnFromAll", spec := "fnFromAll", unfollowed := true, recurses := true, apart := false }
def FnFromAllSaid : Prop := fnFromAllRow.holds Try.pinned (OpenSpec.ofChange fnFromAllSpec)

/-- ITS FALSE NEIGHBOUR: 'it returns false'. Refute it at one input. -/
def fnFromAllWrong : ChangeSpec := { name := "fnFromAll", fn := fun _ => fun
  | [d] => { results := [.lit (.bool false)], args := [d] }
  | _ => none }
def FnFromAllWrongFalsely : Prop := fnFromAllRow.holds Try.pinned (OpenSpec.ofChange fnFromAllWrong)

/-- 'laws.FnTriangle': WHATEVER THE INPUT: true; the input reads as it did. -/
def fnTriangleSpec : ChangeSpec := { name := "fnTriangle", fn := fun _ => fun
  | [d] => { results := [.lit (.bool true)], args := [d] }
  | _ => none }
def fnTriangleRow : OpenClaim := { program := "ytkfladkncfbgmaa", sum := "d43941496a8ca94f66e2dd7aebbf7baeb6f31116681734fb3b87f14e6da36fcd", func := "loop.example/g00546/laws.FnTriangle", spec := "fnTriangle", unfollowed := true, recurses := true, apart := false }
def FnTriangleSaid : Prop := fnTriangleRow.holds Try.pinned (OpenSpec.ofChange fnTriangleSpec)

/-- ITS FALSE NEIGHBOUR: 'it returns false'. Refute it at one input. -/
def fnTriangleWrong : ChangeSpec := { name := "fnTriangle", fn := fun _ => fun
  | [d] => { results := [.lit (.bool false)], args := [d] }
  | _ => none }
def FnTriangleWrongFalsely : Prop := fnTriangleRow.holds Try.pinned (OpenSpec.ofChange fnTriangleWrong)

/-- 'laws.FnDist': WHATEVER THE INPUT: true; the input reads as it did. -/
def fnDistSpec : ChangeSpec := { name := "fnDist", fn := fun _ => fun
  | [d] => { results := [.lit (.bool true)], args := [d] }
  | _ => none }
def fnDistRow : OpenClaim := { program := "ytkfladkncfbgmaa", sum := "d43941496a8ca94f66e2dd7aebbf7baeb6f31116681734fb3b87f14e6da36fcd", func := "loop.example/g00546/laws.FnDist", spec := "fnDist", unfollowed := true, recurses := true, apart := false }
def FnDistSaid : Prop := fnDistRow.holds Try.pinned (OpenSpec.ofChange fnDistSpec)

/-- ITS FALSE NEIGHBOUR: 'it returns false'. Refute it at one input. -/
def fnDistWrong : ChangeSpec := { name := "fnDist", fn := fun _ => fun
  | [d] => { results := [.lit (.bool false)], args := [d] }
  | _ => none }
def FnDistWrongFalsely : Prop := fnDistRow.holds Try.pinned (OpenSpec.ofChange fnDistWrong)

/-- 'laws.FnOuts': WHATEVER THE INPUT: true; the input reads as it did. -/
def fnOutsSpec : ChangeSpec := { name := "fnOuts", fn := fun _ => fun
  | [d] => { results := [.lit (.bool true)], args := [d] }
  | _ => none }
def fnOutsRow : OpenClaim := { program := "ytkfladkncfbgmaa", sum := "d43941496a8ca94f66e2dd7aebbf7baeb6f31116681734fb3b87f14e6da36fcd", func := "loop.example/g00546/laws.FnOuts", spec := "fnOuts", unfollowed := true, recurses := true, apart := false }
def FnOutsSaid : Prop := fnOutsRow.holds Try.pinned (OpenSpec.ofChange fnOutsSpec)

/-- ITS FALSE NEIGHBOUR: 'it returns false'. Refute it at one input. -/
def fnOutsWrong : ChangeSpec := { name := "fnOuts", fn := fun _ => fun
  | [d] => { results := [.lit (.bool false)], args := [d] }
  | _ => none }
def FnOutsWrongFalsely : Prop := fnOutsRow.holds Try.pinned (OpenSpec.ofChange fnOutsWrong)

/-- 'laws.FnOutsTurned': WHATEVER THE INPUT: true; the input reads as it did. -/
def fnOutsTurnedSpec : ChangeSpec := { name := "fnOutsTurned", fn := fun _ => fun
  | [d] => { results := [.lit (.bool true)], args := [d] }
  | _ => none }
def fnOutsTurnedRow : OpenClaim := { program := "ytkfladkncfbgmaa", sum := "d43941496a8ca94f66e2dd7aebbf7baeb6f31116681734fb3b87f14e6da36fcd", func := "loop.example/g00546/laws.FnOutsTurned", spec := "fnOutsTurned", unfollowed := true, recurses := true, apart := false }
def FnOutsTurnedSaid : Prop := fnOutsTurnedRow.holds Try.pinned (OpenSpec.ofChange fnOutsTurnedSpec)

/-- ITS FALSE NEIGHBOUR: 'it returns false'. Refute it at one input. -/
def fnOutsTurnedWrong : ChangeSpec := { name := "fnOutsTurned", fn := fun _ => fun
  | [d] => { results := [.lit (.bool false)], args := [d] }
  | _ => none }
def FnOutsTurnedWrongFalsely : Prop := fnOutsTurnedRow.holds Try.pinned (OpenSpec.ofChange fnOutsTurnedWrong)

/-- 'laws.FnWeighedTwice': WHATEVER THE INPUT: true; the input reads as it did. -/
def fnWeighedTwiceSpec : ChangeSpec := { name := "fnWeighedTwice", fn := fun _ => fun
  | [d] => { results := [.lit (.bool true)], args := [d] }
  | _ => none }
def fnWeighedTwiceRow : OpenClaim := { program := "ytkfladkncfbgmaa", sum := "d43941496a8ca94f66e2dd7aebbf7baeb6f31116681734fb3b87f14e6da36fcd", func := "loop.example/g00546/laws.FnWeighedTwice", spec := "fnWeighedTwice", unfollowed := true, recurses := true, apart := false }
def FnWeighedTwiceSaid : Prop := fnWeighedTwiceRow.holds Try.pinned (OpenSpec.ofChange fnWeighedTwiceSpec)

/-- ITS FALSE NEIGHBOUR: 'it returns false'. Refute it at one input. -/
def fnWeighedTwiceWrong : ChangeSpec := { name := "fnWeighedTwice", fn := fun _ => fun
  | [d] => { results := [.lit (.bool false)], args := [d] }
  | _ => none }
def FnWeighedTwiceWrongFalsely : Prop := fnWeighedTwiceRow.holds Try.pinned (OpenSpec.ofChange fnWeighedTwiceWrong)

/-- 'laws.FnWeighed': WHATEVER THE INPUT: true; the input reads as it did. -/
def fnWeighedSpec : ChangeSpec := { name := "fnWeighed", fn := fun _ => fun
  | [d] => { results := [.lit (.bool true)], args := [d] }
  | _ => none }
def fnWeighedRow : OpenClaim := { program := "ytkfladkncfbgmaa", sum := "d43941496a8ca94f66e2dd7aebbf7baeb6f31116681734fb3b87f14e6da36fcd", func := "loop.example/g00546/laws.FnWeighed", spec := "fnWeighed", unfollowed := true, recurses := true, apart := false }
def FnWeighedSaid : Prop := fnWeighedRow.holds Try.pinned (OpenSpec.ofChange fnWeighedSpec)

/-- ITS FALSE NEIGHBOUR: 'it returns false'. Refute it at one input. -/
def fnWeighedWrong : ChangeSpec := { name := "fnWeighed", fn := fun _ => fun
  | [d] => { results := [.lit (.bool false)], args := [d] }
  | _ => none }
def FnWeighedWrongFalsely : Prop := fnWeighedRow.holds Try.pinned (OpenSpec.ofChange fnWeighedWrong)

/-- 'laws.FnReversed': WHATEVER THE INPUT: true; the input reads as it did. -/
def fnReversedSpec : ChangeSpec := { name := "fnReversed", fn := fun _ => fun
  | [d] => { results := [.lit (.bool true)], args := [d] }
  | _ => none }
def fnReversedRow : OpenClaim := { program := "ytkfladkncfbgmaa", sum := "d43941496a8ca94f66e2dd7aebbf7baeb6f31116681734fb3b87f14e6da36fcd", func := "loop.example/g00546/laws.FnReversed", spec := "fnReversed", unfollowed := true, recurses := true, apart := false }
def FnReversedSaid : Prop := fnReversedRow.holds Try.pinned (OpenSpec.ofChange fnReversedSpec)

/-- ITS FALSE NEIGHBOUR: 'it returns false'. Refute it at one input. -/
def fnReversedWrong : ChangeSpec := { name := "fnReversed", fn := fun _ => fun
  | [d] => { results := [.lit (.bool false)], args := [d] }
  | _ => none }
def FnReversedWrongFalsely : Prop := fnReversedRow.holds Try.pinned (OpenSpec.ofChange fnReversedWrong)

/-- 'laws.FnHeavier': WHATEVER THE INPUT: true; the input reads as it did. -/
def fnHeavierSpec : ChangeSpec := { name := "fnHeavier", fn := fun _ => fun
  | [d] => { results := [.lit (.bool true)], args := [d] }
  | _ => none }
def fnHeavierRow : OpenClaim := { program := "ytkfladkncfbgmaa", sum := "d43941496a8ca94f66e2dd7aebbf7baeb6f31116681734fb3b87f14e6da36fcd", func := "loop.example/g00546/laws.FnHeavier", spec := "fnHeavier", unfollowed := true, recurses := true, apart := false }
def FnHeavierSaid : Prop := fnHeavierRow.holds Try.pinned (OpenSpec.ofChange fnHeavierSpec)

/-- ITS FALSE NEIGHBOUR: 'it returns false'. Refute it at one input. -/
def fnHeavierWrong : ChangeSpec := { name := "fnHeavier", fn := fun _ => fun
  | [d] => { results := [.lit (.bool false)], args := [d] }
  | _ => none }
def FnHeavierWrongFalsely : Prop := fnHeavierRow.holds Try.pinned (OpenSpec.ofChange fnHeavierWrong)

/-- 'laws.FnLengthPieces': WHATEVER THE INPUT: true; the input reads as it did. -/
def fnLengthPiecesSpec : ChangeSpec := { name := "fnLengthPieces", fn := fun _ => fun
  | [d] => { results := [.lit (.bool true)], args := [d] }
  | _ => none }
def fnLengthPiecesRow : OpenClaim := { program := "ytkfladkncfbgmaa", sum := "d43941496a8ca94f66e2dd7aebbf7baeb6f31116681734fb3b87f14e6da36fcd", func := "loop.example/g00546/laws.FnLengthPieces", spec := "fnLengthPieces", unfollowed := true, recurses := true, apart := false }
def FnLengthPiecesSaid : Prop := fnLengthPiecesRow.holds Try.pinned (OpenSpec.ofChange fnLengthPiecesSpec)

/-- ITS FALSE NEIGHBOUR: 'it returns false'. Refute it at one input. -/
def fnLengthPiecesWrong : ChangeSpec := { name := "fnLengthPieces", fn := fun _ => fun
  | [d] => { results := [.lit (.bool false)], args := [d] }
  | _ => none }
def FnLengthPiecesWrongFalsely : Prop := fnLengthPiecesRow.holds Try.pinned (OpenSpec.ofChange fnLengthPiecesWrong)

/-- 'laws.FnOnShortest': WHATEVER THE INPUT: true; the input reads as it did. -/
def fnOnShortestSpec : ChangeSpec := { name := "fnOnShortest", fn := fun _ => fun
  | [d] => { results := [.lit (.bool true)], args := [d] }
  | _ => none }
def fnOnShortestRow : OpenClaim := { program := "ytkfladkncfbgmaa", sum := "d43941496a8ca94f66e2dd7aebbf7baeb6f31116681734fb3b87f14e6da36fcd", func := "loop.example/g00546/laws.FnOnShortest", spec := "fnOnShortest", unfollowed := true, recurses := true, apart := false }
def FnOnShortestSaid : Prop := fnOnShortestRow.holds Try.pinned (OpenSpec.ofChange fnOnShortestSpec)

/-- ITS FALSE NEIGHBOUR: 'it returns false'. Refute it at one input. -/
def fnOnShortestWrong : ChangeSpec := { name := "fnOnShortest", fn := fun _ => fun
  | [d] => { results := [.lit (.bool false)], args := [d] }
  | _ => none }
def FnOnShortestWrongFalsely : Prop := fnOnShortestRow.holds Try.pinned (OpenSpec.ofChange fnOnShortestWrong)

/-- 'laws.FnOnTurned': WHATEVER THE INPUT: true; the input reads as it did. -/
def fnOnTurnedSpec : ChangeSpec := { name := "fnOnTurned", fn := fun _ => fun
  | [d] => { results := [.lit (.bool true)], args := [d] }
  | _ => none }
def fnOnTurnedRow : OpenClaim := { program := "ytkfladkncfbgmaa", sum := "d43941496a8ca94f66e2dd7aebbf7baeb6f31116681734fb3b87f14e6da36fcd", func := "loop.example/g00546/laws.FnOnTurned", spec := "fnOnTurned", unfollowed := true, recurses := true, apart := false }
def FnOnTurnedSaid : Prop := fnOnTurnedRow.holds Try.pinned (OpenSpec.ofChange fnOnTurnedSpec)

/-- ITS FALSE NEIGHBOUR: 'it returns false'. Refute it at one input. -/
def fnOnTurnedWrong : ChangeSpec := { name := "fnOnTurned", fn := fun _ => fun
  | [d] => { results := [.lit (.bool false)], args := [d] }
  | _ => none }
def FnOnTurnedWrongFalsely : Prop := fnOnTurnedRow.holds Try.pinned (OpenSpec.ofChange fnOnTurnedWrong)

/- THE SECOND FORM. 'bulk': how many values and letters a reading holds, each counted each time it is reached (what is shared counts as often as it is met; a slice's spare places count too). A statement '..UptoSaid' is the law's where the arguments, and the package variables that the reading takes, are together of bulk at most 1048576: NARROWER than '..Said'. Prove '..Said' where nothing that the law and all that it calls make is longer than what came in: it says more and counts as full. Else prove '..UptoSaid'. A law counts once. -/
mutual
def uptoBulk {H : Type} : DataW H → Nat
  | .lit (.string bytes) => bytes.length + 1
  | .lit _ => 1
  | .nil => 1
  | .ptr d => uptoBulk d + 1
  | .slice elems spare => uptoBulkAll elems + uptoBulkAll spare + 1
  | .agg parts => uptoBulkAll parts + 1
  | .iface _ d => uptoBulk d + 1
  | .map entries => uptoBulkEntries entries + 1
  | .held _ => 1
def uptoBulkAll {H : Type} : List (DataW H) → Nat
  | [] => 0
  | d :: r => uptoBulk d + uptoBulkAll r
def uptoBulkEntries {H : Type} : List (Lit × DataW H) → Nat
  | [] => 0
  | x :: r => uptoBulkEntry x + uptoBulkEntries r
def uptoBulkEntry {H : Type} : Lit × DataW H → Nat
  | (.string bytes, d) => bytes.length + uptoBulk d + 1
  | (_, d) => uptoBulk d + 1
 end
def uptoSmall : (H : Type) → List (DataW H) → Bool := fun _ ds => decide (uptoBulkAll ds ≤ 1048576)
def OpenSpec.upto (s : _root_.Go.ChangeSpec) : _root_.Go.OpenSpec := { _root_.Go.OpenSpec.ofChange s with cond := some uptoSmall }

/-- 'laws.FnFromAll', WHERE WHAT IT READS IS OF BULK AT MOST 1048576: true; the input reads as it did. -/
def fnFromAllUptoRow : OpenClaim := { program := "ytkfladkncfbgmaa", sum := "d43941496a8ca94f66e2dd7aebbf7baeb6f31116681734fb3b87f14e6da36fcd", func := "loop.example/g00546/laws.FnFromAll", spec := "fnFromAll", unfollowed := true, recurses := true, apart := false, narrowed := true }
def FnFromAllUptoSaid : Prop := fnFromAllUptoRow.holds Try.pinned (OpenSpec.upto fnFromAllSpec)

/-- 'laws.FnTriangle', WHERE WHAT IT READS IS OF BULK AT MOST 1048576: true; the input reads as it did. -/
def fnTriangleUptoRow : OpenClaim := { program := "ytkfladkncfbgmaa", sum := "d43941496a8ca94f66e2dd7aebbf7baeb6f31116681734fb3b87f14e6da36fcd", func := "loop.example/g00546/laws.FnTriangle", spec := "fnTriangle", unfollowed := true, recurses := true, apart := false, narrowed := true }
def FnTriangleUptoSaid : Prop := fnTriangleUptoRow.holds Try.pinned (OpenSpec.upto fnTriangleSpec)

/-- 'laws.FnDist', WHERE WHAT IT READS IS OF BULK AT MOST 1048576: true; the input reads as it did. -/
def fnDistUptoRow : OpenClaim := { program := "ytkfladkncfbgmaa", sum := "d43941496a8ca94f66e2dd7aebbf7baeb6f31116681734fb3b87f14e6da36fcd", func := "loop.example/g00546/laws.FnDist", spec := "fnDist", unfollowed := true, recurses := true, apart := false, narrowed := true }
def FnDistUptoSaid : Prop := fnDistUptoRow.holds Try.pinned (OpenSpec.upto fnDistSpec)

/-- 'laws.FnOuts', WHERE WHAT IT READS IS OF BULK AT MOST 1048576: true; the input reads as it did. -/
def fnOutsUptoRow : OpenClaim := { program := "ytkfladkncfbgmaa", sum := "d43941496a8ca94f66e2dd7aebbf7baeb6f31116681734fb3b87f14e6da36fcd", func := "loop.example/g00546/laws.FnOuts", spec := "fnOuts", unfollowed := true, recurses := true, apart := false, narrowed := true }
def FnOutsUptoSaid : Prop := fnOutsUptoRow.holds Try.pinned (OpenSpec.upto fnOutsSpec)

/-- 'laws.FnOutsTurned', WHERE WHAT IT READS IS OF BULK AT MOST 1048576: true; the input reads as it did. -/
def fnOutsTurnedUptoRow : OpenClaim := { program := "ytkfladkncfbgmaa", sum := "d43941496a8ca94f66e2dd7aebbf7baeb6f31116681734fb3b87f14e6da36fcd", func := "loop.example/g00546/laws.FnOutsTurned", spec := "fnOutsTurned", unfollowed := true, recurses := true, apart := false, narrowed := true }
def FnOutsTurnedUptoSaid : Prop := fnOutsTurnedUptoRow.holds Try.pinned (OpenSpec.upto fnOutsTurnedSpec)

/-- 'laws.FnWeighedTwice', WHERE WHAT IT READS IS OF BULK AT MOST 1048576: true; the input reads as it did. -/
def fnWeighedTwiceUptoRow : OpenClaim := { program := "ytkfladkncfbgmaa", sum := "d43941496a8ca94f66e2dd7aebbf7baeb6f31116681734fb3b87f14e6da36fcd", func := "loop.example/g00546/laws.FnWeighedTwice", spec := "fnWeighedTwice", unfollowed := true, recurses := true, apart := false, narrowed := true }
def FnWeighedTwiceUptoSaid : Prop := fnWeighedTwiceUptoRow.holds Try.pinned (OpenSpec.upto fnWeighedTwiceSpec)

/-- 'laws.FnWeighed', WHERE WHAT IT READS IS OF BULK AT MOST 1048576: true; the input reads as it did. -/
def fnWeighedUptoRow : OpenClaim := { program := "ytkfladkncfbgmaa", sum := "d43941496a8ca94f66e2dd7aebbf7baeb6f31116681734fb3b87f14e6da36fcd", func := "loop.example/g00546/laws.FnWeighed", spec := "fnWeighed", unfollowed := true, recurses := true, apart := false, narrowed := true }
def FnWeighedUptoSaid : Prop := fnWeighedUptoRow.holds Try.pinned (OpenSpec.upto fnWeighedSpec)

/-- 'laws.FnReversed', WHERE WHAT IT READS IS OF BULK AT MOST 1048576: true; the input reads as it did. -/
def fnReversedUptoRow : OpenClaim := { program := "ytkfladkncfbgmaa", sum := "d43941496a8ca94f66e2dd7aebbf7baeb6f31116681734fb3b87f14e6da36fcd", func := "loop.example/g00546/laws.FnReversed", spec := "fnReversed", unfollowed := true, recurses := true, apart := false, narrowed := true }
def FnReversedUptoSaid : Prop := fnReversedUptoRow.holds Try.pinned (OpenSpec.upto fnReversedSpec)

/-- 'laws.FnHeavier', WHERE WHAT IT READS IS OF BULK AT MOST 1048576: true; the input reads as it did. -/
def fnHeavierUptoRow : OpenClaim := { program := "ytkfladkncfbgmaa", sum := "d43941496a8ca94f66e2dd7aebbf7baeb6f31116681734fb3b87f14e6da36fcd", func := "loop.example/g00546/laws.FnHeavier", spec := "fnHeavier", unfollowed := true, recurses := true, apart := false, narrowed := true }
def FnHeavierUptoSaid : Prop := fnHeavierUptoRow.holds Try.pinned (OpenSpec.upto fnHeavierSpec)

/-- 'laws.FnLengthPieces', WHERE WHAT IT READS IS OF BULK AT MOST 1048576: true; the input reads as it did. -/
def fnLengthPiecesUptoRow : OpenClaim := { program := "ytkfladkncfbgmaa", sum := "d43941496a8ca94f66e2dd7aebbf7baeb6f31116681734fb3b87f14e6da36fcd", func := "loop.example/g00546/laws.FnLengthPieces", spec := "fnLengthPieces", unfollowed := true, recurses := true, apart := false, narrowed := true }
def FnLengthPiecesUptoSaid : Prop := fnLengthPiecesUptoRow.holds Try.pinned (OpenSpec.upto fnLengthPiecesSpec)

/-- 'laws.FnOnShortest', WHERE WHAT IT READS IS OF BULK AT MOST 1048576: true; the input reads as it did. -/
def fnOnShortestUptoRow : OpenClaim := { program := "ytkfladkncfbgmaa", sum := "d43941496a8ca94f66e2dd7aebbf7baeb6f31116681734fb3b87f14e6da36fcd", func := "loop.example/g00546/laws.FnOnShortest", spec := "fnOnShortest", unfollowed := true, recurses := true, apart := false, narrowed := true }
def FnOnShortestUptoSaid : Prop := fnOnShortestUptoRow.holds Try.pinned (OpenSpec.upto fnOnShortestSpec)

/-- 'laws.FnOnTurned', WHERE WHAT IT READS IS OF BULK AT MOST 1048576: true; the input reads as it did. -/
def fnOnTurnedUptoRow : OpenClaim := { program := "ytkfladkncfbgmaa", sum := "d43941496a8ca94f66e2dd7aebbf7baeb6f31116681734fb3b87f14e6da36fcd", func := "loop.example/g00546/laws.FnOnTurned", spec := "fnOnTurned", unfollowed := true, recurses := true, apart := false, narrowed := true }
def FnOnTurnedUptoSaid : Prop := fnOnTurnedUptoRow.holds Try.pinned (OpenSpec.upto fnOnTurnedSpec)

end Rows
end Go.Proofs.Ytkfladkncfbgmaa
