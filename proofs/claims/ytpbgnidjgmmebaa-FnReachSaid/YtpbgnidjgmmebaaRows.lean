/-
  No cell of these rows narrows 'for every input' (looked for: loops, veiled, ifaces, maps, wideKeys, modest, calm, conditions, laid).
  DERIVED. THE GIVEN ROWS OF THIS SEAT. 14 by the template 'for every input the law returns true; each argument reads behind the call as it read before'; 0 by the template 'total and deterministic' (their statements: YtpbgnidjgmmebaaTotals.lean).
  GIVEN WITH THE SEED: the statements are not yours to turn. If you find one false, say at which input.
  Laid BY PROGRAM, IN A SANDBOX (cutbox-rows.mjs): the forced cells as the released guide's own fill.sh prints them over the translation 9423a23d6207be3e… (all of the seat's roots in one cut). By AI agents, Wed Nov 11 2026. No macro, syntax, notation, axiom, sorry.
-/
import Derived.Test.YtpbgnidjgmmebaaChecked
import GoSem.Claim
import GoSem.ClaimJoined
import GoSem.ClaimMapViews
import Derived.JoinedTies
import Derived.KernelRfl
namespace Go.Proofs.Ytpbgnidjgmmebaa
/- THE CELL 'sum', in the pinned program and in every row, IS THE sha256 OF THE DUMP (.gsa) THAT YtpbgnidjgmmebaaProg.lean LOADS. Nothing in Lean hashes anything: it is a label: what it is worth is what the hold of that sum in a sandbox is worth. -/
noncomputable def Try.pinned : Pinned := { name := "ytpbgnidjgmmebaa", sum := "9423a23d6207be3eb8c77f812d5505135164ee7849872006d3371c8b69bb0483", checked := Try.checked }
namespace Rows
def none {H : Type} : Left H := { results := [], args := [] }

/-- 'laws.FnOutsTurned': WHATEVER THE INPUT: true; the input reads as it did. -/
def fnOutsTurnedSpec : ChangeSpec := { name := "fnOutsTurned", fn := fun _ => fun
  | [d] => { results := [.lit (.bool true)], args := [d] }
  | _ => none }
def fnOutsTurnedRow : OpenClaim := { program := "ytpbgnidjgmmebaa", sum := "9423a23d6207be3eb8c77f812d5505135164ee7849872006d3371c8b69bb0483", func := "loop.example/g00546/laws.FnOutsTurned", spec := "fnOutsTurned", unfollowed := true, recurses := true, apart := false }
def FnOutsTurnedSaid : Prop := fnOutsTurnedRow.holds Try.pinned (OpenSpec.ofChange fnOutsTurnedSpec)

/-- ITS FALSE NEIGHBOUR: 'it returns false'. Refute it at one input. -/
def fnOutsTurnedWrong : ChangeSpec := { name := "fnOutsTurned", fn := fun _ => fun
  | [d] => { results := [.lit (.bool false)], args := [d] }
  | _ => none }
def FnOutsTurnedWrongFalsely : Prop := fnOutsTurnedRow.holds Try.pinned (OpenSpec.ofChange fnOutsTurnedWrong)

/-- 'laws.FnPath': WHATEVER THE INPUT: true; the input reads as it did. -/
def fnPathSpec : ChangeSpec := { name := "fnPath", fn := fun _ => fun
  | [d] => { results := [.lit (.bool true)], args := [d] }
  | _ => none }
def fnPathRow : OpenClaim := { program := "ytpbgnidjgmmebaa", sum := "9423a23d6207be3eb8c77f812d5505135164ee7849872006d3371c8b69bb0483", func := "loop.example/g00546/laws.FnPath", spec := "fnPath", unfollowed := true, recurses := true, apart := false }
def FnPathSaid : Prop := fnPathRow.holds Try.pinned (OpenSpec.ofChange fnPathSpec)

/-- ITS FALSE NEIGHBOUR: 'it returns false'. Refute it at one input. -/
def fnPathWrong : ChangeSpec := { name := "fnPath", fn := fun _ => fun
  | [d] => { results := [.lit (.bool false)], args := [d] }
  | _ => none }
def FnPathWrongFalsely : Prop := fnPathRow.holds Try.pinned (OpenSpec.ofChange fnPathWrong)

/-- 'laws.FnFirstPath': WHATEVER THE INPUT: true; the input reads as it did. -/
def fnFirstPathSpec : ChangeSpec := { name := "fnFirstPath", fn := fun _ => fun
  | [d] => { results := [.lit (.bool true)], args := [d] }
  | _ => none }
def fnFirstPathRow : OpenClaim := { program := "ytpbgnidjgmmebaa", sum := "9423a23d6207be3eb8c77f812d5505135164ee7849872006d3371c8b69bb0483", func := "loop.example/g00546/laws.FnFirstPath", spec := "fnFirstPath", unfollowed := true, recurses := true, apart := false }
def FnFirstPathSaid : Prop := fnFirstPathRow.holds Try.pinned (OpenSpec.ofChange fnFirstPathSpec)

/-- ITS FALSE NEIGHBOUR: 'it returns false'. Refute it at one input. -/
def fnFirstPathWrong : ChangeSpec := { name := "fnFirstPath", fn := fun _ => fun
  | [d] => { results := [.lit (.bool false)], args := [d] }
  | _ => none }
def FnFirstPathWrongFalsely : Prop := fnFirstPathRow.holds Try.pinned (OpenSpec.ofChange fnFirstPathWrong)

/-- 'laws.FnOnShortest': WHATEVER THE INPUT: true; the input reads as it did. -/
def fnOnShortestSpec : ChangeSpec := { name := "fnOnShortest", fn := fun _ => fun
  | [d] => { results := [.lit (.bool true)], args := [d] }
  | _ => none }
def fnOnShortestRow : OpenClaim := { program := "ytpbgnidjgmmebaa", sum := "9423a23d6207be3eb8c77f812d5505135164ee7849872006d3371c8b69bb0483", func := "loop.example/g00546/laws.FnOnShortest", spec := "fnOnShortest", unfollowed := true, recurses := true, apart := false }
def FnOnShortestSaid : Prop := fnOnShortestRow.holds Try.pinned (OpenSpec.ofChange fnOnShortestSpec)

/-- ITS FALSE NEIGHBOUR: 'it returns false'. Refute it at one input. -/
def fnOnShortestWrong : ChangeSpec := { name := "fnOnShortest", fn := fun _ => fun
  | [d] => { results := [.lit (.bool false)], args := [d] }
  | _ => none }
def FnOnShortestWrongFalsely : Prop := fnOnShortestRow.holds Try.pinned (OpenSpec.ofChange fnOnShortestWrong)

/-- 'laws.FnPathPieces': WHATEVER THE INPUT: true; the input reads as it did. -/
def fnPathPiecesSpec : ChangeSpec := { name := "fnPathPieces", fn := fun _ => fun
  | [d] => { results := [.lit (.bool true)], args := [d] }
  | _ => none }
def fnPathPiecesRow : OpenClaim := { program := "ytpbgnidjgmmebaa", sum := "9423a23d6207be3eb8c77f812d5505135164ee7849872006d3371c8b69bb0483", func := "loop.example/g00546/laws.FnPathPieces", spec := "fnPathPieces", unfollowed := true, recurses := true, apart := false }
def FnPathPiecesSaid : Prop := fnPathPiecesRow.holds Try.pinned (OpenSpec.ofChange fnPathPiecesSpec)

/-- ITS FALSE NEIGHBOUR: 'it returns false'. Refute it at one input. -/
def fnPathPiecesWrong : ChangeSpec := { name := "fnPathPieces", fn := fun _ => fun
  | [d] => { results := [.lit (.bool false)], args := [d] }
  | _ => none }
def FnPathPiecesWrongFalsely : Prop := fnPathPiecesRow.holds Try.pinned (OpenSpec.ofChange fnPathPiecesWrong)

/-- 'laws.FnOnTurned': WHATEVER THE INPUT: true; the input reads as it did. -/
def fnOnTurnedSpec : ChangeSpec := { name := "fnOnTurned", fn := fun _ => fun
  | [d] => { results := [.lit (.bool true)], args := [d] }
  | _ => none }
def fnOnTurnedRow : OpenClaim := { program := "ytpbgnidjgmmebaa", sum := "9423a23d6207be3eb8c77f812d5505135164ee7849872006d3371c8b69bb0483", func := "loop.example/g00546/laws.FnOnTurned", spec := "fnOnTurned", unfollowed := true, recurses := true, apart := false }
def FnOnTurnedSaid : Prop := fnOnTurnedRow.holds Try.pinned (OpenSpec.ofChange fnOnTurnedSpec)

/-- ITS FALSE NEIGHBOUR: 'it returns false'. Refute it at one input. -/
def fnOnTurnedWrong : ChangeSpec := { name := "fnOnTurned", fn := fun _ => fun
  | [d] => { results := [.lit (.bool false)], args := [d] }
  | _ => none }
def FnOnTurnedWrongFalsely : Prop := fnOnTurnedRow.holds Try.pinned (OpenSpec.ofChange fnOnTurnedWrong)

/-- 'laws.FnLengthPieces': WHATEVER THE INPUT: true; the input reads as it did. -/
def fnLengthPiecesSpec : ChangeSpec := { name := "fnLengthPieces", fn := fun _ => fun
  | [d] => { results := [.lit (.bool true)], args := [d] }
  | _ => none }
def fnLengthPiecesRow : OpenClaim := { program := "ytpbgnidjgmmebaa", sum := "9423a23d6207be3eb8c77f812d5505135164ee7849872006d3371c8b69bb0483", func := "loop.example/g00546/laws.FnLengthPieces", spec := "fnLengthPieces", unfollowed := true, recurses := true, apart := false }
def FnLengthPiecesSaid : Prop := fnLengthPiecesRow.holds Try.pinned (OpenSpec.ofChange fnLengthPiecesSpec)

/-- ITS FALSE NEIGHBOUR: 'it returns false'. Refute it at one input. -/
def fnLengthPiecesWrong : ChangeSpec := { name := "fnLengthPieces", fn := fun _ => fun
  | [d] => { results := [.lit (.bool false)], args := [d] }
  | _ => none }
def FnLengthPiecesWrongFalsely : Prop := fnLengthPiecesRow.holds Try.pinned (OpenSpec.ofChange fnLengthPiecesWrong)

/-- 'laws.FnBetween': WHATEVER THE INPUT: true; the input reads as it did. -/
def fnBetweenSpec : ChangeSpec := { name := "fnBetween", fn := fun _ => fun
  | [d] => { results := [.lit (.bool true)], args := [d] }
  | _ => none }
def fnBetweenRow : OpenClaim := { program := "ytpbgnidjgmmebaa", sum := "9423a23d6207be3eb8c77f812d5505135164ee7849872006d3371c8b69bb0483", func := "loop.example/g00546/laws.FnBetween", spec := "fnBetween", unfollowed := true, recurses := true, apart := false }
def FnBetweenSaid : Prop := fnBetweenRow.holds Try.pinned (OpenSpec.ofChange fnBetweenSpec)

/-- ITS FALSE NEIGHBOUR: 'it returns false'. Refute it at one input. -/
def fnBetweenWrong : ChangeSpec := { name := "fnBetween", fn := fun _ => fun
  | [d] => { results := [.lit (.bool false)], args := [d] }
  | _ => none }
def FnBetweenWrongFalsely : Prop := fnBetweenRow.holds Try.pinned (OpenSpec.ofChange fnBetweenWrong)

/-- 'laws.FnBetweenMore': WHATEVER THE INPUT: true; the input reads as it did. -/
def fnBetweenMoreSpec : ChangeSpec := { name := "fnBetweenMore", fn := fun _ => fun
  | [d] => { results := [.lit (.bool true)], args := [d] }
  | _ => none }
def fnBetweenMoreRow : OpenClaim := { program := "ytpbgnidjgmmebaa", sum := "9423a23d6207be3eb8c77f812d5505135164ee7849872006d3371c8b69bb0483", func := "loop.example/g00546/laws.FnBetweenMore", spec := "fnBetweenMore", unfollowed := true, recurses := true, apart := false }
def FnBetweenMoreSaid : Prop := fnBetweenMoreRow.holds Try.pinned (OpenSpec.ofChange fnBetweenMoreSpec)

/-- ITS FALSE NEIGHBOUR: 'it returns false'. Refute it at one input. -/
def fnBetweenMoreWrong : ChangeSpec := { name := "fnBetweenMore", fn := fun _ => fun
  | [d] => { results := [.lit (.bool false)], args := [d] }
  | _ => none }
def FnBetweenMoreWrongFalsely : Prop := fnBetweenMoreRow.holds Try.pinned (OpenSpec.ofChange fnBetweenMoreWrong)

/-- 'laws.FnExactPathOf': WHATEVER THE INPUT: true; the input reads as it did. -/
def fnExactPathOfSpec : ChangeSpec := { name := "fnExactPathOf", fn := fun _ => fun
  | [d1, d2, d3] => { results := [.lit (.bool true)], args := [d1, d2, d3] }
  | _ => none }
def fnExactPathOfRow : OpenClaim := { program := "ytpbgnidjgmmebaa", sum := "9423a23d6207be3eb8c77f812d5505135164ee7849872006d3371c8b69bb0483", func := "loop.example/g00546/laws.FnExactPathOf", spec := "fnExactPathOf", unfollowed := true, recurses := true, apart := false }
def FnExactPathOfSaid : Prop := fnExactPathOfRow.holds Try.pinned (OpenSpec.ofChange fnExactPathOfSpec)

/-- ITS FALSE NEIGHBOUR: 'it returns false'. Refute it at one input. -/
def fnExactPathOfWrong : ChangeSpec := { name := "fnExactPathOf", fn := fun _ => fun
  | [d1, d2, d3] => { results := [.lit (.bool false)], args := [d1, d2, d3] }
  | _ => none }
def FnExactPathOfWrongFalsely : Prop := fnExactPathOfRow.holds Try.pinned (OpenSpec.ofChange fnExactPathOfWrong)

/-- 'laws.FnExactOnShortest': WHATEVER THE INPUT: true; the input reads as it did. -/
def fnExactOnShortestSpec : ChangeSpec := { name := "fnExactOnShortest", fn := fun _ => fun
  | [d1, d2, d3] => { results := [.lit (.bool true)], args := [d1, d2, d3] }
  | _ => none }
def fnExactOnShortestRow : OpenClaim := { program := "ytpbgnidjgmmebaa", sum := "9423a23d6207be3eb8c77f812d5505135164ee7849872006d3371c8b69bb0483", func := "loop.example/g00546/laws.FnExactOnShortest", spec := "fnExactOnShortest", unfollowed := true, recurses := true, apart := false }
def FnExactOnShortestSaid : Prop := fnExactOnShortestRow.holds Try.pinned (OpenSpec.ofChange fnExactOnShortestSpec)

/-- ITS FALSE NEIGHBOUR: 'it returns false'. Refute it at one input. -/
def fnExactOnShortestWrong : ChangeSpec := { name := "fnExactOnShortest", fn := fun _ => fun
  | [d1, d2, d3] => { results := [.lit (.bool false)], args := [d1, d2, d3] }
  | _ => none }
def FnExactOnShortestWrongFalsely : Prop := fnExactOnShortestRow.holds Try.pinned (OpenSpec.ofChange fnExactOnShortestWrong)

/-- 'laws.FnExactBetween': WHATEVER THE INPUT: true; the input reads as it did. -/
def fnExactBetweenSpec : ChangeSpec := { name := "fnExactBetween", fn := fun _ => fun
  | [d1, d2, d3, d4] => { results := [.lit (.bool true)], args := [d1, d2, d3, d4] }
  | _ => none }
def fnExactBetweenRow : OpenClaim := { program := "ytpbgnidjgmmebaa", sum := "9423a23d6207be3eb8c77f812d5505135164ee7849872006d3371c8b69bb0483", func := "loop.example/g00546/laws.FnExactBetween", spec := "fnExactBetween", unfollowed := true, recurses := true, apart := false }
def FnExactBetweenSaid : Prop := fnExactBetweenRow.holds Try.pinned (OpenSpec.ofChange fnExactBetweenSpec)

/-- ITS FALSE NEIGHBOUR: 'it returns false'. Refute it at one input. -/
def fnExactBetweenWrong : ChangeSpec := { name := "fnExactBetween", fn := fun _ => fun
  | [d1, d2, d3, d4] => { results := [.lit (.bool false)], args := [d1, d2, d3, d4] }
  | _ => none }
def FnExactBetweenWrongFalsely : Prop := fnExactBetweenRow.holds Try.pinned (OpenSpec.ofChange fnExactBetweenWrong)

/-- 'laws.FnPruned': WHATEVER THE INPUT: true; the input reads as it did. -/
def fnPrunedSpec : ChangeSpec := { name := "fnPruned", fn := fun _ => fun
  | [d] => { results := [.lit (.bool true)], args := [d] }
  | _ => none }
def fnPrunedRow : OpenClaim := { program := "ytpbgnidjgmmebaa", sum := "9423a23d6207be3eb8c77f812d5505135164ee7849872006d3371c8b69bb0483", func := "loop.example/g00546/laws.FnPruned", spec := "fnPruned", unfollowed := true, recurses := true, apart := false }
def FnPrunedSaid : Prop := fnPrunedRow.holds Try.pinned (OpenSpec.ofChange fnPrunedSpec)

/-- ITS FALSE NEIGHBOUR: 'it returns false'. Refute it at one input. -/
def fnPrunedWrong : ChangeSpec := { name := "fnPruned", fn := fun _ => fun
  | [d] => { results := [.lit (.bool false)], args := [d] }
  | _ => none }
def FnPrunedWrongFalsely : Prop := fnPrunedRow.holds Try.pinned (OpenSpec.ofChange fnPrunedWrong)

/-- 'laws.FnReach': WHATEVER THE INPUT: true; the input reads as it did. -/
def fnReachSpec : ChangeSpec := { name := "fnReach", fn := fun _ => fun
  | [d] => { results := [.lit (.bool true)], args := [d] }
  | _ => none }
def fnReachRow : OpenClaim := { program := "ytpbgnidjgmmebaa", sum := "9423a23d6207be3eb8c77f812d5505135164ee7849872006d3371c8b69bb0483", func := "loop.example/g00546/laws.FnReach", spec := "fnReach", unfollowed := true, recurses := true, apart := false }
def FnReachSaid : Prop := fnReachRow.holds Try.pinned (OpenSpec.ofChange fnReachSpec)

/-- ITS FALSE NEIGHBOUR: 'it returns false'. Refute it at one input. -/
def fnReachWrong : ChangeSpec := { name := "fnReach", fn := fun _ => fun
  | [d] => { results := [.lit (.bool false)], args := [d] }
  | _ => none }
def FnReachWrongFalsely : Prop := fnReachRow.holds Try.pinned (OpenSpec.ofChange fnReachWrong)

/- THE SECOND FORM. 'bulk': how many values and letters a reading holds, each counted each time it is reached (what is shared counts as often as it is met; a slice's spare places count too). A statement '..UptoSaid' is the law's where the arguments, and the package variables that the reading takes, are together of bulk at most 1048576: NARROWER than '..Said'. Prove '..Said' where nothing that the law and all that it calls make is longer than what came in: it says more and counts as full. Else prove '..UptoSaid'. A law counts once. -/
mutual
def uptoBulk {H : Type} : DataW H → Nat
  | .lit (.string bytes) => bytes.length + 1
  | .lit _ => 1
  | .nil => 1
  | .ptr d => uptoBulk d + 1
  | .slice elems spare => uptoBulkAll elems + uptoBulkAll spare + 1
  | .agg parts => uptoBulkAll parts + 1
  | .iface _ d => uptoBulk d + 1
  | .map entries => uptoBulkEntries entries + 1
  | .held _ => 1
def uptoBulkAll {H : Type} : List (DataW H) → Nat
  | [] => 0
  | d :: r => uptoBulk d + uptoBulkAll r
def uptoBulkEntries {H : Type} : List (Lit × DataW H) → Nat
  | [] => 0
  | x :: r => uptoBulkEntry x + uptoBulkEntries r
def uptoBulkEntry {H : Type} : Lit × DataW H → Nat
  | (.string bytes, d) => bytes.length + uptoBulk d + 1
  | (_, d) => uptoBulk d + 1
 end
def uptoSmall : (H : Type) → List (DataW H) → Bool := fun _ ds => decide (uptoBulkAll ds ≤ 1048576)
def OpenSpec.upto (s : _root_.Go.ChangeSpec) : _root_.Go.OpenSpec := { _root_.Go.OpenSpec.ofChange s with cond := some uptoSmall }

/-- 'laws.FnOutsTurned', WHERE WHAT IT READS IS OF BULK AT MOST 1048576: true; the input reads as it did. -/
def fnOutsTurnedUptoRow : OpenClaim := { program := "ytpbgnidjgmmebaa", sum := "9423a23d6207be3eb8c77f812d5505135164ee7849872006d3371c8b69bb0483", func := "loop.example/g00546/laws.FnOutsTurned", spec := "fnOutsTurned", unfollowed := true, recurses := true, apart := false, narrowed := true }
def FnOutsTurnedUptoSaid : Prop := fnOutsTurnedUptoRow.holds Try.pinned (OpenSpec.upto fnOutsTurnedSpec)

/-- 'laws.FnPath', WHERE WHAT IT READS IS OF BULK AT MOST 1048576: true; the input reads as it did. -/
def fnPathUptoRow : OpenClaim := { program := "ytpbgnidjgmmebaa", sum := "9423a23d6207be3eb8c77f812d5505135164ee7849872006d3371c8b69bb0483", func := "loop.example/g00546/laws.FnPath", spec := "fnPath", unfollowed := true, recurses := true, apart := false, narrowed := true }
def FnPathUptoSaid : Prop := fnPathUptoRow.holds Try.pinned (OpenSpec.upto fnPathSpec)

/-- 'laws.FnFirstPath', WHERE WHAT IT READS IS OF BULK AT MOST 1048576: true; the input reads as it did. -/
def fnFirstPathUptoRow : OpenClaim := { program := "ytpbgnidjgmmebaa", sum := "9423a23d6207be3eb8c77f812d5505135164ee7849872006d3371c8b69bb0483", func := "loop.example/g00546/laws.FnFirstPath", spec := "fnFirstPath", unfollowed := true, recurses := true, apart := false, narrowed := true }
def FnFirstPathUptoSaid : Prop := fnFirstPathUptoRow.holds Try.pinned (OpenSpec.upto fnFirstPathSpec)

/-- 'laws.FnOnShortest', WHERE WHAT IT READS IS OF BULK AT MOST 1048576: true; the input reads as it did. -/
def fnOnShortestUptoRow : OpenClaim := { program := "ytpbgnidjgmmebaa", sum := "9423a23d6207be3eb8c77f812d5505135164ee7849872006d3371c8b69bb0483", func := "loop.example/g00546/laws.FnOnShortest", spec := "fnOnShortest", unfollowed := true, recurses := true, apart := false, narrowed := true }
def FnOnShortestUptoSaid : Prop := fnOnShortestUptoRow.holds Try.pinned (OpenSpec.upto fnOnShortestSpec)

/-- 'laws.FnPathPieces', WHERE WHAT IT READS IS OF BULK AT MOST 1048576: true; the input reads as it did. -/
def fnPathPiecesUptoRow : OpenClaim := { program := "ytpbgnidjgmmebaa", sum := "9423a23d6207be3eb8c77f812d5505135164ee7849872006d3371c8b69bb0483", func := "loop.example/g00546/laws.FnPathPieces", spec := "fnPathPieces", unfollowed := true, recurses := true, apart := false, narrowed := true }
def FnPathPiecesUptoSaid : Prop := fnPathPiecesUptoRow.holds Try.pinned (OpenSpec.upto fnPathPiecesSpec)

/-- 'laws.FnOnTurned', WHERE WHAT IT READS IS OF BULK AT MOST 1048576: true; the input reads as it did. -/
def fnOnTurnedUptoRow : OpenClaim := { program := "ytpbgnidjgmmebaa", sum := "9423a23d6207be3eb8c77f812d5505135164ee7849872006d3371c8b69bb0483", func := "loop.example/g00546/laws.FnOnTurned", spec := "fnOnTurned", unfollowed := true, recurses := true, apart := false, narrowed := true }
def FnOnTurnedUptoSaid : Prop := fnOnTurnedUptoRow.holds Try.pinned (OpenSpec.upto fnOnTurnedSpec)

/-- 'laws.FnLengthPieces', WHERE WHAT IT READS IS OF BULK AT MOST 1048576: true; the input reads as it did. -/
def fnLengthPiecesUptoRow : OpenClaim := { program := "ytpbgnidjgmmebaa", sum := "9423a23d6207be3eb8c77f812d5505135164ee7849872006d3371c8b69bb0483", func := "loop.example/g00546/laws.FnLengthPieces", spec := "fnLengthPieces", unfollowed := true, recurses := true, apart := false, narrowed := true }
def FnLengthPiecesUptoSaid : Prop := fnLengthPiecesUptoRow.holds Try.pinned (OpenSpec.upto fnLengthPiecesSpec)

/-- 'laws.FnBetween', WHERE WHAT IT READS IS OF BULK AT MOST 1048576: true; the input reads as it did. -/
def fnBetweenUptoRow : OpenClaim := { program := "ytpbgnidjgmmebaa", sum := "9423a23d6207be3eb8c77f812d5505135164ee7849872006d3371c8b69bb0483", func := "loop.example/g00546/laws.FnBetween", spec := "fnBetween", unfollowed := true, recurses := true, apart := false, narrowed := true }
def FnBetweenUptoSaid : Prop := fnBetweenUptoRow.holds Try.pinned (OpenSpec.upto fnBetweenSpec)

/-- 'laws.FnBetweenMore', WHERE WHAT IT READS IS OF BULK AT MOST 1048576: true; the input reads as it did. -/
def fnBetweenMoreUptoRow : OpenClaim := { program := "ytpbgnidjgmmebaa", sum := "9423a23d6207be3eb8c77f812d5505135164ee7849872006d3371c8b69bb0483", func := "loop.example/g00546/laws.FnBetweenMore", spec := "fnBetweenMore", unfollowed := true, recurses := true, apart := false, narrowed := true }
def FnBetweenMoreUptoSaid : Prop := fnBetweenMoreUptoRow.holds Try.pinned (OpenSpec.upto fnBetweenMoreSpec)

/-- 'laws.FnExactPathOf', WHERE WHAT IT READS IS OF BULK AT MOST 1048576: true; the input reads as it did. -/
def fnExactPathOfUptoRow : OpenClaim := { program := "ytpbgnidjgmmebaa", sum := "9423a23d6207be3eb8c77f812d5505135164ee7849872006d3371c8b69bb0483", func := "loop.example/g00546/laws.FnExactPathOf", spec := "fnExactPathOf", unfollowed := true, recurses := true, apart := false, narrowed := true }
def FnExactPathOfUptoSaid : Prop := fnExactPathOfUptoRow.holds Try.pinned (OpenSpec.upto fnExactPathOfSpec)

/-- 'laws.FnExactOnShortest', WHERE WHAT IT READS IS OF BULK AT MOST 1048576: true; the input reads as it did. -/
def fnExactOnShortestUptoRow : OpenClaim := { program := "ytpbgnidjgmmebaa", sum := "9423a23d6207be3eb8c77f812d5505135164ee7849872006d3371c8b69bb0483", func := "loop.example/g00546/laws.FnExactOnShortest", spec := "fnExactOnShortest", unfollowed := true, recurses := true, apart := false, narrowed := true }
def FnExactOnShortestUptoSaid : Prop := fnExactOnShortestUptoRow.holds Try.pinned (OpenSpec.upto fnExactOnShortestSpec)

/-- 'laws.FnExactBetween', WHERE WHAT IT READS IS OF BULK AT MOST 1048576: true; the input reads as it did. -/
def fnExactBetweenUptoRow : OpenClaim := { program := "ytpbgnidjgmmebaa", sum := "9423a23d6207be3eb8c77f812d5505135164ee7849872006d3371c8b69bb0483", func := "loop.example/g00546/laws.FnExactBetween", spec := "fnExactBetween", unfollowed := true, recurses := true, apart := false, narrowed := true }
def FnExactBetweenUptoSaid : Prop := fnExactBetweenUptoRow.holds Try.pinned (OpenSpec.upto fnExactBetweenSpec)

/-- 'laws.FnPruned', WHERE WHAT IT READS IS OF BULK AT MOST 1048576: true; the input reads as it did. -/
def fnPrunedUptoRow : OpenClaim := { program := "ytpbgnidjgmmebaa", sum := "9423a23d6207be3eb8c77f812d5505135164ee7849872006d3371c8b69bb0483", func := "loop.example/g00546/laws.FnPruned", spec := "fnPruned", unfollowed := true, recurses := true, apart := false, narrowed := true }
def FnPrunedUptoSaid : Prop := fnPrunedUptoRow.holds Try.pinned (OpenSpec.upto fnPrunedSpec)

/-- 'laws.FnReach', WHERE WHAT IT READS IS OF BULK AT MOST 1048576: true; the input reads as it did. -/
def fnReachUptoRow : OpenClaim := { program := "ytpbgnidjgmmebaa", sum := "9423a23d6207be3eb8c77f812d5505135164ee7849872006d3371c8b69bb0483", func := "loop.example/g00546/laws.FnReach", spec := "fnReach", unfollowed := true, recurses := true, apart := false, narrowed := true }
def FnReachUptoSaid : Prop := fnReachUptoRow.holds Try.pinned (OpenSpec.upto fnReachSpec)

end Rows
end Go.Proofs.Ytpbgnidjgmmebaa
