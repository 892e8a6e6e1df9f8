/-
  No cell of these rows narrows 'for every input' (looked for: loops, veiled, ifaces, maps, wideKeys, modest, calm, conditions, laid).
  DERIVED. THE GIVEN ROWS OF THIS SEAT. 12 by the template 'for every input the law returns true; each argument reads behind the call as it read before'; 0 by the template 'total and deterministic' (their statements: YtnacjmifnnfliaaTotals.lean).
  GIVEN WITH THE SEED: the statements are not yours to turn. If you find one false, say at which input.
  Laid BY PROGRAM, IN A SANDBOX (cutbox-rows.mjs): the forced cells as the released guide's own fill.sh prints them over the translation 45676c4d20d9923f… (all of the seat's roots in one cut). By AI agents, Wed Nov 11 2026. No macro, syntax, notation, axiom, sorry.
-/
import Derived.Test.YtnacjmifnnfliaaChecked
import GoSem.Claim
import GoSem.ClaimJoined
import GoSem.ClaimMapViews
import Derived.JoinedTies
import Derived.KernelRfl
namespace Go.Proofs.Ytnacjmifnnfliaa
/- THE CELL 'sum', in the pinned program and in every row, IS THE sha256 OF THE DUMP (.gsa) THAT YtnacjmifnnfliaaProg.lean LOADS. Nothing in Lean hashes anything: it is a label: what it is worth is what the hold of that sum in a sandbox is worth. -/
noncomputable def Try.pinned : Pinned := { name := "ytnacjmifnnfliaa", sum := "45676c4d20d9923f22343b558c0efe8b81994a43b318026f6bc4990cb012b24d", checked := Try.checked }
namespace Rows
def none {H : Type} : Left H := { results := [], args := [] }

/-- 'laws.FnExactDistFrom': WHATEVER THE INPUT: true; the input reads as it did. -/
def fnExactDistFromSpec : ChangeSpec := { name := "fnExactDistFrom", fn := fun _ => fun
  | [d1, d2] => { results := [.lit (.bool true)], args := [d1, d2] }
  | _ => none }
def fnExactDistFromRow : OpenClaim := { program := "ytnacjmifnnfliaa", sum := "45676c4d20d9923f22343b558c0efe8b81994a43b318026f6bc4990cb012b24d", func := "loop.example/g00546/laws.FnExactDistFrom", spec := "fnExactDistFrom", unfollowed := true, recurses := true, apart := false }
def FnExactDistFromSaid : Prop := fnExactDistFromRow.holds Try.pinned (OpenSpec.ofChange fnExactDistFromSpec)

/-- ITS FALSE NEIGHBOUR: 'it returns false'. Refute it at one input. -/
def fnExactDistFromWrong : ChangeSpec := { name := "fnExactDistFrom", fn := fun _ => fun
  | [d1, d2] => { results := [.lit (.bool false)], args := [d1, d2] }
  | _ => none }
def FnExactDistFromWrongFalsely : Prop := fnExactDistFromRow.holds Try.pinned (OpenSpec.ofChange fnExactDistFromWrong)

/-- 'laws.FnExactDistOf': WHATEVER THE INPUT: true; the input reads as it did. -/
def fnExactDistOfSpec : ChangeSpec := { name := "fnExactDistOf", fn := fun _ => fun
  | [d1, d2, d3] => { results := [.lit (.bool true)], args := [d1, d2, d3] }
  | _ => none }
def fnExactDistOfRow : OpenClaim := { program := "ytnacjmifnnfliaa", sum := "45676c4d20d9923f22343b558c0efe8b81994a43b318026f6bc4990cb012b24d", func := "loop.example/g00546/laws.FnExactDistOf", spec := "fnExactDistOf", unfollowed := true, recurses := true, apart := false }
def FnExactDistOfSaid : Prop := fnExactDistOfRow.holds Try.pinned (OpenSpec.ofChange fnExactDistOfSpec)

/-- ITS FALSE NEIGHBOUR: 'it returns false'. Refute it at one input. -/
def fnExactDistOfWrong : ChangeSpec := { name := "fnExactDistOf", fn := fun _ => fun
  | [d1, d2, d3] => { results := [.lit (.bool false)], args := [d1, d2, d3] }
  | _ => none }
def FnExactDistOfWrongFalsely : Prop := fnExactDistOfRow.holds Try.pinned (OpenSpec.ofChange fnExactDistOfWrong)

/-- 'laws.FnExactOnShortest': WHATEVER THE INPUT: true; the input reads as it did. -/
def fnExactOnShortestSpec : ChangeSpec := { name := "fnExactOnShortest", fn := fun _ => fun
  | [d1, d2, d3] => { results := [.lit (.bool true)], args := [d1, d2, d3] }
  | _ => none }
def fnExactOnShortestRow : OpenClaim := { program := "ytnacjmifnnfliaa", sum := "45676c4d20d9923f22343b558c0efe8b81994a43b318026f6bc4990cb012b24d", func := "loop.example/g00546/laws.FnExactOnShortest", spec := "fnExactOnShortest", unfollowed := true, recurses := true, apart := false }
def FnExactOnShortestSaid : Prop := fnExactOnShortestRow.holds Try.pinned (OpenSpec.ofChange fnExactOnShortestSpec)

/-- ITS FALSE NEIGHBOUR: 'it returns false'. Refute it at one input. -/
def fnExactOnShortestWrong : ChangeSpec := { name := "fnExactOnShortest", fn := fun _ => fun
  | [d1, d2, d3] => { results := [.lit (.bool false)], args := [d1, d2, d3] }
  | _ => none }
def FnExactOnShortestWrongFalsely : Prop := fnExactOnShortestRow.holds Try.pinned (OpenSpec.ofChange fnExactOnShortestWrong)

/-- 'laws.FnExactBetween': WHATEVER THE INPUT: true; the input reads as it did. -/
def fnExactBetweenSpec : ChangeSpec := { name := "fnExactBetween", fn := fun _ => fun
  | [d1, d2, d3, d4] => { results := [.lit (.bool true)], args := [d1, d2, d3, d4] }
  | _ => none }
def fnExactBetweenRow : OpenClaim := { program := "ytnacjmifnnfliaa", sum := "45676c4d20d9923f22343b558c0efe8b81994a43b318026f6bc4990cb012b24d", func := "loop.example/g00546/laws.FnExactBetween", spec := "fnExactBetween", unfollowed := true, recurses := true, apart := false }
def FnExactBetweenSaid : Prop := fnExactBetweenRow.holds Try.pinned (OpenSpec.ofChange fnExactBetweenSpec)

/-- ITS FALSE NEIGHBOUR: 'it returns false'. Refute it at one input. -/
def fnExactBetweenWrong : ChangeSpec := { name := "fnExactBetween", fn := fun _ => fun
  | [d1, d2, d3, d4] => { results := [.lit (.bool false)], args := [d1, d2, d3, d4] }
  | _ => none }
def FnExactBetweenWrongFalsely : Prop := fnExactBetweenRow.holds Try.pinned (OpenSpec.ofChange fnExactBetweenWrong)

/-- 'laws.FnExactPathOf': WHATEVER THE INPUT: true; the input reads as it did. -/
def fnExactPathOfSpec : ChangeSpec := { name := "fnExactPathOf", fn := fun _ => fun
  | [d1, d2, d3] => { results := [.lit (.bool true)], args := [d1, d2, d3] }
  | _ => none }
def fnExactPathOfRow : OpenClaim := { program := "ytnacjmifnnfliaa", sum := "45676c4d20d9923f22343b558c0efe8b81994a43b318026f6bc4990cb012b24d", func := "loop.example/g00546/laws.FnExactPathOf", spec := "fnExactPathOf", unfollowed := true, recurses := true, apart := false }
def FnExactPathOfSaid : Prop := fnExactPathOfRow.holds Try.pinned (OpenSpec.ofChange fnExactPathOfSpec)

/-- ITS FALSE NEIGHBOUR: 'it returns false'. Refute it at one input. -/
def fnExactPathOfWrong : ChangeSpec := { name := "fnExactPathOf", fn := fun _ => fun
  | [d1, d2, d3] => { results := [.lit (.bool false)], args := [d1, d2, d3] }
  | _ => none }
def FnExactPathOfWrongFalsely : Prop := fnExactPathOfRow.holds Try.pinned (OpenSpec.ofChange fnExactPathOfWrong)

/-- 'laws.FnExactBound': WHATEVER THE INPUT: true; the input reads as it did. -/
def fnExactBoundSpec : ChangeSpec := { name := "fnExactBound", fn := fun _ => fun
  | [d1, d2, d3] => { results := [.lit (.bool true)], args := [d1, d2, d3] }
  | _ => none }
def fnExactBoundRow : OpenClaim := { program := "ytnacjmifnnfliaa", sum := "45676c4d20d9923f22343b558c0efe8b81994a43b318026f6bc4990cb012b24d", func := "loop.example/g00546/laws.FnExactBound", spec := "fnExactBound", apart := false }
def FnExactBoundSaid : Prop := fnExactBoundRow.holds Try.pinned (OpenSpec.ofChange fnExactBoundSpec)

/-- ITS FALSE NEIGHBOUR: 'it returns false'. Refute it at one input. -/
def fnExactBoundWrong : ChangeSpec := { name := "fnExactBound", fn := fun _ => fun
  | [d1, d2, d3] => { results := [.lit (.bool false)], args := [d1, d2, d3] }
  | _ => none }
def FnExactBoundWrongFalsely : Prop := fnExactBoundRow.holds Try.pinned (OpenSpec.ofChange fnExactBoundWrong)

/-- 'laws.FnExactMarksOf': WHATEVER THE INPUT: true; the input reads as it did. -/
def fnExactMarksOfSpec : ChangeSpec := { name := "fnExactMarksOf", fn := fun _ => fun
  | [d1, d2] => { results := [.lit (.bool true)], args := [d1, d2] }
  | _ => none }
def fnExactMarksOfRow : OpenClaim := { program := "ytnacjmifnnfliaa", sum := "45676c4d20d9923f22343b558c0efe8b81994a43b318026f6bc4990cb012b24d", func := "loop.example/g00546/laws.FnExactMarksOf", spec := "fnExactMarksOf", unfollowed := true, recurses := true, apart := false }
def FnExactMarksOfSaid : Prop := fnExactMarksOfRow.holds Try.pinned (OpenSpec.ofChange fnExactMarksOfSpec)

/-- ITS FALSE NEIGHBOUR: 'it returns false'. Refute it at one input. -/
def fnExactMarksOfWrong : ChangeSpec := { name := "fnExactMarksOf", fn := fun _ => fun
  | [d1, d2] => { results := [.lit (.bool false)], args := [d1, d2] }
  | _ => none }
def FnExactMarksOfWrongFalsely : Prop := fnExactMarksOfRow.holds Try.pinned (OpenSpec.ofChange fnExactMarksOfWrong)

/-- 'laws.FnExactMarksOk': WHATEVER THE INPUT: true; the input reads as it did. -/
def fnExactMarksOkSpec : ChangeSpec := { name := "fnExactMarksOk", fn := fun _ => fun
  | [d1, d2] => { results := [.lit (.bool true)], args := [d1, d2] }
  | _ => none }
def fnExactMarksOkRow : OpenClaim := { program := "ytnacjmifnnfliaa", sum := "45676c4d20d9923f22343b558c0efe8b81994a43b318026f6bc4990cb012b24d", func := "loop.example/g00546/laws.FnExactMarksOk", spec := "fnExactMarksOk", unfollowed := true, recurses := true, apart := false }
def FnExactMarksOkSaid : Prop := fnExactMarksOkRow.holds Try.pinned (OpenSpec.ofChange fnExactMarksOkSpec)

/-- ITS FALSE NEIGHBOUR: 'it returns false'. Refute it at one input. -/
def fnExactMarksOkWrong : ChangeSpec := { name := "fnExactMarksOk", fn := fun _ => fun
  | [d1, d2] => { results := [.lit (.bool false)], args := [d1, d2] }
  | _ => none }
def FnExactMarksOkWrongFalsely : Prop := fnExactMarksOkRow.holds Try.pinned (OpenSpec.ofChange fnExactMarksOkWrong)

/-- 'laws.FnExactReachOf': WHATEVER THE INPUT: true; the input reads as it did. -/
def fnExactReachOfSpec : ChangeSpec := { name := "fnExactReachOf", fn := fun _ => fun
  | [d] => { results := [.lit (.bool true)], args := [d] }
  | _ => none }
def fnExactReachOfRow : OpenClaim := { program := "ytnacjmifnnfliaa", sum := "45676c4d20d9923f22343b558c0efe8b81994a43b318026f6bc4990cb012b24d", func := "loop.example/g00546/laws.FnExactReachOf", spec := "fnExactReachOf", unfollowed := true, recurses := true, apart := false }
def FnExactReachOfSaid : Prop := fnExactReachOfRow.holds Try.pinned (OpenSpec.ofChange fnExactReachOfSpec)

/-- ITS FALSE NEIGHBOUR: 'it returns false'. Refute it at one input. -/
def fnExactReachOfWrong : ChangeSpec := { name := "fnExactReachOf", fn := fun _ => fun
  | [d] => { results := [.lit (.bool false)], args := [d] }
  | _ => none }
def FnExactReachOfWrongFalsely : Prop := fnExactReachOfRow.holds Try.pinned (OpenSpec.ofChange fnExactReachOfWrong)

/-- 'laws.FnExactReachOk': WHATEVER THE INPUT: true; the input reads as it did. -/
def fnExactReachOkSpec : ChangeSpec := { name := "fnExactReachOk", fn := fun _ => fun
  | [d1, d2] => { results := [.lit (.bool true)], args := [d1, d2] }
  | _ => none }
def fnExactReachOkRow : OpenClaim := { program := "ytnacjmifnnfliaa", sum := "45676c4d20d9923f22343b558c0efe8b81994a43b318026f6bc4990cb012b24d", func := "loop.example/g00546/laws.FnExactReachOk", spec := "fnExactReachOk", unfollowed := true, recurses := true, apart := false }
def FnExactReachOkSaid : Prop := fnExactReachOkRow.holds Try.pinned (OpenSpec.ofChange fnExactReachOkSpec)

/-- ITS FALSE NEIGHBOUR: 'it returns false'. Refute it at one input. -/
def fnExactReachOkWrong : ChangeSpec := { name := "fnExactReachOk", fn := fun _ => fun
  | [d1, d2] => { results := [.lit (.bool false)], args := [d1, d2] }
  | _ => none }
def FnExactReachOkWrongFalsely : Prop := fnExactReachOkRow.holds Try.pinned (OpenSpec.ofChange fnExactReachOkWrong)

/-- 'laws.FnExactPruned': WHATEVER THE INPUT: true; the input reads as it did. -/
def fnExactPrunedSpec : ChangeSpec := { name := "fnExactPruned", fn := fun _ => fun
  | [d1, d2, d3, d4] => { results := [.lit (.bool true)], args := [d1, d2, d3, d4] }
  | _ => none }
def fnExactPrunedRow : OpenClaim := { program := "ytnacjmifnnfliaa", sum := "45676c4d20d9923f22343b558c0efe8b81994a43b318026f6bc4990cb012b24d", func := "loop.example/g00546/laws.FnExactPruned", spec := "fnExactPruned", unfollowed := true, recurses := true, apart := false }
def FnExactPrunedSaid : Prop := fnExactPrunedRow.holds Try.pinned (OpenSpec.ofChange fnExactPrunedSpec)

/-- ITS FALSE NEIGHBOUR: 'it returns false'. Refute it at one input. -/
def fnExactPrunedWrong : ChangeSpec := { name := "fnExactPruned", fn := fun _ => fun
  | [d1, d2, d3, d4] => { results := [.lit (.bool false)], args := [d1, d2, d3, d4] }
  | _ => none }
def FnExactPrunedWrongFalsely : Prop := fnExactPrunedRow.holds Try.pinned (OpenSpec.ofChange fnExactPrunedWrong)

/-- 'laws.FnExactFarthest': WHATEVER THE INPUT: true; the input reads as it did. -/
def fnExactFarthestSpec : ChangeSpec := { name := "fnExactFarthest", fn := fun _ => fun
  | [d1, d2] => { results := [.lit (.bool true)], args := [d1, d2] }
  | _ => none }
def fnExactFarthestRow : OpenClaim := { program := "ytnacjmifnnfliaa", sum := "45676c4d20d9923f22343b558c0efe8b81994a43b318026f6bc4990cb012b24d", func := "loop.example/g00546/laws.FnExactFarthest", spec := "fnExactFarthest", unfollowed := true, recurses := true, apart := false }
def FnExactFarthestSaid : Prop := fnExactFarthestRow.holds Try.pinned (OpenSpec.ofChange fnExactFarthestSpec)

/-- ITS FALSE NEIGHBOUR: 'it returns false'. Refute it at one input. -/
def fnExactFarthestWrong : ChangeSpec := { name := "fnExactFarthest", fn := fun _ => fun
  | [d1, d2] => { results := [.lit (.bool false)], args := [d1, d2] }
  | _ => none }
def FnExactFarthestWrongFalsely : Prop := fnExactFarthestRow.holds Try.pinned (OpenSpec.ofChange fnExactFarthestWrong)

/- THE SECOND FORM. 'bulk': how many values and letters a reading holds, each counted each time it is reached (what is shared counts as often as it is met; a slice's spare places count too). A statement '..UptoSaid' is the law's where the arguments, and the package variables that the reading takes, are together of bulk at most 1048576: NARROWER than '..Said'. Prove '..Said' where nothing that the law and all that it calls make is longer than what came in: it says more and counts as full. Else prove '..UptoSaid'. A law counts once. -/
mutual
def uptoBulk {H : Type} : DataW H → Nat
  | .lit (.string bytes) => bytes.length + 1
  | .lit _ => 1
  | .nil => 1
  | .ptr d => uptoBulk d + 1
  | .slice elems spare => uptoBulkAll elems + uptoBulkAll spare + 1
  | .agg parts => uptoBulkAll parts + 1
  | .iface _ d => uptoBulk d + 1
  | .map entries => uptoBulkEntries entries + 1
  | .held _ => 1
def uptoBulkAll {H : Type} : List (DataW H) → Nat
  | [] => 0
  | d :: r => uptoBulk d + uptoBulkAll r
def uptoBulkEntries {H : Type} : List (Lit × DataW H) → Nat
  | [] => 0
  | x :: r => uptoBulkEntry x + uptoBulkEntries r
def uptoBulkEntry {H : Type} : Lit × DataW H → Nat
  | (.string bytes, d) => bytes.length + uptoBulk d + 1
  | (_, d) => uptoBulk d + 1
 end
def uptoSmall : (H : Type) → List (DataW H) → Bool := fun _ ds => decide (uptoBulkAll ds ≤ 1048576)
def OpenSpec.upto (s : _root_.Go.ChangeSpec) : _root_.Go.OpenSpec := { _root_.Go.OpenSpec.ofChange s with cond := some uptoSmall }

/-- 'laws.FnExactDistFrom', WHERE WHAT IT READS IS OF BULK AT MOST 1048576: true; the input reads as it did. -/
def fnExactDistFromUptoRow : OpenClaim := { program := "ytnacjmifnnfliaa", sum := "45676c4d20d9923f22343b558c0efe8b81994a43b318026f6bc4990cb012b24d", func := "loop.example/g00546/laws.FnExactDistFrom", spec := "fnExactDistFrom", unfollowed := true, recurses := true, apart := false, narrowed := true }
def FnExactDistFromUptoSaid : Prop := fnExactDistFromUptoRow.holds Try.pinned (OpenSpec.upto fnExactDistFromSpec)

/-- 'laws.FnExactDistOf', WHERE WHAT IT READS IS OF BULK AT MOST 1048576: true; the input reads as it did. -/
def fnExactDistOfUptoRow : OpenClaim := { program := "ytnacjmifnnfliaa", sum := "45676c4d20d9923f22343b558c0efe8b81994a43b318026f6bc4990cb012b24d", func := "loop.example/g00546/laws.FnExactDistOf", spec := "fnExactDistOf", unfollowed := true, recurses := true, apart := false, narrowed := true }
def FnExactDistOfUptoSaid : Prop := fnExactDistOfUptoRow.holds Try.pinned (OpenSpec.upto fnExactDistOfSpec)

/-- 'laws.FnExactOnShortest', WHERE WHAT IT READS IS OF BULK AT MOST 1048576: true; the input reads as it did. -/
def fnExactOnShortestUptoRow : OpenClaim := { program := "ytnacjmifnnfliaa", sum := "45676c4d20d9923f22343b558c0efe8b81994a43b318026f6bc4990cb012b24d", func := "loop.example/g00546/laws.FnExactOnShortest", spec := "fnExactOnShortest", unfollowed := true, recurses := true, apart := false, narrowed := true }
def FnExactOnShortestUptoSaid : Prop := fnExactOnShortestUptoRow.holds Try.pinned (OpenSpec.upto fnExactOnShortestSpec)

/-- 'laws.FnExactBetween', WHERE WHAT IT READS IS OF BULK AT MOST 1048576: true; the input reads as it did. -/
def fnExactBetweenUptoRow : OpenClaim := { program := "ytnacjmifnnfliaa", sum := "45676c4d20d9923f22343b558c0efe8b81994a43b318026f6bc4990cb012b24d", func := "loop.example/g00546/laws.FnExactBetween", spec := "fnExactBetween", unfollowed := true, recurses := true, apart := false, narrowed := true }
def FnExactBetweenUptoSaid : Prop := fnExactBetweenUptoRow.holds Try.pinned (OpenSpec.upto fnExactBetweenSpec)

/-- 'laws.FnExactPathOf', WHERE WHAT IT READS IS OF BULK AT MOST 1048576: true; the input reads as it did. -/
def fnExactPathOfUptoRow : OpenClaim := { program := "ytnacjmifnnfliaa", sum := "45676c4d20d9923f22343b558c0efe8b81994a43b318026f6bc4990cb012b24d", func := "loop.example/g00546/laws.FnExactPathOf", spec := "fnExactPathOf", unfollowed := true, recurses := true, apart := false, narrowed := true }
def FnExactPathOfUptoSaid : Prop := fnExactPathOfUptoRow.holds Try.pinned (OpenSpec.upto fnExactPathOfSpec)

/-- 'laws.FnExactBound', WHERE WHAT IT READS IS OF BULK AT MOST 1048576: true; the input reads as it did. -/
def fnExactBoundUptoRow : OpenClaim := { program := "ytnacjmifnnfliaa", sum := "45676c4d20d9923f22343b558c0efe8b81994a43b318026f6bc4990cb012b24d", func := "loop.example/g00546/laws.FnExactBound", spec := "fnExactBound", apart := false, narrowed := true }
def FnExactBoundUptoSaid : Prop := fnExactBoundUptoRow.holds Try.pinned (OpenSpec.upto fnExactBoundSpec)

/-- 'laws.FnExactMarksOf', WHERE WHAT IT READS IS OF BULK AT MOST 1048576: true; the input reads as it did. -/
def fnExactMarksOfUptoRow : OpenClaim := { program := "ytnacjmifnnfliaa", sum := "45676c4d20d9923f22343b558c0efe8b81994a43b318026f6bc4990cb012b24d", func := "loop.example/g00546/laws.FnExactMarksOf", spec := "fnExactMarksOf", unfollowed := true, recurses := true, apart := false, narrowed := true }
def FnExactMarksOfUptoSaid : Prop := fnExactMarksOfUptoRow.holds Try.pinned (OpenSpec.upto fnExactMarksOfSpec)

/-- 'laws.FnExactMarksOk', WHERE WHAT IT READS IS OF BULK AT MOST 1048576: true; the input reads as it did. -/
def fnExactMarksOkUptoRow : OpenClaim := { program := "ytnacjmifnnfliaa", sum := "45676c4d20d9923f22343b558c0efe8b81994a43b318026f6bc4990cb012b24d", func := "loop.example/g00546/laws.FnExactMarksOk", spec := "fnExactMarksOk", unfollowed := true, recurses := true, apart := false, narrowed := true }
def FnExactMarksOkUptoSaid : Prop := fnExactMarksOkUptoRow.holds Try.pinned (OpenSpec.upto fnExactMarksOkSpec)

/-- 'laws.FnExactReachOf', WHERE WHAT IT READS IS OF BULK AT MOST 1048576: true; the input reads as it did. -/
def fnExactReachOfUptoRow : OpenClaim := { program := "ytnacjmifnnfliaa", sum := "45676c4d20d9923f22343b558c0efe8b81994a43b318026f6bc4990cb012b24d", func := "loop.example/g00546/laws.FnExactReachOf", spec := "fnExactReachOf", unfollowed := true, recurses := true, apart := false, narrowed := true }
def FnExactReachOfUptoSaid : Prop := fnExactReachOfUptoRow.holds Try.pinned (OpenSpec.upto fnExactReachOfSpec)

/-- 'laws.FnExactReachOk', WHERE WHAT IT READS IS OF BULK AT MOST 1048576: true; the input reads as it did. -/
def fnExactReachOkUptoRow : OpenClaim := { program := "ytnacjmifnnfliaa", sum := "45676c4d20d9923f22343b558c0efe8b81994a43b318026f6bc4990cb012b24d", func := "loop.example/g00546/laws.FnExactReachOk", spec := "fnExactReachOk", unfollowed := true, recurses := true, apart := false, narrowed := true }
def FnExactReachOkUptoSaid : Prop := fnExactReachOkUptoRow.holds Try.pinned (OpenSpec.upto fnExactReachOkSpec)

/-- 'laws.FnExactPruned', WHERE WHAT IT READS IS OF BULK AT MOST 1048576: true; the input reads as it did. -/
def fnExactPrunedUptoRow : OpenClaim := { program := "ytnacjmifnnfliaa", sum := "45676c4d20d9923f22343b558c0efe8b81994a43b318026f6bc4990cb012b24d", func := "loop.example/g00546/laws.FnExactPruned", spec := "fnExactPruned", unfollowed := true, recurses := true, apart := false, narrowed := true }
def FnExactPrunedUptoSaid : Prop := fnExactPrunedUptoRow.holds Try.pinned (OpenSpec.upto fnExactPrunedSpec)

/-- 'laws.FnExactFarthest', WHERE WHAT IT READS IS OF BULK AT MOST 1048576: true; the input reads as it did. -/
def fnExactFarthestUptoRow : OpenClaim := { program := "ytnacjmifnnfliaa", sum := "45676c4d20d9923f22343b558c0efe8b81994a43b318026f6bc4990cb012b24d", func := "loop.example/g00546/laws.FnExactFarthest", spec := "fnExactFarthest", unfollowed := true, recurses := true, apart := false, narrowed := true }
def FnExactFarthestUptoSaid : Prop := fnExactFarthestUptoRow.holds Try.pinned (OpenSpec.upto fnExactFarthestSpec)

end Rows
end Go.Proofs.Ytnacjmifnnfliaa
