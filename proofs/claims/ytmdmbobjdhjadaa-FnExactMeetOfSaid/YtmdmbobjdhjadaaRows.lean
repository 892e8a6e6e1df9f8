/-
  No cell of these rows narrows 'for every input' (looked for: loops, veiled, ifaces, maps, wideKeys, modest, calm, conditions, laid).
  DERIVED. THE GIVEN ROWS OF THIS SEAT. 12 by the template 'for every input the law returns true; each argument reads behind the call as it read before'; 0 by the template 'total and deterministic' (their statements: YtmdmbobjdhjadaaTotals.lean).
  GIVEN WITH THE SEED: the statements are not yours to turn. If you find one false, say at which input.
  Laid BY PROGRAM, IN A SANDBOX (cutbox-rows.mjs): the forced cells as the released guide's own fill.sh prints them over the translation 6d9acc4ac0f430c8… (all of the seat's roots in one cut). By AI agents, Wed Nov 11 2026. No macro, syntax, notation, axiom, sorry.
-/
import Derived.Test.YtmdmbobjdhjadaaChecked
import GoSem.Claim
import GoSem.ClaimJoined
import GoSem.ClaimMapViews
import Derived.JoinedTies
import Derived.KernelRfl
namespace Go.Proofs.Ytmdmbobjdhjadaa
/- THE CELL 'sum', in the pinned program and in every row, IS THE sha256 OF THE DUMP (.gsa) THAT YtmdmbobjdhjadaaProg.lean LOADS. Nothing in Lean hashes anything: it is a label: what it is worth is what the hold of that sum in a sandbox is worth. -/
noncomputable def Try.pinned : Pinned := { name := "ytmdmbobjdhjadaa", sum := "6d9acc4ac0f430c8a225b5246ad9a7e1a02bcffd69b4fbf716fc82de4214b483", checked := Try.checked }
namespace Rows
def none {H : Type} : Left H := { results := [], args := [] }

/-- 'laws.FnExactBound': WHATEVER THE INPUT: true; the input reads as it did. -/
def fnExactBoundSpec : ChangeSpec := { name := "fnExactBound", fn := fun _ => fun
  | [d1, d2, d3] => { results := [.lit (.bool true)], args := [d1, d2, d3] }
  | _ => none }
def fnExactBoundRow : OpenClaim := { program := "ytmdmbobjdhjadaa", sum := "6d9acc4ac0f430c8a225b5246ad9a7e1a02bcffd69b4fbf716fc82de4214b483", func := "loop.example/g00546/laws.FnExactBound", spec := "fnExactBound", apart := false }
def FnExactBoundSaid : Prop := fnExactBoundRow.holds Try.pinned (OpenSpec.ofChange fnExactBoundSpec)

/-- ITS FALSE NEIGHBOUR: 'it returns false'. Refute it at one input. -/
def fnExactBoundWrong : ChangeSpec := { name := "fnExactBound", fn := fun _ => fun
  | [d1, d2, d3] => { results := [.lit (.bool false)], args := [d1, d2, d3] }
  | _ => none }
def FnExactBoundWrongFalsely : Prop := fnExactBoundRow.holds Try.pinned (OpenSpec.ofChange fnExactBoundWrong)

/-- 'laws.FnExactMarksOf': WHATEVER THE INPUT: true; the input reads as it did. -/
def fnExactMarksOfSpec : ChangeSpec := { name := "fnExactMarksOf", fn := fun _ => fun
  | [d1, d2] => { results := [.lit (.bool true)], args := [d1, d2] }
  | _ => none }
def fnExactMarksOfRow : OpenClaim := { program := "ytmdmbobjdhjadaa", sum := "6d9acc4ac0f430c8a225b5246ad9a7e1a02bcffd69b4fbf716fc82de4214b483", func := "loop.example/g00546/laws.FnExactMarksOf", spec := "fnExactMarksOf", unfollowed := true, recurses := true, apart := false }
def FnExactMarksOfSaid : Prop := fnExactMarksOfRow.holds Try.pinned (OpenSpec.ofChange fnExactMarksOfSpec)

/-- ITS FALSE NEIGHBOUR: 'it returns false'. Refute it at one input. -/
def fnExactMarksOfWrong : ChangeSpec := { name := "fnExactMarksOf", fn := fun _ => fun
  | [d1, d2] => { results := [.lit (.bool false)], args := [d1, d2] }
  | _ => none }
def FnExactMarksOfWrongFalsely : Prop := fnExactMarksOfRow.holds Try.pinned (OpenSpec.ofChange fnExactMarksOfWrong)

/-- 'laws.FnExactMarksOk': WHATEVER THE INPUT: true; the input reads as it did. -/
def fnExactMarksOkSpec : ChangeSpec := { name := "fnExactMarksOk", fn := fun _ => fun
  | [d1, d2] => { results := [.lit (.bool true)], args := [d1, d2] }
  | _ => none }
def fnExactMarksOkRow : OpenClaim := { program := "ytmdmbobjdhjadaa", sum := "6d9acc4ac0f430c8a225b5246ad9a7e1a02bcffd69b4fbf716fc82de4214b483", func := "loop.example/g00546/laws.FnExactMarksOk", spec := "fnExactMarksOk", unfollowed := true, recurses := true, apart := false }
def FnExactMarksOkSaid : Prop := fnExactMarksOkRow.holds Try.pinned (OpenSpec.ofChange fnExactMarksOkSpec)

/-- ITS FALSE NEIGHBOUR: 'it returns false'. Refute it at one input. -/
def fnExactMarksOkWrong : ChangeSpec := { name := "fnExactMarksOk", fn := fun _ => fun
  | [d1, d2] => { results := [.lit (.bool false)], args := [d1, d2] }
  | _ => none }
def FnExactMarksOkWrongFalsely : Prop := fnExactMarksOkRow.holds Try.pinned (OpenSpec.ofChange fnExactMarksOkWrong)

/-- 'laws.FnExactFarthest': WHATEVER THE INPUT: true; the input reads as it did. -/
def fnExactFarthestSpec : ChangeSpec := { name := "fnExactFarthest", fn := fun _ => fun
  | [d1, d2] => { results := [.lit (.bool true)], args := [d1, d2] }
  | _ => none }
def fnExactFarthestRow : OpenClaim := { program := "ytmdmbobjdhjadaa", sum := "6d9acc4ac0f430c8a225b5246ad9a7e1a02bcffd69b4fbf716fc82de4214b483", func := "loop.example/g00546/laws.FnExactFarthest", spec := "fnExactFarthest", unfollowed := true, recurses := true, apart := false }
def FnExactFarthestSaid : Prop := fnExactFarthestRow.holds Try.pinned (OpenSpec.ofChange fnExactFarthestSpec)

/-- ITS FALSE NEIGHBOUR: 'it returns false'. Refute it at one input. -/
def fnExactFarthestWrong : ChangeSpec := { name := "fnExactFarthest", fn := fun _ => fun
  | [d1, d2] => { results := [.lit (.bool false)], args := [d1, d2] }
  | _ => none }
def FnExactFarthestWrongFalsely : Prop := fnExactFarthestRow.holds Try.pinned (OpenSpec.ofChange fnExactFarthestWrong)

/-- 'laws.FnExactReachOf': WHATEVER THE INPUT: true; the input reads as it did. -/
def fnExactReachOfSpec : ChangeSpec := { name := "fnExactReachOf", fn := fun _ => fun
  | [d] => { results := [.lit (.bool true)], args := [d] }
  | _ => none }
def fnExactReachOfRow : OpenClaim := { program := "ytmdmbobjdhjadaa", sum := "6d9acc4ac0f430c8a225b5246ad9a7e1a02bcffd69b4fbf716fc82de4214b483", func := "loop.example/g00546/laws.FnExactReachOf", spec := "fnExactReachOf", unfollowed := true, recurses := true, apart := false }
def FnExactReachOfSaid : Prop := fnExactReachOfRow.holds Try.pinned (OpenSpec.ofChange fnExactReachOfSpec)

/-- ITS FALSE NEIGHBOUR: 'it returns false'. Refute it at one input. -/
def fnExactReachOfWrong : ChangeSpec := { name := "fnExactReachOf", fn := fun _ => fun
  | [d] => { results := [.lit (.bool false)], args := [d] }
  | _ => none }
def FnExactReachOfWrongFalsely : Prop := fnExactReachOfRow.holds Try.pinned (OpenSpec.ofChange fnExactReachOfWrong)

/-- 'laws.FnExactReachOk': WHATEVER THE INPUT: true; the input reads as it did. -/
def fnExactReachOkSpec : ChangeSpec := { name := "fnExactReachOk", fn := fun _ => fun
  | [d1, d2] => { results := [.lit (.bool true)], args := [d1, d2] }
  | _ => none }
def fnExactReachOkRow : OpenClaim := { program := "ytmdmbobjdhjadaa", sum := "6d9acc4ac0f430c8a225b5246ad9a7e1a02bcffd69b4fbf716fc82de4214b483", func := "loop.example/g00546/laws.FnExactReachOk", spec := "fnExactReachOk", unfollowed := true, recurses := true, apart := false }
def FnExactReachOkSaid : Prop := fnExactReachOkRow.holds Try.pinned (OpenSpec.ofChange fnExactReachOkSpec)

/-- ITS FALSE NEIGHBOUR: 'it returns false'. Refute it at one input. -/
def fnExactReachOkWrong : ChangeSpec := { name := "fnExactReachOk", fn := fun _ => fun
  | [d1, d2] => { results := [.lit (.bool false)], args := [d1, d2] }
  | _ => none }
def FnExactReachOkWrongFalsely : Prop := fnExactReachOkRow.holds Try.pinned (OpenSpec.ofChange fnExactReachOkWrong)

/-- 'laws.FnExactPruned': WHATEVER THE INPUT: true; the input reads as it did. -/
def fnExactPrunedSpec : ChangeSpec := { name := "fnExactPruned", fn := fun _ => fun
  | [d1, d2, d3, d4] => { results := [.lit (.bool true)], args := [d1, d2, d3, d4] }
  | _ => none }
def fnExactPrunedRow : OpenClaim := { program := "ytmdmbobjdhjadaa", sum := "6d9acc4ac0f430c8a225b5246ad9a7e1a02bcffd69b4fbf716fc82de4214b483", func := "loop.example/g00546/laws.FnExactPruned", spec := "fnExactPruned", unfollowed := true, recurses := true, apart := false }
def FnExactPrunedSaid : Prop := fnExactPrunedRow.holds Try.pinned (OpenSpec.ofChange fnExactPrunedSpec)

/-- ITS FALSE NEIGHBOUR: 'it returns false'. Refute it at one input. -/
def fnExactPrunedWrong : ChangeSpec := { name := "fnExactPruned", fn := fun _ => fun
  | [d1, d2, d3, d4] => { results := [.lit (.bool false)], args := [d1, d2, d3, d4] }
  | _ => none }
def FnExactPrunedWrongFalsely : Prop := fnExactPrunedRow.holds Try.pinned (OpenSpec.ofChange fnExactPrunedWrong)

/-- 'laws.FnExactQueryReach': WHATEVER THE INPUT: true; the input reads as it did. -/
def fnExactQueryReachSpec : ChangeSpec := { name := "fnExactQueryReach", fn := fun _ => fun
  | [d1, d2, d3, d4] => { results := [.lit (.bool true)], args := [d1, d2, d3, d4] }
  | _ => none }
def fnExactQueryReachRow : OpenClaim := { program := "ytmdmbobjdhjadaa", sum := "6d9acc4ac0f430c8a225b5246ad9a7e1a02bcffd69b4fbf716fc82de4214b483", func := "loop.example/g00546/laws.FnExactQueryReach", spec := "fnExactQueryReach", unfollowed := true, recurses := true, apart := false }
def FnExactQueryReachSaid : Prop := fnExactQueryReachRow.holds Try.pinned (OpenSpec.ofChange fnExactQueryReachSpec)

/-- ITS FALSE NEIGHBOUR: 'it returns false'. Refute it at one input. -/
def fnExactQueryReachWrong : ChangeSpec := { name := "fnExactQueryReach", fn := fun _ => fun
  | [d1, d2, d3, d4] => { results := [.lit (.bool false)], args := [d1, d2, d3, d4] }
  | _ => none }
def FnExactQueryReachWrongFalsely : Prop := fnExactQueryReachRow.holds Try.pinned (OpenSpec.ofChange fnExactQueryReachWrong)

/-- 'laws.FnExactQueryMarks': WHATEVER THE INPUT: true; the input reads as it did. -/
def fnExactQueryMarksSpec : ChangeSpec := { name := "fnExactQueryMarks", fn := fun _ => fun
  | [d1, d2, d3, d4] => { results := [.lit (.bool true)], args := [d1, d2, d3, d4] }
  | _ => none }
def fnExactQueryMarksRow : OpenClaim := { program := "ytmdmbobjdhjadaa", sum := "6d9acc4ac0f430c8a225b5246ad9a7e1a02bcffd69b4fbf716fc82de4214b483", func := "loop.example/g00546/laws.FnExactQueryMarks", spec := "fnExactQueryMarks", unfollowed := true, recurses := true, apart := false }
def FnExactQueryMarksSaid : Prop := fnExactQueryMarksRow.holds Try.pinned (OpenSpec.ofChange fnExactQueryMarksSpec)

/-- ITS FALSE NEIGHBOUR: 'it returns false'. Refute it at one input. -/
def fnExactQueryMarksWrong : ChangeSpec := { name := "fnExactQueryMarks", fn := fun _ => fun
  | [d1, d2, d3, d4] => { results := [.lit (.bool false)], args := [d1, d2, d3, d4] }
  | _ => none }
def FnExactQueryMarksWrongFalsely : Prop := fnExactQueryMarksRow.holds Try.pinned (OpenSpec.ofChange fnExactQueryMarksWrong)

/-- 'laws.FnExactHalfOf': WHATEVER THE INPUT: true; the input reads as it did. -/
def fnExactHalfOfSpec : ChangeSpec := { name := "fnExactHalfOf", fn := fun _ => fun
  | [d1, d2, d3] => { results := [.lit (.bool true)], args := [d1, d2, d3] }
  | _ => none }
def fnExactHalfOfRow : OpenClaim := { program := "ytmdmbobjdhjadaa", sum := "6d9acc4ac0f430c8a225b5246ad9a7e1a02bcffd69b4fbf716fc82de4214b483", func := "loop.example/g00546/laws.FnExactHalfOf", spec := "fnExactHalfOf", unfollowed := true, recurses := true, apart := false }
def FnExactHalfOfSaid : Prop := fnExactHalfOfRow.holds Try.pinned (OpenSpec.ofChange fnExactHalfOfSpec)

/-- ITS FALSE NEIGHBOUR: 'it returns false'. Refute it at one input. -/
def fnExactHalfOfWrong : ChangeSpec := { name := "fnExactHalfOf", fn := fun _ => fun
  | [d1, d2, d3] => { results := [.lit (.bool false)], args := [d1, d2, d3] }
  | _ => none }
def FnExactHalfOfWrongFalsely : Prop := fnExactHalfOfRow.holds Try.pinned (OpenSpec.ofChange fnExactHalfOfWrong)

/-- 'laws.FnExactReversed': WHATEVER THE INPUT: true; the input reads as it did. -/
def fnExactReversedSpec : ChangeSpec := { name := "fnExactReversed", fn := fun _ => fun
  | [d] => { results := [.lit (.bool true)], args := [d] }
  | _ => none }
def fnExactReversedRow : OpenClaim := { program := "ytmdmbobjdhjadaa", sum := "6d9acc4ac0f430c8a225b5246ad9a7e1a02bcffd69b4fbf716fc82de4214b483", func := "loop.example/g00546/laws.FnExactReversed", spec := "fnExactReversed", unfollowed := true, recurses := true, apart := false }
def FnExactReversedSaid : Prop := fnExactReversedRow.holds Try.pinned (OpenSpec.ofChange fnExactReversedSpec)

/-- ITS FALSE NEIGHBOUR: 'it returns false'. Refute it at one input. -/
def fnExactReversedWrong : ChangeSpec := { name := "fnExactReversed", fn := fun _ => fun
  | [d] => { results := [.lit (.bool false)], args := [d] }
  | _ => none }
def FnExactReversedWrongFalsely : Prop := fnExactReversedRow.holds Try.pinned (OpenSpec.ofChange fnExactReversedWrong)

/-- 'laws.FnExactMeetOf': WHATEVER THE INPUT: true; the input reads as it did. -/
def fnExactMeetOfSpec : ChangeSpec := { name := "fnExactMeetOf", fn := fun _ => fun
  | [d1, d2] => { results := [.lit (.bool true)], args := [d1, d2] }
  | _ => none }
def fnExactMeetOfRow : OpenClaim := { program := "ytmdmbobjdhjadaa", sum := "6d9acc4ac0f430c8a225b5246ad9a7e1a02bcffd69b4fbf716fc82de4214b483", func := "loop.example/g00546/laws.FnExactMeetOf", spec := "fnExactMeetOf", apart := false }
def FnExactMeetOfSaid : Prop := fnExactMeetOfRow.holds Try.pinned (OpenSpec.ofChange fnExactMeetOfSpec)

/-- ITS FALSE NEIGHBOUR: 'it returns false'. Refute it at one input. -/
def fnExactMeetOfWrong : ChangeSpec := { name := "fnExactMeetOf", fn := fun _ => fun
  | [d1, d2] => { results := [.lit (.bool false)], args := [d1, d2] }
  | _ => none }
def FnExactMeetOfWrongFalsely : Prop := fnExactMeetOfRow.holds Try.pinned (OpenSpec.ofChange fnExactMeetOfWrong)

/- THE SECOND FORM. 'bulk': how many values and letters a reading holds, each counted each time it is reached (what is shared counts as often as it is met; a slice's spare places count too). A statement '..UptoSaid' is the law's where the arguments, and the package variables that the reading takes, are together of bulk at most 1048576: NARROWER than '..Said'. Prove '..Said' where nothing that the law and all that it calls make is longer than what came in: it says more and counts as full. Else prove '..UptoSaid'. A law counts once. -/
mutual
def uptoBulk {H : Type} : DataW H → Nat
  | .lit (.string bytes) => bytes.length + 1
  | .lit _ => 1
  | .nil => 1
  | .ptr d => uptoBulk d + 1
  | .slice elems spare => uptoBulkAll elems + uptoBulkAll spare + 1
  | .agg parts => uptoBulkAll parts + 1
  | .iface _ d => uptoBulk d + 1
  | .map entries => uptoBulkEntries entries + 1
  | .held _ => 1
def uptoBulkAll {H : Type} : List (DataW H) → Nat
  | [] => 0
  | d :: r => uptoBulk d + uptoBulkAll r
def uptoBulkEntries {H : Type} : List (Lit × DataW H) → Nat
  | [] => 0
  | x :: r => uptoBulkEntry x + uptoBulkEntries r
def uptoBulkEntry {H : Type} : Lit × DataW H → Nat
  | (.string bytes, d) => bytes.length + uptoBulk d + 1
  | (_, d) => uptoBulk d + 1
 end
def uptoSmall : (H : Type) → List (DataW H) → Bool := fun _ ds => decide (uptoBulkAll ds ≤ 1048576)
def OpenSpec.upto (s : _root_.Go.ChangeSpec) : _root_.Go.OpenSpec := { _root_.Go.OpenSpec.ofChange s with cond := some uptoSmall }

/-- 'laws.FnExactBound', WHERE WHAT IT READS IS OF BULK AT MOST 1048576: true; the input reads as it did. -/
def fnExactBoundUptoRow : OpenClaim := { program := "ytmdmbobjdhjadaa", sum := "6d9acc4ac0f430c8a225b5246ad9a7e1a02bcffd69b4fbf716fc82de4214b483", func := "loop.example/g00546/laws.FnExactBound", spec := "fnExactBound", apart := false, narrowed := true }
def FnExactBoundUptoSaid : Prop := fnExactBoundUptoRow.holds Try.pinned (OpenSpec.upto fnExactBoundSpec)

/-- 'laws.FnExactMarksOf', WHERE WHAT IT READS IS OF BULK AT MOST 1048576: true; the input reads as it did. -/
def fnExactMarksOfUptoRow : OpenClaim := { program := "ytmdmbobjdhjadaa", sum := "6d9acc4ac0f430c8a225b5246ad9a7e1a02bcffd69b4fbf716fc82de4214b483", func := "loop.example/g00546/laws.FnExactMarksOf", spec := "fnExactMarksOf", unfollowed := true, recurses := true, apart := false, narrowed := true }
def FnExactMarksOfUptoSaid : Prop := fnExactMarksOfUptoRow.holds Try.pinned (OpenSpec.upto fnExactMarksOfSpec)

/-- 'laws.FnExactMarksOk', WHERE WHAT IT READS IS OF BULK AT MOST 1048576: true; the input reads as it did. -/
def fnExactMarksOkUptoRow : OpenClaim := { program := "ytmdmbobjdhjadaa", sum := "6d9acc4ac0f430c8a225b5246ad9a7e1a02bcffd69b4fbf716fc82de4214b483", func := "loop.example/g00546/laws.FnExactMarksOk", spec := "fnExactMarksOk", unfollowed := true, recurses := true, apart := false, narrowed := true }
def FnExactMarksOkUptoSaid : Prop := fnExactMarksOkUptoRow.holds Try.pinned (OpenSpec.upto fnExactMarksOkSpec)

/-- 'laws.FnExactFarthest', WHERE WHAT IT READS IS OF BULK AT MOST 1048576: true; the input reads as it did. -/
def fnExactFarthestUptoRow : OpenClaim := { program := "ytmdmbobjdhjadaa", sum := "6d9acc4ac0f430c8a225b5246ad9a7e1a02bcffd69b4fbf716fc82de4214b483", func := "loop.example/g00546/laws.FnExactFarthest", spec := "fnExactFarthest", unfollowed := true, recurses := true, apart := false, narrowed := true }
def FnExactFarthestUptoSaid : Prop := fnExactFarthestUptoRow.holds Try.pinned (OpenSpec.upto fnExactFarthestSpec)

/-- 'laws.FnExactReachOf', WHERE WHAT IT READS IS OF BULK AT MOST 1048576: true; the input reads as it did. -/
def fnExactReachOfUptoRow : OpenClaim := { program := "ytmdmbobjdhjadaa", sum := "6d9acc4ac0f430c8a225b5246ad9a7e1a02bcffd69b4fbf716fc82de4214b483", func := "loop.example/g00546/laws.FnExactReachOf", spec := "fnExactReachOf", unfollowed := true, recurses := true, apart := false, narrowed := true }
def FnExactReachOfUptoSaid : Prop := fnExactReachOfUptoRow.holds Try.pinned (OpenSpec.upto fnExactReachOfSpec)

/-- 'laws.FnExactReachOk', WHERE WHAT IT READS IS OF BULK AT MOST 1048576: true; the input reads as it did. -/
def fnExactReachOkUptoRow : OpenClaim := { program := "ytmdmbobjdhjadaa", sum := "6d9acc4ac0f430c8a225b5246ad9a7e1a02bcffd69b4fbf716fc82de4214b483", func := "loop.example/g00546/laws.FnExactReachOk", spec := "fnExactReachOk", unfollowed := true, recurses := true, apart := false, narrowed := true }
def FnExactReachOkUptoSaid : Prop := fnExactReachOkUptoRow.holds Try.pinned (OpenSpec.upto fnExactReachOkSpec)

/-- 'laws.FnExactPruned', WHERE WHAT IT READS IS OF BULK AT MOST 1048576: true; the input reads as it did. -/
def fnExactPrunedUptoRow : OpenClaim := { program := "ytmdmbobjdhjadaa", sum := "6d9acc4ac0f430c8a225b5246ad9a7e1a02bcffd69b4fbf716fc82de4214b483", func := "loop.example/g00546/laws.FnExactPruned", spec := "fnExactPruned", unfollowed := true, recurses := true, apart := false, narrowed := true }
def FnExactPrunedUptoSaid : Prop := fnExactPrunedUptoRow.holds Try.pinned (OpenSpec.upto fnExactPrunedSpec)

/-- 'laws.FnExactQueryReach', WHERE WHAT IT READS IS OF BULK AT MOST 1048576: true; the input reads as it did. -/
def fnExactQueryReachUptoRow : OpenClaim := { program := "ytmdmbobjdhjadaa", sum := "6d9acc4ac0f430c8a225b5246ad9a7e1a02bcffd69b4fbf716fc82de4214b483", func := "loop.example/g00546/laws.FnExactQueryReach", spec := "fnExactQueryReach", unfollowed := true, recurses := true, apart := false, narrowed := true }
def FnExactQueryReachUptoSaid : Prop := fnExactQueryReachUptoRow.holds Try.pinned (OpenSpec.upto fnExactQueryReachSpec)

/-- 'laws.FnExactQueryMarks', WHERE WHAT IT READS IS OF BULK AT MOST 1048576: true; the input reads as it did. -/
def fnExactQueryMarksUptoRow : OpenClaim := { program := "ytmdmbobjdhjadaa", sum := "6d9acc4ac0f430c8a225b5246ad9a7e1a02bcffd69b4fbf716fc82de4214b483", func := "loop.example/g00546/laws.FnExactQueryMarks", spec := "fnExactQueryMarks", unfollowed := true, recurses := true, apart := false, narrowed := true }
def FnExactQueryMarksUptoSaid : Prop := fnExactQueryMarksUptoRow.holds Try.pinned (OpenSpec.upto fnExactQueryMarksSpec)

/-- 'laws.FnExactHalfOf', WHERE WHAT IT READS IS OF BULK AT MOST 1048576: true; the input reads as it did. -/
def fnExactHalfOfUptoRow : OpenClaim := { program := "ytmdmbobjdhjadaa", sum := "6d9acc4ac0f430c8a225b5246ad9a7e1a02bcffd69b4fbf716fc82de4214b483", func := "loop.example/g00546/laws.FnExactHalfOf", spec := "fnExactHalfOf", unfollowed := true, recurses := true, apart := false, narrowed := true }
def FnExactHalfOfUptoSaid : Prop := fnExactHalfOfUptoRow.holds Try.pinned (OpenSpec.upto fnExactHalfOfSpec)

/-- 'laws.FnExactReversed', WHERE WHAT IT READS IS OF BULK AT MOST 1048576: true; the input reads as it did. -/
def fnExactReversedUptoRow : OpenClaim := { program := "ytmdmbobjdhjadaa", sum := "6d9acc4ac0f430c8a225b5246ad9a7e1a02bcffd69b4fbf716fc82de4214b483", func := "loop.example/g00546/laws.FnExactReversed", spec := "fnExactReversed", unfollowed := true, recurses := true, apart := false, narrowed := true }
def FnExactReversedUptoSaid : Prop := fnExactReversedUptoRow.holds Try.pinned (OpenSpec.upto fnExactReversedSpec)

/-- 'laws.FnExactMeetOf', WHERE WHAT IT READS IS OF BULK AT MOST 1048576: true; the input reads as it did. -/
def fnExactMeetOfUptoRow : OpenClaim := { program := "ytmdmbobjdhjadaa", sum := "6d9acc4ac0f430c8a225b5246ad9a7e1a02bcffd69b4fbf716fc82de4214b483", func := "loop.example/g00546/laws.FnExactMeetOf", spec := "fnExactMeetOf", apart := false, narrowed := true }
def FnExactMeetOfUptoSaid : Prop := fnExactMeetOfUptoRow.holds Try.pinned (OpenSpec.upto fnExactMeetOfSpec)

end Rows
end Go.Proofs.Ytmdmbobjdhjadaa
