/-
  No cell of these rows narrows 'for every input' (looked for: loops, veiled, ifaces, maps, wideKeys, modest, calm, conditions, laid).
  DERIVED. THE GIVEN ROWS OF THIS SEAT. 12 by the template 'for every input the law returns true; each argument reads behind the call as it read before'; 0 by the template 'total and deterministic' (their statements: YtedajkbnkfanmaaTotals.lean).
  GIVEN WITH THE SEED: the statements are not yours to turn. If you find one false, say at which input.
  Laid BY PROGRAM, IN A SANDBOX (cutbox-rows.mjs): the forced cells as the released guide's own fill.sh prints them over the translation feb72b4955e5d1eb… (all of the seat's roots in one cut). By AI agents, Wed Nov 11 2026. No macro, syntax, notation, axiom, sorry.
-/
import Derived.Test.YtedajkbnkfanmaaChecked
import GoSem.Claim
import GoSem.ClaimJoined
import GoSem.ClaimMapViews
import Derived.JoinedTies
import Derived.KernelRfl
namespace Go.Proofs.Ytedajkbnkfanmaa
/- THE CELL 'sum', in the pinned program and in every row, IS THE sha256 OF THE DUMP (.gsa) THAT YtedajkbnkfanmaaProg.lean LOADS. Nothing in Lean hashes anything: it is a label: what it is worth is what the hold of that sum in a sandbox is worth. -/
noncomputable def Try.pinned : Pinned := { name := "ytedajkbnkfanmaa", sum := "feb72b4955e5d1eb8d9eabbf03366e493329e0547d42263f3b47a024156b68f8", checked := Try.checked }
namespace Rows
def none {H : Type} : Left H := { results := [], args := [] }

/-- 'laws.FnHeapOf': WHATEVER THE INPUT: true; the input reads as it did. -/
def fnHeapOfSpec : ChangeSpec := { name := "fnHeapOf", fn := fun _ => fun
  | [d] => { results := [.lit (.bool true)], args := [d] }
  | _ => none }
def fnHeapOfRow : OpenClaim := { program := "ytedajkbnkfanmaa", sum := "feb72b4955e5d1eb8d9eabbf03366e493329e0547d42263f3b47a024156b68f8", func := "loop.example/g00546/laws.FnHeapOf", spec := "fnHeapOf", unfollowed := true, recurses := true, apart := false }
def FnHeapOfSaid : Prop := fnHeapOfRow.holds Try.pinned (OpenSpec.ofChange fnHeapOfSpec)

/-- ITS FALSE NEIGHBOUR: 'it returns false'. Refute it at one input. -/
def fnHeapOfWrong : ChangeSpec := { name := "fnHeapOf", fn := fun _ => fun
  | [d] => { results := [.lit (.bool false)], args := [d] }
  | _ => none }
def FnHeapOfWrongFalsely : Prop := fnHeapOfRow.holds Try.pinned (OpenSpec.ofChange fnHeapOfWrong)

/-- 'laws.FnExactDistFrom': WHATEVER THE INPUT: true; the input reads as it did. -/
def fnExactDistFromSpec : ChangeSpec := { name := "fnExactDistFrom", fn := fun _ => fun
  | [d1, d2] => { results := [.lit (.bool true)], args := [d1, d2] }
  | _ => none }
def fnExactDistFromRow : OpenClaim := { program := "ytedajkbnkfanmaa", sum := "feb72b4955e5d1eb8d9eabbf03366e493329e0547d42263f3b47a024156b68f8", func := "loop.example/g00546/laws.FnExactDistFrom", spec := "fnExactDistFrom", unfollowed := true, recurses := true, apart := false }
def FnExactDistFromSaid : Prop := fnExactDistFromRow.holds Try.pinned (OpenSpec.ofChange fnExactDistFromSpec)

/-- ITS FALSE NEIGHBOUR: 'it returns false'. Refute it at one input. -/
def fnExactDistFromWrong : ChangeSpec := { name := "fnExactDistFrom", fn := fun _ => fun
  | [d1, d2] => { results := [.lit (.bool false)], args := [d1, d2] }
  | _ => none }
def FnExactDistFromWrongFalsely : Prop := fnExactDistFromRow.holds Try.pinned (OpenSpec.ofChange fnExactDistFromWrong)

/-- 'laws.FnExactDistOf': WHATEVER THE INPUT: true; the input reads as it did. -/
def fnExactDistOfSpec : ChangeSpec := { name := "fnExactDistOf", fn := fun _ => fun
  | [d1, d2, d3] => { results := [.lit (.bool true)], args := [d1, d2, d3] }
  | _ => none }
def fnExactDistOfRow : OpenClaim := { program := "ytedajkbnkfanmaa", sum := "feb72b4955e5d1eb8d9eabbf03366e493329e0547d42263f3b47a024156b68f8", func := "loop.example/g00546/laws.FnExactDistOf", spec := "fnExactDistOf", unfollowed := true, recurses := true, apart := false }
def FnExactDistOfSaid : Prop := fnExactDistOfRow.holds Try.pinned (OpenSpec.ofChange fnExactDistOfSpec)

/-- ITS FALSE NEIGHBOUR: 'it returns false'. Refute it at one input. -/
def fnExactDistOfWrong : ChangeSpec := { name := "fnExactDistOf", fn := fun _ => fun
  | [d1, d2, d3] => { results := [.lit (.bool false)], args := [d1, d2, d3] }
  | _ => none }
def FnExactDistOfWrongFalsely : Prop := fnExactDistOfRow.holds Try.pinned (OpenSpec.ofChange fnExactDistOfWrong)

/-- 'laws.FnExactPathOf': WHATEVER THE INPUT: true; the input reads as it did. -/
def fnExactPathOfSpec : ChangeSpec := { name := "fnExactPathOf", fn := fun _ => fun
  | [d1, d2, d3] => { results := [.lit (.bool true)], args := [d1, d2, d3] }
  | _ => none }
def fnExactPathOfRow : OpenClaim := { program := "ytedajkbnkfanmaa", sum := "feb72b4955e5d1eb8d9eabbf03366e493329e0547d42263f3b47a024156b68f8", func := "loop.example/g00546/laws.FnExactPathOf", spec := "fnExactPathOf", unfollowed := true, recurses := true, apart := false }
def FnExactPathOfSaid : Prop := fnExactPathOfRow.holds Try.pinned (OpenSpec.ofChange fnExactPathOfSpec)

/-- ITS FALSE NEIGHBOUR: 'it returns false'. Refute it at one input. -/
def fnExactPathOfWrong : ChangeSpec := { name := "fnExactPathOf", fn := fun _ => fun
  | [d1, d2, d3] => { results := [.lit (.bool false)], args := [d1, d2, d3] }
  | _ => none }
def FnExactPathOfWrongFalsely : Prop := fnExactPathOfRow.holds Try.pinned (OpenSpec.ofChange fnExactPathOfWrong)

/-- 'laws.FnExactLengthOf': WHATEVER THE INPUT: true; the input reads as it did. -/
def fnExactLengthOfSpec : ChangeSpec := { name := "fnExactLengthOf", fn := fun _ => fun
  | [d1, d2] => { results := [.lit (.bool true)], args := [d1, d2] }
  | _ => none }
def fnExactLengthOfRow : OpenClaim := { program := "ytedajkbnkfanmaa", sum := "feb72b4955e5d1eb8d9eabbf03366e493329e0547d42263f3b47a024156b68f8", func := "loop.example/g00546/laws.FnExactLengthOf", spec := "fnExactLengthOf", unfollowed := true, recurses := true, apart := false }
def FnExactLengthOfSaid : Prop := fnExactLengthOfRow.holds Try.pinned (OpenSpec.ofChange fnExactLengthOfSpec)

/-- ITS FALSE NEIGHBOUR: 'it returns false'. Refute it at one input. -/
def fnExactLengthOfWrong : ChangeSpec := { name := "fnExactLengthOf", fn := fun _ => fun
  | [d1, d2] => { results := [.lit (.bool false)], args := [d1, d2] }
  | _ => none }
def FnExactLengthOfWrongFalsely : Prop := fnExactLengthOfRow.holds Try.pinned (OpenSpec.ofChange fnExactLengthOfWrong)

/-- 'laws.FnExactOnShortest': WHATEVER THE INPUT: true; the input reads as it did. -/
def fnExactOnShortestSpec : ChangeSpec := { name := "fnExactOnShortest", fn := fun _ => fun
  | [d1, d2, d3] => { results := [.lit (.bool true)], args := [d1, d2, d3] }
  | _ => none }
def fnExactOnShortestRow : OpenClaim := { program := "ytedajkbnkfanmaa", sum := "feb72b4955e5d1eb8d9eabbf03366e493329e0547d42263f3b47a024156b68f8", func := "loop.example/g00546/laws.FnExactOnShortest", spec := "fnExactOnShortest", unfollowed := true, recurses := true, apart := false }
def FnExactOnShortestSaid : Prop := fnExactOnShortestRow.holds Try.pinned (OpenSpec.ofChange fnExactOnShortestSpec)

/-- ITS FALSE NEIGHBOUR: 'it returns false'. Refute it at one input. -/
def fnExactOnShortestWrong : ChangeSpec := { name := "fnExactOnShortest", fn := fun _ => fun
  | [d1, d2, d3] => { results := [.lit (.bool false)], args := [d1, d2, d3] }
  | _ => none }
def FnExactOnShortestWrongFalsely : Prop := fnExactOnShortestRow.holds Try.pinned (OpenSpec.ofChange fnExactOnShortestWrong)

/-- 'laws.FnExactHalfOf': WHATEVER THE INPUT: true; the input reads as it did. -/
def fnExactHalfOfSpec : ChangeSpec := { name := "fnExactHalfOf", fn := fun _ => fun
  | [d1, d2, d3] => { results := [.lit (.bool true)], args := [d1, d2, d3] }
  | _ => none }
def fnExactHalfOfRow : OpenClaim := { program := "ytedajkbnkfanmaa", sum := "feb72b4955e5d1eb8d9eabbf03366e493329e0547d42263f3b47a024156b68f8", func := "loop.example/g00546/laws.FnExactHalfOf", spec := "fnExactHalfOf", unfollowed := true, recurses := true, apart := false }
def FnExactHalfOfSaid : Prop := fnExactHalfOfRow.holds Try.pinned (OpenSpec.ofChange fnExactHalfOfSpec)

/-- ITS FALSE NEIGHBOUR: 'it returns false'. Refute it at one input. -/
def fnExactHalfOfWrong : ChangeSpec := { name := "fnExactHalfOf", fn := fun _ => fun
  | [d1, d2, d3] => { results := [.lit (.bool false)], args := [d1, d2, d3] }
  | _ => none }
def FnExactHalfOfWrongFalsely : Prop := fnExactHalfOfRow.holds Try.pinned (OpenSpec.ofChange fnExactHalfOfWrong)

/-- 'laws.FnExactMeetOf': WHATEVER THE INPUT: true; the input reads as it did. -/
def fnExactMeetOfSpec : ChangeSpec := { name := "fnExactMeetOf", fn := fun _ => fun
  | [d1, d2] => { results := [.lit (.bool true)], args := [d1, d2] }
  | _ => none }
def fnExactMeetOfRow : OpenClaim := { program := "ytedajkbnkfanmaa", sum := "feb72b4955e5d1eb8d9eabbf03366e493329e0547d42263f3b47a024156b68f8", func := "loop.example/g00546/laws.FnExactMeetOf", spec := "fnExactMeetOf", apart := false }
def FnExactMeetOfSaid : Prop := fnExactMeetOfRow.holds Try.pinned (OpenSpec.ofChange fnExactMeetOfSpec)

/-- ITS FALSE NEIGHBOUR: 'it returns false'. Refute it at one input. -/
def fnExactMeetOfWrong : ChangeSpec := { name := "fnExactMeetOf", fn := fun _ => fun
  | [d1, d2] => { results := [.lit (.bool false)], args := [d1, d2] }
  | _ => none }
def FnExactMeetOfWrongFalsely : Prop := fnExactMeetOfRow.holds Try.pinned (OpenSpec.ofChange fnExactMeetOfWrong)

/-- 'laws.FnExactBetween': WHATEVER THE INPUT: true; the input reads as it did. -/
def fnExactBetweenSpec : ChangeSpec := { name := "fnExactBetween", fn := fun _ => fun
  | [d1, d2, d3, d4] => { results := [.lit (.bool true)], args := [d1, d2, d3, d4] }
  | _ => none }
def fnExactBetweenRow : OpenClaim := { program := "ytedajkbnkfanmaa", sum := "feb72b4955e5d1eb8d9eabbf03366e493329e0547d42263f3b47a024156b68f8", func := "loop.example/g00546/laws.FnExactBetween", spec := "fnExactBetween", unfollowed := true, recurses := true, apart := false }
def FnExactBetweenSaid : Prop := fnExactBetweenRow.holds Try.pinned (OpenSpec.ofChange fnExactBetweenSpec)

/-- ITS FALSE NEIGHBOUR: 'it returns false'. Refute it at one input. -/
def fnExactBetweenWrong : ChangeSpec := { name := "fnExactBetween", fn := fun _ => fun
  | [d1, d2, d3, d4] => { results := [.lit (.bool false)], args := [d1, d2, d3, d4] }
  | _ => none }
def FnExactBetweenWrongFalsely : Prop := fnExactBetweenRow.holds Try.pinned (OpenSpec.ofChange fnExactBetweenWrong)

/-- 'laws.FnExactReversed': WHATEVER THE INPUT: true; the input reads as it did. -/
def fnExactReversedSpec : ChangeSpec := { name := "fnExactReversed", fn := fun _ => fun
  | [d] => { results := [.lit (.bool true)], args := [d] }
  | _ => none }
def fnExactReversedRow : OpenClaim := { program := "ytedajkbnkfanmaa", sum := "feb72b4955e5d1eb8d9eabbf03366e493329e0547d42263f3b47a024156b68f8", func := "loop.example/g00546/laws.FnExactReversed", spec := "fnExactReversed", unfollowed := true, recurses := true, apart := false }
def FnExactReversedSaid : Prop := fnExactReversedRow.holds Try.pinned (OpenSpec.ofChange fnExactReversedSpec)

/-- ITS FALSE NEIGHBOUR: 'it returns false'. Refute it at one input. -/
def fnExactReversedWrong : ChangeSpec := { name := "fnExactReversed", fn := fun _ => fun
  | [d] => { results := [.lit (.bool false)], args := [d] }
  | _ => none }
def FnExactReversedWrongFalsely : Prop := fnExactReversedRow.holds Try.pinned (OpenSpec.ofChange fnExactReversedWrong)

/-- 'laws.FnExactOuts': WHATEVER THE INPUT: true; the input reads as it did. -/
def fnExactOutsSpec : ChangeSpec := { name := "fnExactOuts", fn := fun _ => fun
  | [d1, d2] => { results := [.lit (.bool true)], args := [d1, d2] }
  | _ => none }
def fnExactOutsRow : OpenClaim := { program := "ytedajkbnkfanmaa", sum := "feb72b4955e5d1eb8d9eabbf03366e493329e0547d42263f3b47a024156b68f8", func := "loop.example/g00546/laws.FnExactOuts", spec := "fnExactOuts", unfollowed := true, recurses := true, apart := false }
def FnExactOutsSaid : Prop := fnExactOutsRow.holds Try.pinned (OpenSpec.ofChange fnExactOutsSpec)

/-- ITS FALSE NEIGHBOUR: 'it returns false'. Refute it at one input. -/
def fnExactOutsWrong : ChangeSpec := { name := "fnExactOuts", fn := fun _ => fun
  | [d1, d2] => { results := [.lit (.bool false)], args := [d1, d2] }
  | _ => none }
def FnExactOutsWrongFalsely : Prop := fnExactOutsRow.holds Try.pinned (OpenSpec.ofChange fnExactOutsWrong)

/-- 'laws.FnExactWeightOf': WHATEVER THE INPUT: true; the input reads as it did. -/
def fnExactWeightOfSpec : ChangeSpec := { name := "fnExactWeightOf", fn := fun _ => fun
  | [d1, d2, d3] => { results := [.lit (.bool true)], args := [d1, d2, d3] }
  | _ => none }
def fnExactWeightOfRow : OpenClaim := { program := "ytedajkbnkfanmaa", sum := "feb72b4955e5d1eb8d9eabbf03366e493329e0547d42263f3b47a024156b68f8", func := "loop.example/g00546/laws.FnExactWeightOf", spec := "fnExactWeightOf", unfollowed := true, recurses := true, apart := false }
def FnExactWeightOfSaid : Prop := fnExactWeightOfRow.holds Try.pinned (OpenSpec.ofChange fnExactWeightOfSpec)

/-- ITS FALSE NEIGHBOUR: 'it returns false'. Refute it at one input. -/
def fnExactWeightOfWrong : ChangeSpec := { name := "fnExactWeightOf", fn := fun _ => fun
  | [d1, d2, d3] => { results := [.lit (.bool false)], args := [d1, d2, d3] }
  | _ => none }
def FnExactWeightOfWrongFalsely : Prop := fnExactWeightOfRow.holds Try.pinned (OpenSpec.ofChange fnExactWeightOfWrong)

/- THE SECOND FORM. 'bulk': how many values and letters a reading holds, each counted each time it is reached (what is shared counts as often as it is met; a slice's spare places count too). A statement '..UptoSaid' is the law's where the arguments, and the package variables that the reading takes, are together of bulk at most 1048576: NARROWER than '..Said'. Prove '..Said' where nothing that the law and all that it calls make is longer than what came in: it says more and counts as full. Else prove '..UptoSaid'. A law counts once. -/
mutual
def uptoBulk {H : Type} : DataW H → Nat
  | .lit (.string bytes) => bytes.length + 1
  | .lit _ => 1
  | .nil => 1
  | .ptr d => uptoBulk d + 1
  | .slice elems spare => uptoBulkAll elems + uptoBulkAll spare + 1
  | .agg parts => uptoBulkAll parts + 1
  | .iface _ d => uptoBulk d + 1
  | .map entries => uptoBulkEntries entries + 1
  | .held _ => 1
def uptoBulkAll {H : Type} : List (DataW H) → Nat
  | [] => 0
  | d :: r => uptoBulk d + uptoBulkAll r
def uptoBulkEntries {H : Type} : List (Lit × DataW H) → Nat
  | [] => 0
  | x :: r => uptoBulkEntry x + uptoBulkEntries r
def uptoBulkEntry {H : Type} : Lit × DataW H → Nat
  | (.string bytes, d) => bytes.length + uptoBulk d + 1
  | (_, d) => uptoBulk d + 1
 end
def uptoSmall : (H : Type) → List (DataW H) → Bool := fun _ ds => decide (uptoBulkAll ds ≤ 1048576)
def OpenSpec.upto (s : _root_.Go.ChangeSpec) : _root_.Go.OpenSpec := { _root_.Go.OpenSpec.ofChange s with cond := some uptoSmall }

/-- 'laws.FnHeapOf', WHERE WHAT IT READS IS OF BULK AT MOST 1048576: true; the input reads as it did. -/
def fnHeapOfUptoRow : OpenClaim := { program := "ytedajkbnkfanmaa", sum := "feb72b4955e5d1eb8d9eabbf03366e493329e0547d42263f3b47a024156b68f8", func := "loop.example/g00546/laws.FnHeapOf", spec := "fnHeapOf", unfollowed := true, recurses := true, apart := false, narrowed := true }
def FnHeapOfUptoSaid : Prop := fnHeapOfUptoRow.holds Try.pinned (OpenSpec.upto fnHeapOfSpec)

/-- 'laws.FnExactDistFrom', WHERE WHAT IT READS IS OF BULK AT MOST 1048576: true; the input reads as it did. -/
def fnExactDistFromUptoRow : OpenClaim := { program := "ytedajkbnkfanmaa", sum := "feb72b4955e5d1eb8d9eabbf03366e493329e0547d42263f3b47a024156b68f8", func := "loop.example/g00546/laws.FnExactDistFrom", spec := "fnExactDistFrom", unfollowed := true, recurses := true, apart := false, narrowed := true }
def FnExactDistFromUptoSaid : Prop := fnExactDistFromUptoRow.holds Try.pinned (OpenSpec.upto fnExactDistFromSpec)

/-- 'laws.FnExactDistOf', WHERE WHAT IT READS IS OF BULK AT MOST 1048576: true; the input reads as it did. -/
def fnExactDistOfUptoRow : OpenClaim := { program := "ytedajkbnkfanmaa", sum := "feb72b4955e5d1eb8d9eabbf03366e493329e0547d42263f3b47a024156b68f8", func := "loop.example/g00546/laws.FnExactDistOf", spec := "fnExactDistOf", unfollowed := true, recurses := true, apart := false, narrowed := true }
def FnExactDistOfUptoSaid : Prop := fnExactDistOfUptoRow.holds Try.pinned (OpenSpec.upto fnExactDistOfSpec)

/-- 'laws.FnExactPathOf', WHERE WHAT IT READS IS OF BULK AT MOST 1048576: true; the input reads as it did. -/
def fnExactPathOfUptoRow : OpenClaim := { program := "ytedajkbnkfanmaa", sum := "feb72b4955e5d1eb8d9eabbf03366e493329e0547d42263f3b47a024156b68f8", func := "loop.example/g00546/laws.FnExactPathOf", spec := "fnExactPathOf", unfollowed := true, recurses := true, apart := false, narrowed := true }
def FnExactPathOfUptoSaid : Prop := fnExactPathOfUptoRow.holds Try.pinned (OpenSpec.upto fnExactPathOfSpec)

/-- 'laws.FnExactLengthOf', WHERE WHAT IT READS IS OF BULK AT MOST 1048576: true; the input reads as it did. -/
def fnExactLengthOfUptoRow : OpenClaim := { program := "ytedajkbnkfanmaa", sum := "feb72b4955e5d1eb8d9eabbf03366e493329e0547d42263f3b47a024156b68f8", func := "loop.example/g00546/laws.FnExactLengthOf", spec := "fnExactLengthOf", unfollowed := true, recurses := true, apart := false, narrowed := true }
def FnExactLengthOfUptoSaid : Prop := fnExactLengthOfUptoRow.holds Try.pinned (OpenSpec.upto fnExactLengthOfSpec)

/-- 'laws.FnExactOnShortest', WHERE WHAT IT READS IS OF BULK AT MOST 1048576: true; the input reads as it did. -/
def fnExactOnShortestUptoRow : OpenClaim := { program := "ytedajkbnkfanmaa", sum := "feb72b4955e5d1eb8d9eabbf03366e493329e0547d42263f3b47a024156b68f8", func := "loop.example/g00546/laws.FnExactOnShortest", spec := "fnExactOnShortest", unfollowed := true, recurses := true, apart := false, narrowed := true }
def FnExactOnShortestUptoSaid : Prop := fnExactOnShortestUptoRow.holds Try.pinned (OpenSpec.upto fnExactOnShortestSpec)

/-- 'laws.FnExactHalfOf', WHERE WHAT IT READS IS OF BULK AT MOST 1048576: true; the input reads as it did. -/
def fnExactHalfOfUptoRow : OpenClaim := { program := "ytedajkbnkfanmaa", sum := "feb72b4955e5d1eb8d9eabbf03366e493329e0547d42263f3b47a024156b68f8", func := "loop.example/g00546/laws.FnExactHalfOf", spec := "fnExactHalfOf", unfollowed := true, recurses := true, apart := false, narrowed := true }
def FnExactHalfOfUptoSaid : Prop := fnExactHalfOfUptoRow.holds Try.pinned (OpenSpec.upto fnExactHalfOfSpec)

/-- 'laws.FnExactMeetOf', WHERE WHAT IT READS IS OF BULK AT MOST 1048576: true; the input reads as it did. -/
def fnExactMeetOfUptoRow : OpenClaim := { program := "ytedajkbnkfanmaa", sum := "feb72b4955e5d1eb8d9eabbf03366e493329e0547d42263f3b47a024156b68f8", func := "loop.example/g00546/laws.FnExactMeetOf", spec := "fnExactMeetOf", apart := false, narrowed := true }
def FnExactMeetOfUptoSaid : Prop := fnExactMeetOfUptoRow.holds Try.pinned (OpenSpec.upto fnExactMeetOfSpec)

/-- 'laws.FnExactBetween', WHERE WHAT IT READS IS OF BULK AT MOST 1048576: true; the input reads as it did. -/
def fnExactBetweenUptoRow : OpenClaim := { program := "ytedajkbnkfanmaa", sum := "feb72b4955e5d1eb8d9eabbf03366e493329e0547d42263f3b47a024156b68f8", func := "loop.example/g00546/laws.FnExactBetween", spec := "fnExactBetween", unfollowed := true, recurses := true, apart := false, narrowed := true }
def FnExactBetweenUptoSaid : Prop := fnExactBetweenUptoRow.holds Try.pinned (OpenSpec.upto fnExactBetweenSpec)

/-- 'laws.FnExactReversed', WHERE WHAT IT READS IS OF BULK AT MOST 1048576: true; the input reads as it did. -/
def fnExactReversedUptoRow : OpenClaim := { program := "ytedajkbnkfanmaa", sum := "feb72b4955e5d1eb8d9eabbf03366e493329e0547d42263f3b47a024156b68f8", func := "loop.example/g00546/laws.FnExactReversed", spec := "fnExactReversed", unfollowed := true, recurses := true, apart := false, narrowed := true }
def FnExactReversedUptoSaid : Prop := fnExactReversedUptoRow.holds Try.pinned (OpenSpec.upto fnExactReversedSpec)

/-- 'laws.FnExactOuts', WHERE WHAT IT READS IS OF BULK AT MOST 1048576: true; the input reads as it did. -/
def fnExactOutsUptoRow : OpenClaim := { program := "ytedajkbnkfanmaa", sum := "feb72b4955e5d1eb8d9eabbf03366e493329e0547d42263f3b47a024156b68f8", func := "loop.example/g00546/laws.FnExactOuts", spec := "fnExactOuts", unfollowed := true, recurses := true, apart := false, narrowed := true }
def FnExactOutsUptoSaid : Prop := fnExactOutsUptoRow.holds Try.pinned (OpenSpec.upto fnExactOutsSpec)

/-- 'laws.FnExactWeightOf', WHERE WHAT IT READS IS OF BULK AT MOST 1048576: true; the input reads as it did. -/
def fnExactWeightOfUptoRow : OpenClaim := { program := "ytedajkbnkfanmaa", sum := "feb72b4955e5d1eb8d9eabbf03366e493329e0547d42263f3b47a024156b68f8", func := "loop.example/g00546/laws.FnExactWeightOf", spec := "fnExactWeightOf", unfollowed := true, recurses := true, apart := false, narrowed := true }
def FnExactWeightOfUptoSaid : Prop := fnExactWeightOfUptoRow.holds Try.pinned (OpenSpec.upto fnExactWeightOfSpec)

end Rows
end Go.Proofs.Ytedajkbnkfanmaa
