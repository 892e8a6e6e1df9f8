/-
  No cell of these rows narrows 'for every input' (looked for: loops, veiled, ifaces, maps, wideKeys, modest, calm, conditions, laid).
  DERIVED. THE GIVEN ROWS OF THIS SEAT. 12 by the template 'for every input the law returns true; each argument reads behind the call as it read before'; 0 by the template 'total and deterministic' (their statements: YtdbjcojlcddhdaaTotals.lean).
  GIVEN WITH THE SEED: the statements are not yours to turn. If you find one false, say at which input.
  Laid BY PROGRAM, IN A SANDBOX (cutbox-rows.mjs): the forced cells as the released guide's own fill.sh prints them over the translation 82eaf377813a1f83… (all of the seat's roots in one cut). By AI agents, Wed Nov 11 2026. No macro, syntax, notation, axiom, sorry.
-/
import Derived.Test.YtdbjcojlcddhdaaChecked
import GoSem.Claim
import GoSem.ClaimJoined
import GoSem.ClaimMapViews
import Derived.JoinedTies
import Derived.KernelRfl
namespace Go.Proofs.Ytdbjcojlcddhdaa
/- THE CELL 'sum', in the pinned program and in every row, IS THE sha256 OF THE DUMP (.gsa) THAT YtdbjcojlcddhdaaProg.lean LOADS. Nothing in Lean hashes anything: it is a label: what it is worth is what the hold of that sum in a sandbox is worth. -/
noncomputable def Try.pinned : Pinned := { name := "ytdbjcojlcddhdaa", sum := "82eaf377813a1f83ac47cbac944c0365cbe276091e4882d12223caca699a859c", checked := Try.checked }
namespace Rows
def none {H : Type} : Left H := { results := [], args := [] }

/-- 'laws.FnWeighed': WHATEVER THE INPUT: true; the input reads as it did. -/
def fnWeighedSpec : ChangeSpec := { name := "fnWeighed", fn := fun _ => fun
  | [d] => { results := [.lit (.bool true)], args := [d] }
  | _ => none }
def fnWeighedRow : OpenClaim := { program := "ytdbjcojlcddhdaa", sum := "82eaf377813a1f83ac47cbac944c0365cbe276091e4882d12223caca699a859c", func := "loop.example/g00546/laws.FnWeighed", spec := "fnWeighed", unfollowed := true, recurses := true, apart := false }
def FnWeighedSaid : Prop := fnWeighedRow.holds Try.pinned (OpenSpec.ofChange fnWeighedSpec)

/-- ITS FALSE NEIGHBOUR: 'it returns false'. Refute it at one input. -/
def fnWeighedWrong : ChangeSpec := { name := "fnWeighed", fn := fun _ => fun
  | [d] => { results := [.lit (.bool false)], args := [d] }
  | _ => none }
def FnWeighedWrongFalsely : Prop := fnWeighedRow.holds Try.pinned (OpenSpec.ofChange fnWeighedWrong)

/-- 'laws.FnReversed': WHATEVER THE INPUT: true; the input reads as it did. -/
def fnReversedSpec : ChangeSpec := { name := "fnReversed", fn := fun _ => fun
  | [d] => { results := [.lit (.bool true)], args := [d] }
  | _ => none }
def fnReversedRow : OpenClaim := { program := "ytdbjcojlcddhdaa", sum := "82eaf377813a1f83ac47cbac944c0365cbe276091e4882d12223caca699a859c", func := "loop.example/g00546/laws.FnReversed", spec := "fnReversed", unfollowed := true, recurses := true, apart := false }
def FnReversedSaid : Prop := fnReversedRow.holds Try.pinned (OpenSpec.ofChange fnReversedSpec)

/-- ITS FALSE NEIGHBOUR: 'it returns false'. Refute it at one input. -/
def fnReversedWrong : ChangeSpec := { name := "fnReversed", fn := fun _ => fun
  | [d] => { results := [.lit (.bool false)], args := [d] }
  | _ => none }
def FnReversedWrongFalsely : Prop := fnReversedRow.holds Try.pinned (OpenSpec.ofChange fnReversedWrong)

/-- 'laws.FnHeavier': WHATEVER THE INPUT: true; the input reads as it did. -/
def fnHeavierSpec : ChangeSpec := { name := "fnHeavier", fn := fun _ => fun
  | [d] => { results := [.lit (.bool true)], args := [d] }
  | _ => none }
def fnHeavierRow : OpenClaim := { program := "ytdbjcojlcddhdaa", sum := "82eaf377813a1f83ac47cbac944c0365cbe276091e4882d12223caca699a859c", func := "loop.example/g00546/laws.FnHeavier", spec := "fnHeavier", unfollowed := true, recurses := true, apart := false }
def FnHeavierSaid : Prop := fnHeavierRow.holds Try.pinned (OpenSpec.ofChange fnHeavierSpec)

/-- ITS FALSE NEIGHBOUR: 'it returns false'. Refute it at one input. -/
def fnHeavierWrong : ChangeSpec := { name := "fnHeavier", fn := fun _ => fun
  | [d] => { results := [.lit (.bool false)], args := [d] }
  | _ => none }
def FnHeavierWrongFalsely : Prop := fnHeavierRow.holds Try.pinned (OpenSpec.ofChange fnHeavierWrong)

/-- 'laws.FnLengthPieces': WHATEVER THE INPUT: true; the input reads as it did. -/
def fnLengthPiecesSpec : ChangeSpec := { name := "fnLengthPieces", fn := fun _ => fun
  | [d] => { results := [.lit (.bool true)], args := [d] }
  | _ => none }
def fnLengthPiecesRow : OpenClaim := { program := "ytdbjcojlcddhdaa", sum := "82eaf377813a1f83ac47cbac944c0365cbe276091e4882d12223caca699a859c", func := "loop.example/g00546/laws.FnLengthPieces", spec := "fnLengthPieces", unfollowed := true, recurses := true, apart := false }
def FnLengthPiecesSaid : Prop := fnLengthPiecesRow.holds Try.pinned (OpenSpec.ofChange fnLengthPiecesSpec)

/-- ITS FALSE NEIGHBOUR: 'it returns false'. Refute it at one input. -/
def fnLengthPiecesWrong : ChangeSpec := { name := "fnLengthPieces", fn := fun _ => fun
  | [d] => { results := [.lit (.bool false)], args := [d] }
  | _ => none }
def FnLengthPiecesWrongFalsely : Prop := fnLengthPiecesRow.holds Try.pinned (OpenSpec.ofChange fnLengthPiecesWrong)

/-- 'laws.FnOnShortest': WHATEVER THE INPUT: true; the input reads as it did. -/
def fnOnShortestSpec : ChangeSpec := { name := "fnOnShortest", fn := fun _ => fun
  | [d] => { results := [.lit (.bool true)], args := [d] }
  | _ => none }
def fnOnShortestRow : OpenClaim := { program := "ytdbjcojlcddhdaa", sum := "82eaf377813a1f83ac47cbac944c0365cbe276091e4882d12223caca699a859c", func := "loop.example/g00546/laws.FnOnShortest", spec := "fnOnShortest", unfollowed := true, recurses := true, apart := false }
def FnOnShortestSaid : Prop := fnOnShortestRow.holds Try.pinned (OpenSpec.ofChange fnOnShortestSpec)

/-- ITS FALSE NEIGHBOUR: 'it returns false'. Refute it at one input. -/
def fnOnShortestWrong : ChangeSpec := { name := "fnOnShortest", fn := fun _ => fun
  | [d] => { results := [.lit (.bool false)], args := [d] }
  | _ => none }
def FnOnShortestWrongFalsely : Prop := fnOnShortestRow.holds Try.pinned (OpenSpec.ofChange fnOnShortestWrong)

/-- 'laws.FnPath': WHATEVER THE INPUT: true; the input reads as it did. -/
def fnPathSpec : ChangeSpec := { name := "fnPath", fn := fun _ => fun
  | [d] => { results := [.lit (.bool true)], args := [d] }
  | _ => none }
def fnPathRow : OpenClaim := { program := "ytdbjcojlcddhdaa", sum := "82eaf377813a1f83ac47cbac944c0365cbe276091e4882d12223caca699a859c", func := "loop.example/g00546/laws.FnPath", spec := "fnPath", unfollowed := true, recurses := true, apart := false }
def FnPathSaid : Prop := fnPathRow.holds Try.pinned (OpenSpec.ofChange fnPathSpec)

/-- ITS FALSE NEIGHBOUR: 'it returns false'. Refute it at one input. -/
def fnPathWrong : ChangeSpec := { name := "fnPath", fn := fun _ => fun
  | [d] => { results := [.lit (.bool false)], args := [d] }
  | _ => none }
def FnPathWrongFalsely : Prop := fnPathRow.holds Try.pinned (OpenSpec.ofChange fnPathWrong)

/-- 'laws.FnFirstPath': WHATEVER THE INPUT: true; the input reads as it did. -/
def fnFirstPathSpec : ChangeSpec := { name := "fnFirstPath", fn := fun _ => fun
  | [d] => { results := [.lit (.bool true)], args := [d] }
  | _ => none }
def fnFirstPathRow : OpenClaim := { program := "ytdbjcojlcddhdaa", sum := "82eaf377813a1f83ac47cbac944c0365cbe276091e4882d12223caca699a859c", func := "loop.example/g00546/laws.FnFirstPath", spec := "fnFirstPath", unfollowed := true, recurses := true, apart := false }
def FnFirstPathSaid : Prop := fnFirstPathRow.holds Try.pinned (OpenSpec.ofChange fnFirstPathSpec)

/-- ITS FALSE NEIGHBOUR: 'it returns false'. Refute it at one input. -/
def fnFirstPathWrong : ChangeSpec := { name := "fnFirstPath", fn := fun _ => fun
  | [d] => { results := [.lit (.bool false)], args := [d] }
  | _ => none }
def FnFirstPathWrongFalsely : Prop := fnFirstPathRow.holds Try.pinned (OpenSpec.ofChange fnFirstPathWrong)

/-- 'laws.FnPathPieces': WHATEVER THE INPUT: true; the input reads as it did. -/
def fnPathPiecesSpec : ChangeSpec := { name := "fnPathPieces", fn := fun _ => fun
  | [d] => { results := [.lit (.bool true)], args := [d] }
  | _ => none }
def fnPathPiecesRow : OpenClaim := { program := "ytdbjcojlcddhdaa", sum := "82eaf377813a1f83ac47cbac944c0365cbe276091e4882d12223caca699a859c", func := "loop.example/g00546/laws.FnPathPieces", spec := "fnPathPieces", unfollowed := true, recurses := true, apart := false }
def FnPathPiecesSaid : Prop := fnPathPiecesRow.holds Try.pinned (OpenSpec.ofChange fnPathPiecesSpec)

/-- ITS FALSE NEIGHBOUR: 'it returns false'. Refute it at one input. -/
def fnPathPiecesWrong : ChangeSpec := { name := "fnPathPieces", fn := fun _ => fun
  | [d] => { results := [.lit (.bool false)], args := [d] }
  | _ => none }
def FnPathPiecesWrongFalsely : Prop := fnPathPiecesRow.holds Try.pinned (OpenSpec.ofChange fnPathPiecesWrong)

/-- 'laws.FnScaled': WHATEVER THE INPUT: true; the input reads as it did. -/
def fnScaledSpec : ChangeSpec := { name := "fnScaled", fn := fun _ => fun
  | [d] => { results := [.lit (.bool true)], args := [d] }
  | _ => none }
def fnScaledRow : OpenClaim := { program := "ytdbjcojlcddhdaa", sum := "82eaf377813a1f83ac47cbac944c0365cbe276091e4882d12223caca699a859c", func := "loop.example/g00546/laws.FnScaled", spec := "fnScaled", unfollowed := true, recurses := true, apart := false }
def FnScaledSaid : Prop := fnScaledRow.holds Try.pinned (OpenSpec.ofChange fnScaledSpec)

/-- ITS FALSE NEIGHBOUR: 'it returns false'. Refute it at one input. -/
def fnScaledWrong : ChangeSpec := { name := "fnScaled", fn := fun _ => fun
  | [d] => { results := [.lit (.bool false)], args := [d] }
  | _ => none }
def FnScaledWrongFalsely : Prop := fnScaledRow.holds Try.pinned (OpenSpec.ofChange fnScaledWrong)

/-- 'laws.FnHeaped': WHATEVER THE INPUT: true; the input reads as it did. -/
def fnHeapedSpec : ChangeSpec := { name := "fnHeaped", fn := fun _ => fun
  | [d] => { results := [.lit (.bool true)], args := [d] }
  | _ => none }
def fnHeapedRow : OpenClaim := { program := "ytdbjcojlcddhdaa", sum := "82eaf377813a1f83ac47cbac944c0365cbe276091e4882d12223caca699a859c", func := "loop.example/g00546/laws.FnHeaped", spec := "fnHeaped", unfollowed := true, recurses := true, apart := false }
def FnHeapedSaid : Prop := fnHeapedRow.holds Try.pinned (OpenSpec.ofChange fnHeapedSpec)

/-- ITS FALSE NEIGHBOUR: 'it returns false'. Refute it at one input. -/
def fnHeapedWrong : ChangeSpec := { name := "fnHeaped", fn := fun _ => fun
  | [d] => { results := [.lit (.bool false)], args := [d] }
  | _ => none }
def FnHeapedWrongFalsely : Prop := fnHeapedRow.holds Try.pinned (OpenSpec.ofChange fnHeapedWrong)

/-- 'laws.FnBetween': WHATEVER THE INPUT: true; the input reads as it did. -/
def fnBetweenSpec : ChangeSpec := { name := "fnBetween", fn := fun _ => fun
  | [d] => { results := [.lit (.bool true)], args := [d] }
  | _ => none }
def fnBetweenRow : OpenClaim := { program := "ytdbjcojlcddhdaa", sum := "82eaf377813a1f83ac47cbac944c0365cbe276091e4882d12223caca699a859c", func := "loop.example/g00546/laws.FnBetween", spec := "fnBetween", unfollowed := true, recurses := true, apart := false }
def FnBetweenSaid : Prop := fnBetweenRow.holds Try.pinned (OpenSpec.ofChange fnBetweenSpec)

/-- ITS FALSE NEIGHBOUR: 'it returns false'. Refute it at one input. -/
def fnBetweenWrong : ChangeSpec := { name := "fnBetween", fn := fun _ => fun
  | [d] => { results := [.lit (.bool false)], args := [d] }
  | _ => none }
def FnBetweenWrongFalsely : Prop := fnBetweenRow.holds Try.pinned (OpenSpec.ofChange fnBetweenWrong)

/-- 'laws.FnBetweenMore': WHATEVER THE INPUT: true; the input reads as it did. -/
def fnBetweenMoreSpec : ChangeSpec := { name := "fnBetweenMore", fn := fun _ => fun
  | [d] => { results := [.lit (.bool true)], args := [d] }
  | _ => none }
def fnBetweenMoreRow : OpenClaim := { program := "ytdbjcojlcddhdaa", sum := "82eaf377813a1f83ac47cbac944c0365cbe276091e4882d12223caca699a859c", func := "loop.example/g00546/laws.FnBetweenMore", spec := "fnBetweenMore", unfollowed := true, recurses := true, apart := false }
def FnBetweenMoreSaid : Prop := fnBetweenMoreRow.holds Try.pinned (OpenSpec.ofChange fnBetweenMoreSpec)

/-- ITS FALSE NEIGHBOUR: 'it returns false'. Refute it at one input. -/
def fnBetweenMoreWrong : ChangeSpec := { name := "fnBetweenMore", fn := fun _ => fun
  | [d] => { results := [.lit (.bool false)], args := [d] }
  | _ => none }
def FnBetweenMoreWrongFalsely : Prop := fnBetweenMoreRow.holds Try.pinned (OpenSpec.ofChange fnBetweenMoreWrong)

/- THE SECOND FORM. 'bulk': how many values and letters a reading holds, each counted each time it is reached (what is shared counts as often as it is met; a slice's spare places count too). A statement '..UptoSaid' is the law's where the arguments, and the package variables that the reading takes, are together of bulk at most 1048576: NARROWER than '..Said'. Prove '..Said' where nothing that the law and all that it calls make is longer than what came in: it says more and counts as full. Else prove '..UptoSaid'. A law counts once. -/
mutual
def uptoBulk {H : Type} : DataW H → Nat
  | .lit (.string bytes) => bytes.length + 1
  | .lit _ => 1
  | .nil => 1
  | .ptr d => uptoBulk d + 1
  | .slice elems spare => uptoBulkAll elems + uptoBulkAll spare + 1
  | .agg parts => uptoBulkAll parts + 1
  | .iface _ d => uptoBulk d + 1
  | .map entries => uptoBulkEntries entries + 1
  | .held _ => 1
def uptoBulkAll {H : Type} : List (DataW H) → Nat
  | [] => 0
  | d :: r => uptoBulk d + uptoBulkAll r
def uptoBulkEntries {H : Type} : List (Lit × DataW H) → Nat
  | [] => 0
  | x :: r => uptoBulkEntry x + uptoBulkEntries r
def uptoBulkEntry {H : Type} : Lit × DataW H → Nat
  | (.string bytes, d) => bytes.length + uptoBulk d + 1
  | (_, d) => uptoBulk d + 1
 end
def uptoSmall : (H : Type) → List (DataW H) → Bool := fun _ ds => decide (uptoBulkAll ds ≤ 1048576)
def OpenSpec.upto (s : _root_.Go.ChangeSpec) : _root_.Go.OpenSpec := { _root_.Go.OpenSpec.ofChange s with cond := some uptoSmall }

/-- 'laws.FnWeighed', WHERE WHAT IT READS IS OF BULK AT MOST 1048576: true; the input reads as it did. -/
def fnWeighedUptoRow : OpenClaim := { program := "ytdbjcojlcddhdaa", sum := "82eaf377813a1f83ac47cbac944c0365cbe276091e4882d12223caca699a859c", func := "loop.example/g00546/laws.FnWeighed", spec := "fnWeighed", unfollowed := true, recurses := true, apart := false, narrowed := true }
def FnWeighedUptoSaid : Prop := fnWeighedUptoRow.holds Try.pinned (OpenSpec.upto fnWeighedSpec)

/-- 'laws.FnReversed', WHERE WHAT IT READS IS OF BULK AT MOST 1048576: true; the input reads as it did. -/
def fnReversedUptoRow : OpenClaim := { program := "ytdbjcojlcddhdaa", sum := "82eaf377813a1f83ac47cbac944c0365cbe276091e4882d12223caca699a859c", func := "loop.example/g00546/laws.FnReversed", spec := "fnReversed", unfollowed := true, recurses := true, apart := false, narrowed := true }
def FnReversedUptoSaid : Prop := fnReversedUptoRow.holds Try.pinned (OpenSpec.upto fnReversedSpec)

/-- 'laws.FnHeavier', WHERE WHAT IT READS IS OF BULK AT MOST 1048576: true; the input reads as it did. -/
def fnHeavierUptoRow : OpenClaim := { program := "ytdbjcojlcddhdaa", sum := "82eaf377813a1f83ac47cbac944c0365cbe276091e4882d12223caca699a859c", func := "loop.example/g00546/laws.FnHeavier", spec := "fnHeavier", unfollowed := true, recurses := true, apart := false, narrowed := true }
def FnHeavierUptoSaid : Prop := fnHeavierUptoRow.holds Try.pinned (OpenSpec.upto fnHeavierSpec)

/-- 'laws.FnLengthPieces', WHERE WHAT IT READS IS OF BULK AT MOST 1048576: true; the input reads as it did. -/
def fnLengthPiecesUptoRow : OpenClaim := { program := "ytdbjcojlcddhdaa", sum := "82eaf377813a1f83ac47cbac944c0365cbe276091e4882d12223caca699a859c", func := "loop.example/g00546/laws.FnLengthPieces", spec := "fnLengthPieces", unfollowed := true, recurses := true, apart := false, narrowed := true }
def FnLengthPiecesUptoSaid : Prop := fnLengthPiecesUptoRow.holds Try.pinned (OpenSpec.upto fnLengthPiecesSpec)

/-- 'laws.FnOnShortest', WHERE WHAT IT READS IS OF BULK AT MOST 1048576: true; the input reads as it did. -/
def fnOnShortestUptoRow : OpenClaim := { program := "ytdbjcojlcddhdaa", sum := "82eaf377813a1f83ac47cbac944c0365cbe276091e4882d12223caca699a859c", func := "loop.example/g00546/laws.FnOnShortest", spec := "fnOnShortest", unfollowed := true, recurses := true, apart := false, narrowed := true }
def FnOnShortestUptoSaid : Prop := fnOnShortestUptoRow.holds Try.pinned (OpenSpec.upto fnOnShortestSpec)

/-- 'laws.FnPath', WHERE WHAT IT READS IS OF BULK AT MOST 1048576: true; the input reads as it did. -/
def fnPathUptoRow : OpenClaim := { program := "ytdbjcojlcddhdaa", sum := "82eaf377813a1f83ac47cbac944c0365cbe276091e4882d12223caca699a859c", func := "loop.example/g00546/laws.FnPath", spec := "fnPath", unfollowed := true, recurses := true, apart := false, narrowed := true }
def FnPathUptoSaid : Prop := fnPathUptoRow.holds Try.pinned (OpenSpec.upto fnPathSpec)

/-- 'laws.FnFirstPath', WHERE WHAT IT READS IS OF BULK AT MOST 1048576: true; the input reads as it did. -/
def fnFirstPathUptoRow : OpenClaim := { program := "ytdbjcojlcddhdaa", sum := "82eaf377813a1f83ac47cbac944c0365cbe276091e4882d12223caca699a859c", func := "loop.example/g00546/laws.FnFirstPath", spec := "fnFirstPath", unfollowed := true, recurses := true, apart := false, narrowed := true }
def FnFirstPathUptoSaid : Prop := fnFirstPathUptoRow.holds Try.pinned (OpenSpec.upto fnFirstPathSpec)

/-- 'laws.FnPathPieces', WHERE WHAT IT READS IS OF BULK AT MOST 1048576: true; the input reads as it did. -/
def fnPathPiecesUptoRow : OpenClaim := { program := "ytdbjcojlcddhdaa", sum := "82eaf377813a1f83ac47cbac944c0365cbe276091e4882d12223caca699a859c", func := "loop.example/g00546/laws.FnPathPieces", spec := "fnPathPieces", unfollowed := true, recurses := true, apart := false, narrowed := true }
def FnPathPiecesUptoSaid : Prop := fnPathPiecesUptoRow.holds Try.pinned (OpenSpec.upto fnPathPiecesSpec)

/-- 'laws.FnScaled', WHERE WHAT IT READS IS OF BULK AT MOST 1048576: true; the input reads as it did. -/
def fnScaledUptoRow : OpenClaim := { program := "ytdbjcojlcddhdaa", sum := "82eaf377813a1f83ac47cbac944c0365cbe276091e4882d12223caca699a859c", func := "loop.example/g00546/laws.FnScaled", spec := "fnScaled", unfollowed := true, recurses := true, apart := false, narrowed := true }
def FnScaledUptoSaid : Prop := fnScaledUptoRow.holds Try.pinned (OpenSpec.upto fnScaledSpec)

/-- 'laws.FnHeaped', WHERE WHAT IT READS IS OF BULK AT MOST 1048576: true; the input reads as it did. -/
def fnHeapedUptoRow : OpenClaim := { program := "ytdbjcojlcddhdaa", sum := "82eaf377813a1f83ac47cbac944c0365cbe276091e4882d12223caca699a859c", func := "loop.example/g00546/laws.FnHeaped", spec := "fnHeaped", unfollowed := true, recurses := true, apart := false, narrowed := true }
def FnHeapedUptoSaid : Prop := fnHeapedUptoRow.holds Try.pinned (OpenSpec.upto fnHeapedSpec)

/-- 'laws.FnBetween', WHERE WHAT IT READS IS OF BULK AT MOST 1048576: true; the input reads as it did. -/
def fnBetweenUptoRow : OpenClaim := { program := "ytdbjcojlcddhdaa", sum := "82eaf377813a1f83ac47cbac944c0365cbe276091e4882d12223caca699a859c", func := "loop.example/g00546/laws.FnBetween", spec := "fnBetween", unfollowed := true, recurses := true, apart := false, narrowed := true }
def FnBetweenUptoSaid : Prop := fnBetweenUptoRow.holds Try.pinned (OpenSpec.upto fnBetweenSpec)

/-- 'laws.FnBetweenMore', WHERE WHAT IT READS IS OF BULK AT MOST 1048576: true; the input reads as it did. -/
def fnBetweenMoreUptoRow : OpenClaim := { program := "ytdbjcojlcddhdaa", sum := "82eaf377813a1f83ac47cbac944c0365cbe276091e4882d12223caca699a859c", func := "loop.example/g00546/laws.FnBetweenMore", spec := "fnBetweenMore", unfollowed := true, recurses := true, apart := false, narrowed := true }
def FnBetweenMoreUptoSaid : Prop := fnBetweenMoreUptoRow.holds Try.pinned (OpenSpec.upto fnBetweenMoreSpec)

end Rows
end Go.Proofs.Ytdbjcojlcddhdaa
