/-
  No cell of these rows narrows 'for every input' (looked for: loops, veiled, ifaces, maps, wideKeys, modest, calm, conditions, laid).
  DERIVED. THE GIVEN ROWS OF THIS SEAT. 13 by the template 'for every input the law returns true; each argument reads behind the call as it read before'; 0 by the template 'total and deterministic' (their statements: YtlddileiecnkjaaTotals.lean).
  GIVEN WITH THE SEED: the statements are not yours to turn. If you find one false, say at which input.
  Laid BY PROGRAM, IN A SANDBOX (cutbox-rows.mjs): the forced cells as the released guide's own fill.sh prints them over the translation 6684d8446aa1b598… (all of the seat's roots in one cut). By AI agents, Wed Nov 11 2026. No macro, syntax, notation, axiom, sorry.
-/
import Derived.Test.YtlddileiecnkjaaChecked
import GoSem.Claim
import GoSem.ClaimJoined
import GoSem.ClaimMapViews
import Derived.JoinedTies
import Derived.KernelRfl
namespace Go.Proofs.Ytlddileiecnkjaa
/- THE CELL 'sum', in the pinned program and in every row, IS THE sha256 OF THE DUMP (.gsa) THAT YtlddileiecnkjaaProg.lean LOADS. Nothing in Lean hashes anything: it is a label: what it is worth is what the hold of that sum in a sandbox is worth. -/
noncomputable def Try.pinned : Pinned := { name := "ytlddileiecnkjaa", sum := "6684d8446aa1b598b6333eded2ddb6e4266c32d2343734c8c4b0c2911d3974b7", checked := Try.checked }
namespace Rows
def none {H : Type} : Left H := { results := [], args := [] }

/-- 'laws.FnMeet': WHATEVER THE INPUT: true; the input reads as it did. -/
def fnMeetSpec : ChangeSpec := { name := "fnMeet", fn := fun _ => fun
  | [d] => { results := [.lit (.bool true)], args := [d] }
  | _ => none }
def fnMeetRow : OpenClaim := { program := "ytlddileiecnkjaa", sum := "6684d8446aa1b598b6333eded2ddb6e4266c32d2343734c8c4b0c2911d3974b7", func := "loop.example/g00546/laws.FnMeet", spec := "fnMeet", unfollowed := true, recurses := true, apart := false }
def FnMeetSaid : Prop := fnMeetRow.holds Try.pinned (OpenSpec.ofChange fnMeetSpec)

/-- ITS FALSE NEIGHBOUR: 'it returns false'. Refute it at one input. -/
def fnMeetWrong : ChangeSpec := { name := "fnMeet", fn := fun _ => fun
  | [d] => { results := [.lit (.bool false)], args := [d] }
  | _ => none }
def FnMeetWrongFalsely : Prop := fnMeetRow.holds Try.pinned (OpenSpec.ofChange fnMeetWrong)

/-- 'laws.FnExactMatrix': WHATEVER THE INPUT: true; the input reads as it did. -/
def fnExactMatrixSpec : ChangeSpec := { name := "fnExactMatrix", fn := fun _ => fun
  | [d1, d2, d3] => { results := [.lit (.bool true)], args := [d1, d2, d3] }
  | _ => none }
def fnExactMatrixRow : OpenClaim := { program := "ytlddileiecnkjaa", sum := "6684d8446aa1b598b6333eded2ddb6e4266c32d2343734c8c4b0c2911d3974b7", func := "loop.example/g00546/laws.FnExactMatrix", spec := "fnExactMatrix", unfollowed := true, recurses := true, apart := false }
def FnExactMatrixSaid : Prop := fnExactMatrixRow.holds Try.pinned (OpenSpec.ofChange fnExactMatrixSpec)

/-- ITS FALSE NEIGHBOUR: 'it returns false'. Refute it at one input. -/
def fnExactMatrixWrong : ChangeSpec := { name := "fnExactMatrix", fn := fun _ => fun
  | [d1, d2, d3] => { results := [.lit (.bool false)], args := [d1, d2, d3] }
  | _ => none }
def FnExactMatrixWrongFalsely : Prop := fnExactMatrixRow.holds Try.pinned (OpenSpec.ofChange fnExactMatrixWrong)

/-- 'laws.FnMatrix': WHATEVER THE INPUT: true; the input reads as it did. -/
def fnMatrixSpec : ChangeSpec := { name := "fnMatrix", fn := fun _ => fun
  | [d] => { results := [.lit (.bool true)], args := [d] }
  | _ => none }
def fnMatrixRow : OpenClaim := { program := "ytlddileiecnkjaa", sum := "6684d8446aa1b598b6333eded2ddb6e4266c32d2343734c8c4b0c2911d3974b7", func := "loop.example/g00546/laws.FnMatrix", spec := "fnMatrix", unfollowed := true, recurses := true, apart := false }
def FnMatrixSaid : Prop := fnMatrixRow.holds Try.pinned (OpenSpec.ofChange fnMatrixSpec)

/-- ITS FALSE NEIGHBOUR: 'it returns false'. Refute it at one input. -/
def fnMatrixWrong : ChangeSpec := { name := "fnMatrix", fn := fun _ => fun
  | [d] => { results := [.lit (.bool false)], args := [d] }
  | _ => none }
def FnMatrixWrongFalsely : Prop := fnMatrixRow.holds Try.pinned (OpenSpec.ofChange fnMatrixWrong)

/-- 'laws.FnMatrixRow': WHATEVER THE INPUT: true; the input reads as it did. -/
def fnMatrixRowSpec : ChangeSpec := { name := "fnMatrixRow", fn := fun _ => fun
  | [d] => { results := [.lit (.bool true)], args := [d] }
  | _ => none }
def fnMatrixRowRow : OpenClaim := { program := "ytlddileiecnkjaa", sum := "6684d8446aa1b598b6333eded2ddb6e4266c32d2343734c8c4b0c2911d3974b7", func := "loop.example/g00546/laws.FnMatrixRow", spec := "fnMatrixRow", unfollowed := true, recurses := true, apart := false }
def FnMatrixRowSaid : Prop := fnMatrixRowRow.holds Try.pinned (OpenSpec.ofChange fnMatrixRowSpec)

/-- ITS FALSE NEIGHBOUR: 'it returns false'. Refute it at one input. -/
def fnMatrixRowWrong : ChangeSpec := { name := "fnMatrixRow", fn := fun _ => fun
  | [d] => { results := [.lit (.bool false)], args := [d] }
  | _ => none }
def FnMatrixRowWrongFalsely : Prop := fnMatrixRowRow.holds Try.pinned (OpenSpec.ofChange fnMatrixRowWrong)

/-- 'laws.FnExactNearest': WHATEVER THE INPUT: true; the input reads as it did. -/
def fnExactNearestSpec : ChangeSpec := { name := "fnExactNearest", fn := fun _ => fun
  | [d1, d2, d3, d4] => { results := [.lit (.bool true)], args := [d1, d2, d3, d4] }
  | _ => none }
def fnExactNearestRow : OpenClaim := { program := "ytlddileiecnkjaa", sum := "6684d8446aa1b598b6333eded2ddb6e4266c32d2343734c8c4b0c2911d3974b7", func := "loop.example/g00546/laws.FnExactNearest", spec := "fnExactNearest", unfollowed := true, recurses := true, apart := false }
def FnExactNearestSaid : Prop := fnExactNearestRow.holds Try.pinned (OpenSpec.ofChange fnExactNearestSpec)

/-- ITS FALSE NEIGHBOUR: 'it returns false'. Refute it at one input. -/
def fnExactNearestWrong : ChangeSpec := { name := "fnExactNearest", fn := fun _ => fun
  | [d1, d2, d3, d4] => { results := [.lit (.bool false)], args := [d1, d2, d3, d4] }
  | _ => none }
def FnExactNearestWrongFalsely : Prop := fnExactNearestRow.holds Try.pinned (OpenSpec.ofChange fnExactNearestWrong)

/-- 'laws.FnNearest': WHATEVER THE INPUT: true; the input reads as it did. -/
def fnNearestSpec : ChangeSpec := { name := "fnNearest", fn := fun _ => fun
  | [d] => { results := [.lit (.bool true)], args := [d] }
  | _ => none }
def fnNearestRow : OpenClaim := { program := "ytlddileiecnkjaa", sum := "6684d8446aa1b598b6333eded2ddb6e4266c32d2343734c8c4b0c2911d3974b7", func := "loop.example/g00546/laws.FnNearest", spec := "fnNearest", unfollowed := true, recurses := true, apart := false }
def FnNearestSaid : Prop := fnNearestRow.holds Try.pinned (OpenSpec.ofChange fnNearestSpec)

/-- ITS FALSE NEIGHBOUR: 'it returns false'. Refute it at one input. -/
def fnNearestWrong : ChangeSpec := { name := "fnNearest", fn := fun _ => fun
  | [d] => { results := [.lit (.bool false)], args := [d] }
  | _ => none }
def FnNearestWrongFalsely : Prop := fnNearestRow.holds Try.pinned (OpenSpec.ofChange fnNearestWrong)

/-- 'laws.FnExactMarksOf': WHATEVER THE INPUT: true; the input reads as it did. -/
def fnExactMarksOfSpec : ChangeSpec := { name := "fnExactMarksOf", fn := fun _ => fun
  | [d1, d2] => { results := [.lit (.bool true)], args := [d1, d2] }
  | _ => none }
def fnExactMarksOfRow : OpenClaim := { program := "ytlddileiecnkjaa", sum := "6684d8446aa1b598b6333eded2ddb6e4266c32d2343734c8c4b0c2911d3974b7", func := "loop.example/g00546/laws.FnExactMarksOf", spec := "fnExactMarksOf", unfollowed := true, recurses := true, apart := false }
def FnExactMarksOfSaid : Prop := fnExactMarksOfRow.holds Try.pinned (OpenSpec.ofChange fnExactMarksOfSpec)

/-- ITS FALSE NEIGHBOUR: 'it returns false'. Refute it at one input. -/
def fnExactMarksOfWrong : ChangeSpec := { name := "fnExactMarksOf", fn := fun _ => fun
  | [d1, d2] => { results := [.lit (.bool false)], args := [d1, d2] }
  | _ => none }
def FnExactMarksOfWrongFalsely : Prop := fnExactMarksOfRow.holds Try.pinned (OpenSpec.ofChange fnExactMarksOfWrong)

/-- 'laws.FnExactMarksOk': WHATEVER THE INPUT: true; the input reads as it did. -/
def fnExactMarksOkSpec : ChangeSpec := { name := "fnExactMarksOk", fn := fun _ => fun
  | [d1, d2] => { results := [.lit (.bool true)], args := [d1, d2] }
  | _ => none }
def fnExactMarksOkRow : OpenClaim := { program := "ytlddileiecnkjaa", sum := "6684d8446aa1b598b6333eded2ddb6e4266c32d2343734c8c4b0c2911d3974b7", func := "loop.example/g00546/laws.FnExactMarksOk", spec := "fnExactMarksOk", unfollowed := true, recurses := true, apart := false }
def FnExactMarksOkSaid : Prop := fnExactMarksOkRow.holds Try.pinned (OpenSpec.ofChange fnExactMarksOkSpec)

/-- ITS FALSE NEIGHBOUR: 'it returns false'. Refute it at one input. -/
def fnExactMarksOkWrong : ChangeSpec := { name := "fnExactMarksOk", fn := fun _ => fun
  | [d1, d2] => { results := [.lit (.bool false)], args := [d1, d2] }
  | _ => none }
def FnExactMarksOkWrongFalsely : Prop := fnExactMarksOkRow.holds Try.pinned (OpenSpec.ofChange fnExactMarksOkWrong)

/-- 'laws.FnExactBound': WHATEVER THE INPUT: true; the input reads as it did. -/
def fnExactBoundSpec : ChangeSpec := { name := "fnExactBound", fn := fun _ => fun
  | [d1, d2, d3] => { results := [.lit (.bool true)], args := [d1, d2, d3] }
  | _ => none }
def fnExactBoundRow : OpenClaim := { program := "ytlddileiecnkjaa", sum := "6684d8446aa1b598b6333eded2ddb6e4266c32d2343734c8c4b0c2911d3974b7", func := "loop.example/g00546/laws.FnExactBound", spec := "fnExactBound", apart := false }
def FnExactBoundSaid : Prop := fnExactBoundRow.holds Try.pinned (OpenSpec.ofChange fnExactBoundSpec)

/-- ITS FALSE NEIGHBOUR: 'it returns false'. Refute it at one input. -/
def fnExactBoundWrong : ChangeSpec := { name := "fnExactBound", fn := fun _ => fun
  | [d1, d2, d3] => { results := [.lit (.bool false)], args := [d1, d2, d3] }
  | _ => none }
def FnExactBoundWrongFalsely : Prop := fnExactBoundRow.holds Try.pinned (OpenSpec.ofChange fnExactBoundWrong)

/-- 'laws.FnBound': WHATEVER THE INPUT: true; the input reads as it did. -/
def fnBoundSpec : ChangeSpec := { name := "fnBound", fn := fun _ => fun
  | [d] => { results := [.lit (.bool true)], args := [d] }
  | _ => none }
def fnBoundRow : OpenClaim := { program := "ytlddileiecnkjaa", sum := "6684d8446aa1b598b6333eded2ddb6e4266c32d2343734c8c4b0c2911d3974b7", func := "loop.example/g00546/laws.FnBound", spec := "fnBound", unfollowed := true, recurses := true, apart := false }
def FnBoundSaid : Prop := fnBoundRow.holds Try.pinned (OpenSpec.ofChange fnBoundSpec)

/-- ITS FALSE NEIGHBOUR: 'it returns false'. Refute it at one input. -/
def fnBoundWrong : ChangeSpec := { name := "fnBound", fn := fun _ => fun
  | [d] => { results := [.lit (.bool false)], args := [d] }
  | _ => none }
def FnBoundWrongFalsely : Prop := fnBoundRow.holds Try.pinned (OpenSpec.ofChange fnBoundWrong)

/-- 'laws.FnMoreMarks': WHATEVER THE INPUT: true; the input reads as it did. -/
def fnMoreMarksSpec : ChangeSpec := { name := "fnMoreMarks", fn := fun _ => fun
  | [d] => { results := [.lit (.bool true)], args := [d] }
  | _ => none }
def fnMoreMarksRow : OpenClaim := { program := "ytlddileiecnkjaa", sum := "6684d8446aa1b598b6333eded2ddb6e4266c32d2343734c8c4b0c2911d3974b7", func := "loop.example/g00546/laws.FnMoreMarks", spec := "fnMoreMarks", unfollowed := true, recurses := true, apart := false }
def FnMoreMarksSaid : Prop := fnMoreMarksRow.holds Try.pinned (OpenSpec.ofChange fnMoreMarksSpec)

/-- ITS FALSE NEIGHBOUR: 'it returns false'. Refute it at one input. -/
def fnMoreMarksWrong : ChangeSpec := { name := "fnMoreMarks", fn := fun _ => fun
  | [d] => { results := [.lit (.bool false)], args := [d] }
  | _ => none }
def FnMoreMarksWrongFalsely : Prop := fnMoreMarksRow.holds Try.pinned (OpenSpec.ofChange fnMoreMarksWrong)

/-- 'laws.FnMarks': WHATEVER THE INPUT: true; the input reads as it did. -/
def fnMarksSpec : ChangeSpec := { name := "fnMarks", fn := fun _ => fun
  | [d] => { results := [.lit (.bool true)], args := [d] }
  | _ => none }
def fnMarksRow : OpenClaim := { program := "ytlddileiecnkjaa", sum := "6684d8446aa1b598b6333eded2ddb6e4266c32d2343734c8c4b0c2911d3974b7", func := "loop.example/g00546/laws.FnMarks", spec := "fnMarks", unfollowed := true, recurses := true, apart := false }
def FnMarksSaid : Prop := fnMarksRow.holds Try.pinned (OpenSpec.ofChange fnMarksSpec)

/-- ITS FALSE NEIGHBOUR: 'it returns false'. Refute it at one input. -/
def fnMarksWrong : ChangeSpec := { name := "fnMarks", fn := fun _ => fun
  | [d] => { results := [.lit (.bool false)], args := [d] }
  | _ => none }
def FnMarksWrongFalsely : Prop := fnMarksRow.holds Try.pinned (OpenSpec.ofChange fnMarksWrong)

/-- 'laws.FnExactQueryMarks': WHATEVER THE INPUT: true; the input reads as it did. -/
def fnExactQueryMarksSpec : ChangeSpec := { name := "fnExactQueryMarks", fn := fun _ => fun
  | [d1, d2, d3, d4] => { results := [.lit (.bool true)], args := [d1, d2, d3, d4] }
  | _ => none }
def fnExactQueryMarksRow : OpenClaim := { program := "ytlddileiecnkjaa", sum := "6684d8446aa1b598b6333eded2ddb6e4266c32d2343734c8c4b0c2911d3974b7", func := "loop.example/g00546/laws.FnExactQueryMarks", spec := "fnExactQueryMarks", unfollowed := true, recurses := true, apart := false }
def FnExactQueryMarksSaid : Prop := fnExactQueryMarksRow.holds Try.pinned (OpenSpec.ofChange fnExactQueryMarksSpec)

/-- ITS FALSE NEIGHBOUR: 'it returns false'. Refute it at one input. -/
def fnExactQueryMarksWrong : ChangeSpec := { name := "fnExactQueryMarks", fn := fun _ => fun
  | [d1, d2, d3, d4] => { results := [.lit (.bool false)], args := [d1, d2, d3, d4] }
  | _ => none }
def FnExactQueryMarksWrongFalsely : Prop := fnExactQueryMarksRow.holds Try.pinned (OpenSpec.ofChange fnExactQueryMarksWrong)

/- THE SECOND FORM. 'bulk': how many values and letters a reading holds, each counted each time it is reached (what is shared counts as often as it is met; a slice's spare places count too). A statement '..UptoSaid' is the law's where the arguments, and the package variables that the reading takes, are together of bulk at most 1048576: NARROWER than '..Said'. Prove '..Said' where nothing that the law and all that it calls make is longer than what came in: it says more and counts as full. Else prove '..UptoSaid'. A law counts once. -/
mutual
def uptoBulk {H : Type} : DataW H → Nat
  | .lit (.string bytes) => bytes.length + 1
  | .lit _ => 1
  | .nil => 1
  | .ptr d => uptoBulk d + 1
  | .slice elems spare => uptoBulkAll elems + uptoBulkAll spare + 1
  | .agg parts => uptoBulkAll parts + 1
  | .iface _ d => uptoBulk d + 1
  | .map entries => uptoBulkEntries entries + 1
  | .held _ => 1
def uptoBulkAll {H : Type} : List (DataW H) → Nat
  | [] => 0
  | d :: r => uptoBulk d + uptoBulkAll r
def uptoBulkEntries {H : Type} : List (Lit × DataW H) → Nat
  | [] => 0
  | x :: r => uptoBulkEntry x + uptoBulkEntries r
def uptoBulkEntry {H : Type} : Lit × DataW H → Nat
  | (.string bytes, d) => bytes.length + uptoBulk d + 1
  | (_, d) => uptoBulk d + 1
 end
def uptoSmall : (H : Type) → List (DataW H) → Bool := fun _ ds => decide (uptoBulkAll ds ≤ 1048576)
def OpenSpec.upto (s : _root_.Go.ChangeSpec) : _root_.Go.OpenSpec := { _root_.Go.OpenSpec.ofChange s with cond := some uptoSmall }

/-- 'laws.FnMeet', WHERE WHAT IT READS IS OF BULK AT MOST 1048576: true; the input reads as it did. -/
def fnMeetUptoRow : OpenClaim := { program := "ytlddileiecnkjaa", sum := "6684d8446aa1b598b6333eded2ddb6e4266c32d2343734c8c4b0c2911d3974b7", func := "loop.example/g00546/laws.FnMeet", spec := "fnMeet", unfollowed := true, recurses := true, apart := false, narrowed := true }
def FnMeetUptoSaid : Prop := fnMeetUptoRow.holds Try.pinned (OpenSpec.upto fnMeetSpec)

/-- 'laws.FnExactMatrix', WHERE WHAT IT READS IS OF BULK AT MOST 1048576: true; the input reads as it did. -/
def fnExactMatrixUptoRow : OpenClaim := { program := "ytlddileiecnkjaa", sum := "6684d8446aa1b598b6333eded2ddb6e4266c32d2343734c8c4b0c2911d3974b7", func := "loop.example/g00546/laws.FnExactMatrix", spec := "fnExactMatrix", unfollowed := true, recurses := true, apart := false, narrowed := true }
def FnExactMatrixUptoSaid : Prop := fnExactMatrixUptoRow.holds Try.pinned (OpenSpec.upto fnExactMatrixSpec)

/-- 'laws.FnMatrix', WHERE WHAT IT READS IS OF BULK AT MOST 1048576: true; the input reads as it did. -/
def fnMatrixUptoRow : OpenClaim := { program := "ytlddileiecnkjaa", sum := "6684d8446aa1b598b6333eded2ddb6e4266c32d2343734c8c4b0c2911d3974b7", func := "loop.example/g00546/laws.FnMatrix", spec := "fnMatrix", unfollowed := true, recurses := true, apart := false, narrowed := true }
def FnMatrixUptoSaid : Prop := fnMatrixUptoRow.holds Try.pinned (OpenSpec.upto fnMatrixSpec)

/-- 'laws.FnMatrixRow', WHERE WHAT IT READS IS OF BULK AT MOST 1048576: true; the input reads as it did. -/
def fnMatrixRowUptoRow : OpenClaim := { program := "ytlddileiecnkjaa", sum := "6684d8446aa1b598b6333eded2ddb6e4266c32d2343734c8c4b0c2911d3974b7", func := "loop.example/g00546/laws.FnMatrixRow", spec := "fnMatrixRow", unfollowed := true, recurses := true, apart := false, narrowed := true }
def FnMatrixRowUptoSaid : Prop := fnMatrixRowUptoRow.holds Try.pinned (OpenSpec.upto fnMatrixRowSpec)

/-- 'laws.FnExactNearest', WHERE WHAT IT READS IS OF BULK AT MOST 1048576: true; the input reads as it did. -/
def fnExactNearestUptoRow : OpenClaim := { program := "ytlddileiecnkjaa", sum := "6684d8446aa1b598b6333eded2ddb6e4266c32d2343734c8c4b0c2911d3974b7", func := "loop.example/g00546/laws.FnExactNearest", spec := "fnExactNearest", unfollowed := true, recurses := true, apart := false, narrowed := true }
def FnExactNearestUptoSaid : Prop := fnExactNearestUptoRow.holds Try.pinned (OpenSpec.upto fnExactNearestSpec)

/-- 'laws.FnNearest', WHERE WHAT IT READS IS OF BULK AT MOST 1048576: true; the input reads as it did. -/
def fnNearestUptoRow : OpenClaim := { program := "ytlddileiecnkjaa", sum := "6684d8446aa1b598b6333eded2ddb6e4266c32d2343734c8c4b0c2911d3974b7", func := "loop.example/g00546/laws.FnNearest", spec := "fnNearest", unfollowed := true, recurses := true, apart := false, narrowed := true }
def FnNearestUptoSaid : Prop := fnNearestUptoRow.holds Try.pinned (OpenSpec.upto fnNearestSpec)

/-- 'laws.FnExactMarksOf', WHERE WHAT IT READS IS OF BULK AT MOST 1048576: true; the input reads as it did. -/
def fnExactMarksOfUptoRow : OpenClaim := { program := "ytlddileiecnkjaa", sum := "6684d8446aa1b598b6333eded2ddb6e4266c32d2343734c8c4b0c2911d3974b7", func := "loop.example/g00546/laws.FnExactMarksOf", spec := "fnExactMarksOf", unfollowed := true, recurses := true, apart := false, narrowed := true }
def FnExactMarksOfUptoSaid : Prop := fnExactMarksOfUptoRow.holds Try.pinned (OpenSpec.upto fnExactMarksOfSpec)

/-- 'laws.FnExactMarksOk', WHERE WHAT IT READS IS OF BULK AT MOST 1048576: true; the input reads as it did. -/
def fnExactMarksOkUptoRow : OpenClaim := { program := "ytlddileiecnkjaa", sum := "6684d8446aa1b598b6333eded2ddb6e4266c32d2343734c8c4b0c2911d3974b7", func := "loop.example/g00546/laws.FnExactMarksOk", spec := "fnExactMarksOk", unfollowed := true, recurses := true, apart := false, narrowed := true }
def FnExactMarksOkUptoSaid : Prop := fnExactMarksOkUptoRow.holds Try.pinned (OpenSpec.upto fnExactMarksOkSpec)

/-- 'laws.FnExactBound', WHERE WHAT IT READS IS OF BULK AT MOST 1048576: true; the input reads as it did. -/
def fnExactBoundUptoRow : OpenClaim := { program := "ytlddileiecnkjaa", sum := "6684d8446aa1b598b6333eded2ddb6e4266c32d2343734c8c4b0c2911d3974b7", func := "loop.example/g00546/laws.FnExactBound", spec := "fnExactBound", apart := false, narrowed := true }
def FnExactBoundUptoSaid : Prop := fnExactBoundUptoRow.holds Try.pinned (OpenSpec.upto fnExactBoundSpec)

/-- 'laws.FnBound', WHERE WHAT IT READS IS OF BULK AT MOST 1048576: true; the input reads as it did. -/
def fnBoundUptoRow : OpenClaim := { program := "ytlddileiecnkjaa", sum := "6684d8446aa1b598b6333eded2ddb6e4266c32d2343734c8c4b0c2911d3974b7", func := "loop.example/g00546/laws.FnBound", spec := "fnBound", unfollowed := true, recurses := true, apart := false, narrowed := true }
def FnBoundUptoSaid : Prop := fnBoundUptoRow.holds Try.pinned (OpenSpec.upto fnBoundSpec)

/-- 'laws.FnMoreMarks', WHERE WHAT IT READS IS OF BULK AT MOST 1048576: true; the input reads as it did. -/
def fnMoreMarksUptoRow : OpenClaim := { program := "ytlddileiecnkjaa", sum := "6684d8446aa1b598b6333eded2ddb6e4266c32d2343734c8c4b0c2911d3974b7", func := "loop.example/g00546/laws.FnMoreMarks", spec := "fnMoreMarks", unfollowed := true, recurses := true, apart := false, narrowed := true }
def FnMoreMarksUptoSaid : Prop := fnMoreMarksUptoRow.holds Try.pinned (OpenSpec.upto fnMoreMarksSpec)

/-- 'laws.FnMarks', WHERE WHAT IT READS IS OF BULK AT MOST 1048576: true; the input reads as it did. -/
def fnMarksUptoRow : OpenClaim := { program := "ytlddileiecnkjaa", sum := "6684d8446aa1b598b6333eded2ddb6e4266c32d2343734c8c4b0c2911d3974b7", func := "loop.example/g00546/laws.FnMarks", spec := "fnMarks", unfollowed := true, recurses := true, apart := false, narrowed := true }
def FnMarksUptoSaid : Prop := fnMarksUptoRow.holds Try.pinned (OpenSpec.upto fnMarksSpec)

/-- 'laws.FnExactQueryMarks', WHERE WHAT IT READS IS OF BULK AT MOST 1048576: true; the input reads as it did. -/
def fnExactQueryMarksUptoRow : OpenClaim := { program := "ytlddileiecnkjaa", sum := "6684d8446aa1b598b6333eded2ddb6e4266c32d2343734c8c4b0c2911d3974b7", func := "loop.example/g00546/laws.FnExactQueryMarks", spec := "fnExactQueryMarks", unfollowed := true, recurses := true, apart := false, narrowed := true }
def FnExactQueryMarksUptoSaid : Prop := fnExactQueryMarksUptoRow.holds Try.pinned (OpenSpec.upto fnExactQueryMarksSpec)

end Rows
end Go.Proofs.Ytlddileiecnkjaa
