/-
  No cell of these rows narrows 'for every input' (looked for: loops, veiled, ifaces, maps, wideKeys, modest, calm, conditions, laid).
  DERIVED. THE GIVEN ROWS OF THIS SEAT. 14 by the template 'for every input the law returns true; each argument reads behind the call as it read before'; 0 by the template 'total and deterministic' (their statements: YtelgjfflhcmljaaTotals.lean).
  GIVEN WITH THE SEED: the statements are not yours to turn. If you find one false, say at which input.
  Laid BY PROGRAM, IN A SANDBOX (cutbox-rows.mjs): the forced cells as the released guide's own fill.sh prints them over the translation 91e71a646ad021b8… (all of the seat's roots in one cut). By AI agents, Wed Nov 11 2026. No macro, syntax, notation, axiom, sorry.
-/
import Derived.Test.YtelgjfflhcmljaaChecked
import GoSem.Claim
import GoSem.ClaimJoined
import GoSem.ClaimMapViews
import Derived.JoinedTies
import Derived.KernelRfl
namespace Go.Proofs.Ytelgjfflhcmljaa
/- THE CELL 'sum', in the pinned program and in every row, IS THE sha256 OF THE DUMP (.gsa) THAT YtelgjfflhcmljaaProg.lean LOADS. Nothing in Lean hashes anything: it is a label: what it is worth is what the hold of that sum in a sandbox is worth. -/
noncomputable def Try.pinned : Pinned := { name := "ytelgjfflhcmljaa", sum := "91e71a646ad021b8a66c81dc425dc8393f08361d1bd583cebf9280514dfe5dee", checked := Try.checked }
namespace Rows
def none {H : Type} : Left H := { results := [], args := [] }

/-- 'laws.FnExactDetour': WHATEVER THE INPUT: true; the input reads as it did. -/
def fnExactDetourSpec : ChangeSpec := { name := "fnExactDetour", fn := fun _ => fun
  | [d1, d2, d3, d4, d5] => { results := [.lit (.bool true)], args := [d1, d2, d3, d4, d5] }
  | _ => none }
def fnExactDetourRow : OpenClaim := { program := "ytelgjfflhcmljaa", sum := "91e71a646ad021b8a66c81dc425dc8393f08361d1bd583cebf9280514dfe5dee", func := "loop.example/g00546/laws.FnExactDetour", spec := "fnExactDetour", unfollowed := true, recurses := true, apart := false }
def FnExactDetourSaid : Prop := fnExactDetourRow.holds Try.pinned (OpenSpec.ofChange fnExactDetourSpec)

/-- ITS FALSE NEIGHBOUR: 'it returns false'. Refute it at one input. -/
def fnExactDetourWrong : ChangeSpec := { name := "fnExactDetour", fn := fun _ => fun
  | [d1, d2, d3, d4, d5] => { results := [.lit (.bool false)], args := [d1, d2, d3, d4, d5] }
  | _ => none }
def FnExactDetourWrongFalsely : Prop := fnExactDetourRow.holds Try.pinned (OpenSpec.ofChange fnExactDetourWrong)

/-- 'laws.FnExactVital': WHATEVER THE INPUT: true; the input reads as it did. -/
def fnExactVitalSpec : ChangeSpec := { name := "fnExactVital", fn := fun _ => fun
  | [d1, d2, d3] => { results := [.lit (.bool true)], args := [d1, d2, d3] }
  | _ => none }
def fnExactVitalRow : OpenClaim := { program := "ytelgjfflhcmljaa", sum := "91e71a646ad021b8a66c81dc425dc8393f08361d1bd583cebf9280514dfe5dee", func := "loop.example/g00546/laws.FnExactVital", spec := "fnExactVital", unfollowed := true, recurses := true, apart := false }
def FnExactVitalSaid : Prop := fnExactVitalRow.holds Try.pinned (OpenSpec.ofChange fnExactVitalSpec)

/-- ITS FALSE NEIGHBOUR: 'it returns false'. Refute it at one input. -/
def fnExactVitalWrong : ChangeSpec := { name := "fnExactVital", fn := fun _ => fun
  | [d1, d2, d3] => { results := [.lit (.bool false)], args := [d1, d2, d3] }
  | _ => none }
def FnExactVitalWrongFalsely : Prop := fnExactVitalRow.holds Try.pinned (OpenSpec.ofChange fnExactVitalWrong)

/-- 'laws.FnExactBansOk': WHATEVER THE INPUT: true; the input reads as it did. -/
def fnExactBansOkSpec : ChangeSpec := { name := "fnExactBansOk", fn := fun _ => fun
  | [d1, d2] => { results := [.lit (.bool true)], args := [d1, d2] }
  | _ => none }
def fnExactBansOkRow : OpenClaim := { program := "ytelgjfflhcmljaa", sum := "91e71a646ad021b8a66c81dc425dc8393f08361d1bd583cebf9280514dfe5dee", func := "loop.example/g00546/laws.FnExactBansOk", spec := "fnExactBansOk", unfollowed := true, recurses := true, apart := false }
def FnExactBansOkSaid : Prop := fnExactBansOkRow.holds Try.pinned (OpenSpec.ofChange fnExactBansOkSpec)

/-- ITS FALSE NEIGHBOUR: 'it returns false'. Refute it at one input. -/
def fnExactBansOkWrong : ChangeSpec := { name := "fnExactBansOk", fn := fun _ => fun
  | [d1, d2] => { results := [.lit (.bool false)], args := [d1, d2] }
  | _ => none }
def FnExactBansOkWrongFalsely : Prop := fnExactBansOkRow.holds Try.pinned (OpenSpec.ofChange fnExactBansOkWrong)

/-- 'laws.FnExactTreeOf': WHATEVER THE INPUT: true; the input reads as it did. -/
def fnExactTreeOfSpec : ChangeSpec := { name := "fnExactTreeOf", fn := fun _ => fun
  | [d1, d2] => { results := [.lit (.bool true)], args := [d1, d2] }
  | _ => none }
def fnExactTreeOfRow : OpenClaim := { program := "ytelgjfflhcmljaa", sum := "91e71a646ad021b8a66c81dc425dc8393f08361d1bd583cebf9280514dfe5dee", func := "loop.example/g00546/laws.FnExactTreeOf", spec := "fnExactTreeOf", unfollowed := true, recurses := true, apart := false }
def FnExactTreeOfSaid : Prop := fnExactTreeOfRow.holds Try.pinned (OpenSpec.ofChange fnExactTreeOfSpec)

/-- ITS FALSE NEIGHBOUR: 'it returns false'. Refute it at one input. -/
def fnExactTreeOfWrong : ChangeSpec := { name := "fnExactTreeOf", fn := fun _ => fun
  | [d1, d2] => { results := [.lit (.bool false)], args := [d1, d2] }
  | _ => none }
def FnExactTreeOfWrongFalsely : Prop := fnExactTreeOfRow.holds Try.pinned (OpenSpec.ofChange fnExactTreeOfWrong)

/-- 'laws.FnExactTreeOk': WHATEVER THE INPUT: true; the input reads as it did. -/
def fnExactTreeOkSpec : ChangeSpec := { name := "fnExactTreeOk", fn := fun _ => fun
  | [d1, d2] => { results := [.lit (.bool true)], args := [d1, d2] }
  | _ => none }
def fnExactTreeOkRow : OpenClaim := { program := "ytelgjfflhcmljaa", sum := "91e71a646ad021b8a66c81dc425dc8393f08361d1bd583cebf9280514dfe5dee", func := "loop.example/g00546/laws.FnExactTreeOk", spec := "fnExactTreeOk", unfollowed := true, recurses := true, apart := false }
def FnExactTreeOkSaid : Prop := fnExactTreeOkRow.holds Try.pinned (OpenSpec.ofChange fnExactTreeOkSpec)

/-- ITS FALSE NEIGHBOUR: 'it returns false'. Refute it at one input. -/
def fnExactTreeOkWrong : ChangeSpec := { name := "fnExactTreeOk", fn := fun _ => fun
  | [d1, d2] => { results := [.lit (.bool false)], args := [d1, d2] }
  | _ => none }
def FnExactTreeOkWrongFalsely : Prop := fnExactTreeOkRow.holds Try.pinned (OpenSpec.ofChange fnExactTreeOkWrong)

/-- 'laws.FnExactPartsOf': WHATEVER THE INPUT: true; the input reads as it did. -/
def fnExactPartsOfSpec : ChangeSpec := { name := "fnExactPartsOf", fn := fun _ => fun
  | [d] => { results := [.lit (.bool true)], args := [d] }
  | _ => none }
def fnExactPartsOfRow : OpenClaim := { program := "ytelgjfflhcmljaa", sum := "91e71a646ad021b8a66c81dc425dc8393f08361d1bd583cebf9280514dfe5dee", func := "loop.example/g00546/laws.FnExactPartsOf", spec := "fnExactPartsOf", unfollowed := true, recurses := true, apart := false }
def FnExactPartsOfSaid : Prop := fnExactPartsOfRow.holds Try.pinned (OpenSpec.ofChange fnExactPartsOfSpec)

/-- ITS FALSE NEIGHBOUR: 'it returns false'. Refute it at one input. -/
def fnExactPartsOfWrong : ChangeSpec := { name := "fnExactPartsOf", fn := fun _ => fun
  | [d] => { results := [.lit (.bool false)], args := [d] }
  | _ => none }
def FnExactPartsOfWrongFalsely : Prop := fnExactPartsOfRow.holds Try.pinned (OpenSpec.ofChange fnExactPartsOfWrong)

/-- 'laws.FnExactNearest': WHATEVER THE INPUT: true; the input reads as it did. -/
def fnExactNearestSpec : ChangeSpec := { name := "fnExactNearest", fn := fun _ => fun
  | [d1, d2, d3, d4] => { results := [.lit (.bool true)], args := [d1, d2, d3, d4] }
  | _ => none }
def fnExactNearestRow : OpenClaim := { program := "ytelgjfflhcmljaa", sum := "91e71a646ad021b8a66c81dc425dc8393f08361d1bd583cebf9280514dfe5dee", func := "loop.example/g00546/laws.FnExactNearest", spec := "fnExactNearest", unfollowed := true, recurses := true, apart := false }
def FnExactNearestSaid : Prop := fnExactNearestRow.holds Try.pinned (OpenSpec.ofChange fnExactNearestSpec)

/-- ITS FALSE NEIGHBOUR: 'it returns false'. Refute it at one input. -/
def fnExactNearestWrong : ChangeSpec := { name := "fnExactNearest", fn := fun _ => fun
  | [d1, d2, d3, d4] => { results := [.lit (.bool false)], args := [d1, d2, d3, d4] }
  | _ => none }
def FnExactNearestWrongFalsely : Prop := fnExactNearestRow.holds Try.pinned (OpenSpec.ofChange fnExactNearestWrong)

/-- 'laws.FnExactMatrix': WHATEVER THE INPUT: true; the input reads as it did. -/
def fnExactMatrixSpec : ChangeSpec := { name := "fnExactMatrix", fn := fun _ => fun
  | [d1, d2, d3] => { results := [.lit (.bool true)], args := [d1, d2, d3] }
  | _ => none }
def fnExactMatrixRow : OpenClaim := { program := "ytelgjfflhcmljaa", sum := "91e71a646ad021b8a66c81dc425dc8393f08361d1bd583cebf9280514dfe5dee", func := "loop.example/g00546/laws.FnExactMatrix", spec := "fnExactMatrix", unfollowed := true, recurses := true, apart := false }
def FnExactMatrixSaid : Prop := fnExactMatrixRow.holds Try.pinned (OpenSpec.ofChange fnExactMatrixSpec)

/-- ITS FALSE NEIGHBOUR: 'it returns false'. Refute it at one input. -/
def fnExactMatrixWrong : ChangeSpec := { name := "fnExactMatrix", fn := fun _ => fun
  | [d1, d2, d3] => { results := [.lit (.bool false)], args := [d1, d2, d3] }
  | _ => none }
def FnExactMatrixWrongFalsely : Prop := fnExactMatrixRow.holds Try.pinned (OpenSpec.ofChange fnExactMatrixWrong)

/-- 'laws.FnDetour': WHATEVER THE INPUT: true; the input reads as it did. -/
def fnDetourSpec : ChangeSpec := { name := "fnDetour", fn := fun _ => fun
  | [d] => { results := [.lit (.bool true)], args := [d] }
  | _ => none }
def fnDetourRow : OpenClaim := { program := "ytelgjfflhcmljaa", sum := "91e71a646ad021b8a66c81dc425dc8393f08361d1bd583cebf9280514dfe5dee", func := "loop.example/g00546/laws.FnDetour", spec := "fnDetour", unfollowed := true, recurses := true, apart := false }
def FnDetourSaid : Prop := fnDetourRow.holds Try.pinned (OpenSpec.ofChange fnDetourSpec)

/-- ITS FALSE NEIGHBOUR: 'it returns false'. Refute it at one input. -/
def fnDetourWrong : ChangeSpec := { name := "fnDetour", fn := fun _ => fun
  | [d] => { results := [.lit (.bool false)], args := [d] }
  | _ => none }
def FnDetourWrongFalsely : Prop := fnDetourRow.holds Try.pinned (OpenSpec.ofChange fnDetourWrong)

/-- 'laws.FnVitalPath': WHATEVER THE INPUT: true; the input reads as it did. -/
def fnVitalPathSpec : ChangeSpec := { name := "fnVitalPath", fn := fun _ => fun
  | [d] => { results := [.lit (.bool true)], args := [d] }
  | _ => none }
def fnVitalPathRow : OpenClaim := { program := "ytelgjfflhcmljaa", sum := "91e71a646ad021b8a66c81dc425dc8393f08361d1bd583cebf9280514dfe5dee", func := "loop.example/g00546/laws.FnVitalPath", spec := "fnVitalPath", unfollowed := true, recurses := true, apart := false }
def FnVitalPathSaid : Prop := fnVitalPathRow.holds Try.pinned (OpenSpec.ofChange fnVitalPathSpec)

/-- ITS FALSE NEIGHBOUR: 'it returns false'. Refute it at one input. -/
def fnVitalPathWrong : ChangeSpec := { name := "fnVitalPath", fn := fun _ => fun
  | [d] => { results := [.lit (.bool false)], args := [d] }
  | _ => none }
def FnVitalPathWrongFalsely : Prop := fnVitalPathRow.holds Try.pinned (OpenSpec.ofChange fnVitalPathWrong)

/-- 'laws.FnVitalMore': WHATEVER THE INPUT: true; the input reads as it did. -/
def fnVitalMoreSpec : ChangeSpec := { name := "fnVitalMore", fn := fun _ => fun
  | [d] => { results := [.lit (.bool true)], args := [d] }
  | _ => none }
def fnVitalMoreRow : OpenClaim := { program := "ytelgjfflhcmljaa", sum := "91e71a646ad021b8a66c81dc425dc8393f08361d1bd583cebf9280514dfe5dee", func := "loop.example/g00546/laws.FnVitalMore", spec := "fnVitalMore", unfollowed := true, recurses := true, apart := false }
def FnVitalMoreSaid : Prop := fnVitalMoreRow.holds Try.pinned (OpenSpec.ofChange fnVitalMoreSpec)

/-- ITS FALSE NEIGHBOUR: 'it returns false'. Refute it at one input. -/
def fnVitalMoreWrong : ChangeSpec := { name := "fnVitalMore", fn := fun _ => fun
  | [d] => { results := [.lit (.bool false)], args := [d] }
  | _ => none }
def FnVitalMoreWrongFalsely : Prop := fnVitalMoreRow.holds Try.pinned (OpenSpec.ofChange fnVitalMoreWrong)

/-- 'laws.FnReversed': WHATEVER THE INPUT: true; the input reads as it did. -/
def fnReversedSpec : ChangeSpec := { name := "fnReversed", fn := fun _ => fun
  | [d] => { results := [.lit (.bool true)], args := [d] }
  | _ => none }
def fnReversedRow : OpenClaim := { program := "ytelgjfflhcmljaa", sum := "91e71a646ad021b8a66c81dc425dc8393f08361d1bd583cebf9280514dfe5dee", func := "loop.example/g00546/laws.FnReversed", spec := "fnReversed", unfollowed := true, recurses := true, apart := false }
def FnReversedSaid : Prop := fnReversedRow.holds Try.pinned (OpenSpec.ofChange fnReversedSpec)

/-- ITS FALSE NEIGHBOUR: 'it returns false'. Refute it at one input. -/
def fnReversedWrong : ChangeSpec := { name := "fnReversed", fn := fun _ => fun
  | [d] => { results := [.lit (.bool false)], args := [d] }
  | _ => none }
def FnReversedWrongFalsely : Prop := fnReversedRow.holds Try.pinned (OpenSpec.ofChange fnReversedWrong)

/-- 'laws.FnPartsTurned': WHATEVER THE INPUT: true; the input reads as it did. -/
def fnPartsTurnedSpec : ChangeSpec := { name := "fnPartsTurned", fn := fun _ => fun
  | [d] => { results := [.lit (.bool true)], args := [d] }
  | _ => none }
def fnPartsTurnedRow : OpenClaim := { program := "ytelgjfflhcmljaa", sum := "91e71a646ad021b8a66c81dc425dc8393f08361d1bd583cebf9280514dfe5dee", func := "loop.example/g00546/laws.FnPartsTurned", spec := "fnPartsTurned", unfollowed := true, recurses := true, apart := false }
def FnPartsTurnedSaid : Prop := fnPartsTurnedRow.holds Try.pinned (OpenSpec.ofChange fnPartsTurnedSpec)

/-- ITS FALSE NEIGHBOUR: 'it returns false'. Refute it at one input. -/
def fnPartsTurnedWrong : ChangeSpec := { name := "fnPartsTurned", fn := fun _ => fun
  | [d] => { results := [.lit (.bool false)], args := [d] }
  | _ => none }
def FnPartsTurnedWrongFalsely : Prop := fnPartsTurnedRow.holds Try.pinned (OpenSpec.ofChange fnPartsTurnedWrong)

/-- 'laws.FnParts': WHATEVER THE INPUT: true; the input reads as it did. -/
def fnPartsSpec : ChangeSpec := { name := "fnParts", fn := fun _ => fun
  | [d] => { results := [.lit (.bool true)], args := [d] }
  | _ => none }
def fnPartsRow : OpenClaim := { program := "ytelgjfflhcmljaa", sum := "91e71a646ad021b8a66c81dc425dc8393f08361d1bd583cebf9280514dfe5dee", func := "loop.example/g00546/laws.FnParts", spec := "fnParts", unfollowed := true, recurses := true, apart := false }
def FnPartsSaid : Prop := fnPartsRow.holds Try.pinned (OpenSpec.ofChange fnPartsSpec)

/-- ITS FALSE NEIGHBOUR: 'it returns false'. Refute it at one input. -/
def fnPartsWrong : ChangeSpec := { name := "fnParts", fn := fun _ => fun
  | [d] => { results := [.lit (.bool false)], args := [d] }
  | _ => none }
def FnPartsWrongFalsely : Prop := fnPartsRow.holds Try.pinned (OpenSpec.ofChange fnPartsWrong)

/- THE SECOND FORM. 'bulk': how many values and letters a reading holds, each counted each time it is reached (what is shared counts as often as it is met; a slice's spare places count too). A statement '..UptoSaid' is the law's where the arguments, and the package variables that the reading takes, are together of bulk at most 1048576: NARROWER than '..Said'. Prove '..Said' where nothing that the law and all that it calls make is longer than what came in: it says more and counts as full. Else prove '..UptoSaid'. A law counts once. -/
mutual
def uptoBulk {H : Type} : DataW H → Nat
  | .lit (.string bytes) => bytes.length + 1
  | .lit _ => 1
  | .nil => 1
  | .ptr d => uptoBulk d + 1
  | .slice elems spare => uptoBulkAll elems + uptoBulkAll spare + 1
  | .agg parts => uptoBulkAll parts + 1
  | .iface _ d => uptoBulk d + 1
  | .map entries => uptoBulkEntries entries + 1
  | .held _ => 1
def uptoBulkAll {H : Type} : List (DataW H) → Nat
  | [] => 0
  | d :: r => uptoBulk d + uptoBulkAll r
def uptoBulkEntries {H : Type} : List (Lit × DataW H) → Nat
  | [] => 0
  | x :: r => uptoBulkEntry x + uptoBulkEntries r
def uptoBulkEntry {H : Type} : Lit × DataW H → Nat
  | (.string bytes, d) => bytes.length + uptoBulk d + 1
  | (_, d) => uptoBulk d + 1
 end
def uptoSmall : (H : Type) → List (DataW H) → Bool := fun _ ds => decide (uptoBulkAll ds ≤ 1048576)
def OpenSpec.upto (s : _root_.Go.ChangeSpec) : _root_.Go.OpenSpec := { _root_.Go.OpenSpec.ofChange s with cond := some uptoSmall }

/-- 'laws.FnExactDetour', WHERE WHAT IT READS IS OF BULK AT MOST 1048576: true; the input reads as it did. -/
def fnExactDetourUptoRow : OpenClaim := { program := "ytelgjfflhcmljaa", sum := "91e71a646ad021b8a66c81dc425dc8393f08361d1bd583cebf9280514dfe5dee", func := "loop.example/g00546/laws.FnExactDetour", spec := "fnExactDetour", unfollowed := true, recurses := true, apart := false, narrowed := true }
def FnExactDetourUptoSaid : Prop := fnExactDetourUptoRow.holds Try.pinned (OpenSpec.upto fnExactDetourSpec)

/-- 'laws.FnExactVital', WHERE WHAT IT READS IS OF BULK AT MOST 1048576: true; the input reads as it did. -/
def fnExactVitalUptoRow : OpenClaim := { program := "ytelgjfflhcmljaa", sum := "91e71a646ad021b8a66c81dc425dc8393f08361d1bd583cebf9280514dfe5dee", func := "loop.example/g00546/laws.FnExactVital", spec := "fnExactVital", unfollowed := true, recurses := true, apart := false, narrowed := true }
def FnExactVitalUptoSaid : Prop := fnExactVitalUptoRow.holds Try.pinned (OpenSpec.upto fnExactVitalSpec)

/-- 'laws.FnExactBansOk', WHERE WHAT IT READS IS OF BULK AT MOST 1048576: true; the input reads as it did. -/
def fnExactBansOkUptoRow : OpenClaim := { program := "ytelgjfflhcmljaa", sum := "91e71a646ad021b8a66c81dc425dc8393f08361d1bd583cebf9280514dfe5dee", func := "loop.example/g00546/laws.FnExactBansOk", spec := "fnExactBansOk", unfollowed := true, recurses := true, apart := false, narrowed := true }
def FnExactBansOkUptoSaid : Prop := fnExactBansOkUptoRow.holds Try.pinned (OpenSpec.upto fnExactBansOkSpec)

/-- 'laws.FnExactTreeOf', WHERE WHAT IT READS IS OF BULK AT MOST 1048576: true; the input reads as it did. -/
def fnExactTreeOfUptoRow : OpenClaim := { program := "ytelgjfflhcmljaa", sum := "91e71a646ad021b8a66c81dc425dc8393f08361d1bd583cebf9280514dfe5dee", func := "loop.example/g00546/laws.FnExactTreeOf", spec := "fnExactTreeOf", unfollowed := true, recurses := true, apart := false, narrowed := true }
def FnExactTreeOfUptoSaid : Prop := fnExactTreeOfUptoRow.holds Try.pinned (OpenSpec.upto fnExactTreeOfSpec)

/-- 'laws.FnExactTreeOk', WHERE WHAT IT READS IS OF BULK AT MOST 1048576: true; the input reads as it did. -/
def fnExactTreeOkUptoRow : OpenClaim := { program := "ytelgjfflhcmljaa", sum := "91e71a646ad021b8a66c81dc425dc8393f08361d1bd583cebf9280514dfe5dee", func := "loop.example/g00546/laws.FnExactTreeOk", spec := "fnExactTreeOk", unfollowed := true, recurses := true, apart := false, narrowed := true }
def FnExactTreeOkUptoSaid : Prop := fnExactTreeOkUptoRow.holds Try.pinned (OpenSpec.upto fnExactTreeOkSpec)

/-- 'laws.FnExactPartsOf', WHERE WHAT IT READS IS OF BULK AT MOST 1048576: true; the input reads as it did. -/
def fnExactPartsOfUptoRow : OpenClaim := { program := "ytelgjfflhcmljaa", sum := "91e71a646ad021b8a66c81dc425dc8393f08361d1bd583cebf9280514dfe5dee", func := "loop.example/g00546/laws.FnExactPartsOf", spec := "fnExactPartsOf", unfollowed := true, recurses := true, apart := false, narrowed := true }
def FnExactPartsOfUptoSaid : Prop := fnExactPartsOfUptoRow.holds Try.pinned (OpenSpec.upto fnExactPartsOfSpec)

/-- 'laws.FnExactNearest', WHERE WHAT IT READS IS OF BULK AT MOST 1048576: true; the input reads as it did. -/
def fnExactNearestUptoRow : OpenClaim := { program := "ytelgjfflhcmljaa", sum := "91e71a646ad021b8a66c81dc425dc8393f08361d1bd583cebf9280514dfe5dee", func := "loop.example/g00546/laws.FnExactNearest", spec := "fnExactNearest", unfollowed := true, recurses := true, apart := false, narrowed := true }
def FnExactNearestUptoSaid : Prop := fnExactNearestUptoRow.holds Try.pinned (OpenSpec.upto fnExactNearestSpec)

/-- 'laws.FnExactMatrix', WHERE WHAT IT READS IS OF BULK AT MOST 1048576: true; the input reads as it did. -/
def fnExactMatrixUptoRow : OpenClaim := { program := "ytelgjfflhcmljaa", sum := "91e71a646ad021b8a66c81dc425dc8393f08361d1bd583cebf9280514dfe5dee", func := "loop.example/g00546/laws.FnExactMatrix", spec := "fnExactMatrix", unfollowed := true, recurses := true, apart := false, narrowed := true }
def FnExactMatrixUptoSaid : Prop := fnExactMatrixUptoRow.holds Try.pinned (OpenSpec.upto fnExactMatrixSpec)

/-- 'laws.FnDetour', WHERE WHAT IT READS IS OF BULK AT MOST 1048576: true; the input reads as it did. -/
def fnDetourUptoRow : OpenClaim := { program := "ytelgjfflhcmljaa", sum := "91e71a646ad021b8a66c81dc425dc8393f08361d1bd583cebf9280514dfe5dee", func := "loop.example/g00546/laws.FnDetour", spec := "fnDetour", unfollowed := true, recurses := true, apart := false, narrowed := true }
def FnDetourUptoSaid : Prop := fnDetourUptoRow.holds Try.pinned (OpenSpec.upto fnDetourSpec)

/-- 'laws.FnVitalPath', WHERE WHAT IT READS IS OF BULK AT MOST 1048576: true; the input reads as it did. -/
def fnVitalPathUptoRow : OpenClaim := { program := "ytelgjfflhcmljaa", sum := "91e71a646ad021b8a66c81dc425dc8393f08361d1bd583cebf9280514dfe5dee", func := "loop.example/g00546/laws.FnVitalPath", spec := "fnVitalPath", unfollowed := true, recurses := true, apart := false, narrowed := true }
def FnVitalPathUptoSaid : Prop := fnVitalPathUptoRow.holds Try.pinned (OpenSpec.upto fnVitalPathSpec)

/-- 'laws.FnVitalMore', WHERE WHAT IT READS IS OF BULK AT MOST 1048576: true; the input reads as it did. -/
def fnVitalMoreUptoRow : OpenClaim := { program := "ytelgjfflhcmljaa", sum := "91e71a646ad021b8a66c81dc425dc8393f08361d1bd583cebf9280514dfe5dee", func := "loop.example/g00546/laws.FnVitalMore", spec := "fnVitalMore", unfollowed := true, recurses := true, apart := false, narrowed := true }
def FnVitalMoreUptoSaid : Prop := fnVitalMoreUptoRow.holds Try.pinned (OpenSpec.upto fnVitalMoreSpec)

/-- 'laws.FnReversed', WHERE WHAT IT READS IS OF BULK AT MOST 1048576: true; the input reads as it did. -/
def fnReversedUptoRow : OpenClaim := { program := "ytelgjfflhcmljaa", sum := "91e71a646ad021b8a66c81dc425dc8393f08361d1bd583cebf9280514dfe5dee", func := "loop.example/g00546/laws.FnReversed", spec := "fnReversed", unfollowed := true, recurses := true, apart := false, narrowed := true }
def FnReversedUptoSaid : Prop := fnReversedUptoRow.holds Try.pinned (OpenSpec.upto fnReversedSpec)

/-- 'laws.FnPartsTurned', WHERE WHAT IT READS IS OF BULK AT MOST 1048576: true; the input reads as it did. -/
def fnPartsTurnedUptoRow : OpenClaim := { program := "ytelgjfflhcmljaa", sum := "91e71a646ad021b8a66c81dc425dc8393f08361d1bd583cebf9280514dfe5dee", func := "loop.example/g00546/laws.FnPartsTurned", spec := "fnPartsTurned", unfollowed := true, recurses := true, apart := false, narrowed := true }
def FnPartsTurnedUptoSaid : Prop := fnPartsTurnedUptoRow.holds Try.pinned (OpenSpec.upto fnPartsTurnedSpec)

/-- 'laws.FnParts', WHERE WHAT IT READS IS OF BULK AT MOST 1048576: true; the input reads as it did. -/
def fnPartsUptoRow : OpenClaim := { program := "ytelgjfflhcmljaa", sum := "91e71a646ad021b8a66c81dc425dc8393f08361d1bd583cebf9280514dfe5dee", func := "loop.example/g00546/laws.FnParts", spec := "fnParts", unfollowed := true, recurses := true, apart := false, narrowed := true }
def FnPartsUptoSaid : Prop := fnPartsUptoRow.holds Try.pinned (OpenSpec.upto fnPartsSpec)

end Rows
end Go.Proofs.Ytelgjfflhcmljaa
