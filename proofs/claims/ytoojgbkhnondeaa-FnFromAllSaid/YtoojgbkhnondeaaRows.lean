/-
  No cell of these rows narrows 'for every input' (looked for: loops, veiled, ifaces, maps, wideKeys, modest, calm, conditions, laid).
  DERIVED. THE GIVEN ROWS OF THIS SEAT. 4 by the template 'for every input the law returns true; each argument reads behind the call as it read before'; 0 by the template 'total and deterministic' (their statements: YtoojgbkhnondeaaTotals.lean).
  GIVEN WITH THE SEED: the statements are not yours to turn. If you find one false, say at which input.
  Laid BY PROGRAM, IN A SANDBOX (cutbox-rows.mjs): the forced cells as the released guide's own fill.sh prints them over the translation de27765023b9e5e7… (all of the seat's roots in one cut). By AI agents, Wed Nov 11 2026. No macro, syntax, notation, axiom, sorry.
-/
import Derived.Test.YtoojgbkhnondeaaChecked
import GoSem.Claim
import GoSem.ClaimJoined
import GoSem.ClaimMapViews
import Derived.JoinedTies
import Derived.KernelRfl
namespace Go.Proofs.Ytoojgbkhnondeaa
/- THE CELL 'sum', in the pinned program and in every row, IS THE sha256 OF THE DUMP (.gsa) THAT YtoojgbkhnondeaaProg.lean LOADS. Nothing in Lean hashes anything: it is a label: what it is worth is what the hold of that sum in a sandbox is worth. -/
noncomputable def Try.pinned : Pinned := { name := "ytoojgbkhnondeaa", sum := "de27765023b9e5e77a7f5e8c7f852b9d3c3dd50bb281e614f1f088a4b4ff9389", checked := Try.checked }
namespace Rows
def none {H : Type} : Left H := { results := [], args := [] }

/-- 'laws.FnDist': WHATEVER THE INPUT: true; the input reads as it did. -/
def fnDistSpec : ChangeSpec := { name := "fnDist", fn := fun _ => fun
  | [d] => { results := [.lit (.bool true)], args := [d] }
  | _ => none }
def fnDistRow : OpenClaim := { program := "ytoojgbkhnondeaa", sum := "de27765023b9e5e77a7f5e8c7f852b9d3c3dd50bb281e614f1f088a4b4ff9389", func := "loop.example/g00546/laws.FnDist", spec := "fnDist", unfollowed := true, recurses := true, apart := false }
def FnDistSaid : Prop := fnDistRow.holds Try.pinned (OpenSpec.ofChange fnDistSpec)

/-- ITS FALSE NEIGHBOUR: 'it returns false'. Refute it at one input. -/
def fnDistWrong : ChangeSpec := { name := "fnDist", fn := fun _ => fun
  | [d] => { results := [.lit (.bool false)], args := [d] }
  | _ => none }
def FnDistWrongFalsely : Prop := fnDistRow.holds Try.pinned (OpenSpec.ofChange fnDistWrong)

/-- 'laws.FnTriangle': WHATEVER THE INPUT: true; the input reads as it did. -/
def fnTriangleSpec : ChangeSpec := { name := "fnTriangle", fn := fun _ => fun
  | [d] => { results := [.lit (.bool true)], args := [d] }
  | _ => none }
def fnTriangleRow : OpenClaim := { program := "ytoojgbkhnondeaa", sum := "de27765023b9e5e77a7f5e8c7f852b9d3c3dd50bb281e614f1f088a4b4ff9389", func := "loop.example/g00546/laws.FnTriangle", spec := "fnTriangle", unfollowed := true, recurses := true, apart := false }
def FnTriangleSaid : Prop := fnTriangleRow.holds Try.pinned (OpenSpec.ofChange fnTriangleSpec)

/-- ITS FALSE NEIGHBOUR: 'it returns false'. Refute it at one input. -/
def fnTriangleWrong : ChangeSpec := { name := "fnTriangle", fn := fun _ => fun
  | [d] => { results := [.lit (.bool false)], args := [d] }
  | _ => none }
def FnTriangleWrongFalsely : Prop := fnTriangleRow.holds Try.pinned (OpenSpec.ofChange fnTriangleWrong)

/-- 'laws.FnOnTurned': WHATEVER THE INPUT: true; the input reads as it did. -/
def fnOnTurnedSpec : ChangeSpec := { name := "fnOnTurned", fn := fun _ => fun
  | [d] => { results := [.lit (.bool true)], args := [d] }
  | _ => none }
def fnOnTurnedRow : OpenClaim := { program := "ytoojgbkhnondeaa", sum := "de27765023b9e5e77a7f5e8c7f852b9d3c3dd50bb281e614f1f088a4b4ff9389", func := "loop.example/g00546/laws.FnOnTurned", spec := "fnOnTurned", unfollowed := true, recurses := true, apart := false }
def FnOnTurnedSaid : Prop := fnOnTurnedRow.holds Try.pinned (OpenSpec.ofChange fnOnTurnedSpec)

/-- ITS FALSE NEIGHBOUR: 'it returns false'. Refute it at one input. -/
def fnOnTurnedWrong : ChangeSpec := { name := "fnOnTurned", fn := fun _ => fun
  | [d] => { results := [.lit (.bool false)], args := [d] }
  | _ => none }
def FnOnTurnedWrongFalsely : Prop := fnOnTurnedRow.holds Try.pinned (OpenSpec.ofChange fnOnTurnedWrong)

/-- 'laws.FnFromAll': WHATEVER THE INPUT: true; the input reads as it did. -/
def fnFromAllSpec : ChangeSpec := { name := "fnFromAll", fn := fun _ => fun
  | [d] => { results := [.lit (.bool true)], args := [d] }
  | _ => none }
def fnFromAllRow : OpenClaim := { program := "ytoojgbkhnondeaa", sum := "de27765023b9e5e77a7f5e8c7f852b9d3c3dd50bb281e614f1f088a4b4ff9389", func := "loop.example/g00546/laws.FnFromAll", spec := "fnFromAll", unfollowed := true, recurses := true, apart := false }
def FnFromAllSaid : Prop := fnFromAllRow.holds Try.pinned (OpenSpec.ofChange fnFromAllSpec)

/-- ITS FALSE NEIGHBOUR: 'it returns false'. Refute it at one input. -/
def fnFromAllWrong : ChangeSpec := { name := "fnFromAll", fn := fun _ => fun
  | [d] => { results := [.lit (.bool false)], args := [d] }
  | _ => none }
def FnFromAllWrongFalsely : Prop := fnFromAllRow.holds Try.pinned (OpenSpec.ofChange fnFromAllWrong)

/- THE SECOND FORM. 'bulk': how many values and letters a reading holds, each counted each time it is reached (what is shared counts as often as it is met; a slice's spare places count too). A statement '..UptoSaid' is the law's where the arguments, and the package variables that the reading takes, are together of bulk at most 1048576: NARROWER than '..Said'. Prove '..Said' where nothing that the law and all that it calls make is longer than what came in: it says more and counts as full. Else prove '..UptoSaid'. A law counts once. -/
mutual
def uptoBulk {H : Type} : DataW H → Nat
  | .lit (.string bytes) => bytes.length + 1
  | .lit _ => 1
  | .nil => 1
  | .ptr d => uptoBulk d + 1
  | .slice elems spare => uptoBulkAll elems + uptoBulkAll spare + 1
  | .agg parts => uptoBulkAll parts + 1
  | .iface _ d => uptoBulk d + 1
  | .map entries => uptoBulkEntries entries + 1
  | .held _ => 1
def uptoBulkAll {H : Type} : List (DataW H) → Nat
  | [] => 0
  | d :: r => uptoBulk d + uptoBulkAll r
def uptoBulkEntries {H : Type} : List (Lit × DataW H) → Nat
  | [] => 0
  | x :: r => uptoBulkEntry x + uptoBulkEntries r
def uptoBulkEntry {H : Type} : Lit × DataW H → Nat
  | (.string bytes, d) => bytes.length + uptoBulk d + 1
  | (_, d) => uptoBulk d + 1
 end
def uptoSmall : (H : Type) → List (DataW H) → Bool := fun _ ds => decide (uptoBulkAll ds ≤ 1048576)
def OpenSpec.upto (s : _root_.Go.ChangeSpec) : _root_.Go.OpenSpec := { _root_.Go.OpenSpec.ofChange s with cond := some uptoSmall }

/-- 'laws.FnDist', WHERE WHAT IT READS IS OF BULK AT MOST 1048576: true; the input reads as it did. -/
def fnDistUptoRow : OpenClaim := { program := "ytoojgbkhnondeaa", sum := "de27765023b9e5e77a7f5e8c7f852b9d3c3dd50bb281e614f1f088a4b4ff9389", func := "loop.example/g00546/laws.FnDist", spec := "fnDist", unfollowed := true, recurses := true, apart := false, narrowed := true }
def FnDistUptoSaid : Prop := fnDistUptoRow.holds Try.pinned (OpenSpec.upto fnDistSpec)

/-- 'laws.FnTriangle', WHERE WHAT IT READS IS OF BULK AT MOST 1048576: true; the input reads as it did. -/
def fnTriangleUptoRow : OpenClaim := { program := "ytoojgbkhnondeaa", sum := "de27765023b9e5e77a7f5e8c7f852b9d3c3dd50bb281e614f1f088a4b4ff9389", func := "loop.example/g00546/laws.FnTriangle", spec := "fnTriangle", unfollowed := true, recurses := true, apart := false, narrowed := true }
def FnTriangleUptoSaid : Prop := fnTriangleUptoRow.holds Try.pinned (OpenSpec.upto fnTriangleSpec)

/-- 'laws.FnOnTurned', WHERE WHAT IT READS IS OF BULK AT MOST 1048576: true; the input reads as it did. -/
def fnOnTurnedUptoRow : OpenClaim := { program := "ytoojgbkhnondeaa", sum := "de27765023b9e5e77a7f5e8c7f852b9d3c3dd50bb281e614f1f088a4b4ff9389", func := "loop.example/g00546/laws.FnOnTurned", spec := "fnOnTurned", unfollowed := true, recurses := true, apart := false, narrowed := true }
def FnOnTurnedUptoSaid : Prop := fnOnTurnedUptoRow.holds Try.pinned (OpenSpec.upto fnOnTurnedSpec)

/-- 'laws.FnFromAll', WHERE WHAT IT READS IS OF BULK AT MOST 1048576: true; the input reads as it did. -/
def fnFromAllUptoRow : OpenClaim := { program := "ytoojgbkhnondeaa", sum := "de27765023b9e5e77a7f5e8c7f852b9d3c3dd50bb281e614f1f088a4b4ff9389", func := "loop.example/g00546/laws.FnFromAll", spec := "fnFromAll", unfollowed := true, recurses := true, apart := false, narrowed := true }
def FnFromAllUptoSaid : Prop := fnFromAllUptoRow.holds Try.pinned (OpenSpec.upto fnFromAllSpec)

end Rows
end Go.Proofs.Ytoojgbkhnondeaa
