/-
  No cell of these rows narrows 'for every input' (looked for: loops, veiled, ifaces, maps, wideKeys, modest, calm, conditions, laid).
  DERIVED. THE GIVEN ROWS OF THIS SEAT. 10 by the template 'for every input the law returns true; each argument reads behind the call as it read before'; 0 by the template 'total and deterministic' (their statements: YtffjpfanmnkmgaaTotals.lean).
  GIVEN WITH THE SEED: the statements are not yours to turn. If you find one false, say at which input.
  Laid BY PROGRAM, IN A SANDBOX (cutbox-rows.mjs): the forced cells as the released guide's own fill.sh prints them over the translation 083b5ee0dcb8dd68… (all of the seat's roots in one cut). By AI agents, Wed Nov 11 2026. No macro, syntax, notation, axiom, sorry.
-/
import Derived.Test.YtffjpfanmnkmgaaChecked
import GoSem.Claim
import GoSem.ClaimJoined
import GoSem.ClaimMapViews
import Derived.JoinedTies
import Derived.KernelRfl
namespace Go.Proofs.Ytffjpfanmnkmgaa
/- THE CELL 'sum', in the pinned program and in every row, IS THE sha256 OF THE DUMP (.gsa) THAT YtffjpfanmnkmgaaProg.lean LOADS. Nothing in Lean hashes anything: it is a label: what it is worth is what the hold of that sum in a sandbox is worth. -/
noncomputable def Try.pinned : Pinned := { name := "ytffjpfanmnkmgaa", sum := "083b5ee0dcb8dd6858800303fa3f5d84fbb5b0639da370c2b241e3681b0ba666", checked := Try.checked }
namespace Rows
def none {H : Type} : Left H := { results := [], args := [] }

/-- 'laws.FnExactPathIn': WHATEVER THE INPUT: true; the input reads as it did. -/
def fnExactPathInSpec : ChangeSpec := { name := "fnExactPathIn", fn := fun _ => fun
  | [d1, d2] => { results := [.lit (.bool true)], args := [d1, d2] }
  | _ => none }
def fnExactPathInRow : OpenClaim := { program := "ytffjpfanmnkmgaa", sum := "083b5ee0dcb8dd6858800303fa3f5d84fbb5b0639da370c2b241e3681b0ba666", func := "loop.example/g00546/laws.FnExactPathIn", spec := "fnExactPathIn", plainKeys := false, apart := false }
def FnExactPathInSaid : Prop := fnExactPathInRow.holds Try.pinned (OpenSpec.ofChange fnExactPathInSpec)

/-- ITS FALSE NEIGHBOUR: 'it returns false'. Refute it at one input. -/
def fnExactPathInWrong : ChangeSpec := { name := "fnExactPathIn", fn := fun _ => fun
  | [d1, d2] => { results := [.lit (.bool false)], args := [d1, d2] }
  | _ => none }
def FnExactPathInWrongFalsely : Prop := fnExactPathInRow.holds Try.pinned (OpenSpec.ofChange fnExactPathInWrong)

/-- 'laws.FnExactUnder': WHATEVER THE INPUT: true; the input reads as it did. -/
def fnExactUnderSpec : ChangeSpec := { name := "fnExactUnder", fn := fun _ => fun
  | [d1, d2] => { results := [.lit (.bool true)], args := [d1, d2] }
  | _ => none }
def fnExactUnderRow : OpenClaim := { program := "ytffjpfanmnkmgaa", sum := "083b5ee0dcb8dd6858800303fa3f5d84fbb5b0639da370c2b241e3681b0ba666", func := "loop.example/g00546/laws.FnExactUnder", spec := "fnExactUnder", plainKeys := false, apart := false }
def FnExactUnderSaid : Prop := fnExactUnderRow.holds Try.pinned (OpenSpec.ofChange fnExactUnderSpec)

/-- ITS FALSE NEIGHBOUR: 'it returns false'. Refute it at one input. -/
def fnExactUnderWrong : ChangeSpec := { name := "fnExactUnder", fn := fun _ => fun
  | [d1, d2] => { results := [.lit (.bool false)], args := [d1, d2] }
  | _ => none }
def FnExactUnderWrongFalsely : Prop := fnExactUnderRow.holds Try.pinned (OpenSpec.ofChange fnExactUnderWrong)

/-- 'laws.FnTrees': WHATEVER THE INPUT: true; the input reads as it did. -/
def fnTreesSpec : ChangeSpec := { name := "fnTrees", fn := fun _ => fun
  | [d] => { results := [.lit (.bool true)], args := [d] }
  | _ => none }
def fnTreesRow : OpenClaim := { program := "ytffjpfanmnkmgaa", sum := "083b5ee0dcb8dd6858800303fa3f5d84fbb5b0639da370c2b241e3681b0ba666", func := "loop.example/g00546/laws.FnTrees", spec := "fnTrees", unfollowed := true, recurses := true, plainKeys := false, apart := false }
def FnTreesSaid : Prop := fnTreesRow.holds Try.pinned (OpenSpec.ofChange fnTreesSpec)

/-- ITS FALSE NEIGHBOUR: 'it returns false'. Refute it at one input. -/
def fnTreesWrong : ChangeSpec := { name := "fnTrees", fn := fun _ => fun
  | [d] => { results := [.lit (.bool false)], args := [d] }
  | _ => none }
def FnTreesWrongFalsely : Prop := fnTreesRow.holds Try.pinned (OpenSpec.ofChange fnTreesWrong)

/-- 'laws.FnUnder': WHATEVER THE INPUT: true; the input reads as it did. -/
def fnUnderSpec : ChangeSpec := { name := "fnUnder", fn := fun _ => fun
  | [d] => { results := [.lit (.bool true)], args := [d] }
  | _ => none }
def fnUnderRow : OpenClaim := { program := "ytffjpfanmnkmgaa", sum := "083b5ee0dcb8dd6858800303fa3f5d84fbb5b0639da370c2b241e3681b0ba666", func := "loop.example/g00546/laws.FnUnder", spec := "fnUnder", plainKeys := false, apart := false }
def FnUnderSaid : Prop := fnUnderRow.holds Try.pinned (OpenSpec.ofChange fnUnderSpec)

/-- ITS FALSE NEIGHBOUR: 'it returns false'. Refute it at one input. -/
def fnUnderWrong : ChangeSpec := { name := "fnUnder", fn := fun _ => fun
  | [d] => { results := [.lit (.bool false)], args := [d] }
  | _ => none }
def FnUnderWrongFalsely : Prop := fnUnderRow.holds Try.pinned (OpenSpec.ofChange fnUnderWrong)

/-- 'laws.FnUnderAll': WHATEVER THE INPUT: true; the input reads as it did. -/
def fnUnderAllSpec : ChangeSpec := { name := "fnUnderAll", fn := fun _ => fun
  | [d] => { results := [.lit (.bool true)], args := [d] }
  | _ => none }
def fnUnderAllRow : OpenClaim := { program := "ytffjpfanmnkmgaa", sum := "083b5ee0dcb8dd6858800303fa3f5d84fbb5b0639da370c2b241e3681b0ba666", func := "loop.example/g00546/laws.FnUnderAll", spec := "fnUnderAll", unfollowed := true, recurses := true, plainKeys := false, apart := false }
def FnUnderAllSaid : Prop := fnUnderAllRow.holds Try.pinned (OpenSpec.ofChange fnUnderAllSpec)

/-- ITS FALSE NEIGHBOUR: 'it returns false'. Refute it at one input. -/
def fnUnderAllWrong : ChangeSpec := { name := "fnUnderAll", fn := fun _ => fun
  | [d] => { results := [.lit (.bool false)], args := [d] }
  | _ => none }
def FnUnderAllWrongFalsely : Prop := fnUnderAllRow.holds Try.pinned (OpenSpec.ofChange fnUnderAllWrong)

/-- 'laws.FnExactTurnOk': WHATEVER THE INPUT: true; the input reads as it did. -/
def fnExactTurnOkSpec : ChangeSpec := { name := "fnExactTurnOk", fn := fun _ => fun
  | [d1, d2, d3] => { results := [.lit (.bool true)], args := [d1, d2, d3] }
  | _ => none }
def fnExactTurnOkRow : OpenClaim := { program := "ytffjpfanmnkmgaa", sum := "083b5ee0dcb8dd6858800303fa3f5d84fbb5b0639da370c2b241e3681b0ba666", func := "loop.example/g00546/laws.FnExactTurnOk", spec := "fnExactTurnOk", unfollowed := true, recurses := true, plainKeys := false, apart := false }
def FnExactTurnOkSaid : Prop := fnExactTurnOkRow.holds Try.pinned (OpenSpec.ofChange fnExactTurnOkSpec)

/-- ITS FALSE NEIGHBOUR: 'it returns false'. Refute it at one input. -/
def fnExactTurnOkWrong : ChangeSpec := { name := "fnExactTurnOk", fn := fun _ => fun
  | [d1, d2, d3] => { results := [.lit (.bool false)], args := [d1, d2, d3] }
  | _ => none }
def FnExactTurnOkWrongFalsely : Prop := fnExactTurnOkRow.holds Try.pinned (OpenSpec.ofChange fnExactTurnOkWrong)

/-- 'laws.FnExactDistTurn': WHATEVER THE INPUT: true; the input reads as it did. -/
def fnExactDistTurnSpec : ChangeSpec := { name := "fnExactDistTurn", fn := fun _ => fun
  | [d1, d2, d3, d4] => { results := [.lit (.bool true)], args := [d1, d2, d3, d4] }
  | _ => none }
def fnExactDistTurnRow : OpenClaim := { program := "ytffjpfanmnkmgaa", sum := "083b5ee0dcb8dd6858800303fa3f5d84fbb5b0639da370c2b241e3681b0ba666", func := "loop.example/g00546/laws.FnExactDistTurn", spec := "fnExactDistTurn", unfollowed := true, recurses := true, plainKeys := false, apart := false }
def FnExactDistTurnSaid : Prop := fnExactDistTurnRow.holds Try.pinned (OpenSpec.ofChange fnExactDistTurnSpec)

/-- ITS FALSE NEIGHBOUR: 'it returns false'. Refute it at one input. -/
def fnExactDistTurnWrong : ChangeSpec := { name := "fnExactDistTurn", fn := fun _ => fun
  | [d1, d2, d3, d4] => { results := [.lit (.bool false)], args := [d1, d2, d3, d4] }
  | _ => none }
def FnExactDistTurnWrongFalsely : Prop := fnExactDistTurnRow.holds Try.pinned (OpenSpec.ofChange fnExactDistTurnWrong)

/-- 'laws.FnTurns': WHATEVER THE INPUT: true; the input reads as it did. -/
def fnTurnsSpec : ChangeSpec := { name := "fnTurns", fn := fun _ => fun
  | [d] => { results := [.lit (.bool true)], args := [d] }
  | _ => none }
def fnTurnsRow : OpenClaim := { program := "ytffjpfanmnkmgaa", sum := "083b5ee0dcb8dd6858800303fa3f5d84fbb5b0639da370c2b241e3681b0ba666", func := "loop.example/g00546/laws.FnTurns", spec := "fnTurns", unfollowed := true, recurses := true, plainKeys := false, apart := false }
def FnTurnsSaid : Prop := fnTurnsRow.holds Try.pinned (OpenSpec.ofChange fnTurnsSpec)

/-- ITS FALSE NEIGHBOUR: 'it returns false'. Refute it at one input. -/
def fnTurnsWrong : ChangeSpec := { name := "fnTurns", fn := fun _ => fun
  | [d] => { results := [.lit (.bool false)], args := [d] }
  | _ => none }
def FnTurnsWrongFalsely : Prop := fnTurnsRow.holds Try.pinned (OpenSpec.ofChange fnTurnsWrong)

/-- 'laws.FnFewerBans': WHATEVER THE INPUT: true; the input reads as it did. -/
def fnFewerBansSpec : ChangeSpec := { name := "fnFewerBans", fn := fun _ => fun
  | [d] => { results := [.lit (.bool true)], args := [d] }
  | _ => none }
def fnFewerBansRow : OpenClaim := { program := "ytffjpfanmnkmgaa", sum := "083b5ee0dcb8dd6858800303fa3f5d84fbb5b0639da370c2b241e3681b0ba666", func := "loop.example/g00546/laws.FnFewerBans", spec := "fnFewerBans", unfollowed := true, recurses := true, plainKeys := false, apart := false }
def FnFewerBansSaid : Prop := fnFewerBansRow.holds Try.pinned (OpenSpec.ofChange fnFewerBansSpec)

/-- ITS FALSE NEIGHBOUR: 'it returns false'. Refute it at one input. -/
def fnFewerBansWrong : ChangeSpec := { name := "fnFewerBans", fn := fun _ => fun
  | [d] => { results := [.lit (.bool false)], args := [d] }
  | _ => none }
def FnFewerBansWrongFalsely : Prop := fnFewerBansRow.holds Try.pinned (OpenSpec.ofChange fnFewerBansWrong)

/-- 'laws.FnHeaped': WHATEVER THE INPUT: true; the input reads as it did. -/
def fnHeapedSpec : ChangeSpec := { name := "fnHeaped", fn := fun _ => fun
  | [d] => { results := [.lit (.bool true)], args := [d] }
  | _ => none }
def fnHeapedRow : OpenClaim := { program := "ytffjpfanmnkmgaa", sum := "083b5ee0dcb8dd6858800303fa3f5d84fbb5b0639da370c2b241e3681b0ba666", func := "loop.example/g00546/laws.FnHeaped", spec := "fnHeaped", unfollowed := true, recurses := true, plainKeys := false, apart := false }
def FnHeapedSaid : Prop := fnHeapedRow.holds Try.pinned (OpenSpec.ofChange fnHeapedSpec)

/-- ITS FALSE NEIGHBOUR: 'it returns false'. Refute it at one input. -/
def fnHeapedWrong : ChangeSpec := { name := "fnHeaped", fn := fun _ => fun
  | [d] => { results := [.lit (.bool false)], args := [d] }
  | _ => none }
def FnHeapedWrongFalsely : Prop := fnHeapedRow.holds Try.pinned (OpenSpec.ofChange fnHeapedWrong)

/- THE SECOND FORM. 'bulk': how many values and letters a reading holds, each counted each time it is reached (what is shared counts as often as it is met; a slice's spare places count too). A statement '..UptoSaid' is the law's where the arguments, and the package variables that the reading takes, are together of bulk at most 1048576: NARROWER than '..Said'. Prove '..Said' where nothing that the law and all that it calls make is longer than what came in: it says more and counts as full. Else prove '..UptoSaid'. A law counts once. -/
mutual
def uptoBulk {H : Type} : DataW H → Nat
  | .lit (.string bytes) => bytes.length + 1
  | .lit _ => 1
  | .nil => 1
  | .ptr d => uptoBulk d + 1
  | .slice elems spare => uptoBulkAll elems + uptoBulkAll spare + 1
  | .agg parts => uptoBulkAll parts + 1
  | .iface _ d => uptoBulk d + 1
  | .map entries => uptoBulkEntries entries + 1
  | .held _ => 1
def uptoBulkAll {H : Type} : List (DataW H) → Nat
  | [] => 0
  | d :: r => uptoBulk d + uptoBulkAll r
def uptoBulkEntries {H : Type} : List (Lit × DataW H) → Nat
  | [] => 0
  | x :: r => uptoBulkEntry x + uptoBulkEntries r
def uptoBulkEntry {H : Type} : Lit × DataW H → Nat
  | (.string bytes, d) => bytes.length + uptoBulk d + 1
  | (_, d) => uptoBulk d + 1
 end
def uptoSmall : (H : Type) → List (DataW H) → Bool := fun _ ds => decide (uptoBulkAll ds ≤ 1048576)
def OpenSpec.upto (s : _root_.Go.ChangeSpec) : _root_.Go.OpenSpec := { _root_.Go.OpenSpec.ofChange s with cond := some uptoSmall }

/-- 'laws.FnExactPathIn', WHERE WHAT IT READS IS OF BULK AT MOST 1048576: true; the input reads as it did. -/
def fnExactPathInUptoRow : OpenClaim := { program := "ytffjpfanmnkmgaa", sum := "083b5ee0dcb8dd6858800303fa3f5d84fbb5b0639da370c2b241e3681b0ba666", func := "loop.example/g00546/laws.FnExactPathIn", spec := "fnExactPathIn", plainKeys := false, apart := false, narrowed := true }
def FnExactPathInUptoSaid : Prop := fnExactPathInUptoRow.holds Try.pinned (OpenSpec.upto fnExactPathInSpec)

/-- 'laws.FnExactUnder', WHERE WHAT IT READS IS OF BULK AT MOST 1048576: true; the input reads as it did. -/
def fnExactUnderUptoRow : OpenClaim := { program := "ytffjpfanmnkmgaa", sum := "083b5ee0dcb8dd6858800303fa3f5d84fbb5b0639da370c2b241e3681b0ba666", func := "loop.example/g00546/laws.FnExactUnder", spec := "fnExactUnder", plainKeys := false, apart := false, narrowed := true }
def FnExactUnderUptoSaid : Prop := fnExactUnderUptoRow.holds Try.pinned (OpenSpec.upto fnExactUnderSpec)

/-- 'laws.FnTrees', WHERE WHAT IT READS IS OF BULK AT MOST 1048576: true; the input reads as it did. -/
def fnTreesUptoRow : OpenClaim := { program := "ytffjpfanmnkmgaa", sum := "083b5ee0dcb8dd6858800303fa3f5d84fbb5b0639da370c2b241e3681b0ba666", func := "loop.example/g00546/laws.FnTrees", spec := "fnTrees", unfollowed := true, recurses := true, plainKeys := false, apart := false, narrowed := true }
def FnTreesUptoSaid : Prop := fnTreesUptoRow.holds Try.pinned (OpenSpec.upto fnTreesSpec)

/-- 'laws.FnUnder', WHERE WHAT IT READS IS OF BULK AT MOST 1048576: true; the input reads as it did. -/
def fnUnderUptoRow : OpenClaim := { program := "ytffjpfanmnkmgaa", sum := "083b5ee0dcb8dd6858800303fa3f5d84fbb5b0639da370c2b241e3681b0ba666", func := "loop.example/g00546/laws.FnUnder", spec := "fnUnder", plainKeys := false, apart := false, narrowed := true }
def FnUnderUptoSaid : Prop := fnUnderUptoRow.holds Try.pinned (OpenSpec.upto fnUnderSpec)

/-- 'laws.FnUnderAll', WHERE WHAT IT READS IS OF BULK AT MOST 1048576: true; the input reads as it did. -/
def fnUnderAllUptoRow : OpenClaim := { program := "ytffjpfanmnkmgaa", sum := "083b5ee0dcb8dd6858800303fa3f5d84fbb5b0639da370c2b241e3681b0ba666", func := "loop.example/g00546/laws.FnUnderAll", spec := "fnUnderAll", unfollowed := true, recurses := true, plainKeys := false, apart := false, narrowed := true }
def FnUnderAllUptoSaid : Prop := fnUnderAllUptoRow.holds Try.pinned (OpenSpec.upto fnUnderAllSpec)

/-- 'laws.FnExactTurnOk', WHERE WHAT IT READS IS OF BULK AT MOST 1048576: true; the input reads as it did. -/
def fnExactTurnOkUptoRow : OpenClaim := { program := "ytffjpfanmnkmgaa", sum := "083b5ee0dcb8dd6858800303fa3f5d84fbb5b0639da370c2b241e3681b0ba666", func := "loop.example/g00546/laws.FnExactTurnOk", spec := "fnExactTurnOk", unfollowed := true, recurses := true, plainKeys := false, apart := false, narrowed := true }
def FnExactTurnOkUptoSaid : Prop := fnExactTurnOkUptoRow.holds Try.pinned (OpenSpec.upto fnExactTurnOkSpec)

/-- 'laws.FnExactDistTurn', WHERE WHAT IT READS IS OF BULK AT MOST 1048576: true; the input reads as it did. -/
def fnExactDistTurnUptoRow : OpenClaim := { program := "ytffjpfanmnkmgaa", sum := "083b5ee0dcb8dd6858800303fa3f5d84fbb5b0639da370c2b241e3681b0ba666", func := "loop.example/g00546/laws.FnExactDistTurn", spec := "fnExactDistTurn", unfollowed := true, recurses := true, plainKeys := false, apart := false, narrowed := true }
def FnExactDistTurnUptoSaid : Prop := fnExactDistTurnUptoRow.holds Try.pinned (OpenSpec.upto fnExactDistTurnSpec)

/-- 'laws.FnTurns', WHERE WHAT IT READS IS OF BULK AT MOST 1048576: true; the input reads as it did. -/
def fnTurnsUptoRow : OpenClaim := { program := "ytffjpfanmnkmgaa", sum := "083b5ee0dcb8dd6858800303fa3f5d84fbb5b0639da370c2b241e3681b0ba666", func := "loop.example/g00546/laws.FnTurns", spec := "fnTurns", unfollowed := true, recurses := true, plainKeys := false, apart := false, narrowed := true }
def FnTurnsUptoSaid : Prop := fnTurnsUptoRow.holds Try.pinned (OpenSpec.upto fnTurnsSpec)

/-- 'laws.FnFewerBans', WHERE WHAT IT READS IS OF BULK AT MOST 1048576: true; the input reads as it did. -/
def fnFewerBansUptoRow : OpenClaim := { program := "ytffjpfanmnkmgaa", sum := "083b5ee0dcb8dd6858800303fa3f5d84fbb5b0639da370c2b241e3681b0ba666", func := "loop.example/g00546/laws.FnFewerBans", spec := "fnFewerBans", unfollowed := true, recurses := true, plainKeys := false, apart := false, narrowed := true }
def FnFewerBansUptoSaid : Prop := fnFewerBansUptoRow.holds Try.pinned (OpenSpec.upto fnFewerBansSpec)

/-- 'laws.FnHeaped', WHERE WHAT IT READS IS OF BULK AT MOST 1048576: true; the input reads as it did. -/
def fnHeapedUptoRow : OpenClaim := { program := "ytffjpfanmnkmgaa", sum := "083b5ee0dcb8dd6858800303fa3f5d84fbb5b0639da370c2b241e3681b0ba666", func := "loop.example/g00546/laws.FnHeaped", spec := "fnHeaped", unfollowed := true, recurses := true, plainKeys := false, apart := false, narrowed := true }
def FnHeapedUptoSaid : Prop := fnHeapedUptoRow.holds Try.pinned (OpenSpec.upto fnHeapedSpec)

end Rows
end Go.Proofs.Ytffjpfanmnkmgaa
