/-
  No cell of these rows narrows 'for every input' (looked for: loops, veiled, ifaces, maps, wideKeys, modest, calm, conditions, laid).
  DERIVED. THE GIVEN ROWS OF THIS SEAT. 6 by the template 'for every input the law returns true; each argument reads behind the call as it read before'; 0 by the template 'total and deterministic' (their statements: YtjmooakjdcepcaaTotals.lean).
  GIVEN WITH THE SEED: the statements are not yours to turn. If you find one false, say at which input.
  Laid BY PROGRAM, IN A SANDBOX (cutbox-rows.mjs): the forced cells as the released guide's own fill.sh prints them over the translation d9766786bac397ff… (all of the seat's roots in one cut). By AI agents, Wed Nov 11 2026. No macro, syntax, notation, axiom, sorry.
-/
import Derived.Test.YtjmooakjdcepcaaChecked
import GoSem.Claim
import GoSem.ClaimJoined
import GoSem.ClaimMapViews
import Derived.JoinedTies
import Derived.KernelRfl
namespace Go.Proofs.Ytjmooakjdcepcaa
/- THE CELL 'sum', in the pinned program and in every row, IS THE sha256 OF THE DUMP (.gsa) THAT YtjmooakjdcepcaaProg.lean LOADS. Nothing in Lean hashes anything: it is a label: what it is worth is what the hold of that sum in a sandbox is worth. -/
noncomputable def Try.pinned : Pinned := { name := "ytjmooakjdcepcaa", sum := "d9766786bac397ff849decfac1ed2385dc3392c8d8675f1cde8d68997f409623", checked := Try.checked }
namespace Rows
def none {H : Type} : Left H := { results := [], args := [] }

/-- 'laws.FnCenter': WHATEVER THE INPUT: true; the input reads as it did. -/
def fnCenterSpec : ChangeSpec := { name := "fnCenter", fn := fun _ => fun
  | [d] => { results := [.lit (.bool true)], args := [d] }
  | _ => none }
def fnCenterRow : OpenClaim := { program := "ytjmooakjdcepcaa", sum := "d9766786bac397ff849decfac1ed2385dc3392c8d8675f1cde8d68997f409623", func := "loop.example/g00546/laws.FnCenter", spec := "fnCenter", unfollowed := true, recurses := true, apart := false }
def FnCenterSaid : Prop := fnCenterRow.holds Try.pinned (OpenSpec.ofChange fnCenterSpec)

/-- ITS FALSE NEIGHBOUR: 'it returns false'. Refute it at one input. -/
def fnCenterWrong : ChangeSpec := { name := "fnCenter", fn := fun _ => fun
  | [d] => { results := [.lit (.bool false)], args := [d] }
  | _ => none }
def FnCenterWrongFalsely : Prop := fnCenterRow.holds Try.pinned (OpenSpec.ofChange fnCenterWrong)

/-- 'laws.FnReachedTurned': WHATEVER THE INPUT: true; the input reads as it did. -/
def fnReachedTurnedSpec : ChangeSpec := { name := "fnReachedTurned", fn := fun _ => fun
  | [d] => { results := [.lit (.bool true)], args := [d] }
  | _ => none }
def fnReachedTurnedRow : OpenClaim := { program := "ytjmooakjdcepcaa", sum := "d9766786bac397ff849decfac1ed2385dc3392c8d8675f1cde8d68997f409623", func := "loop.example/g00546/laws.FnReachedTurned", spec := "fnReachedTurned", unfollowed := true, recurses := true, apart := false }
def FnReachedTurnedSaid : Prop := fnReachedTurnedRow.holds Try.pinned (OpenSpec.ofChange fnReachedTurnedSpec)

/-- ITS FALSE NEIGHBOUR: 'it returns false'. Refute it at one input. -/
def fnReachedTurnedWrong : ChangeSpec := { name := "fnReachedTurned", fn := fun _ => fun
  | [d] => { results := [.lit (.bool false)], args := [d] }
  | _ => none }
def FnReachedTurnedWrongFalsely : Prop := fnReachedTurnedRow.holds Try.pinned (OpenSpec.ofChange fnReachedTurnedWrong)

/-- 'laws.FnHalf': WHATEVER THE INPUT: true; the input reads as it did. -/
def fnHalfSpec : ChangeSpec := { name := "fnHalf", fn := fun _ => fun
  | [d] => { results := [.lit (.bool true)], args := [d] }
  | _ => none }
def fnHalfRow : OpenClaim := { program := "ytjmooakjdcepcaa", sum := "d9766786bac397ff849decfac1ed2385dc3392c8d8675f1cde8d68997f409623", func := "loop.example/g00546/laws.FnHalf", spec := "fnHalf", unfollowed := true, recurses := true, apart := false }
def FnHalfSaid : Prop := fnHalfRow.holds Try.pinned (OpenSpec.ofChange fnHalfSpec)

/-- ITS FALSE NEIGHBOUR: 'it returns false'. Refute it at one input. -/
def fnHalfWrong : ChangeSpec := { name := "fnHalf", fn := fun _ => fun
  | [d] => { results := [.lit (.bool false)], args := [d] }
  | _ => none }
def FnHalfWrongFalsely : Prop := fnHalfRow.holds Try.pinned (OpenSpec.ofChange fnHalfWrong)

/-- 'laws.FnReversed': WHATEVER THE INPUT: true; the input reads as it did. -/
def fnReversedSpec : ChangeSpec := { name := "fnReversed", fn := fun _ => fun
  | [d] => { results := [.lit (.bool true)], args := [d] }
  | _ => none }
def fnReversedRow : OpenClaim := { program := "ytjmooakjdcepcaa", sum := "d9766786bac397ff849decfac1ed2385dc3392c8d8675f1cde8d68997f409623", func := "loop.example/g00546/laws.FnReversed", spec := "fnReversed", unfollowed := true, recurses := true, apart := false }
def FnReversedSaid : Prop := fnReversedRow.holds Try.pinned (OpenSpec.ofChange fnReversedSpec)

/-- ITS FALSE NEIGHBOUR: 'it returns false'. Refute it at one input. -/
def fnReversedWrong : ChangeSpec := { name := "fnReversed", fn := fun _ => fun
  | [d] => { results := [.lit (.bool false)], args := [d] }
  | _ => none }
def FnReversedWrongFalsely : Prop := fnReversedRow.holds Try.pinned (OpenSpec.ofChange fnReversedWrong)

/-- 'laws.FnQueryReach': WHATEVER THE INPUT: true; the input reads as it did. -/
def fnQueryReachSpec : ChangeSpec := { name := "fnQueryReach", fn := fun _ => fun
  | [d] => { results := [.lit (.bool true)], args := [d] }
  | _ => none }
def fnQueryReachRow : OpenClaim := { program := "ytjmooakjdcepcaa", sum := "d9766786bac397ff849decfac1ed2385dc3392c8d8675f1cde8d68997f409623", func := "loop.example/g00546/laws.FnQueryReach", spec := "fnQueryReach", unfollowed := true, recurses := true, apart := false }
def FnQueryReachSaid : Prop := fnQueryReachRow.holds Try.pinned (OpenSpec.ofChange fnQueryReachSpec)

/-- ITS FALSE NEIGHBOUR: 'it returns false'. Refute it at one input. -/
def fnQueryReachWrong : ChangeSpec := { name := "fnQueryReach", fn := fun _ => fun
  | [d] => { results := [.lit (.bool false)], args := [d] }
  | _ => none }
def FnQueryReachWrongFalsely : Prop := fnQueryReachRow.holds Try.pinned (OpenSpec.ofChange fnQueryReachWrong)

/-- 'laws.FnReachTurned': WHATEVER THE INPUT: true; the input reads as it did. -/
def fnReachTurnedSpec : ChangeSpec := { name := "fnReachTurned", fn := fun _ => fun
  | [d] => { results := [.lit (.bool true)], args := [d] }
  | _ => none }
def fnReachTurnedRow : OpenClaim := { program := "ytjmooakjdcepcaa", sum := "d9766786bac397ff849decfac1ed2385dc3392c8d8675f1cde8d68997f409623", func := "loop.example/g00546/laws.FnReachTurned", spec := "fnReachTurned", unfollowed := true, recurses := true, apart := false }
def FnReachTurnedSaid : Prop := fnReachTurnedRow.holds Try.pinned (OpenSpec.ofChange fnReachTurnedSpec)

/-- ITS FALSE NEIGHBOUR: 'it returns false'. Refute it at one input. -/
def fnReachTurnedWrong : ChangeSpec := { name := "fnReachTurned", fn := fun _ => fun
  | [d] => { results := [.lit (.bool false)], args := [d] }
  | _ => none }
def FnReachTurnedWrongFalsely : Prop := fnReachTurnedRow.holds Try.pinned (OpenSpec.ofChange fnReachTurnedWrong)

/- THE SECOND FORM. 'bulk': how many values and letters a reading holds, each counted each time it is reached (what is shared counts as often as it is met; a slice's spare places count too). A statement '..UptoSaid' is the law's where the arguments, and the package variables that the reading takes, are together of bulk at most 1048576: NARROWER than '..Said'. Prove '..Said' where nothing that the law and all that it calls make is longer than what came in: it says more and counts as full. Else prove '..UptoSaid'. A law counts once. -/
mutual
def uptoBulk {H : Type} : DataW H → Nat
  | .lit (.string bytes) => bytes.length + 1
  | .lit _ => 1
  | .nil => 1
  | .ptr d => uptoBulk d + 1
  | .slice elems spare => uptoBulkAll elems + uptoBulkAll spare + 1
  | .agg parts => uptoBulkAll parts + 1
  | .iface _ d => uptoBulk d + 1
  | .map entries => uptoBulkEntries entries + 1
  | .held _ => 1
def uptoBulkAll {H : Type} : List (DataW H) → Nat
  | [] => 0
  | d :: r => uptoBulk d + uptoBulkAll r
def uptoBulkEntries {H : Type} : List (Lit × DataW H) → Nat
  | [] => 0
  | x :: r => uptoBulkEntry x + uptoBulkEntries r
def uptoBulkEntry {H : Type} : Lit × DataW H → Nat
  | (.string bytes, d) => bytes.length + uptoBulk d + 1
  | (_, d) => uptoBulk d + 1
 end
def uptoSmall : (H : Type) → List (DataW H) → Bool := fun _ ds => decide (uptoBulkAll ds ≤ 1048576)
def OpenSpec.upto (s : _root_.Go.ChangeSpec) : _root_.Go.OpenSpec := { _root_.Go.OpenSpec.ofChange s with cond := some uptoSmall }

/-- 'laws.FnCenter', WHERE WHAT IT READS IS OF BULK AT MOST 1048576: true; the input reads as it did. -/
def fnCenterUptoRow : OpenClaim := { program := "ytjmooakjdcepcaa", sum := "d9766786bac397ff849decfac1ed2385dc3392c8d8675f1cde8d68997f409623", func := "loop.example/g00546/laws.FnCenter", spec := "fnCenter", unfollowed := true, recurses := true, apart := false, narrowed := true }
def FnCenterUptoSaid : Prop := fnCenterUptoRow.holds Try.pinned (OpenSpec.upto fnCenterSpec)

/-- 'laws.FnReachedTurned', WHERE WHAT IT READS IS OF BULK AT MOST 1048576: true; the input reads as it did. -/
def fnReachedTurnedUptoRow : OpenClaim := { program := "ytjmooakjdcepcaa", sum := "d9766786bac397ff849decfac1ed2385dc3392c8d8675f1cde8d68997f409623", func := "loop.example/g00546/laws.FnReachedTurned", spec := "fnReachedTurned", unfollowed := true, recurses := true, apart := false, narrowed := true }
def FnReachedTurnedUptoSaid : Prop := fnReachedTurnedUptoRow.holds Try.pinned (OpenSpec.upto fnReachedTurnedSpec)

/-- 'laws.FnHalf', WHERE WHAT IT READS IS OF BULK AT MOST 1048576: true; the input reads as it did. -/
def fnHalfUptoRow : OpenClaim := { program := "ytjmooakjdcepcaa", sum := "d9766786bac397ff849decfac1ed2385dc3392c8d8675f1cde8d68997f409623", func := "loop.example/g00546/laws.FnHalf", spec := "fnHalf", unfollowed := true, recurses := true, apart := false, narrowed := true }
def FnHalfUptoSaid : Prop := fnHalfUptoRow.holds Try.pinned (OpenSpec.upto fnHalfSpec)

/-- 'laws.FnReversed', WHERE WHAT IT READS IS OF BULK AT MOST 1048576: true; the input reads as it did. -/
def fnReversedUptoRow : OpenClaim := { program := "ytjmooakjdcepcaa", sum := "d9766786bac397ff849decfac1ed2385dc3392c8d8675f1cde8d68997f409623", func := "loop.example/g00546/laws.FnReversed", spec := "fnReversed", unfollowed := true, recurses := true, apart := false, narrowed := true }
def FnReversedUptoSaid : Prop := fnReversedUptoRow.holds Try.pinned (OpenSpec.upto fnReversedSpec)

/-- 'laws.FnQueryReach', WHERE WHAT IT READS IS OF BULK AT MOST 1048576: true; the input reads as it did. -/
def fnQueryReachUptoRow : OpenClaim := { program := "ytjmooakjdcepcaa", sum := "d9766786bac397ff849decfac1ed2385dc3392c8d8675f1cde8d68997f409623", func := "loop.example/g00546/laws.FnQueryReach", spec := "fnQueryReach", unfollowed := true, recurses := true, apart := false, narrowed := true }
def FnQueryReachUptoSaid : Prop := fnQueryReachUptoRow.holds Try.pinned (OpenSpec.upto fnQueryReachSpec)

/-- 'laws.FnReachTurned', WHERE WHAT IT READS IS OF BULK AT MOST 1048576: true; the input reads as it did. -/
def fnReachTurnedUptoRow : OpenClaim := { program := "ytjmooakjdcepcaa", sum := "d9766786bac397ff849decfac1ed2385dc3392c8d8675f1cde8d68997f409623", func := "loop.example/g00546/laws.FnReachTurned", spec := "fnReachTurned", unfollowed := true, recurses := true, apart := false, narrowed := true }
def FnReachTurnedUptoSaid : Prop := fnReachTurnedUptoRow.holds Try.pinned (OpenSpec.upto fnReachTurnedSpec)

end Rows
end Go.Proofs.Ytjmooakjdcepcaa
