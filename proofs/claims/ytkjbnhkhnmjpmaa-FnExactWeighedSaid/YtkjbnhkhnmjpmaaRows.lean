/-
  No cell of these rows narrows 'for every input' (looked for: loops, veiled, ifaces, maps, wideKeys, modest, calm, conditions, laid).
  DERIVED. THE GIVEN ROWS OF THIS SEAT. 10 by the template 'for every input the law returns true; each argument reads behind the call as it read before'; 0 by the template 'total and deterministic' (their statements: YtkjbnhkhnmjpmaaTotals.lean).
  GIVEN WITH THE SEED: the statements are not yours to turn. If you find one false, say at which input.
  Laid BY PROGRAM, IN A SANDBOX (cutbox-rows.mjs): the forced cells as the released guide's own fill.sh prints them over the translation 5afb17d00df06766… (all of the seat's roots in one cut). By AI agents, Wed Nov 11 2026. No macro, syntax, notation, axiom, sorry.
-/
import Derived.Test.YtkjbnhkhnmjpmaaChecked
import GoSem.Claim
import GoSem.ClaimJoined
import GoSem.ClaimMapViews
import Derived.JoinedTies
import Derived.KernelRfl
namespace Go.Proofs.Ytkjbnhkhnmjpmaa
/- THE CELL 'sum', in the pinned program and in every row, IS THE sha256 OF THE DUMP (.gsa) THAT YtkjbnhkhnmjpmaaProg.lean LOADS. Nothing in Lean hashes anything: it is a label: what it is worth is what the hold of that sum in a sandbox is worth. -/
noncomputable def Try.pinned : Pinned := { name := "ytkjbnhkhnmjpmaa", sum := "5afb17d00df067665093ed82103e770cdadcb354fc913b0fd40f70aa517a1ffa", checked := Try.checked }
namespace Rows
def none {H : Type} : Left H := { results := [], args := [] }

/-- 'laws.FnExactWeightOf': WHATEVER THE INPUT: true; the input reads as it did. -/
def fnExactWeightOfSpec : ChangeSpec := { name := "fnExactWeightOf", fn := fun _ => fun
  | [d1, d2, d3] => { results := [.lit (.bool true)], args := [d1, d2, d3] }
  | _ => none }
def fnExactWeightOfRow : OpenClaim := { program := "ytkjbnhkhnmjpmaa", sum := "5afb17d00df067665093ed82103e770cdadcb354fc913b0fd40f70aa517a1ffa", func := "loop.example/g00546/laws.FnExactWeightOf", spec := "fnExactWeightOf", unfollowed := true, recurses := true, apart := false }
def FnExactWeightOfSaid : Prop := fnExactWeightOfRow.holds Try.pinned (OpenSpec.ofChange fnExactWeightOfSpec)

/-- ITS FALSE NEIGHBOUR: 'it returns false'. Refute it at one input. -/
def fnExactWeightOfWrong : ChangeSpec := { name := "fnExactWeightOf", fn := fun _ => fun
  | [d1, d2, d3] => { results := [.lit (.bool false)], args := [d1, d2, d3] }
  | _ => none }
def FnExactWeightOfWrongFalsely : Prop := fnExactWeightOfRow.holds Try.pinned (OpenSpec.ofChange fnExactWeightOfWrong)

/-- 'laws.FnExactOuts': WHATEVER THE INPUT: true; the input reads as it did. -/
def fnExactOutsSpec : ChangeSpec := { name := "fnExactOuts", fn := fun _ => fun
  | [d1, d2] => { results := [.lit (.bool true)], args := [d1, d2] }
  | _ => none }
def fnExactOutsRow : OpenClaim := { program := "ytkjbnhkhnmjpmaa", sum := "5afb17d00df067665093ed82103e770cdadcb354fc913b0fd40f70aa517a1ffa", func := "loop.example/g00546/laws.FnExactOuts", spec := "fnExactOuts", apart := false }
def FnExactOutsSaid : Prop := fnExactOutsRow.holds Try.pinned (OpenSpec.ofChange fnExactOutsSpec)

/-- ITS FALSE NEIGHBOUR: 'it returns false'. Refute it at one input. -/
def fnExactOutsWrong : ChangeSpec := { name := "fnExactOuts", fn := fun _ => fun
  | [d1, d2] => { results := [.lit (.bool false)], args := [d1, d2] }
  | _ => none }
def FnExactOutsWrongFalsely : Prop := fnExactOutsRow.holds Try.pinned (OpenSpec.ofChange fnExactOutsWrong)

/-- 'laws.FnExactGraphOk': WHATEVER THE INPUT: true; the input reads as it did. -/
def fnExactGraphOkSpec : ChangeSpec := { name := "fnExactGraphOk", fn := fun _ => fun
  | [d] => { results := [.lit (.bool true)], args := [d] }
  | _ => none }
def fnExactGraphOkRow : OpenClaim := { program := "ytkjbnhkhnmjpmaa", sum := "5afb17d00df067665093ed82103e770cdadcb354fc913b0fd40f70aa517a1ffa", func := "loop.example/g00546/laws.FnExactGraphOk", spec := "fnExactGraphOk", apart := false }
def FnExactGraphOkSaid : Prop := fnExactGraphOkRow.holds Try.pinned (OpenSpec.ofChange fnExactGraphOkSpec)

/-- ITS FALSE NEIGHBOUR: 'it returns false'. Refute it at one input. -/
def fnExactGraphOkWrong : ChangeSpec := { name := "fnExactGraphOk", fn := fun _ => fun
  | [d] => { results := [.lit (.bool false)], args := [d] }
  | _ => none }
def FnExactGraphOkWrongFalsely : Prop := fnExactGraphOkRow.holds Try.pinned (OpenSpec.ofChange fnExactGraphOkWrong)

/-- 'laws.FnExactReversed': WHATEVER THE INPUT: true; the input reads as it did. -/
def fnExactReversedSpec : ChangeSpec := { name := "fnExactReversed", fn := fun _ => fun
  | [d] => { results := [.lit (.bool true)], args := [d] }
  | _ => none }
def fnExactReversedRow : OpenClaim := { program := "ytkjbnhkhnmjpmaa", sum := "5afb17d00df067665093ed82103e770cdadcb354fc913b0fd40f70aa517a1ffa", func := "loop.example/g00546/laws.FnExactReversed", spec := "fnExactReversed", unfollowed := true, recurses := true, apart := false }
def FnExactReversedSaid : Prop := fnExactReversedRow.holds Try.pinned (OpenSpec.ofChange fnExactReversedSpec)

/-- ITS FALSE NEIGHBOUR: 'it returns false'. Refute it at one input. -/
def fnExactReversedWrong : ChangeSpec := { name := "fnExactReversed", fn := fun _ => fun
  | [d] => { results := [.lit (.bool false)], args := [d] }
  | _ => none }
def FnExactReversedWrongFalsely : Prop := fnExactReversedRow.holds Try.pinned (OpenSpec.ofChange fnExactReversedWrong)

/-- 'laws.FnExactWeighed': WHATEVER THE INPUT: true; the input reads as it did. -/
def fnExactWeighedSpec : ChangeSpec := { name := "fnExactWeighed", fn := fun _ => fun
  | [d1, d2, d3, d4] => { results := [.lit (.bool true)], args := [d1, d2, d3, d4] }
  | _ => none }
def fnExactWeighedRow : OpenClaim := { program := "ytkjbnhkhnmjpmaa", sum := "5afb17d00df067665093ed82103e770cdadcb354fc913b0fd40f70aa517a1ffa", func := "loop.example/g00546/laws.FnExactWeighed", spec := "fnExactWeighed", unfollowed := true, recurses := true, apart := false }
def FnExactWeighedSaid : Prop := fnExactWeighedRow.holds Try.pinned (OpenSpec.ofChange fnExactWeighedSpec)

/-- ITS FALSE NEIGHBOUR: 'it returns false'. Refute it at one input. -/
def fnExactWeighedWrong : ChangeSpec := { name := "fnExactWeighed", fn := fun _ => fun
  | [d1, d2, d3, d4] => { results := [.lit (.bool false)], args := [d1, d2, d3, d4] }
  | _ => none }
def FnExactWeighedWrongFalsely : Prop := fnExactWeighedRow.holds Try.pinned (OpenSpec.ofChange fnExactWeighedWrong)

/-- 'laws.FnExactReadGraph': WHATEVER THE INPUT: true; the input reads as it did. -/
def fnExactReadGraphSpec : ChangeSpec := { name := "fnExactReadGraph", fn := fun _ => fun
  | [d] => { results := [.lit (.bool true)], args := [d] }
  | _ => none }
def fnExactReadGraphRow : OpenClaim := { program := "ytkjbnhkhnmjpmaa", sum := "5afb17d00df067665093ed82103e770cdadcb354fc913b0fd40f70aa517a1ffa", func := "loop.example/g00546/laws.FnExactReadGraph", spec := "fnExactReadGraph", inPlace := ["internal/bytealg.IndexByteString", "internal/bytealg.IndexString"], unfollowed := true, recurses := true, named := ["internal/bytealg.MaxLen"], apart := false }
def FnExactReadGraphSaid : Prop := fnExactReadGraphRow.holds Try.pinned (OpenSpec.ofChange fnExactReadGraphSpec)

/-- ITS FALSE NEIGHBOUR: 'it returns false'. Refute it at one input. -/
def fnExactReadGraphWrong : ChangeSpec := { name := "fnExactReadGraph", fn := fun _ => fun
  | [d] => { results := [.lit (.bool false)], args := [d] }
  | _ => none }
def FnExactReadGraphWrongFalsely : Prop := fnExactReadGraphRow.holds Try.pinned (OpenSpec.ofChange fnExactReadGraphWrong)

/-- 'laws.FnOuts': WHATEVER THE INPUT: true; the input reads as it did. -/
def fnOutsSpec : ChangeSpec := { name := "fnOuts", fn := fun _ => fun
  | [d] => { results := [.lit (.bool true)], args := [d] }
  | _ => none }
def fnOutsRow : OpenClaim := { program := "ytkjbnhkhnmjpmaa", sum := "5afb17d00df067665093ed82103e770cdadcb354fc913b0fd40f70aa517a1ffa", func := "loop.example/g00546/laws.FnOuts", spec := "fnOuts", unfollowed := true, recurses := true, apart := false }
def FnOutsSaid : Prop := fnOutsRow.holds Try.pinned (OpenSpec.ofChange fnOutsSpec)

/-- ITS FALSE NEIGHBOUR: 'it returns false'. Refute it at one input. -/
def fnOutsWrong : ChangeSpec := { name := "fnOuts", fn := fun _ => fun
  | [d] => { results := [.lit (.bool false)], args := [d] }
  | _ => none }
def FnOutsWrongFalsely : Prop := fnOutsRow.holds Try.pinned (OpenSpec.ofChange fnOutsWrong)

/-- 'laws.FnWeighed': WHATEVER THE INPUT: true; the input reads as it did. -/
def fnWeighedSpec : ChangeSpec := { name := "fnWeighed", fn := fun _ => fun
  | [d] => { results := [.lit (.bool true)], args := [d] }
  | _ => none }
def fnWeighedRow : OpenClaim := { program := "ytkjbnhkhnmjpmaa", sum := "5afb17d00df067665093ed82103e770cdadcb354fc913b0fd40f70aa517a1ffa", func := "loop.example/g00546/laws.FnWeighed", spec := "fnWeighed", unfollowed := true, recurses := true, apart := false }
def FnWeighedSaid : Prop := fnWeighedRow.holds Try.pinned (OpenSpec.ofChange fnWeighedSpec)

/-- ITS FALSE NEIGHBOUR: 'it returns false'. Refute it at one input. -/
def fnWeighedWrong : ChangeSpec := { name := "fnWeighed", fn := fun _ => fun
  | [d] => { results := [.lit (.bool false)], args := [d] }
  | _ => none }
def FnWeighedWrongFalsely : Prop := fnWeighedRow.holds Try.pinned (OpenSpec.ofChange fnWeighedWrong)

/-- 'laws.FnOutsTurned': WHATEVER THE INPUT: true; the input reads as it did. -/
def fnOutsTurnedSpec : ChangeSpec := { name := "fnOutsTurned", fn := fun _ => fun
  | [d] => { results := [.lit (.bool true)], args := [d] }
  | _ => none }
def fnOutsTurnedRow : OpenClaim := { program := "ytkjbnhkhnmjpmaa", sum := "5afb17d00df067665093ed82103e770cdadcb354fc913b0fd40f70aa517a1ffa", func := "loop.example/g00546/laws.FnOutsTurned", spec := "fnOutsTurned", unfollowed := true, recurses := true, apart := false }
def FnOutsTurnedSaid : Prop := fnOutsTurnedRow.holds Try.pinned (OpenSpec.ofChange fnOutsTurnedSpec)

/-- ITS FALSE NEIGHBOUR: 'it returns false'. Refute it at one input. -/
def fnOutsTurnedWrong : ChangeSpec := { name := "fnOutsTurned", fn := fun _ => fun
  | [d] => { results := [.lit (.bool false)], args := [d] }
  | _ => none }
def FnOutsTurnedWrongFalsely : Prop := fnOutsTurnedRow.holds Try.pinned (OpenSpec.ofChange fnOutsTurnedWrong)

/-- 'laws.FnWeighedTwice': WHATEVER THE INPUT: true; the input reads as it did. -/
def fnWeighedTwiceSpec : ChangeSpec := { name := "fnWeighedTwice", fn := fun _ => fun
  | [d] => { results := [.lit (.bool true)], args := [d] }
  | _ => none }
def fnWeighedTwiceRow : OpenClaim := { program := "ytkjbnhkhnmjpmaa", sum := "5afb17d00df067665093ed82103e770cdadcb354fc913b0fd40f70aa517a1ffa", func := "loop.example/g00546/laws.FnWeighedTwice", spec := "fnWeighedTwice", unfollowed := true, recurses := true, apart := false }
def FnWeighedTwiceSaid : Prop := fnWeighedTwiceRow.holds Try.pinned (OpenSpec.ofChange fnWeighedTwiceSpec)

/-- ITS FALSE NEIGHBOUR: 'it returns false'. Refute it at one input. -/
def fnWeighedTwiceWrong : ChangeSpec := { name := "fnWeighedTwice", fn := fun _ => fun
  | [d] => { results := [.lit (.bool false)], args := [d] }
  | _ => none }
def FnWeighedTwiceWrongFalsely : Prop := fnWeighedTwiceRow.holds Try.pinned (OpenSpec.ofChange fnWeighedTwiceWrong)

/- THE SECOND FORM. 'bulk': how many values and letters a reading holds, each counted each time it is reached (what is shared counts as often as it is met; a slice's spare places count too). A statement '..UptoSaid' is the law's where the arguments, and the package variables that the reading takes, are together of bulk at most 1048576: NARROWER than '..Said'. Prove '..Said' where nothing that the law and all that it calls make is longer than what came in: it says more and counts as full. Else prove '..UptoSaid'. A law counts once. -/
mutual
def uptoBulk {H : Type} : DataW H → Nat
  | .lit (.string bytes) => bytes.length + 1
  | .lit _ => 1
  | .nil => 1
  | .ptr d => uptoBulk d + 1
  | .slice elems spare => uptoBulkAll elems + uptoBulkAll spare + 1
  | .agg parts => uptoBulkAll parts + 1
  | .iface _ d => uptoBulk d + 1
  | .map entries => uptoBulkEntries entries + 1
  | .held _ => 1
def uptoBulkAll {H : Type} : List (DataW H) → Nat
  | [] => 0
  | d :: r => uptoBulk d + uptoBulkAll r
def uptoBulkEntries {H : Type} : List (Lit × DataW H) → Nat
  | [] => 0
  | x :: r => uptoBulkEntry x + uptoBulkEntries r
def uptoBulkEntry {H : Type} : Lit × DataW H → Nat
  | (.string bytes, d) => bytes.length + uptoBulk d + 1
  | (_, d) => uptoBulk d + 1
 end
def uptoSmall : (H : Type) → List (DataW H) → Bool := fun _ ds => decide (uptoBulkAll ds ≤ 1048576)
def OpenSpec.upto (s : _root_.Go.ChangeSpec) : _root_.Go.OpenSpec := { _root_.Go.OpenSpec.ofChange s with cond := some uptoSmall }

/-- 'laws.FnExactWeightOf', WHERE WHAT IT READS IS OF BULK AT MOST 1048576: true; the input reads as it did. -/
def fnExactWeightOfUptoRow : OpenClaim := { program := "ytkjbnhkhnmjpmaa", sum := "5afb17d00df067665093ed82103e770cdadcb354fc913b0fd40f70aa517a1ffa", func := "loop.example/g00546/laws.FnExactWeightOf", spec := "fnExactWeightOf", unfollowed := true, recurses := true, apart := false, narrowed := true }
def FnExactWeightOfUptoSaid : Prop := fnExactWeightOfUptoRow.holds Try.pinned (OpenSpec.upto fnExactWeightOfSpec)

/-- 'laws.FnExactOuts', WHERE WHAT IT READS IS OF BULK AT MOST 1048576: true; the input reads as it did. -/
def fnExactOutsUptoRow : OpenClaim := { program := "ytkjbnhkhnmjpmaa", sum := "5afb17d00df067665093ed82103e770cdadcb354fc913b0fd40f70aa517a1ffa", func := "loop.example/g00546/laws.FnExactOuts", spec := "fnExactOuts", apart := false, narrowed := true }
def FnExactOutsUptoSaid : Prop := fnExactOutsUptoRow.holds Try.pinned (OpenSpec.upto fnExactOutsSpec)

/-- 'laws.FnExactGraphOk', WHERE WHAT IT READS IS OF BULK AT MOST 1048576: true; the input reads as it did. -/
def fnExactGraphOkUptoRow : OpenClaim := { program := "ytkjbnhkhnmjpmaa", sum := "5afb17d00df067665093ed82103e770cdadcb354fc913b0fd40f70aa517a1ffa", func := "loop.example/g00546/laws.FnExactGraphOk", spec := "fnExactGraphOk", apart := false, narrowed := true }
def FnExactGraphOkUptoSaid : Prop := fnExactGraphOkUptoRow.holds Try.pinned (OpenSpec.upto fnExactGraphOkSpec)

/-- 'laws.FnExactReversed', WHERE WHAT IT READS IS OF BULK AT MOST 1048576: true; the input reads as it did. -/
def fnExactReversedUptoRow : OpenClaim := { program := "ytkjbnhkhnmjpmaa", sum := "5afb17d00df067665093ed82103e770cdadcb354fc913b0fd40f70aa517a1ffa", func := "loop.example/g00546/laws.FnExactReversed", spec := "fnExactReversed", unfollowed := true, recurses := true, apart := false, narrowed := true }
def FnExactReversedUptoSaid : Prop := fnExactReversedUptoRow.holds Try.pinned (OpenSpec.upto fnExactReversedSpec)

/-- 'laws.FnExactWeighed', WHERE WHAT IT READS IS OF BULK AT MOST 1048576: true; the input reads as it did. -/
def fnExactWeighedUptoRow : OpenClaim := { program := "ytkjbnhkhnmjpmaa", sum := "5afb17d00df067665093ed82103e770cdadcb354fc913b0fd40f70aa517a1ffa", func := "loop.example/g00546/laws.FnExactWeighed", spec := "fnExactWeighed", unfollowed := true, recurses := true, apart := false, narrowed := true }
def FnExactWeighedUptoSaid : Prop := fnExactWeighedUptoRow.holds Try.pinned (OpenSpec.upto fnExactWeighedSpec)

/-- 'laws.FnExactReadGraph', WHERE WHAT IT READS IS OF BULK AT MOST 1048576: true; the input reads as it did. -/
def fnExactReadGraphUptoRow : OpenClaim := { program := "ytkjbnhkhnmjpmaa", sum := "5afb17d00df067665093ed82103e770cdadcb354fc913b0fd40f70aa517a1ffa", func := "loop.example/g00546/laws.FnExactReadGraph", spec := "fnExactReadGraph", inPlace := ["internal/bytealg.IndexByteString", "internal/bytealg.IndexString"], unfollowed := true, recurses := true, named := ["internal/bytealg.MaxLen"], apart := false, narrowed := true }
def FnExactReadGraphUptoSaid : Prop := fnExactReadGraphUptoRow.holds Try.pinned (OpenSpec.upto fnExactReadGraphSpec)

/-- 'laws.FnOuts', WHERE WHAT IT READS IS OF BULK AT MOST 1048576: true; the input reads as it did. -/
def fnOutsUptoRow : OpenClaim := { program := "ytkjbnhkhnmjpmaa", sum := "5afb17d00df067665093ed82103e770cdadcb354fc913b0fd40f70aa517a1ffa", func := "loop.example/g00546/laws.FnOuts", spec := "fnOuts", unfollowed := true, recurses := true, apart := false, narrowed := true }
def FnOutsUptoSaid : Prop := fnOutsUptoRow.holds Try.pinned (OpenSpec.upto fnOutsSpec)

/-- 'laws.FnWeighed', WHERE WHAT IT READS IS OF BULK AT MOST 1048576: true; the input reads as it did. -/
def fnWeighedUptoRow : OpenClaim := { program := "ytkjbnhkhnmjpmaa", sum := "5afb17d00df067665093ed82103e770cdadcb354fc913b0fd40f70aa517a1ffa", func := "loop.example/g00546/laws.FnWeighed", spec := "fnWeighed", unfollowed := true, recurses := true, apart := false, narrowed := true }
def FnWeighedUptoSaid : Prop := fnWeighedUptoRow.holds Try.pinned (OpenSpec.upto fnWeighedSpec)

/-- 'laws.FnOutsTurned', WHERE WHAT IT READS IS OF BULK AT MOST 1048576: true; the input reads as it did. -/
def fnOutsTurnedUptoRow : OpenClaim := { program := "ytkjbnhkhnmjpmaa", sum := "5afb17d00df067665093ed82103e770cdadcb354fc913b0fd40f70aa517a1ffa", func := "loop.example/g00546/laws.FnOutsTurned", spec := "fnOutsTurned", unfollowed := true, recurses := true, apart := false, narrowed := true }
def FnOutsTurnedUptoSaid : Prop := fnOutsTurnedUptoRow.holds Try.pinned (OpenSpec.upto fnOutsTurnedSpec)

/-- 'laws.FnWeighedTwice', WHERE WHAT IT READS IS OF BULK AT MOST 1048576: true; the input reads as it did. -/
def fnWeighedTwiceUptoRow : OpenClaim := { program := "ytkjbnhkhnmjpmaa", sum := "5afb17d00df067665093ed82103e770cdadcb354fc913b0fd40f70aa517a1ffa", func := "loop.example/g00546/laws.FnWeighedTwice", spec := "fnWeighedTwice", unfollowed := true, recurses := true, apart := false, narrowed := true }
def FnWeighedTwiceUptoSaid : Prop := fnWeighedTwiceUptoRow.holds Try.pinned (OpenSpec.upto fnWeighedTwiceSpec)

end Rows
end Go.Proofs.Ytkjbnhkhnmjpmaa
