/-
  What is proved here: trees come in. No conditions beyond those that each theorem states.
-/
import Derived.Test.YtffjpfanmnkmgaaB0
import Derived.Test.YtffjpfanmnkmgaaQK4
set_option linter.unusedSimpArgs false
set_option linter.unusedVariables false
namespace Go.Proofs.Ytffjpfanmnkmgaa
open Go.ChangeShapes Go.WideShapes Go.ChangeAt Go.RowKit Go.Joins

set_option maxRecDepth 100000 in
theorem open_tree {H : Type} {enc : TypeId × Value → H} {W : World} {r : Reach} {b0 : Nat} {v : Value} {d : DataW H} {p : List MemPlace} (hv : Value.okWide Try.prog W r b0 24 v)
    (h : DataW.Trod enc Try.prog W 0 (fun _ => true) true 24 v d p) :
    ∃ (N : Int) (A : Option Addr) (n c : Nat) (V : List Int), v = .agg #[.int .i64 N, .slice A n c] ∧ n = V.length ∧ n ≤ 9223372036854775807 ∧ IntsAt W W.heap.size A V := by
  obtain ⟨c0, c1, y0, y1, m, rfl, _, _, ht0, ht1⟩ := open_agg2 Try.underlying24 (by kernel_rfl) (by kernel_rfl) hv h
  obtain ⟨N, e0, _, _⟩ := DataW.trod_int Try.underlying2 ht0
  simp only [List.cons.injEq, and_true] at e0
  subst e0
  obtain ⟨A, n, c, V, rfl, h1, h2, h3⟩ := open_cells ht1
  exact ⟨N, A, n, c, V, rfl, h1, h2, h3⟩

end Go.Proofs.Ytffjpfanmnkmgaa
