/-
  What is proved here: two files held against each other. No conditions.
-/
import Derived.Test.YtipmjgciaalmbaaDKS1
import Derived.Laws.StructEq
set_option linter.unusedSimpArgs false
set_option linter.unusedVariables false
namespace Go.Proofs.Ytipmjgciaalmbaa
open Go.RowKit

theorem eqIn_file (d : Nat) (a b c e : ByteArray) (w : World) : (Op.equalIn (d + 2) 89 (.agg #[.string a, .string b]) (.agg #[.string c, .string e])).run Try.prog w = .ok (sameB a c && sameB b e) w := by
  have ht : Try.prog.underlying 89 = some (.struct (Try.prog.fieldsOf 89)) := by kernel_rfl
  have hs : ∀ n x y (w : World), (Op.equalIn (n + 1) 9 (.string x) (.string y)).run Try.prog w = .ok (x.toList == y.toList) w := fun n x y w => run_equalIn_string w n _ x y Try.underlying9
  rw [run_equalIn_agg w (d + 1) _ _ _ ht (by kernel_rfl)]
  have e2 := Try.underlying89
  rw [ht] at e2
  simp only [Option.some.injEq, TypeDesc.struct.injEq] at e2
  rw [e2]
  have hc : ∀ t, t = 9 → Try.prog.cellsOf t = 1 := fun t h => by subst h; kernel_rfl
  cases h1 : (a.toList == c.toList) <;> cases h2 : (b.toList == e.toList) <;> simp [Op.eqFields, part, hs, sameB, h1, h2, go_sem]
theorem neq_file (a b c d : ByteArray) (w : World) : (binOp .neq 89 (.agg #[.string a, .string b]) (.agg #[.string c, .string d])).run Try.prog w = .ok (.bool (!(sameB a c && sameB b d))) w := by
  rw [run_neq_struct, eqIn_file 9998]
  rfl

end Go.Proofs.Ytipmjgciaalmbaa
