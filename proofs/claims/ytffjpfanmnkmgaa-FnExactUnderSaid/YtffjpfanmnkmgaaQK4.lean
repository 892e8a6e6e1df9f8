/-
  What is proved here: what a half that comes in is made of. No conditions. No conditions beyond those that each theorem states.
-/
import Derived.Test.YtffjpfanmnkmgaaZT
import Derived.Test.YtffjpfanmnkmgaaRows
set_option linter.unusedSimpArgs false
set_option linter.unusedVariables false
namespace Go.Proofs.Ytffjpfanmnkmgaa
open Go.ChangeShapes Go.WideShapes Go.ChangeAt Go.RowKit Go.Deep Go.Joins

theorem open_cells {H : Type} {enc : TypeId × Value → H} {W : World} {v : Value} {y : DataW H × List MemPlace} {m0 : Nat} (ht : DataW.trod enc Try.prog W 0 (fun _ => true) true m0 22 [v] = some y) :
    ∃ (A : Option Addr) (n c : Nat) (V : List Int), v = .slice A n c ∧ n = V.length ∧ n ≤ 9223372036854775807 ∧ IntsAt W W.heap.size A V := by
  rcases open_ints Try.underlying22 Try.underlying2 (by kernel_rfl) ht with ⟨hcs, _⟩ | ⟨a, len, cap, zs, hcs, _, hl, hcap, hzs, hmax, hcell, hwf⟩
  · simp only [List.cons.injEq, and_true] at hcs
    subst hcs
    exact ⟨none, 0, 0, [], rfl, rfl, by omega, CellsAt.nil_ _ _ _⟩
  · simp only [List.cons.injEq, and_true] at hcs
    subst hcs
    have hz : len ≤ zs.length := by rw [hzs]; simp; omega
    refine ⟨some a, len, cap, zs.take len, rfl, by rw [List.length_take]; omega, by first | omega | (unfold maxLen at *; omega), fun h0 => ?_⟩
    rw [csI_len, List.length_take] at h0
    obtain ⟨b, off, spot⟩ := a
    have hc0 := hcell 0 (by omega)
    have hspot : spot = none := by simpa [Addr.add] using World.cell?_spot hc0
    subst hspot
    refine ⟨b, off, rfl, ?_, fun j hj => ?_⟩
    · have := World.block_lt_of_cell? _ _ hc0
      simpa [Addr.add] using this
    · rw [csI_len, List.length_take] at hj
      have hc := hcell j (by omega)
      rw [Go.WideShapes.add_plain] at hc
      rw [hc, csI_at, List.getElem_take, List.getD_eq_getElem?_getD, List.getElem?_eq_getElem (by omega)]
      rfl

-- (open_half left out)

end Go.Proofs.Ytffjpfanmnkmgaa
