/-
  What is proved here: the place of an id on both sides; a copy of items as a heap of one's own; push. No conditions beyond those that each theorem states.
-/
import Derived.Test.YtelgjfflhcmljaaI9
import Derived.Test.YtelgjfflhcmljaaW2
set_option linter.unusedSimpArgs false
set_option linter.unusedVariables false
namespace Go.Proofs.Ytelgjfflhcmljaa
open Go.RowKit

-- (placeOfId_any left out)

-- (l2At_any left out)

theorem one2 (L : List It) : ∀ u ∈ cs2 L, u.oneCell' = true := by
  induction L with
  | nil => intro u hu; simp [cs2] at hu
  | cons a l ih =>
    intro u hu
    simp only [cs2, List.mem_cons] at hu
    rcases hu with rfl | rfl | hu
    · rfl
    · rfl
    · exact ih u hu
theorem ItemsAt.reads {w : World} {B n : Nat} {A : Option Addr} {L : List It} (h : ItemsAt w B A L) (hn : n = L.length) : Reads w B 2 A n (cs2 L) :=
  reads_of_cells h (by rw [cs2_length, hn]) (by decide)
theorem new2 (w : World) (x y : Value) (t : TypeId) : ∀ j u, [x, y][j]? = some u → (w.alloc (.cells #[x, y] t)).cell? ((⟨w.heap.size, 0, none⟩ : Addr).add j) = some u := by
  intro j u hj
  match j, hj with
  | 0, hj => simp at hj; subst hj; simp [Addr.add, go_sem]
  | 1, hj => simp at hj; subst hj; simp [Addr.add, go_sem]
  | (j + 2), hj => simp at hj

/-- A heap of one's own: its box, and its list. -/
def HeapIn (w : World) (B hb : Nat) (v : Value) (L : List It) : Prop := HBox w hb v ∧ OwnI w B v L ∧ B ≤ hb ∧ v.ownBlock ≠ some hb
/-- What a copy leaves. -/
def CopyPost (L : List It) (w : World) (e : Ending) (w' : World) : Prop := ∃ hb v, e = .returned (.pointer (some ⟨hb, 0, none⟩)) ∧ HeapIn w' w.heap.size hb v L ∧ Bl w w'

-- (copied_any left out)

end Go.Proofs.Ytelgjfflhcmljaa
