/-
  What is proved here: the iterator over the nodes by way of which one comes from one node to another tells just these, rising; plain facts on the nodes of the shortest paths of all pairs, and on reaches; the reaches of a graph, told; plain facts on lists without two alike, on the nearest of some nodes, and on the first of the greatest. No conditions beyond those that each theorem states.
-/
import Derived.Test.YtgjgcdpjbpccnaaKG09
import Derived.Test.YtgjgcdpjbpccnaaKG10
import Derived.Test.YtgjgcdpjbpccnaaKG04
set_option linter.unusedSimpArgs false
set_option linter.unusedVariables false
namespace Go.Proofs.Ytgjgcdpjbpccnaa
open Go.RowKit Go.Shelf
attribute [local go_sem] Oper.semAt_some


/-- What the iterator reads. -/
structure PIn (w : World) (nb fb tb : Nat) (n : Nat) (D E : List Int) : Prop where
  size : w.cell? ⟨nb, 0, none⟩ = some (.int .i64 (n : Int))
  from_ : NumsAt w fb D
  to_ : NumsAt w tb E
def passBlocks (nb fb tb i : Nat) : Prop := i = nb ∨ i = fb ∨ i = tb
theorem PIn.turn {w w' : World} {nb fb tb n : Nat} {D E : List Int} (h : PIn w nb fb tb n D E) {S : Nat → Prop} (t : Turn S w w') (hS : ∀ i, S i → ¬ passBlocks nb fb tb i) : PIn w' nb fb tb n D E :=
  ⟨(t.cells (World.block_lt_of_cell? _ _ h.size) (fun e => hS _ e (.inl rfl)) 0).1.trans h.size, h.from_.turn t (fun e => hS _ e (.inr (.inl rfl))), h.to_.turn t (fun e => hS _ e (.inr (.inr rfl)))⟩
theorem PIn.lt {w : World} {nb fb tb n : Nat} {D E : List Int} (h : PIn w nb fb tb n D E) {i : Nat} (hi : passBlocks nb fb tb i) : i < w.heap.size := by
  rcases hi with rfl | rfl | rfl
  · exact World.block_lt_of_cell? _ _ h.size
  · exact h.from_.lt
  · exact h.to_.lt



end Go.Proofs.Ytgjgcdpjbpccnaa

set_option linter.unusedSimpArgs false
set_option linter.unusedVariables false
namespace Go.Proofs.Ytgjgcdpjbpccnaa


/-- A number that is the greatest of those of a list, and 0. -/
def IsMax (P : Int → Prop) (m : Int) : Prop := (m = 0 ∨ P m) ∧ 0 ≤ m ∧ ∀ x, P x → x ≤ m
theorem IsMax.uniq {P : Int → Prop} {m m' : Int} (h : IsMax P m) (k : IsMax P m') : m = m' := by
  obtain ⟨h1, h2, h3⟩ := h
  obtain ⟨k1, k2, k3⟩ := k
  rcases h1 with h1 | h1
  · rcases k1 with k1 | k1
    · rw [h1, k1]
    · have := h3 _ k1; omega
  · rcases k1 with k1 | k1
    · have := k3 _ h1; omega
    · have := h3 _ k1; have := k3 _ h1; omega
theorem IsMax.of {P P' : Int → Prop} {m : Int} (h : IsMax P m) (e : ∀ x, P x ↔ P' x) : IsMax P' m :=
  ⟨h.1.imp id fun hp => (e m).1 hp, h.2.1, fun x hx => h.2.2 x ((e x).2 hx)⟩


end Go.Proofs.Ytgjgcdpjbpccnaa

set_option linter.unusedSimpArgs false
set_option linter.unusedVariables false
namespace Go.Proofs.Ytgjgcdpjbpccnaa


end Go.Proofs.Ytgjgcdpjbpccnaa

set_option linter.unusedSimpArgs false
set_option linter.unusedVariables false
namespace Go.Proofs.Ytgjgcdpjbpccnaa







end Go.Proofs.Ytgjgcdpjbpccnaa
