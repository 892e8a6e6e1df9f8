/-
  What is proved here: the iterator over the rows of a table of distances tells just these, each in new memory. No conditions beyond those that each theorem states.
-/
import Derived.Test.YtlddileiecnkjaaV5G15
import Derived.Test.YtlddileiecnkjaaV5G10
set_option linter.unusedSimpArgs false
set_option linter.unusedVariables false
namespace Go.Proofs.Ytlddileiecnkjaa
open Go.RowKit Go.Shelf
attribute [local go_sem] Oper.semAt_some

/-- What the iterator reads. -/
structure MIn (w : World) (fb gb tb q : Nat) (A : Option Addr) (n c : Nat) (L : List Arc3) (AF : Option Addr) (kF cF : Nat) (F : List Int) (AT : Option Addr) (kT cT : Nat) (T : List Int) : Prop where
  from_ : w.cell? ⟨fb, 0, none⟩ = some (.slice AF kF cF)
  size : w.cell? ⟨gb, 0, none⟩ = some (.int .i64 (q : Int))
  list : w.cell? ⟨gb, 1, none⟩ = some (.slice A n c)
  to_ : w.cell? ⟨tb, 0, none⟩ = some (.slice AT kT cT)
  arcs : ArcsAt w w.heap.size A L
  nf : IntsAt w w.heap.size AF F
  nt : IntsAt w w.heap.size AT T
def mBlocks (fb gb tb : Nat) (A : Option Addr) (L : List Arc3) (AF : Option Addr) (F : List Int) (AT : Option Addr) (T : List Int) (i : Nat) : Prop :=
  i = fb ∨ i = gb ∨ i = tb ∨ (0 < L.length ∧ blockOf A = some i) ∨ (0 < F.length ∧ blockOf AF = some i) ∨ (0 < T.length ∧ blockOf AT = some i)
section
variable {w w' : World} {fb gb tb q : Nat} {A : Option Addr} {n c : Nat} {L : List Arc3} {AF : Option Addr} {kF cF : Nat} {F : List Int} {AT : Option Addr} {kT cT : Nat} {T : List Int}
theorem intsAt_turn {B : Nat} {A : Option Addr} {V : List Int} {S : Nat → Prop} (h : IntsAt w B A V) (hB : B ≤ w.heap.size) (k : Turn S w w') (hS : 0 < V.length → ∀ g, blockOf A = some g → ¬ S g) : IntsAt w' B A V := fun hp => by
  have hp' : 0 < V.length := by rw [csI_len] at hp; exact hp
  exact CellsAt.turn h hB k (fun g hg _ => hS hp' g hg) hp
theorem MIn.turn (h : MIn w fb gb tb q A n c L AF kF cF F AT kT cT T) {S : Nat → Prop} (t : Turn S w w') (hS : ∀ i, S i → ¬ mBlocks fb gb tb A L AF F AT T i) : MIn w' fb gb tb q A n c L AF kF cF F AT kT cT T := by
  have c1 := fun o => (t.cells (World.block_lt_of_cell? _ _ h.from_) (fun e => hS _ e (.inl rfl)) o).1
  have c2 := fun o => (t.cells (World.block_lt_of_cell? _ _ h.size) (fun e => hS _ e (.inr (.inl rfl))) o).1
  have c3 := fun o => (t.cells (World.block_lt_of_cell? _ _ h.to_) (fun e => hS _ e (.inr (.inr (.inl rfl)))) o).1
  exact ⟨(c1 0).trans h.from_, (c2 0).trans h.size, (c2 1).trans h.list, (c3 0).trans h.to_,
    (ArcsAt.turn h.arcs (Nat.le_refl _) t (fun h0 g hg e => hS g e (.inr (.inr (.inr (.inl ⟨h0, hg⟩)))))).more t.size,
    (intsAt_turn h.nf (Nat.le_refl _) t (fun h0 g hg e => hS g e (.inr (.inr (.inr (.inr (.inl ⟨h0, hg⟩))))))).more t.size,
    (intsAt_turn h.nt (Nat.le_refl _) t (fun h0 g hg e => hS g e (.inr (.inr (.inr (.inr (.inr ⟨h0, hg⟩))))))).more t.size⟩
theorem MIn.lt (h : MIn w fb gb tb q A n c L AF kF cF F AT kT cT T) {i : Nat} (hi : mBlocks fb gb tb A L AF F AT T i) : i < w.heap.size := by
  rcases hi with rfl | rfl | rfl | ⟨h0, e⟩ | ⟨h0, e⟩ | ⟨h0, e⟩
  · exact World.block_lt_of_cell? _ _ h.from_
  · exact World.block_lt_of_cell? _ _ h.size
  · exact World.block_lt_of_cell? _ _ h.to_
  · obtain ⟨g, off, rfl, hg, -⟩ := h.arcs h0
    have : g = i := by simpa [blockOf] using e
    omega
  · obtain ⟨g, off, rfl, hg, -⟩ := h.nf (by rw [csI_len]; exact h0)
    have : g = i := by simpa [blockOf] using e
    omega
  · obtain ⟨g, off, rfl, hg, -⟩ := h.nt (by rw [csI_len]; exact h0)
    have : g = i := by simpa [blockOf] using e
    omega
end


end Go.Proofs.Ytlddileiecnkjaa
