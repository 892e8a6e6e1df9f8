/-
  What is proved here: the program's way of doing an op to a disk; Do, on both sides; a disk of one's own in a box of its own. No conditions beyond those that each theorem states.
-/
import Derived.Test.YtgfmgmcpfefmkaaV7G12
set_option linter.unusedSimpArgs false
set_option linter.unusedVariables false
namespace Go.Proofs.Ytgfmgmcpfefmkaa
open Go.RowKit

/-- A box that holds an op. -/
def OpBx (w : World) (b : Nat) (o : Dp) : Prop := ∀ j u, (encO o)[j]? = some u → w.cell? ⟨b, j, none⟩ = some u
theorem OpBx.new (w : World) (q : Int) (a b d : ByteArray) (t : TypeId) : OpBx (w.alloc (.cells #[.int .i64 q, .string a, .string b, .string d] t)) w.heap.size ⟨q, a, b, d⟩ := fun j u hj => by
  rw [World.cell?_alloc_mark]
  match j, hj with
  | 0, hj => exact hj
  | 1, hj => exact hj
  | 2, hj => exact hj
  | 3, hj => exact hj
  | j + 4, hj => simp [encO] at hj
theorem OpBx.newOf {w0 w : World} (_ : Bl w0 w) (q : Int) (a b d : ByteArray) (t : TypeId) : OpBx (w.alloc (.cells #[.int .i64 q, .string a, .string b, .string d] t)) w.heap.size ⟨q, a, b, d⟩ := OpBx.new w q a b d t
theorem OpBx.bl {w w' : World} {b : Nat} {o : Dp} (h : OpBx w b o) (hb : Bl w w') : OpBx w' b o := fun j u hj => by
  have h1 := h j u hj
  exact ((bcell hb).1 _ _ (World.block_lt_of_cell? _ _ h1)).trans h1

end Go.Proofs.Ytgfmgmcpfefmkaa

set_option linter.unusedSimpArgs false
set_option linter.unusedVariables false
namespace Go.Proofs.Ytgfmgmcpfefmkaa
open Go.RowKit





end Go.Proofs.Ytgfmgmcpfefmkaa

set_option linter.unusedSimpArgs false
set_option linter.unusedVariables false
namespace Go.Proofs.Ytgfmgmcpfefmkaa
open Go.RowKit

/-- A box that has just been made. -/
structure Bz (w : World) (b : Nat) : Prop where
  bx : Bx w b (.slice none 0 0) (.slice none 0 0) (.slice none 0 0)
  fr : ∀ o, w.frozen? ⟨b, o, none⟩ = false
theorem Bz.new (w : World) : Bz (w.alloc (.cells #[.slice none 0 0, .slice none 0 0, .slice none 0 0] 31)) w.heap.size := ⟨Bx.new w _ _ _ _, fun o => by simp [go_sem]⟩
theorem Bz.bl {w w' : World} {b : Nat} (h : Bz w b) (hb : Bl w w') : Bz w' b := ⟨h.bx.bl hb, fun o => ((bcell hb).2 _ _ h.bx.lt).trans (h.fr o)⟩
/-- The three values do not lie in block b. -/
def Apart3 (vA vB vC : Value) (b : Nat) : Prop := (∀ g, vA.ownBlock = some g → g ≠ b) ∧ (∀ g, vB.ownBlock = some g → g ≠ b) ∧ (∀ g, vC.ownBlock = some g → g ≠ b)
theorem In3.apart {w0 wx : World} {vA vB vC : Value} {LA LB : List Fl} {LC : List Dp} (h : In3 w0 wx vA vB vC LA LB LC) {b : Nat} (hb : b < w0.heap.size) : Apart3 vA vB vC b :=
  ⟨fun g hg => by have := h.ltA g hg; omega, fun g hg => by have := h.ltB g hg; omega, fun g hg => by have := h.ltC g hg; omega⟩
/-- What lies behind the statement: a box of its own that holds a disk of its own; what is told of it. -/
def CutR (wo wc : World) (v6 v7 : Value) (LA LB : List Fl) (LC : List Dp) (C : Int) : Prop :=
  ∃ (bs : Nat) (a1 a2 a3 : Option Addr) (k1 d1 k2 d2 k3 d3 : Nat), v6 = .pointer (some ⟨bs, 0, none⟩) ∧ v7 = .int .i64 C ∧ wo.heap.size ≤ bs ∧ Bx wc bs (.slice a1 k1 d1) (.slice a2 k2 d2) (.slice a3 k3 d3) ∧
    In3 wo wc (.slice a1 k1 d1) (.slice a2 k2 d2) (.slice a3 k3 d3) LA LB LC ∧ Apart3 (.slice a1 k1 d1) (.slice a2 k2 d2) (.slice a3 k3 d3) bs
theorem CutR.alloc_ {wo wc : World} {a1 a2 a3 : Option Addr} {k1 d1 k2 d2 k3 d3 : Nat} {LA LB : List Fl} {LC : List Dp} (h : In3 wo wc (.slice a1 k1 d1) (.slice a2 k2 d2) (.slice a3 k3 d3) LA LB LC) (C : Int) :
    CutR wo (wc.alloc (.cells #[.slice a1 k1 d1, .slice a2 k2 d2, .slice a3 k3 d3] 31)) (.pointer (some ⟨wc.heap.size, 0, none⟩)) (.int .i64 C) LA LB LC C :=
  ⟨wc.heap.size, a1, a2, a3, k1, d1, k2, d2, k3, d3, rfl, rfl, h.bl.size, Bx.new _ _ _ _ _, h.blx ((Bl.refl _).alloc_ _), fun g hg => by have := (h.ltA g hg).2; omega, fun g hg => by have := (h.ltB g hg).2; omega, fun g hg => by have := (h.ltC g hg).2; omega⟩
theorem CutR.set_ {wo wc : World} {a1 a2 a3 : Option Addr} {k1 d1 k2 d2 k3 d3 bz : Nat} {LA LB : List Fl} {LC : List Dp} (h : In3 wo wc (.slice a1 k1 d1) (.slice a2 k2 d2) (.slice a3 k3 d3) LA LB LC) (hz : Bz wc bz) (hw : wo.heap.size ≤ bz) (hs : Apart3 (.slice a1 k1 d1) (.slice a2 k2 d2) (.slice a3 k3 d3) bz) (C : Int) :
    CutR wo (((wc.setCell ⟨bz, 0, none⟩ (.slice a1 k1 d1)).setCell ⟨bz, 1, none⟩ (.slice a2 k2 d2)).setCell ⟨bz, 2, none⟩ (.slice a3 k3 d3)) (.pointer (some ⟨bz, 0, none⟩)) (.int .i64 C) LA LB LC C := by
  refine ⟨bz, a1, a2, a3, k1, d1, k2, d2, k3, d3, rfl, rfl, hw, ⟨?_, ?_, ?_⟩, ((h.setOut hw hs.1 hs.2.1 hs.2.2 0 _).setOut hw hs.1 hs.2.1 hs.2.2 1 _).setOut hw hs.1 hs.2.1 hs.2.2 2 _, hs⟩
  · rw [World.cell?_setCell_other _ _ _ _ (by simp), World.cell?_setCell_other _ _ _ _ (by simp)]
    exact World.cell?_setCell_same _ _ _ hz.bx.c0
  · rw [World.cell?_setCell_other _ _ _ _ (by simp)]
    exact World.cell?_setCell_same _ _ _ (by rw [World.cell?_setCell_other _ _ _ _ (by simp)]; exact hz.bx.c1)
  · exact World.cell?_setCell_same _ _ _ (by rw [World.cell?_setCell_other _ _ _ _ (by simp), World.cell?_setCell_other _ _ _ _ (by simp)]; exact hz.bx.c2)

end Go.Proofs.Ytgfmgmcpfefmkaa
