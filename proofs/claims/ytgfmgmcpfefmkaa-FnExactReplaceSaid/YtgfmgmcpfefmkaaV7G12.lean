/-
  What is proved here: boxes that hold disks, and disks of one's own, behind marks; the document's way of doing an op to a disk; the program's copy of a disk. No conditions beyond those that each theorem states.
-/
import Derived.Test.YtgfmgmcpfefmkaaV7G11
import Derived.Test.YtgfmgmcpfefmkaaV7DKD2
set_option linter.unusedSimpArgs false
set_option linter.unusedVariables false
namespace Go.Proofs.Ytgfmgmcpfefmkaa
open Go.RowKit

/-- A box that holds three values. -/
structure Bx (w : World) (b : Nat) (u0 u1 u2 : Value) : Prop where
  c0 : w.cell? ⟨b, 0, none⟩ = some u0
  c1 : w.cell? ⟨b, 1, none⟩ = some u1
  c2 : w.cell? ⟨b, 2, none⟩ = some u2
theorem Bx.lt {w : World} {b : Nat} {u0 u1 u2 : Value} (h : Bx w b u0 u1 u2) : b < w.heap.size := World.block_lt_of_cell? _ _ h.c0
theorem Bx.bl {w w' : World} {b : Nat} {u0 u1 u2 : Value} (h : Bx w b u0 u1 u2) (hb : Bl w w') : Bx w' b u0 u1 u2 :=
  ⟨((bcell hb).1 _ _ h.lt).trans h.c0, ((bcell hb).1 _ _ h.lt).trans h.c1, ((bcell hb).1 _ _ h.lt).trans h.c2⟩
theorem Bx.turn {w w' : World} {b : Nat} {u0 u1 u2 : Value} {S : Nat → Prop} (h : Bx w b u0 u1 u2) (k : Turn S w w') (hS : ¬ S b) : Bx w' b u0 u1 u2 :=
  ⟨(k.cell h.lt hS 0).trans h.c0, (k.cell h.lt hS 1).trans h.c1, (k.cell h.lt hS 2).trans h.c2⟩
theorem Bx.new (w : World) (u0 u1 u2 : Value) (t : TypeId) : Bx (w.alloc (.cells #[u0, u1, u2] t)) w.heap.size u0 u1 u2 := by
  obtain ⟨a, b, c⟩ := box3 (Bl.refl (w.alloc (.cells #[u0, u1, u2] t)))
  exact ⟨a, b, c⟩
theorem Bx.new' {w w' : World} {u0 u1 u2 : Value} {t : TypeId} (h : Bl (w.alloc (.cells #[u0, u1, u2] t)) w') : Bx w' w.heap.size u0 u1 u2 := (Bx.new w u0 u1 u2 t).bl h
/-- The blocks of a disk lie from B to B'. -/
def DkIn (A1 A2 A3 : Option Addr) (B B' : Nat) : Prop := (∀ g, blockOf A1 = some g → B ≤ g ∧ g < B') ∧ (∀ g, blockOf A2 = some g → B ≤ g ∧ g < B') ∧ (∀ g, blockOf A3 = some g → B ≤ g ∧ g < B')
theorem rowOf_block {A : Option Addr} {n g : Nat} (h : rowOf A n = some g) : blockOf A = some g := (rowOf_pos h).2
theorem DkIn.dks {A1 A2 A3 : Option Addr} {B B' n1 n2 n3 g : Nat} (h : DkIn A1 A2 A3 B B') (hs : DkS A1 A2 A3 n1 n2 n3 g) : B ≤ g ∧ g < B' := by
  rcases hs with e | e | e
  · exact h.1 g (rowOf_block e)
  · exact h.2.1 g (rowOf_block e)
  · exact h.2.2 g (rowOf_block e)
theorem DkIn.low {A1 A2 A3 : Option Addr} {B B' C C' : Nat} (h : DkIn A1 A2 A3 B B') (h1 : C ≤ B) (h2 : B' ≤ C') : DkIn A1 A2 A3 C C' :=
  ⟨fun g hg => by have := h.1 g hg; omega, fun g hg => by have := h.2.1 g hg; omega, fun g hg => by have := h.2.2 g hg; omega⟩
theorem DiskAt.turn {w w' : World} {B : Nat} {A1 A2 A3 : Option Addr} {L1 L2 : List Fl} {O : List Dp} {S : Nat → Prop} (h : DiskAt w B A1 A2 A3 L1 L2 O) (hB : B ≤ w.heap.size) (k : Turn S w w') {C C' : Nat} (hi : DkIn A1 A2 A3 C C') (hS : ∀ g, C ≤ g → g < C' → ¬ S g) : DiskAt w' B A1 A2 A3 L1 L2 O :=
  ⟨CellsAt.turn h.f1 hB k (fun g hg _ => hS g (hi.1 g hg).1 (hi.1 g hg).2), CellsAt.turn h.f2 hB k (fun g hg _ => hS g (hi.2.1 g hg).1 (hi.2.1 g hg).2), CellsAt.turn h.f3 hB k (fun g hg _ => hS g (hi.2.2 g hg).1 (hi.2.2 g hg).2)⟩
theorem rowsW_turn {t : TypeId} {s : Nat} {w w' : World} {A : Option Addr} {n : Nat} {S : Nat → Prop} (h : RowsW t s w A n) (k : Turn S w w') (hS : ∀ g, blockOf A = some g → ¬ S g) : RowsW t s w' A n := fun hp => by
  obtain ⟨g, off, m, f, rfl, hm, hr⟩ := h hp
  exact ⟨g, off, m, f, rfl, hm, hr.of_block (k.block g hr.lt (hS g rfl))⟩
theorem DiskW.turn {w w' : World} {A1 A2 A3 : Option Addr} {n1 n2 n3 : Nat} {S : Nat → Prop} (h : DiskW w A1 A2 A3 n1 n2 n3) (k : Turn S w w') {C C' : Nat} (hi : DkIn A1 A2 A3 C C') (hS : ∀ g, C ≤ g → g < C' → ¬ S g) : DiskW w' A1 A2 A3 n1 n2 n3 :=
  ⟨rowsW_turn h.w1 k (fun g hg => hS g (hi.1 g hg).1 (hi.1 g hg).2), rowsW_turn h.w2 k (fun g hg => hS g (hi.2.1 g hg).1 (hi.2.1 g hg).2), rowsW_turn h.w3 k (fun g hg => hS g (hi.2.2 g hg).1 (hi.2.2 g hg).2), h.d12, h.d13, h.d23⟩

/-- What a disk of one's own is made of. -/
def Opened (w0 wx : World) (vA vB vC : Value) (LA LB : List Fl) (LC : List Dp) (A1 A2 A3 : Option Addr) (n1 c1 n2 c2 n3 c3 : Nat) : Prop :=
  (vA = .slice A1 n1 c1 ∧ vB = .slice A2 n2 c2 ∧ vC = .slice A3 n3 c3) ∧ (n1 = LA.length ∧ n2 = LB.length ∧ n3 = LC.length) ∧ DiskAt wx wx.heap.size A1 A2 A3 LA LB LC ∧ DiskW wx A1 A2 A3 n1 n2 n3 ∧ DkIn A1 A2 A3 w0.heap.size wx.heap.size
theorem In3.opened {w0 wx : World} {vA vB vC : Value} {LA LB : List Fl} {LC : List Dp} (h : In3 w0 wx vA vB vC LA LB LC) : ∃ A1 A2 A3 n1 c1 n2 c2 n3 c3, Opened w0 wx vA vB vC LA LB LC A1 A2 A3 n1 c1 n2 c2 n3 c3 := by
  obtain ⟨oA, oB, oC, bl, dAB, dAC, dBC⟩ := h
  obtain ⟨A1, c1, rfl, _, f1, w1, _⟩ := Owns.shape (show Owns _ _ _ _ _ _ _ from oA)
  obtain ⟨A2, c2, rfl, _, f2, w2, _⟩ := Owns.shape (show Owns _ _ _ _ _ _ _ from oB)
  obtain ⟨A3, c3, rfl, _, f3, w3, _⟩ := Owns.shape (show Owns _ _ _ _ _ _ _ from oC)
  simp only [ownBlock_slice] at dAB dAC dBC
  exact ⟨A1, A2, A3, _, c1, _, c2, _, c3, ⟨rfl, rfl, rfl⟩, ⟨rfl, rfl, rfl⟩, ⟨f1, f2, f3⟩,
    ⟨w1, w2, w3, fun g hg hg2 => dAB g (rowOf_block hg) (rowOf_block hg2), fun g hg hg2 => dAC g (rowOf_block hg) (rowOf_block hg2), fun g hg hg2 => dBC g (rowOf_block hg) (rowOf_block hg2)⟩,
    Owns.lt_ (show Owns _ _ _ _ _ _ _ from oA), Owns.lt_ (show Owns _ _ _ _ _ _ _ from oB), Owns.lt_ (show Owns _ _ _ _ _ _ _ from oC)⟩
theorem DiskRows.in3 {w w' : World} {g1 g2 g3 n1 n2 n3 : Nat} {L1 L2 : List Fl} {O : List Dp} (h : DiskRows w' w.heap.size g1 g2 g3 n1 n2 n3 L1 L2 O) (hb : Bl w w') : In3 w w' (.slice (some ⟨g1, 0, none⟩) n1 n1) (.slice (some ⟨g2, 0, none⟩) n2 n2) (.slice (some ⟨g3, 0, none⟩) n3 n3) L1 L2 O :=
  ⟨h.r1, h.r2, h.r3, hb, fun g h1 h2 => by injection h1 with h1; injection h2 with h2; exact h.d12 (h1.trans h2.symm), fun g h1 h2 => by injection h1 with h1; injection h2 with h2; exact h.d13 (h1.trans h2.symm), fun g h1 h2 => by injection h1 with h1; injection h2 with h2; exact h.d23 (h1.trans h2.symm)⟩
theorem DiskRows.opened {w w' : World} {g1 g2 g3 n1 n2 n3 : Nat} {L1 L2 : List Fl} {O : List Dp} (h : DiskRows w' w.heap.size g1 g2 g3 n1 n2 n3 L1 L2 O) (hb : Bl w w') (h1 : n1 = L1.length) (h2 : n2 = L2.length) (h3 : n3 = O.length) :
    Opened w w' (.slice (some ⟨g1, 0, none⟩) n1 n1) (.slice (some ⟨g2, 0, none⟩) n2 n2) (.slice (some ⟨g3, 0, none⟩) n3 n3) L1 L2 O (some ⟨g1, 0, none⟩) (some ⟨g2, 0, none⟩) (some ⟨g3, 0, none⟩) n1 n1 n2 n2 n3 n3 := by
  obtain ⟨A1, A2, A3, m1, c1, m2, c2, m3, c3, ⟨e1, e2, e3⟩, _, a, b, c⟩ := (h.in3 hb).opened
  injection e1 with e11 e12 e13
  injection e2 with e21 e22 e23
  injection e3 with e31 e32 e33
  subst e11; subst e12; subst e21; subst e22; subst e31; subst e32
  exact ⟨⟨rfl, rfl, rfl⟩, ⟨h1, h2, h3⟩, a, b, c⟩

end Go.Proofs.Ytgfmgmcpfefmkaa

set_option linter.unusedSimpArgs false
set_option linter.unusedVariables false
namespace Go.Proofs.Ytgfmgmcpfefmkaa
open Go.RowKit

/-- A disk behind an op that is done to a right one, and what is told of it. -/
def actD (D : Dk) (o : Dp) : Dk × Int :=
  if formB o = false then (D, 2) else if foundB D.1 o = false then (D, 3) else if D.2.2.length = 200 ∨ fitsB (doL D.1 o) = false then (D, 4) else ((doL D.1 o, D.2.1, D.2.2 ++ [o]), 0)
def ActNew (R : Dk × Int) (w : World) (e : Ending) (w' : World) : Prop := ∃ vA vB vC, e = .returned (.tuple #[.agg #[vA, vB, vC], .int .i64 R.2]) ∧ In3 w w' vA vB vC R.1.1 R.1.2.1 R.1.2.2
theorem In3.setOut {w0 wx : World} {vA vB vC : Value} {LA LB : List Fl} {LC : List Dp} (h : In3 w0 wx vA vB vC LA LB LC) {b : Nat} (h0 : w0.heap.size ≤ b) (hA : ∀ g, vA.ownBlock = some g → g ≠ b) (hB : ∀ g, vB.ownBlock = some g → g ≠ b) (hC : ∀ g, vC.ownBlock = some g → g ≠ b) (o : Nat) (u : Value) :
    In3 w0 (wx.setCell ⟨b, o, none⟩ u) vA vB vC LA LB LC :=
  ⟨Owns.setOther (show Owns _ _ _ _ _ _ _ from h.oA) hA u, Owns.setOther (show Owns _ _ _ _ _ _ _ from h.oB) hB u, Owns.setOther (show Owns _ _ _ _ _ _ _ from h.oC) hC u, Bl.set_ h.bl h0 u, h.dAB, h.dAC, h.dBC⟩
theorem In3.ltA {w0 wx : World} {vA vB vC : Value} {LA LB : List Fl} {LC : List Dp} (h : In3 w0 wx vA vB vC LA LB LC) : ∀ g, vA.ownBlock = some g → w0.heap.size ≤ g ∧ g < wx.heap.size := Owns.lt (show Owns _ _ _ _ _ _ _ from h.oA)
theorem In3.ltB {w0 wx : World} {vA vB vC : Value} {LA LB : List Fl} {LC : List Dp} (h : In3 w0 wx vA vB vC LA LB LC) : ∀ g, vB.ownBlock = some g → w0.heap.size ≤ g ∧ g < wx.heap.size := Owns.lt (show Owns _ _ _ _ _ _ _ from h.oB)
theorem In3.ltC {w0 wx : World} {vA vB vC : Value} {LA LB : List Fl} {LC : List Dp} (h : In3 w0 wx vA vB vC LA LB LC) : ∀ g, vC.ownBlock = some g → w0.heap.size ≤ g ∧ g < wx.heap.size := Owns.lt (show Owns _ _ _ _ _ _ _ from h.oC)


end Go.Proofs.Ytgfmgmcpfefmkaa

set_option linter.unusedSimpArgs false
set_option linter.unusedVariables false
namespace Go.Proofs.Ytgfmgmcpfefmkaa
open Go.RowKit


end Go.Proofs.Ytgfmgmcpfefmkaa
