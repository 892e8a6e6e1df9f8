/-
  What is proved here: Sync, on both sides; the program's Sync; copies of disks; an op behind others. No conditions beyond those that each theorem states.
-/
import Derived.Test.YtgfmgmcpfefmkaaV8G10
set_option linter.unusedSimpArgs false
set_option linter.unusedVariables false
namespace Go.Proofs.Ytgfmgmcpfefmkaa
open Go.RowKit

/-- A disk of its own. -/
def DiskNew (LA LB : List Fl) (LC : List Dp) (w : World) (e : Ending) (w' : World) : Prop := ∃ vA vB vC, e = .returned (.agg #[vA, vB, vC]) ∧ In3 w w' vA vB vC LA LB LC
theorem In3.low {w w0 wx : World} {vA vB vC : Value} {LA LB : List Fl} {LC : List Dp} (h : In3 w0 wx vA vB vC LA LB LC) (hw : Bl w w0) : In3 w wx vA vB vC LA LB LC :=
  ⟨h.oA.low hw.size, h.oB.low hw.size, h.oC.low hw.size, hw.trans_ h.bl, h.dAB, h.dAC, h.dBC⟩
theorem In3.blx {w0 wx wy : World} {vA vB vC : Value} {LA LB : List Fl} {LC : List Dp} (h : In3 w0 wx vA vB vC LA LB LC) (hb : Bl wx wy) : In3 w0 wy vA vB vC LA LB LC :=
  ⟨h.oA.bl hb, h.oB.bl hb, h.oC.bl hb, h.bl.trans_ hb, h.dAB, h.dAC, h.dBC⟩
theorem owns_setLow {t : TypeId} {s : Nat} {w : World} {B : Nat} {v : Value} {n : Nat} {vs : List Value} (h : Owns t s w B v n vs) {b : Nat} (hb : b < B) (o : Nat) (u : Value) : Owns t s (w.setCell ⟨b, o, none⟩ u) B v n vs :=
  Owns.setOther h (fun g hg => by
    have := (Owns.lt h g hg).1
    show g ≠ b
    omega) u
theorem In3.fin {w w2 wx : World} {vA vB vC : Value} {LA LB : List Fl} {LC : List Dp} (h : In3 w2 wx vA vB vC LA LB LC) (hw : Bl w w2) {b : Nat} (h1 : w.heap.size ≤ b) (h2 : b < w2.heap.size) (x y z : Value) :
    In3 w (((wx.setCell ⟨b, 0, none⟩ x).setCell ⟨b, 1, none⟩ y).setCell ⟨b, 2, none⟩ z) vA vB vC LA LB LC :=
  ⟨Owns.low (owns_setLow (owns_setLow (owns_setLow (show Owns _ _ _ _ _ _ _ from h.oA) h2 0 x) h2 1 y) h2 2 z) hw.size,
   Owns.low (owns_setLow (owns_setLow (owns_setLow (show Owns _ _ _ _ _ _ _ from h.oB) h2 0 x) h2 1 y) h2 2 z) hw.size,
   Owns.low (owns_setLow (owns_setLow (owns_setLow (show Owns _ _ _ _ _ _ _ from h.oC) h2 0 x) h2 1 y) h2 2 z) hw.size,
   Bl.set_ (Bl.set_ (Bl.set_ (hw.trans_ h.bl) h1 _) h1 _) h1 _, h.dAB, h.dAC, h.dBC⟩


end Go.Proofs.Ytgfmgmcpfefmkaa

set_option linter.unusedSimpArgs false
set_option linter.unusedVariables false
namespace Go.Proofs.Ytgfmgmcpfefmkaa
open Go.RowKit

theorem In3.opened' {w0 wx : World} {vA vB vC : Value} {LA LB : List Fl} {LC : List Dp} (h : In3 w0 wx vA vB vC LA LB LC) : ∃ A1 A2 A3 n1 c1 n2 c2 n3 c3, (vA = .slice A1 n1 c1 ∧ vB = .slice A2 n2 c2 ∧ vC = .slice A3 n3 c3) ∧ n1 = LA.length := by
  obtain ⟨A1, c1, rfl, -⟩ := Owns.shape (show Owns _ _ _ _ _ _ _ from h.oA)
  obtain ⟨A2, c2, rfl, -⟩ := Owns.shape (show Owns _ _ _ _ _ _ _ from h.oB)
  obtain ⟨A3, c3, rfl, -⟩ := Owns.shape (show Owns _ _ _ _ _ _ _ from h.oC)
  exact ⟨A1, A2, A3, _, c1, _, c2, _, c3, ⟨rfl, rfl, rfl⟩, rfl⟩

set_option maxRecDepth 100000 in
set_option maxHeartbeats 2000000 in
theorem diskWith_any (A : Option Addr) (n c : Nat) (L : List Fl) (hn : n = L.length) (hm : n ≤ 1048576) (w : World) (H1 : FilesAt w w.heap.size A L) :
    Calls Try.prog 43 #[.slice A n c] w (DiskNew L L [] w) := by
  have K1 := Lib.hid H1
  have HN := Lib.hid hn
  clear H1 hn
  go_enter Try.func43, Try.ntmps43
  go_wp2_with fail
  refine (cloneF_any A n c L HN.out _ hm (K1.out.bl (by repeat' (first | exact Bl.refl _ | with_reducible assumption | with_reducible refine Bl.drew_ ?_ | with_reducible refine Bl.drewN_ ?_ _ | with_reducible refine Bl.alloc_ ?_ _ | with_reducible refine Bl.trans_ ?_ (by assumption) | with_reducible refine Bl.trans_ ?_ (And.left (by assumption)))))).mono ?_
  rintro e w1 ⟨v1, rfl, hv1, hb1⟩
  obtain ⟨P1, e1, rfl, -⟩ := own_shapeF hv1
  have V1 := Lib.hid hv1
  have B1 := Lib.hid ((Bl.alloc_ (Bl.refl w) _).trans_ hb1)
  have X1 := Lib.hid hb1
  have hl1 : ∀ g, (Value.slice P1 L.length e1).ownBlock = some g → g < w1.heap.size := fun g hg => (Owns.lt (show Owns _ _ _ _ _ _ _ from hv1) g hg).2
  clear hv1 hb1
  go_wp2_with fail
  refine (cloneF_any A n c L HN.out _ hm (K1.out.bl B1.out)).mono ?_
  rintro e w2 ⟨v2, rfl, hv2, hb2⟩
  obtain ⟨P2, e2, rfl, -⟩ := own_shapeF hv2
  have hl2 : ∀ g, (Value.slice P2 L.length e2).ownBlock = some g → w1.heap.size ≤ g := fun g hg => (Owns.lt (show Owns _ _ _ _ _ _ _ from hv2) g hg).1
  have I := Lib.hid (show In3 (w.alloc (.cells #[.slice none 0 0, .slice none 0 0, .slice none 0 0] 31)) w2 (.slice P1 L.length e1) (.slice P2 L.length e2) (.slice none 0 0) L L [] from
    ⟨V1.out.bl hb2, hv2.low X1.out.size, Owns.nil_ _ _ _ _, X1.out.trans_ hb2, (fun g h1 h2 => by have := hl1 g h1; have := hl2 g h2; omega), (fun g h1 h2 => by cases h2), (fun g h1 h2 => by cases h2)⟩)
  have X2 := Lib.hid (X1.out.trans_ hb2)
  have s2 := X2.out.size
  simp only [World.size_alloc] at s2
  obtain ⟨hc, hf⟩ := bcell X2.out
  have i1 : w.heap.size < w2.heap.size := by omega
  clear hv2 hb2 hl1 hl2
  go_wp2
  refine bodyPost_ret (v := .agg #[.slice P1 L.length e1, .slice P2 L.length e2, .slice none 0 0]) (by simp [results, Try.results43, go_sem, hc, hf, i1]) rfl ⟨.slice P1 L.length e1, .slice P2 L.length e2, .slice none 0 0, rfl, I.out.fin (Bl.alloc_ (Bl.refl w) _) (b := w.heap.size) (by omega) (by simp) _ _ _⟩


end Go.Proofs.Ytgfmgmcpfefmkaa

set_option linter.unusedSimpArgs false
set_option linter.unusedVariables false
namespace Go.Proofs.Ytgfmgmcpfefmkaa
open Go.RowKit




end Go.Proofs.Ytgfmgmcpfefmkaa
