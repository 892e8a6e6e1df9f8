/-
  What is proved here: three lists of one's own that are made one beside the other, in whatever order. No conditions beyond those that each theorem states.
-/
import Derived.Test.YtipmjgciaalmbaaDKR
import Derived.Deep.RegionLaw
set_option linter.unusedSimpArgs false
set_option linter.unusedVariables false
namespace Go.Proofs.Ytipmjgciaalmbaa
open Go.RowKit

/-- Three values that own three lists, in blocks of their own, none of which lay in world w0. -/
structure In3 (w0 wx : World) (vA vB vC : Value) (LA LB : List Fl) (LC : List Dp) : Prop where
  oA : OwnF wx w0.heap.size vA LA
  oB : OwnF wx w0.heap.size vB LB
  oC : OwnO wx w0.heap.size vC LC
  bl : Bl w0 wx
  dAB : ∀ g, vA.ownBlock = some g → vB.ownBlock ≠ some g
  dAC : ∀ g, vA.ownBlock = some g → vC.ownBlock ≠ some g
  dBC : ∀ g, vB.ownBlock = some g → vC.ownBlock ≠ some g
def nilV : Value := .slice none 0 0
theorem In3.start {w0 wx : World} (h : Bl w0 wx) : In3 w0 wx nilV nilV nilV [] [] [] :=
  ⟨Owns.nil_ _ _ _ _, Owns.nil_ _ _ _ _, Owns.nil_ _ _ _ _, h, (fun g h => by cases h), (fun g h => by cases h), (fun g h => by cases h)⟩
theorem In3.buildA {w0 wx : World} {vB : Value} {vC : Value} {LB : List Fl} {LC : List Dp} (h : In3 w0 wx nilV vB vC [] LB LC) : In3 w0 (wx.alloc (.cells #[] 89)) (.slice (some ⟨wx.heap.size, 0, none⟩) 0 0) vB vC [] LB LC := by
  have hb : Bl wx (wx.alloc (.cells #[] 89)) := (Bl.refl wx).alloc_ _
  have hB : ∀ g, vB.ownBlock = some g → g < wx.heap.size := fun g hg => (Owns.lt (show Owns _ _ _ _ _ _ _ from h.oB) g hg).2
  have hC : ∀ g, vC.ownBlock = some g → g < wx.heap.size := fun g hg => (Owns.lt (show Owns _ _ _ _ _ _ _ from h.oC) g hg).2
  exact ⟨World.ownsRow_made (base := w0.heap.size) (e := 89) (size := 2) wx #[] 0 h.bl.size (by unfold maxLen; omega) rfl, h.oB.bl hb, h.oC.bl hb, h.bl.trans_ hb, (fun g hg hg2 => by have hgg : wx.heap.size = g := Option.some.inj hg; have := hB g hg2; omega), (fun g hg hg2 => by have hgg : wx.heap.size = g := Option.some.inj hg; have := hC g hg2; omega), h.dBC⟩
theorem In3.stepA {ops : Array Oper} {o : Oper} {a : Act} {K : Act → World → Prop} {Q : Exit → Act → World → Prop} {E : Prop} {w0 wx : World} {vA : Value} {vB : Value} {vC : Value} {LB : List Fl} {LC : List Dp} (hgd : o.guard = none) (s x : Operand)
    (ho : o.op = .call { callee := .builtin .append, args := #[s, x], argTypes := #[28, 28] }) (h : In3 w0 wx vA vB vC [] LB LC) (hs : a.eval s = vA) {A : Option Addr} {n c : Nat} {L : List Fl} (hx : a.eval x = .slice A n c)
    (hn : n = L.length) (hm : n ≤ 1048576) (H : FilesAt w0 w0.heap.size A L)
    (hk : ∀ (P : Option Addr) (k e : Nat) w', In3 w0 w' (.slice P k e) vB vC L LB LC → K (a.put o.dst (.slice P k e)) w') : if Region.wanted o (yielded ops a.tmps) = true then Oper.wp Try.prog o a wx K Q else E := by
  have hw : Region.wanted o (yielded ops a.tmps) = true := by simp [Region.wanted, hgd]
  rw [if_pos hw]
  obtain ⟨i0, hi, hz0, hz1, hz2⟩ := info_parts infoFile
  have hO' : wx.ownsRow w0.heap.size 89 2 vA 0 [] := h.oA
  have hr : Reads wx wx.heap.size 2 A n (csE encF L) := reads_of_cells (H.bl h.bl) (by rw [csE_length encF_len, hn]) (by omega)
  refine wp_append_any wx s x _ ho w0.heap.size 89 i0 _ 2 32 Try.underlying28 hi hz0 hz1 hz2 rfl (by decide) vA 0 [] hs hO' wx.heap.size A n c (csE encF L) hx hr (csE_one encF_one L) (by unfold maxLen; omega) (by omega) h.bl.size ?_
  intro v' w' h1 h2 h4
  have hB : ∀ g, vB.ownBlock = some g → g < wx.heap.size := fun g hg => (Owns.lt (show Owns _ _ _ _ _ _ _ from h.oB) g hg).2
  have hC : ∀ g, vC.ownBlock = some g → g < wx.heap.size := fun g hg => (Owns.lt (show Owns _ _ _ _ _ _ _ from h.oC) g hg).2
  have hown : OwnF w' w0.heap.size v' L := by
    unfold OwnF Owns
    rw [← hn]
    simpa using h1
  obtain ⟨P, e, rfl, -⟩ := Owns.shape (show Owns _ _ _ _ _ _ _ from hown)
  exact hk P _ e w' ⟨hown, Owns.grown_ (show Owns _ _ _ _ _ _ _ from h.oB) h2 (fun g hg e => h.dAB g e.symm hg), Owns.grown_ (show Owns _ _ _ _ _ _ _ from h.oC) h2 (fun g hg e => h.dAC g e.symm hg), h.bl.grown_ h2 (fun g hg => (World.ownsRow.lt hO' g hg).1), fun g hg hg2 => by
    rcases h4 with e | e
    · exact h.dAB g (e.symm.trans hg) hg2
    · rw [e] at hg; have hgg : wx.heap.size = g := Option.some.inj hg; have := hB g hg2; omega, fun g hg hg2 => by
    rcases h4 with e | e
    · exact h.dAC g (e.symm.trans hg) hg2
    · rw [e] at hg; have hgg : wx.heap.size = g := Option.some.inj hg; have := hC g hg2; omega, h.dBC⟩
theorem In3.buildB {w0 wx : World} {vA : Value} {vC : Value} {LA : List Fl} {LC : List Dp} (h : In3 w0 wx vA nilV vC LA [] LC) : In3 w0 (wx.alloc (.cells #[] 89)) vA (.slice (some ⟨wx.heap.size, 0, none⟩) 0 0) vC LA [] LC := by
  have hb : Bl wx (wx.alloc (.cells #[] 89)) := (Bl.refl wx).alloc_ _
  have hA : ∀ g, vA.ownBlock = some g → g < wx.heap.size := fun g hg => (Owns.lt (show Owns _ _ _ _ _ _ _ from h.oA) g hg).2
  have hC : ∀ g, vC.ownBlock = some g → g < wx.heap.size := fun g hg => (Owns.lt (show Owns _ _ _ _ _ _ _ from h.oC) g hg).2
  exact ⟨h.oA.bl hb, World.ownsRow_made (base := w0.heap.size) (e := 89) (size := 2) wx #[] 0 h.bl.size (by unfold maxLen; omega) rfl, h.oC.bl hb, h.bl.trans_ hb, (fun g hg hg2 => by have hgg : wx.heap.size = g := Option.some.inj hg2; have := hA g hg; omega), h.dAC, (fun g hg hg2 => by have hgg : wx.heap.size = g := Option.some.inj hg; have := hC g hg2; omega)⟩
theorem In3.stepB {ops : Array Oper} {o : Oper} {a : Act} {K : Act → World → Prop} {Q : Exit → Act → World → Prop} {E : Prop} {w0 wx : World} {vB : Value} {vA : Value} {vC : Value} {LA : List Fl} {LC : List Dp} (hgd : o.guard = none) (s x : Operand)
    (ho : o.op = .call { callee := .builtin .append, args := #[s, x], argTypes := #[28, 28] }) (h : In3 w0 wx vA vB vC LA [] LC) (hs : a.eval s = vB) {A : Option Addr} {n c : Nat} {L : List Fl} (hx : a.eval x = .slice A n c)
    (hn : n = L.length) (hm : n ≤ 1048576) (H : FilesAt w0 w0.heap.size A L)
    (hk : ∀ (P : Option Addr) (k e : Nat) w', In3 w0 w' vA (.slice P k e) vC LA L LC → K (a.put o.dst (.slice P k e)) w') : if Region.wanted o (yielded ops a.tmps) = true then Oper.wp Try.prog o a wx K Q else E := by
  have hw : Region.wanted o (yielded ops a.tmps) = true := by simp [Region.wanted, hgd]
  rw [if_pos hw]
  obtain ⟨i0, hi, hz0, hz1, hz2⟩ := info_parts infoFile
  have hO' : wx.ownsRow w0.heap.size 89 2 vB 0 [] := h.oB
  have hr : Reads wx wx.heap.size 2 A n (csE encF L) := reads_of_cells (H.bl h.bl) (by rw [csE_length encF_len, hn]) (by omega)
  refine wp_append_any wx s x _ ho w0.heap.size 89 i0 _ 2 32 Try.underlying28 hi hz0 hz1 hz2 rfl (by decide) vB 0 [] hs hO' wx.heap.size A n c (csE encF L) hx hr (csE_one encF_one L) (by unfold maxLen; omega) (by omega) h.bl.size ?_
  intro v' w' h1 h2 h4
  have hA : ∀ g, vA.ownBlock = some g → g < wx.heap.size := fun g hg => (Owns.lt (show Owns _ _ _ _ _ _ _ from h.oA) g hg).2
  have hC : ∀ g, vC.ownBlock = some g → g < wx.heap.size := fun g hg => (Owns.lt (show Owns _ _ _ _ _ _ _ from h.oC) g hg).2
  have hown : OwnF w' w0.heap.size v' L := by
    unfold OwnF Owns
    rw [← hn]
    simpa using h1
  obtain ⟨P, e, rfl, -⟩ := Owns.shape (show Owns _ _ _ _ _ _ _ from hown)
  exact hk P _ e w' ⟨Owns.grown_ (show Owns _ _ _ _ _ _ _ from h.oA) h2 (fun g hg e => h.dAB g hg e.symm), hown, Owns.grown_ (show Owns _ _ _ _ _ _ _ from h.oC) h2 (fun g hg e => h.dBC g e.symm hg), h.bl.grown_ h2 (fun g hg => (World.ownsRow.lt hO' g hg).1), fun g hg hg2 => by
    rcases h4 with e | e
    · exact h.dAB g hg (e.symm.trans hg2)
    · rw [e] at hg2; have hgg : wx.heap.size = g := Option.some.inj hg2; have := hA g hg; omega, h.dAC, fun g hg hg2 => by
    rcases h4 with e | e
    · exact h.dBC g (e.symm.trans hg) hg2
    · rw [e] at hg; have hgg : wx.heap.size = g := Option.some.inj hg; have := hC g hg2; omega⟩
theorem In3.buildC {w0 wx : World} {vA : Value} {vB : Value} {LA : List Fl} {LB : List Fl} (h : In3 w0 wx vA vB nilV LA LB []) : In3 w0 (wx.alloc (.cells #[] 45)) vA vB (.slice (some ⟨wx.heap.size, 0, none⟩) 0 0) LA LB [] := by
  have hb : Bl wx (wx.alloc (.cells #[] 45)) := (Bl.refl wx).alloc_ _
  have hA : ∀ g, vA.ownBlock = some g → g < wx.heap.size := fun g hg => (Owns.lt (show Owns _ _ _ _ _ _ _ from h.oA) g hg).2
  have hB : ∀ g, vB.ownBlock = some g → g < wx.heap.size := fun g hg => (Owns.lt (show Owns _ _ _ _ _ _ _ from h.oB) g hg).2
  exact ⟨h.oA.bl hb, h.oB.bl hb, World.ownsRow_made (base := w0.heap.size) (e := 45) (size := 4) wx #[] 0 h.bl.size (by unfold maxLen; omega) rfl, h.bl.trans_ hb, h.dAB, (fun g hg hg2 => by have hgg : wx.heap.size = g := Option.some.inj hg2; have := hA g hg; omega), (fun g hg hg2 => by have hgg : wx.heap.size = g := Option.some.inj hg2; have := hB g hg; omega)⟩
theorem In3.stepC {ops : Array Oper} {o : Oper} {a : Act} {K : Act → World → Prop} {Q : Exit → Act → World → Prop} {E : Prop} {w0 wx : World} {vC : Value} {vA : Value} {vB : Value} {LA : List Fl} {LB : List Fl} (hgd : o.guard = none) (s x : Operand)
    (ho : o.op = .call { callee := .builtin .append, args := #[s, x], argTypes := #[29, 29] }) (h : In3 w0 wx vA vB vC LA LB []) (hs : a.eval s = vC) {A : Option Addr} {n c : Nat} {L : List Dp} (hx : a.eval x = .slice A n c)
    (hn : n = L.length) (hm : n ≤ 1048576) (H : OpsAt w0 w0.heap.size A L)
    (hk : ∀ (P : Option Addr) (k e : Nat) w', In3 w0 w' vA vB (.slice P k e) LA LB L → K (a.put o.dst (.slice P k e)) w') : if Region.wanted o (yielded ops a.tmps) = true then Oper.wp Try.prog o a wx K Q else E := by
  have hw : Region.wanted o (yielded ops a.tmps) = true := by simp [Region.wanted, hgd]
  rw [if_pos hw]
  obtain ⟨i0, hi, hz0, hz1, hz2⟩ := info_parts infoDOp
  have hO' : wx.ownsRow w0.heap.size 45 4 vC 0 [] := h.oC
  have hr : Reads wx wx.heap.size 4 A n (csE encO L) := reads_of_cells (H.bl h.bl) (by rw [csE_length encO_len, hn]) (by omega)
  refine wp_append_any wx s x _ ho w0.heap.size 45 i0 _ 4 56 Try.underlying29 hi hz0 hz1 hz2 rfl (by decide) vC 0 [] hs hO' wx.heap.size A n c (csE encO L) hx hr (csE_one encO_one L) (by unfold maxLen; omega) (by omega) h.bl.size ?_
  intro v' w' h1 h2 h4
  have hA : ∀ g, vA.ownBlock = some g → g < wx.heap.size := fun g hg => (Owns.lt (show Owns _ _ _ _ _ _ _ from h.oA) g hg).2
  have hB : ∀ g, vB.ownBlock = some g → g < wx.heap.size := fun g hg => (Owns.lt (show Owns _ _ _ _ _ _ _ from h.oB) g hg).2
  have hown : OwnO w' w0.heap.size v' L := by
    unfold OwnO Owns
    rw [← hn]
    simpa using h1
  obtain ⟨P, e, rfl, -⟩ := Owns.shape (show Owns _ _ _ _ _ _ _ from hown)
  exact hk P _ e w' ⟨Owns.grown_ (show Owns _ _ _ _ _ _ _ from h.oA) h2 (fun g hg e => h.dAC g hg e.symm), Owns.grown_ (show Owns _ _ _ _ _ _ _ from h.oB) h2 (fun g hg e => h.dBC g hg e.symm), hown, h.bl.grown_ h2 (fun g hg => (World.ownsRow.lt hO' g hg).1), h.dAB, fun g hg hg2 => by
    rcases h4 with e | e
    · exact h.dAC g hg (e.symm.trans hg2)
    · rw [e] at hg2; have hgg : wx.heap.size = g := Option.some.inj hg2; have := hA g hg; omega, fun g hg hg2 => by
    rcases h4 with e | e
    · exact h.dBC g hg (e.symm.trans hg2)
    · rw [e] at hg2; have hgg : wx.heap.size = g := Option.some.inj hg2; have := hB g hg; omega⟩

end Go.Proofs.Ytipmjgciaalmbaa
