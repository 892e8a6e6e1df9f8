/-
  What is proved here: Sync, on both sides; the program's Sync; copies of disks; an op behind others. No conditions beyond those that each theorem states.
-/
import Derived.Test.YtgfmgmcpfefmkaaV7G10
set_option linter.unusedSimpArgs false
set_option linter.unusedVariables false
namespace Go.Proofs.Ytgfmgmcpfefmkaa
open Go.RowKit

/-- A disk of its own. -/
def DiskNew (LA LB : List Fl) (LC : List Dp) (w : World) (e : Ending) (w' : World) : Prop := ∃ vA vB vC, e = .returned (.agg #[vA, vB, vC]) ∧ In3 w w' vA vB vC LA LB LC
theorem In3.low {w w0 wx : World} {vA vB vC : Value} {LA LB : List Fl} {LC : List Dp} (h : In3 w0 wx vA vB vC LA LB LC) (hw : Bl w w0) : In3 w wx vA vB vC LA LB LC :=
  ⟨h.oA.low hw.size, h.oB.low hw.size, h.oC.low hw.size, hw.trans_ h.bl, h.dAB, h.dAC, h.dBC⟩
theorem In3.blx {w0 wx wy : World} {vA vB vC : Value} {LA LB : List Fl} {LC : List Dp} (h : In3 w0 wx vA vB vC LA LB LC) (hb : Bl wx wy) : In3 w0 wy vA vB vC LA LB LC :=
  ⟨h.oA.bl hb, h.oB.bl hb, h.oC.bl hb, h.bl.trans_ hb, h.dAB, h.dAC, h.dBC⟩
theorem owns_setLow {t : TypeId} {s : Nat} {w : World} {B : Nat} {v : Value} {n : Nat} {vs : List Value} (h : Owns t s w B v n vs) {b : Nat} (hb : b < B) (o : Nat) (u : Value) : Owns t s (w.setCell ⟨b, o, none⟩ u) B v n vs :=
  Owns.setOther h (fun g hg => by
    have := (Owns.lt h g hg).1
    show g ≠ b
    omega) u
theorem In3.fin {w w2 wx : World} {vA vB vC : Value} {LA LB : List Fl} {LC : List Dp} (h : In3 w2 wx vA vB vC LA LB LC) (hw : Bl w w2) {b : Nat} (h1 : w.heap.size ≤ b) (h2 : b < w2.heap.size) (x y z : Value) :
    In3 w (((wx.setCell ⟨b, 0, none⟩ x).setCell ⟨b, 1, none⟩ y).setCell ⟨b, 2, none⟩ z) vA vB vC LA LB LC :=
  ⟨Owns.low (owns_setLow (owns_setLow (owns_setLow (show Owns _ _ _ _ _ _ _ from h.oA) h2 0 x) h2 1 y) h2 2 z) hw.size,
   Owns.low (owns_setLow (owns_setLow (owns_setLow (show Owns _ _ _ _ _ _ _ from h.oB) h2 0 x) h2 1 y) h2 2 z) hw.size,
   Owns.low (owns_setLow (owns_setLow (owns_setLow (show Owns _ _ _ _ _ _ _ from h.oC) h2 0 x) h2 1 y) h2 2 z) hw.size,
   Bl.set_ (Bl.set_ (Bl.set_ (hw.trans_ h.bl) h1 _) h1 _) h1 _, h.dAB, h.dAC, h.dBC⟩


end Go.Proofs.Ytgfmgmcpfefmkaa

set_option linter.unusedSimpArgs false
set_option linter.unusedVariables false
namespace Go.Proofs.Ytgfmgmcpfefmkaa
open Go.RowKit

theorem In3.opened' {w0 wx : World} {vA vB vC : Value} {LA LB : List Fl} {LC : List Dp} (h : In3 w0 wx vA vB vC LA LB LC) : ∃ A1 A2 A3 n1 c1 n2 c2 n3 c3, (vA = .slice A1 n1 c1 ∧ vB = .slice A2 n2 c2 ∧ vC = .slice A3 n3 c3) ∧ n1 = LA.length := by
  obtain ⟨A1, c1, rfl, -⟩ := Owns.shape (show Owns _ _ _ _ _ _ _ from h.oA)
  obtain ⟨A2, c2, rfl, -⟩ := Owns.shape (show Owns _ _ _ _ _ _ _ from h.oB)
  obtain ⟨A3, c3, rfl, -⟩ := Owns.shape (show Owns _ _ _ _ _ _ _ from h.oC)
  exact ⟨A1, A2, A3, _, c1, _, c2, _, c3, ⟨rfl, rfl, rfl⟩, rfl⟩



end Go.Proofs.Ytgfmgmcpfefmkaa

set_option linter.unusedSimpArgs false
set_option linter.unusedVariables false
namespace Go.Proofs.Ytgfmgmcpfefmkaa
open Go.RowKit

/-- A list of one's own, and nothing else has turned. -/
def OpsNew (L : List Dp) (w : World) (e : Ending) (w' : World) : Prop := ∃ v, e = .returned v ∧ OwnO w' w.heap.size v L ∧ Bl w w'
set_option maxRecDepth 100000 in
set_option maxHeartbeats 1000000 in
theorem cloneO_any (A : Option Addr) (n c : Nat) (L : List Dp) (hn : n = L.length) (w : World) (hm : n ≤ 1048576) (H1 : OpsAt w w.heap.size A L) :
    Calls Try.prog 85 #[.slice A n c] w (OpsNew L w) := by
  have K1 := Lib.hid H1
  have HN := Lib.hid hn
  have qT : ∀ (w : World) (a : Option Addr) (n c n' c' : Nat), (binOp .eql 29 (.slice a n c) (.slice none n' c')).run Try.prog w = .ok (.bool a.isNone) w := fun w a n c n' c' => Lib.run_eql_slice_nil w _ _ a n c n' c' Try.underlying29
  clear H1 hn
  cases A with
  | none =>
    have hL : L = [] := by
      cases L with
      | nil => rfl
      | cons f r =>
        obtain ⟨g, off, e, _⟩ := K1.out.cell (by simp)
        cases e
    subst hL
    go_enter Try.func85, Try.ntmps85
    go_wp2
    go_ret
    exact ⟨_, rfl, Owns.nil_ _ _ _ _, Bl.refl w⟩
  | some a =>
    go_enter Try.func85, Try.ntmps85
    go_wp2_with (at_builtin; refine wp_copy_DOp rfl (.tmp 5) (.tmp 6) rfl (w.alloc (.cells #[] 51)) w.heap.size _ (some a) n c L rfl rfl (World.ownsRow_made (base := w.heap.size) (e := 51) (size := 4) w #[] 0 (Nat.le_refl _) (by unfold maxLen; omega) rfl) (by simp) HN.out (by omega) (K1.out.bl (Bl.alloc_ (Bl.refl _) _)) ?_)
    intro v' w' hv' hb'
    have V := Lib.hid hv'
    have B2 := Lib.hid (hb' w ((Bl.refl w).alloc_ _) (Nat.le_refl _))
    clear hv' hb'
    go_wp2
    go_ret
    exact ⟨_, rfl, V.out, B2.out⟩

theorem In3.putA {w0 wx w' : World} {vA vB vC v : Value} {LA LB : List Fl} {LC : List Dp} {L : List Fl} (h : In3 w0 wx vA vB vC LA LB LC) (hv : OwnF w' wx.heap.size v L) (hb : Bl wx w') : In3 w0 w' v vB vC L LB LC := by
  have hn : ∀ g, v.ownBlock = some g → wx.heap.size ≤ g := fun g hg => (Owns.lt (show Owns _ _ _ _ _ _ _ from hv) g hg).1
  have hB : ∀ g, vB.ownBlock = some g → g < wx.heap.size := fun g hg => (Owns.lt (show Owns _ _ _ _ _ _ _ from h.oB) g hg).2
  have hC : ∀ g, vC.ownBlock = some g → g < wx.heap.size := fun g hg => (Owns.lt (show Owns _ _ _ _ _ _ _ from h.oC) g hg).2
  exact ⟨hv.low h.bl.size, h.oB.bl hb, h.oC.bl hb, h.bl.trans_ hb, (fun g hg hg2 => by have := hn g hg; have := hB g hg2; omega), (fun g hg hg2 => by have := hn g hg; have := hC g hg2; omega), h.dBC⟩
theorem In3.putB {w0 wx w' : World} {vA vB vC v : Value} {LA LB : List Fl} {LC : List Dp} {L : List Fl} (h : In3 w0 wx vA vB vC LA LB LC) (hv : OwnF w' wx.heap.size v L) (hb : Bl wx w') : In3 w0 w' vA v vC LA L LC := by
  have hn : ∀ g, v.ownBlock = some g → wx.heap.size ≤ g := fun g hg => (Owns.lt (show Owns _ _ _ _ _ _ _ from hv) g hg).1
  have hA : ∀ g, vA.ownBlock = some g → g < wx.heap.size := fun g hg => (Owns.lt (show Owns _ _ _ _ _ _ _ from h.oA) g hg).2
  have hC : ∀ g, vC.ownBlock = some g → g < wx.heap.size := fun g hg => (Owns.lt (show Owns _ _ _ _ _ _ _ from h.oC) g hg).2
  exact ⟨h.oA.bl hb, hv.low h.bl.size, h.oC.bl hb, h.bl.trans_ hb, (fun g hg hg2 => by have := hn g hg2; have := hA g hg; omega), h.dAC, (fun g hg hg2 => by have := hn g hg; have := hC g hg2; omega)⟩
theorem In3.putC {w0 wx w' : World} {vA vB vC v : Value} {LA LB : List Fl} {LC : List Dp} {L : List Dp} (h : In3 w0 wx vA vB vC LA LB LC) (hv : OwnO w' wx.heap.size v L) (hb : Bl wx w') : In3 w0 w' vA vB v LA LB L := by
  have hn : ∀ g, v.ownBlock = some g → wx.heap.size ≤ g := fun g hg => (Owns.lt (show Owns _ _ _ _ _ _ _ from hv) g hg).1
  have hA : ∀ g, vA.ownBlock = some g → g < wx.heap.size := fun g hg => (Owns.lt (show Owns _ _ _ _ _ _ _ from h.oA) g hg).2
  have hB : ∀ g, vB.ownBlock = some g → g < wx.heap.size := fun g hg => (Owns.lt (show Owns _ _ _ _ _ _ _ from h.oB) g hg).2
  exact ⟨h.oA.bl hb, h.oB.bl hb, hv.low h.bl.size, h.bl.trans_ hb, h.dAB, (fun g hg hg2 => by have := hn g hg2; have := hA g hg; omega), (fun g hg hg2 => by have := hn g hg2; have := hB g hg; omega)⟩

theorem In3.snocRun {w0 wx : World} {vA vB vC : Value} {LA LB : List Fl} {LC : List Dp} (h : In3 w0 wx vA vB vC LA LB LC) (f : Dp) (b : Nat) (ty : TypeId) (hl : LC.length ≤ 1048575)
    (hc : ∀ j u, (encO f)[j]? = some u → wx.cell? ⟨b, j, none⟩ = some u) :
    ∃ (P : Option Addr) (k e : Nat) (w' : World), (Builtin.append_ #[29, 29] ty #[vC, .slice (some ⟨b, 0, none⟩) 1 1]).run Try.prog wx = .ok (.slice P k e) w' ∧ In3 w0 w' vA vB (.slice P k e) LA LB (LC ++ [f]) ∧ wx.grownBy w' vC.ownBlock ∧ ∀ g, (Value.slice P k e).ownBlock = some g → vC.ownBlock = some g ∨ g = wx.heap.size := by
  obtain ⟨i0, hi, hz0, hz1, hz2⟩ := info_parts infoDOp
  have hO' : wx.ownsRow w0.heap.size 51 4 vC LC.length (csE encO LC) := h.oC
  obtain ⟨v', w', hrun, h1, h2, -, h4⟩ := run_append_own_at (P := Try.prog) wx w0.heap.size 29 ty 51 i0 _ 4 56 Try.underlying29 hi hz0 hz1 hz2 rfl (by decide) vC LC.length (csE encO LC) hO' ⟨b, 0, none⟩ 1 1 (encO f) rfl
    (fun j u hj => by rw [Go.WideShapes.add_plain, Nat.zero_add]; exact hc j u hj) (encO_one f) (by unfold maxLen; omega) (by omega) h.bl.size
  have hown : OwnO w' w0.heap.size v' (LC ++ [f]) := own_snocDOp h1
  obtain ⟨P, e, rfl, -⟩ := Owns.shape (show Owns _ _ _ _ _ _ _ from hown)
  have hA : ∀ g, vA.ownBlock = some g → g < wx.heap.size := fun g hg => (Owns.lt (show Owns _ _ _ _ _ _ _ from h.oA) g hg).2
  have hB : ∀ g, vB.ownBlock = some g → g < wx.heap.size := fun g hg => (Owns.lt (show Owns _ _ _ _ _ _ _ from h.oB) g hg).2
  refine ⟨P, _, e, w', hrun, ⟨Owns.grown_ (show Owns _ _ _ _ _ _ _ from h.oA) h2 (fun g hg e => h.dAC g hg e.symm), Owns.grown_ (show Owns _ _ _ _ _ _ _ from h.oB) h2 (fun g hg e => h.dBC g hg e.symm), hown,
    h.bl.grown_ h2 (fun g hg => (World.ownsRow.lt hO' g hg).1), h.dAB, (fun g hg hg2 => ?_), (fun g hg hg2 => ?_)⟩, h2, fun g hg => ?_⟩
  · rcases h4 with e | e
    · exact h.dAC g hg (e.symm.trans hg2)
    · rw [e] at hg2; have hgg : wx.heap.size = g := Option.some.inj hg2; have := hA g hg; omega
  · rcases h4 with e | e
    · exact h.dBC g hg (e.symm.trans hg2)
    · rw [e] at hg2; have hgg : wx.heap.size = g := Option.some.inj hg2; have := hB g hg; omega
  · rcases h4 with e | e
    · exact .inl (e.symm.trans hg)
    · rw [e] at hg; exact .inr (Option.some.inj hg).symm
theorem In3.stepSnoc {ops : Array Oper} {o : Oper} {a : Act} {K : Act → World → Prop} {Q : Exit → Act → World → Prop} {E : Prop} {w0 wx : World} {vA vB vC : Value} {LA LB : List Fl} {LC : List Dp} (hgd : o.guard = none) (s x : Operand)
    (ho : o.op = .call { callee := .builtin .append, args := #[s, x], argTypes := #[29, 29] }) (h : In3 w0 wx vA vB vC LA LB LC) (f : Dp) (b : Nat) (hs : a.eval s = vC) (hx : a.eval x = .slice (some ⟨b, 0, none⟩) 1 1) (hl : LC.length ≤ 1048575)
    (hc : ∀ j u, (encO f)[j]? = some u → wx.cell? ⟨b, j, none⟩ = some u)
    (hk : ∀ (P : Option Addr) (k e : Nat) w', In3 w0 w' vA vB (.slice P k e) LA LB (LC ++ [f]) → wx.grownBy w' vC.ownBlock → (∀ g, (Value.slice P k e).ownBlock = some g → vC.ownBlock = some g ∨ g = wx.heap.size) → K (a.put o.dst (.slice P k e)) w') : if Region.wanted o (yielded ops a.tmps) = true then Oper.wp Try.prog o a wx K Q else E := by
  have hw : Region.wanted o (yielded ops a.tmps) = true := by simp [Region.wanted, hgd]
  rw [if_pos hw]
  obtain ⟨P, k, e, w', hr, hI, hg, hx4⟩ := h.snocRun f b o.type hl hc
  unfold Oper.wp execOp
  simp only [ho, resolve, invoke, builtin, Sem.run_bind, Sem.run_pure, Result.andThen_ok, List.map_toArray, List.map_cons, List.map_nil, hs, hx, hr]
  exact hk P k e w' hI hg hx4
theorem In3.wpSnoc {ops : Array Oper} {rest : List Oper} {o : Oper} {a : Act} {Q : Exit → Act → World → Prop} {w0 wx : World} {vA vB vC : Value} {LA LB : List Fl} {LC : List Dp} (hgd : o.guard = none) (s x : Operand)
    (ho : o.op = .call { callee := .builtin .append, args := #[s, x], argTypes := #[29, 29] }) (h : In3 w0 wx vA vB vC LA LB LC) (f : Dp) (b : Nat) (hs : a.eval s = vC) (hx : a.eval x = .slice (some ⟨b, 0, none⟩) 1 1) (hl : LC.length ≤ 1048575)
    (hc : ∀ j u, (encO f)[j]? = some u → wx.cell? ⟨b, j, none⟩ = some u)
    (hk : ∀ (P : Option Addr) (k e : Nat) w', In3 w0 w' vA vB (.slice P k e) LA LB (LC ++ [f]) → wx.grownBy w' vC.ownBlock → (∀ g, (Value.slice P k e).ownBlock = some g → vC.ownBlock = some g ∨ g = wx.heap.size) → wpList Try.prog ops Q rest (a.put o.dst (.slice P k e)) w') : wpList Try.prog ops Q (o :: rest) a wx := by
  refine wpList_plain hgd fun K hK => ?_
  obtain ⟨P, k, e, w', hr, hI, hg, hx4⟩ := h.snocRun f b o.type hl hc
  unfold Oper.wp execOp
  simp only [ho, resolve, invoke, builtin, Sem.run_bind, Sem.run_pure, Result.andThen_ok, List.map_toArray, List.map_cons, List.map_nil, hs, hx, hr]
  exact hK _ _ (hk P k e w' hI hg hx4)

end Go.Proofs.Ytgfmgmcpfefmkaa
