/-
  What is proved here: toArcS and toGraph make new memory that reads as what they are handed. No conditions beyond those that each theorem states.
-/
import Derived.Test.YtndkdeiojkclbaaA3
import Derived.Laws.MakeOwn
import Derived.Deep.OwnRows
import Derived.Laws.OwnMore
set_option linter.unusedSimpArgs false
set_option linter.unusedVariables false
namespace Go.Proofs.Ytndkdeiojkclbaa
open Go.RowKit

theorem infoArc : (Try.prog.info? 52).map (fun i => (i.zero, i.size, i.bytes)) = some (some (.agg #[.int .i64 0, .int .i64 0, .int .i64 0]), 3, 24) := by kernel_rfl


/-- The cells of n new arcs. -/
def mk3 (n : Nat) : Array Value := madeCells (Value.agg #[.int .i64 0, .int .i64 0, .int .i64 0]).cells (n * 3)
theorem size_mk3 (n : Nat) : (mk3 n).size = n * 3 := size_madeCells _ _
theorem mk3_row (w : World) (n : Nat) (t : TypeId) : (w.alloc (.cells (mk3 n) t)).rowIs w.heap.size t (n * 3) (fun i => (mk3 n).getD i undef) := by
  have h := World.rowIs_alloc w (mk3 n) t (fun i => (mk3 n).getD i undef) (fun i hi => by simp [Array.getD, hi])
  rwa [size_mk3] at h


theorem make_arcs (n : Nat) (hn : n ≤ 1048576) (w : World) : (Instr.makeSlice 24 (.int .i64 (n : Int)) (.int .i64 (n : Int))).run Try.prog w = .ok (.slice (some ⟨w.heap.size, 0, none⟩) n n) (w.alloc (.cells (mk3 n) 52)) := by
  obtain ⟨i0, hi, hz0, hz1, hz2⟩ := info_parts infoArc
  have h := run_make_rowN (P := Try.prog) 24 52 i0 _ Try.underlying24 hi hz0 .i64 .i64 n n (Nat.le_refl _) (by rw [hz2]; omega) (by omega) w
  rw [hz1] at h
  exact h

-- (toArcS_any left out)


theorem ArcsAt.set {w : World} {B g off : Nat} {L : List Arc3} (h : ArcsAt w B (some ⟨g, off, none⟩) L) {p : Addr} (hp : p.block ≠ g) (v : Value) : ArcsAt (w.setCell p v) B (some ⟨g, off, none⟩) L := fun h0 => by
  obtain ⟨g', off', e, hg, hc⟩ := h h0
  injection e with e
  injection e with e1 e2 e3
  subst e1; subst e2
  refine ⟨g, off, rfl, hg, fun k hk => ?_⟩
  obtain ⟨a, b, c⟩ := hc k hk
  refine ⟨?_, ?_, ?_⟩
  · rw [World.cell?_setCell_other _ _ _ _ (fun e => hp (by rw [e]))]; exact a
  · rw [World.cell?_setCell_other _ _ _ _ (fun e => hp (by rw [e]))]; exact b
  · rw [World.cell?_setCell_other _ _ _ _ (fun e => hp (by rw [e]))]; exact c
theorem ArcsAt.size_ {w w' : World} {A : Option Addr} {L : List Arc3} (h : ArcsAt w' w.heap.size A L) (e : w.heap.size = w'.heap.size) : ArcsAt w' w'.heap.size A L := e ▸ h

/-- What toGraph leaves. -/
def GraphMade (N : Int) (n : Nat) (L : List Arc3) (w : World) (e : Ending) (w' : World) : Prop :=
  ∃ g, e = .returned (.agg #[.int .i64 N, .slice (some ⟨g, 0, none⟩) n n]) ∧ ArcsAt w' w'.heap.size (some ⟨g, 0, none⟩) L ∧ w.heap.size ≤ g ∧ Bl w w'

-- (toGraph_any left out)

end Go.Proofs.Ytndkdeiojkclbaa
