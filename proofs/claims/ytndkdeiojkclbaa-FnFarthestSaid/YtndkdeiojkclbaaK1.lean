/-
  What is proved here: contracts of the laws' small functions on slices of numbers. No conditions beyond those that each theorem states.
-/
import Derived.Test.YtndkdeiojkclbaaW4
set_option linter.unusedSimpArgs false
set_option linter.unusedVariables false
namespace Go.Proofs.Ytndkdeiojkclbaa
open Go.RowKit

theorem infoInt : (Try.prog.info? 2).map (fun i => (i.zero, i.size, i.bytes)) = some (some (.int .i64 0), 1, 8) := by kernel_rfl

/-- The slice at A reads as the numbers V, below block B. -/
def IntsAt (w : World) (B : Nat) (A : Option Addr) (V : List Int) : Prop := CellsAt w B A (csI V)
theorem IntsAt.cell {w : World} {B : Nat} {A : Option Addr} {V : List Int} (h : IntsAt w B A V) (h0 : 0 < V.length) :
    ∃ g off, A = some ⟨g, off, none⟩ ∧ g < B ∧ ∀ k (hk : k < V.length), w.cell? ⟨g, off + k, none⟩ = some (.int .i64 V[k]) := by
  obtain ⟨g, off, e, hg, hc⟩ := h (by rw [csI_len]; omega)
  exact ⟨g, off, e, hg, fun k hk => by rw [hc k (by rw [csI_len]; exact hk), csI_at]⟩
theorem IntsAt.bl {w w' : World} {A : Option Addr} {V : List Int} (h : IntsAt w w.heap.size A V) (hb : Bl w w') : IntsAt w' w'.heap.size A V := CellsAt.bl h hb
theorem IntsAt.bl' {w w' : World} {B : Nat} {A : Option Addr} {V : List Int} (h : IntsAt w B A V) (hB : B ≤ w.heap.size) (hb : Bl w w') : IntsAt w' B A V := CellsAt.bl' h hB hb
theorem IntsAt.more {w : World} {B B' : Nat} {A : Option Addr} {V : List Int} (h : IntsAt w B A V) (hB : B ≤ B') : IntsAt w B' A V := CellsAt.more h hB
theorem IntsAt.grown_ {w w' : World} {B : Nat} {A : Option Addr} {V : List Int} {row : Option Nat} (h : IntsAt w B A V) (hB : B ≤ w.heap.size) (hg : w.grownBy w' row)
    (hne : ∀ g, blockOf A = some g → g < B → some g ≠ row) : IntsAt w' B A V := CellsAt.grown_ h hB hg hne
/-- The value v owns the numbers V, in blocks from B on. -/
def OwnN (w : World) (B : Nat) (v : Value) (V : List Int) : Prop := Owns 2 1 w B v V.length (csI V)
theorem OwnN.nil_ (w : World) (B : Nat) : OwnN w B (.slice none 0 0) [] := Owns.nil_ _ _ _ _
theorem OwnN.bl {w w' : World} {B : Nat} {v : Value} {V : List Int} (h : OwnN w B v V) (hb : Bl w w') : OwnN w' B v V := Owns.bl h hb
theorem OwnN.low {w : World} {B B' : Nat} {v : Value} {V : List Int} (h : OwnN w B' v V) (hB : B ≤ B') : OwnN w B v V := Owns.low h hB
theorem OwnN.shape {w : World} {B : Nat} {v : Value} {V : List Int} (h : OwnN w B v V) :
    ∃ A c, v = .slice A V.length c ∧ V.length ≤ c ∧ IntsAt w w.heap.size A V ∧ RowsW 2 1 w A V.length ∧ ∀ g, blockOf A = some g → B ≤ g ∧ g < w.heap.size := by
  have h' := h
  obtain ⟨A, c, rfl, hc, h1, h2, h3⟩ := Owns.shape h
  refine ⟨A, c, rfl, ?_, h1, h2, Owns.lt_ h⟩
  rcases h'.2 with ⟨e, h0⟩ | ⟨g, cap, cur, e, _, _, hnc, _⟩
  · omega
  · injection e with e1 e2 e3
    omega
/-- A new list of numbers is left. -/
def NumsMade (V : List Int) (w : World) (e : Ending) (w' : World) : Prop := ∃ v, e = .returned v ∧ OwnN w' w.heap.size v V ∧ Bl w w'

-- (eqInt64S_yes left out)

-- (markInt64S_any left out)

-- (heldInt64S_any left out)

theorem make_ints (n : Nat) (hn : n ≤ 1048576) (w : World) : (Instr.makeSlice 27 (.int .i64 (n : Int)) (.int .i64 (n : Int))).run Try.prog w = .ok (.slice (some ⟨w.heap.size, 0, none⟩) n n) (w.alloc (.cells (madeCells #[.int .i64 0] (n * 1)) 2)) := by
  obtain ⟨i0, hi, hz0, hz1, hz2⟩ := info_parts infoInt
  have h := run_make_rowN (P := Try.prog) 27 2 i0 (.int .i64 0) Try.underlying27 hi hz0 .i64 .i64 n n (Nat.le_refl _) (by rw [hz2]; omega) (by omega) w
  rw [hz1] at h
  exact h

-- (szInt64S_any left out)

/-- What the marks leave. -/
def MarkN (A : Option Addr) (n : Nat) (k : Int) (w : World) (e : Ending) (w' : World) : Prop :=
  e = .returned (.int .i64 (k + n)) ∧ Marks w' A n k ∧ w.grownBy w' (blockOf A) ∧ RowsW 2 1 w' A n
-- (markN_any left out)

end Go.Proofs.Ytndkdeiojkclbaa
