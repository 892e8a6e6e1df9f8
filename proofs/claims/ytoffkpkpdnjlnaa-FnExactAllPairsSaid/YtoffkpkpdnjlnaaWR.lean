/-
  What is proved here: words on memory that reads as a list of lists of numbers. No conditions beyond those that each theorem states.
-/
import Derived.Test.YtoffkpkpdnjlnaaK2
set_option linter.unusedSimpArgs false
set_option linter.unusedVariables false
namespace Go.Proofs.Ytoffkpkpdnjlnaa
open Go.RowKit

/-- From A on slices lie one behind the other, and each reads as its list of numbers; all of them lie in blocks from b on, below B. -/
def RowsAt (w : World) (b B : Nat) (A : Option Addr) (R : List (List Int)) : Prop :=
  0 < R.length → ∃ g off, A = some ⟨g, off, none⟩ ∧ (b ≤ g ∧ g < B) ∧ ∀ j (h : j < R.length), ∃ A' c', w.cell? ⟨g, off + j, none⟩ = some (.slice A' R[j].length c') ∧ IntsAt w B A' R[j] ∧ ∀ g', blockOf A' = some g' → 0 < R[j].length → b ≤ g'
theorem RowsAt.keep {w w' : World} {b B : Nat} {A : Option Addr} {R : List (List Int)} (h : RowsAt w b B A R) (hk : ∀ k o, b ≤ k → k < B → w'.cell? ⟨k, o, none⟩ = w.cell? ⟨k, o, none⟩) : RowsAt w' b B A R := fun h0 => by
  obtain ⟨g, off, e, hg, hc⟩ := h h0
  refine ⟨g, off, e, hg, fun j hj => ?_⟩
  obtain ⟨A', c', h1, h2, h3⟩ := hc j hj
  refine ⟨A', c', by rw [hk _ _ hg.1 hg.2]; exact h1, fun hp => ?_, h3⟩
  obtain ⟨g', off', rfl, hg', hc'⟩ := h2 hp
  exact ⟨g', off', rfl, hg', fun i hi => by rw [hk _ _ (h3 g' rfl (by rw [csI_len] at hp; exact hp)) hg']; exact hc' i hi⟩
theorem RowsAt.more {w : World} {b B B' : Nat} {A : Option Addr} {R : List (List Int)} (h : RowsAt w b B A R) (hB : B ≤ B') : RowsAt w b B' A R := fun h0 => by
  obtain ⟨g, off, e, hg, hc⟩ := h h0
  refine ⟨g, off, e, ⟨hg.1, by omega⟩, fun j hj => ?_⟩
  obtain ⟨A', c', h1, h2, h3⟩ := hc j hj
  exact ⟨A', c', h1, h2.more hB, h3⟩
theorem RowsAt.low {w : World} {b b' B : Nat} {A : Option Addr} {R : List (List Int)} (h : RowsAt w b B A R) (hb : b' ≤ b) : RowsAt w b' B A R := fun h0 => by
  obtain ⟨g, off, e, hg, hc⟩ := h h0
  refine ⟨g, off, e, ⟨by omega, hg.2⟩, fun j hj => ?_⟩
  obtain ⟨A', c', h1, h2, h3⟩ := hc j hj
  exact ⟨A', c', h1, h2, fun g' e' hp => Nat.le_trans hb (h3 g' e' hp)⟩
theorem RowsAt.bl {w w' : World} {b : Nat} {A : Option Addr} {R : List (List Int)} (h : RowsAt w b w.heap.size A R) (hb : Bl w w') : RowsAt w' b w'.heap.size A R :=
  (h.keep fun k o _ hk => (bcell hb).1 k o hk).more hb.size
theorem RowsAt.bl' {w w' : World} {b B : Nat} {A : Option Addr} {R : List (List Int)} (h : RowsAt w b B A R) (hB : B ≤ w.heap.size) (hb : Bl w w') : RowsAt w' b B A R :=
  h.keep fun k o _ hk => (bcell hb).1 k o (by omega)
theorem RowsAt.nil_ (w : World) (b B : Nat) (A : Option Addr) : RowsAt w b B A [] := fun h => absurd h (by simp)
theorem RowsAt.turn {w w' : World} {b B : Nat} {A : Option Addr} {R : List (List Int)} {S : Nat → Prop} (h : RowsAt w b B A R) (hB : B ≤ w.heap.size) (k : Turn S w w') (hS : ∀ g, b ≤ g → g < B → ¬ S g) : RowsAt w' b B A R :=
  h.keep fun g o h1 h2 => k.cell (by omega) (hS g h1 h2) o
/-- One of the rows. -/
theorem RowsAt.row {w : World} {b B : Nat} {A : Option Addr} {R : List (List Int)} (h : RowsAt w b B A R) {j : Nat} (hj : j < R.length) :
    ∃ g off A' c', A = some ⟨g, off, none⟩ ∧ g < B ∧ w.cell? ⟨g, off + j, none⟩ = some (.slice A' R[j].length c') ∧ IntsAt w B A' R[j] := by
  obtain ⟨g, off, e, hg, hc⟩ := h (by omega)
  obtain ⟨A', c', h1, h2, -⟩ := hc j hj
  exact ⟨g, off, A', c', e, hg.2, h1, h2⟩

end Go.Proofs.Ytoffkpkpdnjlnaa
