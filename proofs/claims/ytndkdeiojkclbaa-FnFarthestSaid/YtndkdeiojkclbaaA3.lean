/-
  What is proved here: two slices of arcs that read as one list are told to be the same. No conditions beyond those that each theorem states.
-/
import Derived.Test.YtndkdeiojkclbaaA2
set_option linter.unusedSimpArgs false
set_option linter.unusedVariables false
namespace Go.Proofs.Ytndkdeiojkclbaa
open Go.RowKit

/-- An arc as three numbers: from, to, weight. -/
abbrev Arc3 := Int × Int × Int

/-- The slice at A reads as the list L of arcs, and lies below block B. -/
def ArcsAt (w : World) (B : Nat) (A : Option Addr) (L : List Arc3) : Prop :=
  0 < L.length → ∃ g off, A = some ⟨g, off, none⟩ ∧ g < B ∧ ∀ k (h : k < L.length), w.cell? ⟨g, off + k * 3, none⟩ = some (.int .i64 L[k].1) ∧
    w.cell? ⟨g, off + k * 3 + 1, none⟩ = some (.int .i64 L[k].2.1) ∧ w.cell? ⟨g, off + k * 3 + 2, none⟩ = some (.int .i64 L[k].2.2)

theorem ArcsAt.keep {w w' : World} {B : Nat} {A : Option Addr} {L : List Arc3} (h : ArcsAt w B A L) (hk : ∀ b o, b < B → w'.cell? ⟨b, o, none⟩ = w.cell? ⟨b, o, none⟩) : ArcsAt w' B A L := fun h0 => by
  obtain ⟨g, off, e, hg, hc⟩ := h h0
  exact ⟨g, off, e, hg, fun k hk' => by rw [hk _ _ hg, hk _ _ hg, hk _ _ hg]; exact hc k hk'⟩
theorem ArcsAt.more {w : World} {B B' : Nat} {A : Option Addr} {L : List Arc3} (h : ArcsAt w B A L) (hB : B ≤ B') : ArcsAt w B' A L := fun h0 => by
  obtain ⟨g, off, e, hg, hc⟩ := h h0
  exact ⟨g, off, e, Nat.lt_of_lt_of_le hg hB, hc⟩
theorem ArcsAt.bl {w w' : World} {A : Option Addr} {L : List Arc3} (h : ArcsAt w w.heap.size A L) (hb : Bl w w') : ArcsAt w' w'.heap.size A L :=
  (h.keep (bcell hb).1).more hb.size
theorem ArcsAt.bl' {w w' : World} {B : Nat} {A : Option Addr} {L : List Arc3} (h : ArcsAt w B A L) (hB : B ≤ w.heap.size) (hb : Bl w w') : ArcsAt w' B A L :=
  h.keep fun b o hl => (bcell hb).1 b o (by omega)

-- (eqArcS_yes left out)

-- (eqGraph_yes left out)

-- (szGraph_any left out)

end Go.Proofs.Ytndkdeiojkclbaa
