/-
  What is proved here: bytes that come in; a reader of a code is opened. No conditions beyond those that each theorem states.
-/
import Derived.Test.YtlddileiecnkjaaV5R1
set_option linter.unusedSimpArgs false
set_option linter.unusedVariables false
namespace Go.Proofs.Ytlddileiecnkjaa
open Go.RowKit

/-- The slice at A reads as bytes. -/
def BytesAt (w : World) (A : Option Addr) (n : Nat) : Prop := 0 < n → ∃ g off, A = some ⟨g, off, none⟩ ∧ g < w.heap.size ∧ ∀ j, j < n → ∃ b : Int, w.cell? ⟨g, off + j, none⟩ = some (.int .u8 b) ∧ 0 ≤ b ∧ b ≤ 255
theorem BytesAt.bl {w w' : World} {A : Option Addr} {n : Nat} (h : BytesAt w A n) (hb : Bl w w') : BytesAt w' A n := fun h0 => by
  obtain ⟨g, off, e, hlt, hc⟩ := h h0
  refine ⟨g, off, e, Nat.lt_of_lt_of_le hlt hb.size, fun j hj => ?_⟩
  obtain ⟨b, h1, h2⟩ := hc j hj
  exact ⟨b, ((bcell hb).1 _ _ hlt).trans h1, h2⟩
theorem RdAny.turn {w w' : World} {rd : Nat} {A : Option Addr} {n c : Nat} {S : Nat → Prop} (h : RdAny w rd A n c) (k : Turn S w w') (h1 : ¬ S rd) (h2 : 0 < n → ∀ g, blockOf A = some g → ¬ S g) : RdAny w' rd A n c := by
  obtain ⟨p, hr, hp, hc⟩ := h
  refine ⟨p, hr.of_block (k.block rd hr.lt h1), hp, fun h0 => ?_⟩
  obtain ⟨g, off, rfl, hne, hlt, hcell⟩ := hc h0
  refine ⟨g, off, rfl, hne, Nat.lt_of_lt_of_le hlt k.size, fun j hj => ?_⟩
  obtain ⟨b, e1, e2⟩ := hcell j hj
  exact ⟨b, (k.cell hlt (h2 h0 g rfl) _).trans e1, e2⟩
set_option maxHeartbeats 400000 in
theorem open_any (A : Option Addr) (n c : Nat) (w : World) (H : BytesAt w A n) :
    Calls Try.prog 67 #[.slice A n c] w fun e w' => e = .returned (.pointer (some ⟨w.heap.size, 0, none⟩)) ∧ RdAny w' w.heap.size A n c ∧ Bl w w' ∧ w.heap.size < w'.heap.size := by
  have K := Lib.hid H
  clear H
  go_enter Try.func67, Try.ntmps67
  go_wp2
  go_ret
  refine ⟨rfl, ⟨0, ?_, by omega, fun h0 => ?_⟩, (by repeat' (first | exact Bl.refl _ | with_reducible assumption | with_reducible refine Bl.drew_ ?_ | with_reducible refine Bl.drewN_ ?_ _ | with_reducible refine Bl.alloc_ ?_ _ | with_reducible refine Bl.trans_ ?_ (by assumption) | with_reducible refine Bl.trans_ ?_ (And.left (by assumption)))), by simp⟩
  · exact World.rowIs_alloc w #[.slice A n c, .int .i64 0] 142 _ (fun i hi => by
      have : i = 0 ∨ i = 1 := by simp at hi; omega
      rcases this with rfl | rfl <;> rfl)
  · obtain ⟨g, off, e, hlt, hc⟩ := K.out h0
    refine ⟨g, off, e, by omega, by simp; omega, fun j hj => ?_⟩
    obtain ⟨b, h1, h2⟩ := hc j hj
    exact ⟨b, by simp [go_sem, h1, hlt], h2⟩
theorem BytesAt.lt {w : World} {A : Option Addr} {n : Nat} (h : BytesAt w A n) (hz : 0 < n) : ∀ g, blockOf A = some g → g < w.heap.size := fun g hg => by
  obtain ⟨g', off, rfl, hlt, _⟩ := h hz
  simp [blockOf] at hg
  omega

set_option maxHeartbeats 400000 in
theorem big_any (A : Option Addr) (n c : Nat) (w : World) :
    Calls Try.prog 16 #[.slice A n c] w fun e w' => e = .returned (.bool (decide ((1048576 : Int) < (n : Int)))) ∧ w = w' := by
  go_enter Try.func16, Try.ntmps16
  go_wp2
  go_ret
  exact ⟨rfl, rfl⟩

end Go.Proofs.Ytlddileiecnkjaa
