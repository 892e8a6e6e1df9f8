/-
  What is proved here: the small functions of the code and of the model that ask whether numbers are nodes, no two alike; the model's ReachOf; which numbers are right as reaches, told; the model's ReachOk; slices.Concat over three slices of arcs makes a new list of all of them; impl.Weighed puts an arc of a new weight in its place. No conditions beyond those that each theorem states.
-/
import Derived.Test.YtgjgcdpjbpccnaaKG12
import Derived.Test.YtgjgcdpjbpccnaaKG08
import Derived.Test.YtgjgcdpjbpccnaaKG10
import Derived.Test.YtgjgcdpjbpccnaaKG11
import Derived.Lib.MinMax
import Derived.Test.YtgjgcdpjbpccnaaKG03
import Derived.Test.YtgjgcdpjbpccnaaKG01
import Derived.Deep.AppendLies
import Derived.Deep.Draws
import Derived.Maps.AppendAt
import Derived.OwnWalk
import Derived.Lib.AppendZeros
import Derived.Test.YtgjgcdpjbpccnaaKG04
set_option linter.unusedSimpArgs false
set_option linter.unusedVariables false
namespace Go.Proofs.Ytgjgcdpjbpccnaa
open Go.RowKit




end Go.Proofs.Ytgjgcdpjbpccnaa

set_option linter.unusedSimpArgs false
set_option linter.unusedVariables false
namespace Go.Proofs.Ytgjgcdpjbpccnaa
open Go.RowKit

section
variable {N : Int} {L : List Arc3} {v : Int} {q s t : Nat} {m : Int}
end

/-- A list of rows of numbers that grows. -/
def RowsOf (w : World) (B : Nat) (pv : Value) (R : List (List Int)) : Prop :=
  ∃ C : List Value, Owns 63 1 w B pv R.length C ∧ ∀ j (h : j < R.length), ∃ A' c', C[j]? = some (.slice A' R[j].length c') ∧ IntsAt w w.heap.size A' R[j] ∧ ∀ g, blockOf A' = some g → g < w.heap.size ∧ pv.ownBlock ≠ some g
theorem RowsOf.bl {w w' : World} {B : Nat} {pv : Value} {R : List (List Int)} (h : RowsOf w B pv R) (b : Bl w w') : RowsOf w' B pv R := by
  obtain ⟨C, h1, h2⟩ := h
  refine ⟨C, h1.bl b, fun j hj => ?_⟩
  obtain ⟨A', c', a1, a2, a3⟩ := h2 j hj
  exact ⟨A', c', a1, a2.bl b, fun g hg => ⟨Nat.lt_of_lt_of_le (a3 g hg).1 b.size, (a3 g hg).2⟩⟩
theorem RowsOf.snoc {w w' : World} {B k : Nat} {pv pv' : Value} {R : List (List Int)} {r : List Int} {C : List Value} {A : Option Addr} {l c : Nat}
    (hC : ∀ j (h : j < R.length), ∃ A' c', C[j]? = some (.slice A' R[j].length c') ∧ IntsAt w w.heap.size A' R[j] ∧ ∀ g, blockOf A' = some g → g < w.heap.size ∧ pv.ownBlock ≠ some g)
    (hl : C.length = R.length) (hr : IntsAt w w.heap.size A r) (hne : ∀ g, blockOf A = some g → g < w.heap.size ∧ pv.ownBlock ≠ some g) (hk : k = R.length) (hrl : l = r.length)
    (hown : w'.ownsRow B 63 1 pv' (k + 1) (C ++ [.slice A l c])) (hg : w.grownBy w' pv.ownBlock) (hb : pv'.ownBlock = pv.ownBlock ∨ pv'.ownBlock = some w.heap.size) : RowsOf w' B pv' (R ++ [r]) := by
  subst hk hrl
  refine ⟨C ++ [.slice A r.length c], by rw [List.length_append]; exact hown, fun j hj => ?_⟩
  have keep : ∀ (A' : Option Addr) (V : List Int), IntsAt w w.heap.size A' V → (∀ g, blockOf A' = some g → g < w.heap.size ∧ pv.ownBlock ≠ some g) → IntsAt w' w'.heap.size A' V ∧ ∀ g, blockOf A' = some g → g < w'.heap.size ∧ pv'.ownBlock ≠ some g := fun A' V h1 h2 => by
    refine ⟨(h1.grown_ (Nat.le_refl _) hg (fun g e _ h => (h2 g e).2 h.symm)).more hg.size, fun g e => ⟨Nat.lt_of_lt_of_le (h2 g e).1 hg.size, fun h => ?_⟩⟩
    rcases hb with hb | hb
    · exact (h2 g e).2 (hb.symm.trans h)
    · have h3 := hb.symm.trans h
      have := (h2 g e).1
      injection h3 with h3
      omega
  by_cases e : j < R.length
  · obtain ⟨A', c', a1, a2, a3⟩ := hC j e
    obtain ⟨k1, k2⟩ := keep A' _ a2 a3
    have e1 : (R ++ [r])[j]'hj = R[j] := List.getElem_append_left e
    rw [e1]
    exact ⟨A', c', by rw [List.getElem?_append_left (by omega)]; exact a1, k1, k2⟩
  · have e0 : j = R.length := by simp at hj; omega
    subst e0
    obtain ⟨k1, k2⟩ := keep A _ hr hne
    have e1 : (R ++ [r])[R.length]'hj = r := by simp
    rw [e1]
    exact ⟨A, c, by rw [List.getElem?_append_right (by omega), hl]; simp, k1, k2⟩
theorem RowsOf.row {w : World} {B : Nat} {pv : Value} {R : List (List Int)} (h : RowsOf w B pv R) (hp : 0 < R.length) :
    ∃ g c, pv = .slice (some ⟨g, 0, none⟩) R.length c ∧ g < w.heap.size ∧ ∀ j (hj : j < R.length), ∃ A' c', w.cell? ⟨g, j, none⟩ = some (.slice A' R[j].length c') ∧ IntsAt w w.heap.size A' R[j] := by
  obtain ⟨C, h1, h2⟩ := h
  have hl := h1.len
  obtain ⟨A, c, rfl, -, -, -, hs⟩ := Owns.shape h1
  obtain ⟨g, rfl, -, hg, -, hc⟩ := hs hp
  refine ⟨g, c, rfl, hg, fun j hj => ?_⟩
  obtain ⟨A', c', a1, a2, -⟩ := h2 j hj
  have hj' : j < C.length := by omega
  refine ⟨A', c', (hc j hj').trans ?_, a2⟩
  rw [List.getElem?_eq_getElem hj'] at a1
  exact a1


end Go.Proofs.Ytgjgcdpjbpccnaa

set_option linter.unusedSimpArgs false
set_option linter.unusedVariables false
namespace Go.Proofs.Ytgjgcdpjbpccnaa
open Go.RowKit



end Go.Proofs.Ytgjgcdpjbpccnaa

set_option linter.unusedSimpArgs false
set_option linter.unusedVariables false
namespace Go.Proofs.Ytgjgcdpjbpccnaa
open Go.RowKit



section
variable {w w' : World} {B B' size n : Nat} {A : Option Addr} {xs : List Value}
end

section
variable {P : Program} (w : World)





end







end Go.Proofs.Ytgjgcdpjbpccnaa

set_option linter.unusedSimpArgs false
set_option linter.unusedVariables false
namespace Go.Proofs.Ytgjgcdpjbpccnaa
open Go.RowKit

/-- A graph and a flag are left; zero where the flag is false. -/
def WRes (ok : Bool) (N : Int) (M : List Arc3) (w : World) (e : Ending) (w' : World) : Prop :=
  ∃ v, e = .returned (.tuple #[.agg #[.int .i64 (if ok = true then N else 0), v], .bool ok]) ∧ OwnA w' w.heap.size v (if ok = true then M else []) ∧ Bl w w'
theorem WRes.no {N : Int} {M : List Arc3} {w w' : World} {ok : Bool} (h : ok = false) (hb : Bl w w') : WRes ok N M w (.returned (.tuple #[.agg #[.int .i64 0, .slice none 0 0], .bool false])) w' := by
  subst h
  exact ⟨_, rfl, OwnA.nil_ _ _, hb⟩

theorem ArcsAt.take_ {w : World} {B : Nat} {A : Option Addr} {L : List Arc3} (h : ArcsAt w B A L) (p : Nat) : ArcsAt w B A (L.take p) := fun h0 => by
  obtain ⟨g, off, e, hg, hc⟩ := h (by rw [List.length_take] at h0; omega)
  refine ⟨g, off, e, hg, fun k hk => ?_⟩
  rw [List.getElem_take]
  exact hc k (by rw [List.length_take] at hk; omega)

theorem OwnA.set_ {w : World} {B : Nat} {v : Value} {L : List Arc3} (h : OwnA w B v L) {p : Addr} (hp : p.block < B) (u : Value) : OwnA (w.setCell p u) B v L :=
  ⟨h.1, h.2.imp id (fun ⟨g, cap, cur, a, b, c, d⟩ => ⟨g, cap, cur, a, b, (Below.heap_setCell w p u g (by omega)).trans c, d⟩)⟩

theorem box22 {w wx : World} {a b c d : Value} {t : TypeId} (h : Bl ((w.alloc (.cells #[a, b] t)).alloc (.cells #[c, d] t)) wx) :
    wx.cell? ⟨w.heap.size, 0, none⟩ = some a ∧ wx.cell? ⟨w.heap.size, 1, none⟩ = some b ∧ wx.cell? ⟨w.heap.size + 1, 0, none⟩ = some c ∧ wx.cell? ⟨w.heap.size + 1, 1, none⟩ = some d ∧
      wx.frozen? ⟨w.heap.size + 1, 0, none⟩ = false ∧ wx.frozen? ⟨w.heap.size + 1, 1, none⟩ = false ∧ w.heap.size + 1 < wx.heap.size := by
  obtain ⟨hc, hf⟩ := bcell h
  have hs := h.size
  refine ⟨?_, ?_, ?_, ?_, ?_, ?_, by simp at hs; omega⟩
  · rw [hc _ _ (by simp; omega)]; simp [go_sem]
  · rw [hc _ _ (by simp; omega)]; simp [go_sem]
  · rw [hc _ _ (by simp)]; simp [go_sem]
  · rw [hc _ _ (by simp)]; simp [go_sem]
  · rw [hf _ _ (by simp)]; simp [go_sem]
  · rw [hf _ _ (by simp)]; simp [go_sem]


end Go.Proofs.Ytgjgcdpjbpccnaa
