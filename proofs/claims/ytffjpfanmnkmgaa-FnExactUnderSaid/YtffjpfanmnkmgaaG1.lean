/-
  What is proved here: slices.Concat over three slices of arcs makes a new list of all of them. No conditions beyond those that each theorem states.
-/
import Derived.Test.YtffjpfanmnkmgaaE1
import Derived.Test.YtffjpfanmnkmgaaW2
import Derived.Deep.AppendLies
import Derived.Deep.Draws
import Derived.Maps.AppendAt
import Derived.OwnWalk
import Derived.Lib.AppendZeros
set_option linter.unusedSimpArgs false
set_option linter.unusedVariables false
namespace Go.Proofs.Ytffjpfanmnkmgaa
open Go.RowKit



section
variable {w w' : World} {B B' size n : Nat} {A : Option Addr} {xs : List Value}
end

section
variable {P : Program} (w : World)





end

theorem cs3_split : ∀ (l : List Arc3) (j : Nat) (u : Value), (cs3 l)[j]? = some u → ∃ (k r : Nat) (h : k < l.length), r < 3 ∧ j = k * 3 + r ∧ u = (if r = 0 then .int .i64 l[k].1 else if r = 1 then .int .i64 l[k].2.1 else .int .i64 l[k].2.2) := by
  intro l j u h
  have hj : j < (cs3 l).length := (List.getElem?_eq_some_iff.1 h).1
  rw [cs3_length] at hj
  have hk : j / 3 < l.length := by omega
  obtain ⟨a, b, c⟩ := cs3_at l (j / 3) hk
  have e : j = j / 3 * 3 + j % 3 := by omega
  refine ⟨j / 3, j % 3, hk, by omega, e, ?_⟩
  have h3 : j % 3 = 0 ∨ j % 3 = 1 ∨ j % 3 = 2 := by omega
  rcases h3 with h3 | h3 | h3
  · rw [h3] at e ⊢
    rw [e, Nat.add_zero, a] at h
    injection h with h
    exact h.symm
  · rw [h3] at e ⊢
    rw [e, b] at h
    injection h with h
    exact h.symm
  · rw [h3] at e ⊢
    rw [e, c] at h
    injection h with h
    exact h.symm
theorem add_none (g off j : Nat) : (⟨g, off, none⟩ : Addr).add j = ⟨g, off + j, none⟩ := by
  unfold Addr.add
  split
  · rename_i h; subst h; rfl
  · rfl
theorem reads_of {w : World} {B : Nat} {A : Option Addr} {L : List Arc3} {n : Nat} (hn : n = L.length) (h : ArcsAt w B A L) : Reads w B 3 A n (cs3 L) := by
  refine ⟨by rw [cs3_length, hn], fun h0 => ?_⟩
  obtain ⟨g, off, rfl, hg, hc⟩ := h (by omega)
  refine ⟨_, rfl, hg, fun j u hu => ?_⟩
  obtain ⟨k, r, hk, hr, rfl, rfl⟩ := cs3_split L j u hu
  obtain ⟨a, b, c⟩ := hc k hk
  rw [add_none, ← Nat.add_assoc]
  have h3 : r = 0 ∨ r = 1 ∨ r = 2 := by omega
  rcases h3 with rfl | rfl | rfl
  · exact a
  · exact b
  · exact c
theorem cs3_one : ∀ (l : List Arc3), ∀ u ∈ cs3 l, u.oneCell' = true
  | [], u, h => by simp [cs3] at h
  | a :: l, u, h => by
    simp only [cs3, List.mem_cons] at h
    rcases h with rfl | rfl | rfl | h
    · rfl
    · rfl
    · rfl
    · exact cs3_one l u h

theorem size_zero3 (n : Nat) : (Builtin.zeroCells (Value.agg #[.int .i64 0, .int .i64 0, .int .i64 0]).cells n).size = n * 3 := by rw [size_zeroCells]; rfl

theorem own_grown (w : World) (n : Nat) (hn : n ≤ 4194304) :
    OwnA (w.drew.alloc (.cells (Builtin.zeroCells (Value.agg #[.int .i64 0, .int .i64 0, .int .i64 0]).cells n ++ Builtin.zeroCells (Value.agg #[.int .i64 0, .int .i64 0, .int .i64 0]).cells (grownCap w n 0 87 - n)) 87)) w.heap.size (.slice (some ⟨w.heap.size, 0, none⟩) 0 (grownCap w n 0 87)) [] := by
  have h1 := grownCap_ge w n 0 87
  have h2 := grownCap_le_maxLen w n 0 87 (by unfold maxLen; omega)
  exact World.ownsRow_made (base := w.heap.size) (e := 87) (size := 3) w.drew _ _ (Nat.le_refl _) h2 (by rw [Array.size_append, size_zero3, size_zero3]; omega)

-- (grow_any left out)

theorem own_append {w : World} {B : Nat} {v : Value} {F G : List Arc3} {t : Nat} (h : w.ownsRow B 87 3 v t (cs3 F ++ cs3 G)) (ht : t = F.length + G.length) : OwnA w B v (F ++ G) := by
  unfold OwnA
  rw [cs3_append, List.length_append, ← ht]
  exact h

-- (concat_any left out)

end Go.Proofs.Ytffjpfanmnkmgaa
