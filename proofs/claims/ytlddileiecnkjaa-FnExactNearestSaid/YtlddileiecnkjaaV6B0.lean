/-
  What is proved here: whatever graph comes in reads as a number of nodes and a list of arcs. No conditions. No conditions beyond those that each theorem states.
-/
import Derived.Test.YtlddileiecnkjaaRows
import Derived.Test.YtlddileiecnkjaaV6G01
import Derived.Test.YtlddileiecnkjaaV6Z0
import Derived.ProofKit
import Derived.OpenShut
import Derived.ShutString
import Derived.ChangeOld
import Derived.Deep.Slices
import Derived.Deep.Fields
import Derived.ChangeSame
import Derived.Lib.SmallJoins
set_option linter.unusedSimpArgs false
set_option linter.unusedVariables false
namespace Go.Proofs.Ytlddileiecnkjaa
open Go.ChangeShapes Go.WideShapes Go.ChangeAt Go.RowKit Go.Deep Go.Joins


set_option maxRecDepth 100000 in
theorem open_graph {H : Type} {enc : TypeId × Value → H} {W : World} {r : Reach} {b0 : Nat} {v : Value} {d : DataW H} {p : List MemPlace} (hv : Value.okWide Try.prog W r b0 42 v)
    (h : DataW.Trod enc Try.prog W 0 (fun _ => true) true 42 v d p) :
    ∃ (N : Int) (A : Option Addr) (n c : Nat) (L : List Arc3), v = .agg #[.int .i64 N, .slice A n c] ∧ n = L.length ∧ n ≤ 9223372036854775807 ∧ ArcsAt W W.heap.size A L := by
  obtain ⟨c0, c1, y0, y1, m, rfl, _, _, ht0, ht1⟩ := open_agg2 Try.underlying42 (by kernel_rfl) (by kernel_rfl) hv h
  obtain ⟨N, e0, _, _⟩ := DataW.trod_int Try.underlying2 ht0
  simp only [List.cons.injEq, and_true] at e0
  subst e0
  rcases open_slice_fields Try.underlying40 Try.underlying157 (by kernel_rfl) (by kernel_rfl) ht1 with ⟨hcs, _⟩ | ⟨a, len, cap, m', D, Pl, hcs, _, hl, hcap, hmm, _, hi⟩
  · simp only [List.cons.injEq, and_true] at hcs
    subst hcs
    exact ⟨N, none, 0, 0, [], rfl, rfl, by omega, fun h => absurd h (by simp)⟩
  · simp only [List.cons.injEq, and_true] at hcs
    subst hcs
    have hm' : len ≤ m' := by rw [hmm]; simp; omega
    have hF : ∀ i, ∃ t : Arc3, i < len → W.cell? (a.add (i * 3)) = some (.int .i64 t.1) ∧ W.cell? (a.add (i * 3 + 1)) = some (.int .i64 t.2.1) ∧ W.cell? (a.add (i * 3 + 2)) = some (.int .i64 t.2.2) := by
      intro i
      by_cases hil : i < len
      · obtain ⟨ys, n', _, _, _, hf⟩ := hi i (by omega)
        obtain ⟨v0, z0, q0, _, t0⟩ := hf 0 _ rfl
        obtain ⟨v1, z1, q1, _, t1⟩ := hf 1 _ rfl
        obtain ⟨v2, z2, q2, _, t2⟩ := hf 2 _ rfl
        obtain ⟨x0, e0, _, _⟩ := DataW.trod_int Try.underlying2 t0
        obtain ⟨x1, e1, _, _⟩ := DataW.trod_int Try.underlying2 t1
        obtain ⟨x2, e2, _, _⟩ := DataW.trod_int Try.underlying2 t2
        simp only [List.cons.injEq, and_true] at e0 e1 e2
        subst e0; subst e1; subst e2
        exact ⟨(x0, x1, x2), fun _ => ⟨q0, q1, q2⟩⟩
      · exact ⟨(0, 0, 0), fun h => absurd h hil⟩
    obtain ⟨F, hF⟩ := Classical.axiomOfChoice hF
    refine ⟨N, some a, len, cap, (List.range len).map F, rfl, by simp, ?_, fun h0 => ?_⟩
    · unfold maxLen at hcap; omega
    · have h0' : 0 < len := by simpa using h0
      obtain ⟨b, off, spot⟩ := a
      have hc0 := (hF 0 h0').1
      have hspot : spot = none := by simpa [Addr.add] using World.cell?_spot hc0
      subst hspot
      refine ⟨b, off, rfl, ?_, fun k hk => ?_⟩
      · have := World.block_lt_of_cell? _ _ hc0
        simpa [Addr.add] using this
      · have hk' : k < len := by simpa using hk
        obtain ⟨a1, a2, a3⟩ := hF k hk'
        rw [Go.WideShapes.add_plain] at a1 a2 a3
        simp only [List.getElem_map, List.getElem_range]
        exact ⟨a1, by rw [Nat.add_assoc]; exact a2, by rw [Nat.add_assoc]; exact a3⟩

end Go.Proofs.Ytlddileiecnkjaa
