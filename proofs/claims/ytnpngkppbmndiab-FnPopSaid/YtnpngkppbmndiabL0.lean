/-
  What is proved here: whatever items come in read as a list of pairs of numbers of 64 bits. No conditions.
-/
import Derived.Test.YtnpngkppbmndiabRows
import Derived.Test.YtnpngkppbmndiabI2
import Derived.ProofKit
import Derived.OpenShut
import Derived.ShutString
import Derived.ChangeOld
import Derived.Deep.Slices
import Derived.Deep.Fields
import Derived.ChangeSame
import Derived.Lib.SmallJoins
set_option linter.unusedSimpArgs false
set_option linter.unusedVariables false
namespace Go.Proofs.Ytnpngkppbmndiab
open Go.ChangeShapes Go.WideShapes Go.ChangeAt Go.RowKit Go.Deep Go.Joins

theorem Try.own_ : ownKnob Try.prog.godebug = none := by kernel_rfl
theorem Try.laidOut_ : laidOutB Try.prog = true := by kernel_rfl

section
variable {H : Type} {enc : TypeId × Value → H} {P : Program} {w : World} {base : Nat} {spare : Nat → Bool} {held : Bool}
theorem open_slice_fields {t e : TypeId} {fs : Array Field} {fuel : Nat} {cs : List Value} {x : DataW H × List MemPlace} (ht : P.underlying t = some (.slice e)) (he : P.underlying e = some (.struct fs))
    (hone : oneCellFields P fs = true) (hC : P.cellsOf e = fs.size) (h : DataW.trod enc P w base spare held fuel t cs = some x) :
    (cs = [.slice none 0 0] ∧ x = (.nil, [])) ∨
    ∃ (a : Addr) (len cap m : Nat) (D : Nat → DataW H) (Pl : Nat → List MemPlace), cs = [.slice (some a) len cap] ∧ base ≤ a.block ∧ len ≤ cap ∧ cap ≤ maxLen ∧ m = (if spare a.block then cap else len) ∧
      x = (.slice ((List.range len).map D) ((List.range (m - len)).map fun j => D (len + j)), MemPlace.row a (m * fs.size) ++ (List.range m).flatMap Pl) ∧
      ∀ i, i < m → ∃ (ys : List (DataW H × List MemPlace)) (n : Nat), D i = .agg (ys.map (·.1)) ∧ Pl i = ys.flatMap (·.2) ∧ ys.length = fs.size ∧
        ∀ (j : Nat) (f : Field), fs[j]? = some f → ∃ (v : Value) (y : DataW H × List MemPlace), w.cell? (a.add (i * fs.size + j)) = some v ∧ ys[j]? = some y ∧ DataW.trod enc P w base spare held n f.type [v] = some y := by
  rcases open_slice ht h with h0 | ⟨a, len, cap, m, n, D, Pl, hcs, hb, hl, hm, hmm, hx, hi⟩
  · exact .inl h0
  · refine .inr ⟨a, len, cap, m, D, Pl, hcs, hb, hl, hm, hmm, by rw [hC] at hx; exact hx, fun i him => ?_⟩
    obtain ⟨cs', hc, ht'⟩ := hi i him
    rw [hC] at hc
    obtain ⟨ys, n', hn', hy, hlen, hyl, hf⟩ := DataW.trod_struct he ht'
    obtain ⟨_, hcl, hat⟩ := World.cells?_some hc
    simp only [Prod.mk.injEq] at hy
    refine ⟨ys, n', hy.1, hy.2, hyl, fun j f hj => ?_⟩
    obtain ⟨ho, hk⟩ := hone_of hone j f hj
    have hjl : j < fs.size := (Array.getElem?_eq_some_iff.1 hj).1
    have hcell := hat j hjl
    have hv : cs'[j]? = some (cs'[j]'(by omega)) := List.getElem?_eq_getElem (by omega)
    have h1 := hf j f hj
    rw [ho, hk] at h1
    have hone' : (cs'.drop j).take 1 = [cs'[j]'(by omega)] := by
      rw [List.drop_eq_getElem_cons (by omega)]
      rfl
    rw [hone'] at h1
    have hys : ys[j]? = some (ys[j]'(by omega)) := List.getElem?_eq_getElem (by omega)
    refine ⟨_, _, ?_, hys, h1.trans hys⟩
    rw [← Go.Deep.add_add, hcell, hv]
end

/-- Keys and ids are numbers of 64 bits. -/
def WfL (L : List It) : Prop := ∀ k, (Lit.int .i64 (atI L k).1).wf = true ∧ (Lit.int .i64 (atI L k).2).wf = true

set_option maxRecDepth 100000 in
theorem open_items {H : Type} {enc : TypeId × Value → H} {W : World} {r : Reach} {b0 : Nat} {v : Value} {d : DataW H} {p : List MemPlace} (hv : Value.okWide Try.prog W r b0 22 v)
    (h : DataW.Trod enc Try.prog W 0 (fun _ => true) true 22 v d p) :
    ∃ (A : Option Addr) (n c : Nat) (L : List It), v = .slice A n c ∧ n = L.length ∧ n ≤ 9223372036854775807 ∧ ItemsAt W W.heap.size A L ∧ WfL L := by
  obtain ⟨a0, len0, cap0, rfl⟩ := okWide_slice Try.underlying22 hv
  obtain ⟨m0, ht1⟩ := h
  rcases open_slice_fields Try.underlying22 Try.underlying30 (by kernel_rfl) (by kernel_rfl) ht1 with ⟨hcs, _⟩ | ⟨a, len, cap, m', D, Pl, hcs, _, hl, hcap, hmm, _, hi⟩
  · have hcs' : [Value.slice a0 len0 cap0] = [.slice none 0 0] := hcs
    simp only [List.cons.injEq, and_true] at hcs'
    rw [hcs']
    exact ⟨none, 0, 0, [], rfl, rfl, by omega, CellsAt.nil_ _ _ _, fun k => by simp [atI]; decide⟩
  · have hcs' : [Value.slice a0 len0 cap0] = [.slice (some a) len cap] := hcs
    simp only [List.cons.injEq, and_true] at hcs'
    rw [hcs']
    have hm' : len ≤ m' := by rw [hmm]; simp; omega
    have hF : ∀ i, ∃ t : It, ((Lit.int .i64 t.1).wf = true ∧ (Lit.int .i64 t.2).wf = true) ∧ (i < len → W.cell? (a.add (i * 2)) = some (.int .i64 t.1) ∧ W.cell? (a.add (i * 2 + 1)) = some (.int .i64 t.2)) := by
      intro i
      by_cases hil : i < len
      · obtain ⟨ys, n', _, _, _, hf⟩ := hi i (by omega)
        obtain ⟨v0, z0, q0, _, t0⟩ := hf 0 _ rfl
        obtain ⟨v1, z1, q1, _, t1⟩ := hf 1 _ rfl
        obtain ⟨x0, e0, _, w0⟩ := DataW.trod_int Try.underlying2 t0
        obtain ⟨x1, e1, _, w1⟩ := DataW.trod_int Try.underlying2 t1
        simp only [List.cons.injEq, and_true] at e0 e1
        subst e0; subst e1
        exact ⟨(x0, x1), ⟨w0, w1⟩, fun _ => ⟨q0, q1⟩⟩
      · exact ⟨(0, 0), ⟨by decide, by decide⟩, fun h => absurd h hil⟩
    obtain ⟨F, hF⟩ := Classical.axiomOfChoice hF
    refine ⟨some a, len, cap, (List.range len).map F, rfl, by simp, ?_, fun h0 => ?_, fun k => ?_⟩
    · unfold maxLen at hcap; omega
    · have h0' : 0 < len := by
        rw [cs2_length] at h0
        simp at h0
        omega
      obtain ⟨b, off, spot⟩ := a
      have hc0 := ((hF 0).2 h0').1
      have hspot : spot = none := by simpa [Addr.add] using World.cell?_spot hc0
      subst hspot
      refine ⟨b, off, rfl, ?_, fun j hj => ?_⟩
      · have := World.block_lt_of_cell? _ _ hc0
        simpa [Addr.add] using this
      · have hl2 := cs2_length ((List.range len).map F)
        have hll : ((List.range len).map F).length = len := by simp
        have hk' : j / 2 < len := by omega
        obtain ⟨a1, a2⟩ := (hF (j / 2)).2 hk'
        obtain ⟨x, y⟩ := cs2_at ((List.range len).map F) (j / 2) (by omega)
        rw [Go.WideShapes.add_plain] at a1 a2
        simp only [List.getElem_map, List.getElem_range] at x y
        rcases Nat.mod_two_eq_zero_or_one j with hm | hm
        · have e : j = j / 2 * 2 := by omega
          rw [← e] at x a1
          rw [a1, ← x, List.getElem?_eq_getElem]
        · have e : j = j / 2 * 2 + 1 := by omega
          rw [← e] at y a2
          rw [a2, ← y, List.getElem?_eq_getElem]
    · rcases Nat.lt_or_ge k len with hk | hk
      · rw [atI_eq (by simpa using hk)]
        simp only [List.getElem_map, List.getElem_range]
        exact (hF k).1
      · simp [atI, hk]; decide

end Go.Proofs.Ytnpngkppbmndiab
