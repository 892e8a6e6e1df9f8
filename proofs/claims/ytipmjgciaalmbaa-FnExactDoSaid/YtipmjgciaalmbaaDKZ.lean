/-
  What is proved here: whatever disk comes in reads as two lists of files and a list of ops. No conditions.
-/
import Derived.Test.YtipmjgciaalmbaaRows
import Derived.Test.YtipmjgciaalmbaaDKM
import Derived.Test.YtipmjgciaalmbaaZ0
import Derived.ProofKit
import Derived.OpenShut
import Derived.ShutString
import Derived.ChangeOld
import Derived.Deep.Slices
import Derived.Deep.Fields
import Derived.ChangeSame
import Derived.ChangeMaps5
import Derived.Lib.SmallJoins
set_option linter.unusedSimpArgs false
set_option linter.unusedVariables false
namespace Go.Proofs.Ytipmjgciaalmbaa
open Go.ChangeShapes Go.WideShapes Go.ChangeAt Go.RowKit Go.Deep Go.Joins

/-- Texts that are no longer than texts may be. -/
def SizesF (L : List Fl) : Prop := ∀ f ∈ L, f.1.size ≤ maxLen ∧ f.2.size ≤ maxLen
def SizesO (L : List Dp) : Prop := ∀ o ∈ L, o.name.size ≤ maxLen ∧ o.to.size ≤ maxLen ∧ o.data.size ≤ maxLen

set_option maxRecDepth 100000 in
theorem open_files {H : Type} {enc : TypeId × Value → H} {W : World} {v : Value} {fuel : Nat} {x : DataW H × List MemPlace} (h : DataW.trod enc Try.prog W 0 (fun _ => true) true fuel 22 [v] = some x) :
    ∃ (A : Option Addr) (n c : Nat) (L : List Fl), v = .slice A n c ∧ n = L.length ∧ n ≤ 9223372036854775807 ∧ FilesAt W W.heap.size A L ∧ SizesF L := by
  rcases open_slice_fields Try.underlying22 Try.underlying124 (by kernel_rfl) (by kernel_rfl) h with ⟨hcs, _⟩ | ⟨a, len, cap, m', D, Pl, hcs, _, hl, hcap, hmm, _, hi⟩
  · simp only [List.cons.injEq, and_true] at hcs
    subst hcs
    exact ⟨none, 0, 0, [], rfl, rfl, by omega, CellsAt.nil_ _ _ _, fun f hf => by simp at hf⟩
  · simp only [List.cons.injEq, and_true] at hcs
    subst hcs
    have hm' : len ≤ m' := by rw [hmm]; simp; omega
    have hF : ∀ i, ∃ t : Fl, i < len → W.cell? (a.add (i * 2)) = some (.string t.1) ∧ W.cell? (a.add (i * 2 + 1)) = some (.string t.2) ∧ t.1.size ≤ maxLen ∧ t.2.size ≤ maxLen := by
      intro i
      by_cases hil : i < len
      · obtain ⟨ys, n', _, _, _, hf⟩ := hi i (by omega)
        obtain ⟨v0, z0, q0, _, t0⟩ := hf 0 _ rfl
        obtain ⟨v1, z1, q1, _, t1⟩ := hf 1 _ rfl
        obtain ⟨x0, e0, _, l0⟩ := DataW.trod_string Try.underlying9 t0
        obtain ⟨x1, e1, _, l1⟩ := DataW.trod_string Try.underlying9 t1
        simp only [List.cons.injEq, and_true] at e0 e1
        subst e0; subst e1
        exact ⟨(x0, x1), fun _ => ⟨q0, q1, l0, l1⟩⟩
      · exact ⟨(⟨#[]⟩, ⟨#[]⟩), fun h => absurd h hil⟩
    obtain ⟨F, hF⟩ := Classical.axiomOfChoice hF
    refine ⟨some a, len, cap, (List.range len).map F, rfl, by simp, ?_, fun h0 => ?_, fun f hf => ?_⟩
    · unfold maxLen at hcap; omega
    · have h0' : 0 < len := by
        rw [csE_length encF_len] at h0
        simp at h0; omega
      obtain ⟨b, off, spot⟩ := a
      have hc0 := (hF 0 h0').1
      have hspot : spot = none := by simpa [Addr.add] using World.cell?_spot hc0
      subst hspot
      refine ⟨b, off, rfl, ?_, fun j hj => ?_⟩
      · have := World.block_lt_of_cell? _ _ hc0
        simpa [Addr.add] using this
      · have hj' : j < len * 2 := by rw [csE_length encF_len] at hj; simpa using hj
        have hk' : j / 2 < len := by omega
        obtain ⟨a1, a2, _, _⟩ := hF (j / 2) hk'
        rw [Go.WideShapes.add_plain] at a1 a2
        have hat := csE_at encF_len ((List.range len).map F) (j / 2) (j % 2) (by simpa using hk') (by omega)
        have ej : j / 2 * 2 + j % 2 = j := by omega
        rw [ej, List.getElem?_eq_getElem hj] at hat
        simp only [List.getElem_map, List.getElem_range] at hat
        have hm2 : j % 2 = 0 ∨ j % 2 = 1 := by omega
        rcases hm2 with hm2 | hm2
        · rw [hm2] at hat ej
          have e0 : (csE encF ((List.range len).map F))[j] = .string (F (j / 2)).1 := by
            have : (encF (F (j / 2)))[0]? = some (.string (F (j / 2)).1) := rfl
            rw [this] at hat
            injection hat
          rw [e0, ← a1, show off + j / 2 * 2 = off + j from by omega]
        · rw [hm2] at hat ej
          have e0 : (csE encF ((List.range len).map F))[j] = .string (F (j / 2)).2 := by
            have : (encF (F (j / 2)))[1]? = some (.string (F (j / 2)).2) := rfl
            rw [this] at hat
            injection hat
          rw [e0, ← a2, show off + (j / 2 * 2 + 1) = off + j from by omega]
    · obtain ⟨i, hi', rfl⟩ := List.mem_map.1 hf
      obtain ⟨_, _, l0, l1⟩ := hF i (List.mem_range.1 hi')
      exact ⟨l0, l1⟩

set_option maxRecDepth 100000 in
theorem open_ops {H : Type} {enc : TypeId × Value → H} {W : World} {v : Value} {fuel : Nat} {x : DataW H × List MemPlace} (h : DataW.trod enc Try.prog W 0 (fun _ => true) true fuel 23 [v] = some x) :
    ∃ (A : Option Addr) (n c : Nat) (L : List Dp), v = .slice A n c ∧ n = L.length ∧ n ≤ 9223372036854775807 ∧ OpsAt W W.heap.size A L ∧ SizesO L := by
  rcases open_slice_fields Try.underlying23 Try.underlying41 (by kernel_rfl) (by kernel_rfl) h with ⟨hcs, _⟩ | ⟨a, len, cap, m', D, Pl, hcs, _, hl, hcap, hmm, _, hi⟩
  · simp only [List.cons.injEq, and_true] at hcs
    subst hcs
    exact ⟨none, 0, 0, [], rfl, rfl, by omega, CellsAt.nil_ _ _ _, fun f hf => by simp at hf⟩
  · simp only [List.cons.injEq, and_true] at hcs
    subst hcs
    have hm' : len ≤ m' := by rw [hmm]; simp; omega
    have hF : ∀ i, ∃ t : Dp, i < len → W.cell? (a.add (i * 4)) = some (.int .i64 t.kind) ∧ W.cell? (a.add (i * 4 + 1)) = some (.string t.name) ∧ W.cell? (a.add (i * 4 + 2)) = some (.string t.to) ∧ W.cell? (a.add (i * 4 + 3)) = some (.string t.data) ∧
        t.name.size ≤ maxLen ∧ t.to.size ≤ maxLen ∧ t.data.size ≤ maxLen := by
      intro i
      by_cases hil : i < len
      · obtain ⟨ys, n', _, _, _, hf⟩ := hi i (by omega)
        obtain ⟨v0, z0, q0, _, t0⟩ := hf 0 _ rfl
        obtain ⟨v1, z1, q1, _, t1⟩ := hf 1 _ rfl
        obtain ⟨v2, z2, q2, _, t2⟩ := hf 2 _ rfl
        obtain ⟨v3, z3, q3, _, t3⟩ := hf 3 _ rfl
        obtain ⟨x0, e0, _, _⟩ := DataW.trod_int Try.underlying2 t0
        obtain ⟨x1, e1, _, l1⟩ := DataW.trod_string Try.underlying9 t1
        obtain ⟨x2, e2, _, l2⟩ := DataW.trod_string Try.underlying9 t2
        obtain ⟨x3, e3, _, l3⟩ := DataW.trod_string Try.underlying9 t3
        simp only [List.cons.injEq, and_true] at e0 e1 e2 e3
        subst e0; subst e1; subst e2; subst e3
        exact ⟨⟨x0, x1, x2, x3⟩, fun _ => ⟨q0, q1, q2, q3, l1, l2, l3⟩⟩
      · exact ⟨⟨0, ⟨#[]⟩, ⟨#[]⟩, ⟨#[]⟩⟩, fun h => absurd h hil⟩
    obtain ⟨F, hF⟩ := Classical.axiomOfChoice hF
    refine ⟨some a, len, cap, (List.range len).map F, rfl, by simp, ?_, fun h0 => ?_, fun f hf => ?_⟩
    · unfold maxLen at hcap; omega
    · have h0' : 0 < len := by
        rw [csE_length encO_len] at h0
        simp at h0; omega
      obtain ⟨b, off, spot⟩ := a
      have hc0 := (hF 0 h0').1
      have hspot : spot = none := by simpa [Addr.add] using World.cell?_spot hc0
      subst hspot
      refine ⟨b, off, rfl, ?_, fun j hj => ?_⟩
      · have := World.block_lt_of_cell? _ _ hc0
        simpa [Addr.add] using this
      · have hj' : j < len * 4 := by rw [csE_length encO_len] at hj; simpa using hj
        have hk' : j / 4 < len := by omega
        obtain ⟨a1, a2, a3, a4, _⟩ := hF (j / 4) hk'
        rw [Go.WideShapes.add_plain] at a1 a2 a3 a4
        have hat := csE_at encO_len ((List.range len).map F) (j / 4) (j % 4) (by simpa using hk') (by omega)
        have ej : j / 4 * 4 + j % 4 = j := by omega
        rw [ej, List.getElem?_eq_getElem hj] at hat
        simp only [List.getElem_map, List.getElem_range] at hat
        have hm2 : j % 4 = 0 ∨ j % 4 = 1 ∨ j % 4 = 2 ∨ j % 4 = 3 := by omega
        rcases hm2 with hm2 | hm2 | hm2 | hm2
        · rw [hm2] at hat ej
          have e0 : (csE encO ((List.range len).map F))[j] = .int .i64 (F (j / 4)).kind := by
            have : (encO (F (j / 4)))[0]? = some (.int .i64 (F (j / 4)).kind) := rfl
            rw [this] at hat
            injection hat
          rw [e0, ← a1, show off + j / 4 * 4 = off + j from by omega]
        · rw [hm2] at hat ej
          have e0 : (csE encO ((List.range len).map F))[j] = .string (F (j / 4)).name := by
            have : (encO (F (j / 4)))[1]? = some (.string (F (j / 4)).name) := rfl
            rw [this] at hat
            injection hat
          rw [e0, ← a2, show off + (j / 4 * 4 + 1) = off + j from by omega]
        · rw [hm2] at hat ej
          have e0 : (csE encO ((List.range len).map F))[j] = .string (F (j / 4)).to := by
            have : (encO (F (j / 4)))[2]? = some (.string (F (j / 4)).to) := rfl
            rw [this] at hat
            injection hat
          rw [e0, ← a3, show off + (j / 4 * 4 + 2) = off + j from by omega]
        · rw [hm2] at hat ej
          have e0 : (csE encO ((List.range len).map F))[j] = .string (F (j / 4)).data := by
            have : (encO (F (j / 4)))[3]? = some (.string (F (j / 4)).data) := rfl
            rw [this] at hat
            injection hat
          rw [e0, ← a4, show off + (j / 4 * 4 + 3) = off + j from by omega]
    · obtain ⟨i, hi', rfl⟩ := List.mem_map.1 hf
      obtain ⟨_, _, _, _, l0, l1, l2⟩ := hF i (List.mem_range.1 hi')
      exact ⟨l0, l1, l2⟩

set_option maxRecDepth 100000 in
theorem open_disk {H : Type} {enc : TypeId × Value → H} {W : World} {r : Reach} {b0 : Nat} {v : Value} {d : DataW H} {p : List MemPlace} (hv : Value.okWide Try.prog W r b0 25 v)
    (h : DataW.Trod enc Try.prog W 0 (fun _ => true) true 25 v d p) :
    ∃ (A1 A2 A3 : Option Addr) (n1 c1 n2 c2 n3 c3 : Nat) (L1 L2 : List Fl) (O : List Dp), v = .agg #[.slice A1 n1 c1, .slice A2 n2 c2, .slice A3 n3 c3] ∧ n1 = L1.length ∧ n2 = L2.length ∧ n3 = O.length ∧
      n1 ≤ 9223372036854775807 ∧ n2 ≤ 9223372036854775807 ∧ n3 ≤ 9223372036854775807 ∧ FilesAt W W.heap.size A1 L1 ∧ FilesAt W W.heap.size A2 L2 ∧ OpsAt W W.heap.size A3 O ∧ SizesF L1 ∧ SizesF L2 ∧ SizesO O := by
  obtain ⟨v0, v1, v2, y0, y1, y2, m, rfl, _, _, h0, h1, h2⟩ := open_agg3 Try.underlying25 (by kernel_rfl) (by kernel_rfl) hv h
  obtain ⟨A1, n1, c1, L1, rfl, e1, m1, f1, s1⟩ := open_files h0
  obtain ⟨A2, n2, c2, L2, rfl, e2, m2, f2, s2⟩ := open_files h1
  obtain ⟨A3, n3, c3, O, rfl, e3, m3, f3, s3⟩ := open_ops h2
  exact ⟨A1, A2, A3, n1, c1, n2, c2, n3, c3, L1, L2, O, rfl, e1, e2, e3, m1, m2, m3, f1, f2, f3, s1, s2, s3⟩

set_option maxRecDepth 100000 in
theorem open_op {H : Type} {enc : TypeId × Value → H} {W : World} {r : Reach} {b0 : Nat} {v : Value} {d : DataW H} {p : List MemPlace} (hv : Value.okWide Try.prog W r b0 41 v)
    (h : DataW.Trod enc Try.prog W 0 (fun _ => true) true 41 v d p) :
    ∃ o : Dp, v = .agg #[.int .i64 o.kind, .string o.name, .string o.to, .string o.data] ∧ o.name.size ≤ maxLen ∧ o.to.size ≤ maxLen ∧ o.data.size ≤ maxLen := by
  obtain ⟨v0, v1, v2, v3, y0, y1, y2, y3, m, rfl, _, _, h0, h1, h2, h3⟩ := open_agg4 Try.underlying41 (by kernel_rfl) (by kernel_rfl) hv h
  obtain ⟨x0, e0, _, _⟩ := DataW.trod_int Try.underlying2 h0
  obtain ⟨x1, e1, _, l1⟩ := DataW.trod_string Try.underlying9 h1
  obtain ⟨x2, e2, _, l2⟩ := DataW.trod_string Try.underlying9 h2
  obtain ⟨x3, e3, _, l3⟩ := DataW.trod_string Try.underlying9 h3
  simp only [List.cons.injEq, and_true] at e0 e1 e2 e3
  subst e0; subst e1; subst e2; subst e3
  exact ⟨⟨x0, x1, x2, x3⟩, rfl, l1, l2, l3⟩

end Go.Proofs.Ytipmjgciaalmbaa
