/-
  What is proved here: whatever disk comes in reads as two lists of files and a list of ops. No conditions; contracts of the laws' small functions on files and ops: one held against another; contracts of the laws' small functions on files and ops: sizes, copies; files and ops that are appended to a list of one's own. No conditions beyond those that each theorem states.
-/
import Derived.Test.YtgfmgmcpfefmkaaRows
import Derived.Test.YtgfmgmcpfefmkaaV7G02
import Derived.Test.YtgfmgmcpfefmkaaV7Z0
import Derived.ProofKit
import Derived.OpenShut
import Derived.ShutString
import Derived.ChangeOld
import Derived.Deep.Slices
import Derived.Deep.Fields
import Derived.ChangeSame
import Derived.ChangeMaps5
import Derived.Lib.SmallJoins
set_option linter.unusedSimpArgs false
set_option linter.unusedVariables false
namespace Go.Proofs.Ytgfmgmcpfefmkaa
open Go.ChangeShapes Go.WideShapes Go.ChangeAt Go.RowKit Go.Deep Go.Joins

/-- Texts that are no longer than texts may be. -/
def SizesF (L : List Fl) : Prop := ∀ f ∈ L, f.1.size ≤ maxLen ∧ f.2.size ≤ maxLen
def SizesO (L : List Dp) : Prop := ∀ o ∈ L, o.name.size ≤ maxLen ∧ o.to.size ≤ maxLen ∧ o.data.size ≤ maxLen

set_option maxRecDepth 100000 in
theorem open_files {H : Type} {enc : TypeId × Value → H} {W : World} {v : Value} {fuel : Nat} {x : DataW H × List MemPlace} (h : DataW.trod enc Try.prog W 0 (fun _ => true) true fuel 22 [v] = some x) :
    ∃ (A : Option Addr) (n c : Nat) (L : List Fl), v = .slice A n c ∧ n = L.length ∧ n ≤ 9223372036854775807 ∧ FilesAt W W.heap.size A L ∧ SizesF L := by
  rcases open_slice_fields Try.underlying22 Try.underlying96 (by kernel_rfl) (by kernel_rfl) h with ⟨hcs, _⟩ | ⟨a, len, cap, m', D, Pl, hcs, _, hl, hcap, hmm, _, hi⟩
  · simp only [List.cons.injEq, and_true] at hcs
    subst hcs
    exact ⟨none, 0, 0, [], rfl, rfl, by omega, CellsAt.nil_ _ _ _, fun f hf => by simp at hf⟩
  · simp only [List.cons.injEq, and_true] at hcs
    subst hcs
    have hm' : len ≤ m' := by rw [hmm]; simp; omega
    have hF : ∀ i, ∃ t : Fl, i < len → W.cell? (a.add (i * 2)) = some (.string t.1) ∧ W.cell? (a.add (i * 2 + 1)) = some (.string t.2) ∧ t.1.size ≤ maxLen ∧ t.2.size ≤ maxLen := by
      intro i
      by_cases hil : i < len
      · obtain ⟨ys, n', _, _, _, hf⟩ := hi i (by omega)
        obtain ⟨v0, z0, q0, _, t0⟩ := hf 0 _ rfl
        obtain ⟨v1, z1, q1, _, t1⟩ := hf 1 _ rfl
        obtain ⟨x0, e0, _, l0⟩ := DataW.trod_string Try.underlying9 t0
        obtain ⟨x1, e1, _, l1⟩ := DataW.trod_string Try.underlying9 t1
        simp only [List.cons.injEq, and_true] at e0 e1
        subst e0; subst e1
        exact ⟨(x0, x1), fun _ => ⟨q0, q1, l0, l1⟩⟩
      · exact ⟨(⟨#[]⟩, ⟨#[]⟩), fun h => absurd h hil⟩
    obtain ⟨F, hF⟩ := Classical.axiomOfChoice hF
    refine ⟨some a, len, cap, (List.range len).map F, rfl, by simp, ?_, fun h0 => ?_, fun f hf => ?_⟩
    · unfold maxLen at hcap; omega
    · have h0' : 0 < len := by
        rw [csE_length encF_len] at h0
        simp at h0; omega
      obtain ⟨b, off, spot⟩ := a
      have hc0 := (hF 0 h0').1
      have hspot : spot = none := by simpa [Addr.add] using World.cell?_spot hc0
      subst hspot
      refine ⟨b, off, rfl, ?_, fun j hj => ?_⟩
      · have := World.block_lt_of_cell? _ _ hc0
        simpa [Addr.add] using this
      · have hj' : j < len * 2 := by rw [csE_length encF_len] at hj; simpa using hj
        have hk' : j / 2 < len := by omega
        obtain ⟨a1, a2, _, _⟩ := hF (j / 2) hk'
        rw [Go.WideShapes.add_plain] at a1 a2
        have hat := csE_at encF_len ((List.range len).map F) (j / 2) (j % 2) (by simpa using hk') (by omega)
        have ej : j / 2 * 2 + j % 2 = j := by omega
        rw [ej, List.getElem?_eq_getElem hj] at hat
        simp only [List.getElem_map, List.getElem_range] at hat
        have hm2 : j % 2 = 0 ∨ j % 2 = 1 := by omega
        rcases hm2 with hm2 | hm2
        · rw [hm2] at hat ej
          have e0 : (csE encF ((List.range len).map F))[j] = .string (F (j / 2)).1 := by
            have : (encF (F (j / 2)))[0]? = some (.string (F (j / 2)).1) := rfl
            rw [this] at hat
            injection hat
          rw [e0, ← a1, show off + j / 2 * 2 = off + j from by omega]
        · rw [hm2] at hat ej
          have e0 : (csE encF ((List.range len).map F))[j] = .string (F (j / 2)).2 := by
            have : (encF (F (j / 2)))[1]? = some (.string (F (j / 2)).2) := rfl
            rw [this] at hat
            injection hat
          rw [e0, ← a2, show off + (j / 2 * 2 + 1) = off + j from by omega]
    · obtain ⟨i, hi', rfl⟩ := List.mem_map.1 hf
      obtain ⟨_, _, l0, l1⟩ := hF i (List.mem_range.1 hi')
      exact ⟨l0, l1⟩

set_option maxRecDepth 100000 in
theorem open_ops {H : Type} {enc : TypeId × Value → H} {W : World} {v : Value} {fuel : Nat} {x : DataW H × List MemPlace} (h : DataW.trod enc Try.prog W 0 (fun _ => true) true fuel 23 [v] = some x) :
    ∃ (A : Option Addr) (n c : Nat) (L : List Dp), v = .slice A n c ∧ n = L.length ∧ n ≤ 9223372036854775807 ∧ OpsAt W W.heap.size A L ∧ SizesO L := by
  rcases open_slice_fields Try.underlying23 Try.underlying98 (by kernel_rfl) (by kernel_rfl) h with ⟨hcs, _⟩ | ⟨a, len, cap, m', D, Pl, hcs, _, hl, hcap, hmm, _, hi⟩
  · simp only [List.cons.injEq, and_true] at hcs
    subst hcs
    exact ⟨none, 0, 0, [], rfl, rfl, by omega, CellsAt.nil_ _ _ _, fun f hf => by simp at hf⟩
  · simp only [List.cons.injEq, and_true] at hcs
    subst hcs
    have hm' : len ≤ m' := by rw [hmm]; simp; omega
    have hF : ∀ i, ∃ t : Dp, i < len → W.cell? (a.add (i * 4)) = some (.int .i64 t.kind) ∧ W.cell? (a.add (i * 4 + 1)) = some (.string t.name) ∧ W.cell? (a.add (i * 4 + 2)) = some (.string t.to) ∧ W.cell? (a.add (i * 4 + 3)) = some (.string t.data) ∧
        t.name.size ≤ maxLen ∧ t.to.size ≤ maxLen ∧ t.data.size ≤ maxLen := by
      intro i
      by_cases hil : i < len
      · obtain ⟨ys, n', _, _, _, hf⟩ := hi i (by omega)
        obtain ⟨v0, z0, q0, _, t0⟩ := hf 0 _ rfl
        obtain ⟨v1, z1, q1, _, t1⟩ := hf 1 _ rfl
        obtain ⟨v2, z2, q2, _, t2⟩ := hf 2 _ rfl
        obtain ⟨v3, z3, q3, _, t3⟩ := hf 3 _ rfl
        obtain ⟨x0, e0, _, _⟩ := DataW.trod_int Try.underlying2 t0
        obtain ⟨x1, e1, _, l1⟩ := DataW.trod_string Try.underlying9 t1
        obtain ⟨x2, e2, _, l2⟩ := DataW.trod_string Try.underlying9 t2
        obtain ⟨x3, e3, _, l3⟩ := DataW.trod_string Try.underlying9 t3
        simp only [List.cons.injEq, and_true] at e0 e1 e2 e3
        subst e0; subst e1; subst e2; subst e3
        exact ⟨⟨x0, x1, x2, x3⟩, fun _ => ⟨q0, q1, q2, q3, l1, l2, l3⟩⟩
      · exact ⟨⟨0, ⟨#[]⟩, ⟨#[]⟩, ⟨#[]⟩⟩, fun h => absurd h hil⟩
    obtain ⟨F, hF⟩ := Classical.axiomOfChoice hF
    refine ⟨some a, len, cap, (List.range len).map F, rfl, by simp, ?_, fun h0 => ?_, fun f hf => ?_⟩
    · unfold maxLen at hcap; omega
    · have h0' : 0 < len := by
        rw [csE_length encO_len] at h0
        simp at h0; omega
      obtain ⟨b, off, spot⟩ := a
      have hc0 := (hF 0 h0').1
      have hspot : spot = none := by simpa [Addr.add] using World.cell?_spot hc0
      subst hspot
      refine ⟨b, off, rfl, ?_, fun j hj => ?_⟩
      · have := World.block_lt_of_cell? _ _ hc0
        simpa [Addr.add] using this
      · have hj' : j < len * 4 := by rw [csE_length encO_len] at hj; simpa using hj
        have hk' : j / 4 < len := by omega
        obtain ⟨a1, a2, a3, a4, _⟩ := hF (j / 4) hk'
        rw [Go.WideShapes.add_plain] at a1 a2 a3 a4
        have hat := csE_at encO_len ((List.range len).map F) (j / 4) (j % 4) (by simpa using hk') (by omega)
        have ej : j / 4 * 4 + j % 4 = j := by omega
        rw [ej, List.getElem?_eq_getElem hj] at hat
        simp only [List.getElem_map, List.getElem_range] at hat
        have hm2 : j % 4 = 0 ∨ j % 4 = 1 ∨ j % 4 = 2 ∨ j % 4 = 3 := by omega
        rcases hm2 with hm2 | hm2 | hm2 | hm2
        · rw [hm2] at hat ej
          have e0 : (csE encO ((List.range len).map F))[j] = .int .i64 (F (j / 4)).kind := by
            have : (encO (F (j / 4)))[0]? = some (.int .i64 (F (j / 4)).kind) := rfl
            rw [this] at hat
            injection hat
          rw [e0, ← a1, show off + j / 4 * 4 = off + j from by omega]
        · rw [hm2] at hat ej
          have e0 : (csE encO ((List.range len).map F))[j] = .string (F (j / 4)).name := by
            have : (encO (F (j / 4)))[1]? = some (.string (F (j / 4)).name) := rfl
            rw [this] at hat
            injection hat
          rw [e0, ← a2, show off + (j / 4 * 4 + 1) = off + j from by omega]
        · rw [hm2] at hat ej
          have e0 : (csE encO ((List.range len).map F))[j] = .string (F (j / 4)).to := by
            have : (encO (F (j / 4)))[2]? = some (.string (F (j / 4)).to) := rfl
            rw [this] at hat
            injection hat
          rw [e0, ← a3, show off + (j / 4 * 4 + 2) = off + j from by omega]
        · rw [hm2] at hat ej
          have e0 : (csE encO ((List.range len).map F))[j] = .string (F (j / 4)).data := by
            have : (encO (F (j / 4)))[3]? = some (.string (F (j / 4)).data) := rfl
            rw [this] at hat
            injection hat
          rw [e0, ← a4, show off + (j / 4 * 4 + 3) = off + j from by omega]
    · obtain ⟨i, hi', rfl⟩ := List.mem_map.1 hf
      obtain ⟨_, _, _, _, l0, l1, l2⟩ := hF i (List.mem_range.1 hi')
      exact ⟨l0, l1, l2⟩

set_option maxRecDepth 100000 in
theorem open_disk {H : Type} {enc : TypeId × Value → H} {W : World} {r : Reach} {b0 : Nat} {v : Value} {d : DataW H} {p : List MemPlace} (hv : Value.okWide Try.prog W r b0 25 v)
    (h : DataW.Trod enc Try.prog W 0 (fun _ => true) true 25 v d p) :
    ∃ (A1 A2 A3 : Option Addr) (n1 c1 n2 c2 n3 c3 : Nat) (L1 L2 : List Fl) (O : List Dp), v = .agg #[.slice A1 n1 c1, .slice A2 n2 c2, .slice A3 n3 c3] ∧ n1 = L1.length ∧ n2 = L2.length ∧ n3 = O.length ∧
      n1 ≤ 9223372036854775807 ∧ n2 ≤ 9223372036854775807 ∧ n3 ≤ 9223372036854775807 ∧ FilesAt W W.heap.size A1 L1 ∧ FilesAt W W.heap.size A2 L2 ∧ OpsAt W W.heap.size A3 O ∧ SizesF L1 ∧ SizesF L2 ∧ SizesO O := by
  obtain ⟨v0, v1, v2, y0, y1, y2, m, rfl, _, _, h0, h1, h2⟩ := open_agg3 Try.underlying25 (by kernel_rfl) (by kernel_rfl) hv h
  obtain ⟨A1, n1, c1, L1, rfl, e1, m1, f1, s1⟩ := open_files h0
  obtain ⟨A2, n2, c2, L2, rfl, e2, m2, f2, s2⟩ := open_files h1
  obtain ⟨A3, n3, c3, O, rfl, e3, m3, f3, s3⟩ := open_ops h2
  exact ⟨A1, A2, A3, n1, c1, n2, c2, n3, c3, L1, L2, O, rfl, e1, e2, e3, m1, m2, m3, f1, f2, f3, s1, s2, s3⟩


end Go.Proofs.Ytgfmgmcpfefmkaa

set_option linter.unusedSimpArgs false
set_option linter.unusedVariables false
namespace Go.Proofs.Ytgfmgmcpfefmkaa
open Go.RowKit


set_option maxHeartbeats 1000000 in
theorem eqFile_yes (f : Fl) (w : World) :
    Calls Try.prog 80 #[.agg #[.string f.1, .string f.2], .agg #[.string f.1, .string f.2]] w fun e w' => e = .returned (.bool true) ∧ Bl w w' := by
  obtain ⟨a, b⟩ := f
  have h0 := str_self a
  have h1 := str_self b
  show Calls Try.prog 80 #[.agg #[.string a, .string b], .agg #[.string a, .string b]] w _
  go_enter Try.func80, Try.ntmps80
  go_wp2
  go_ret
  exact ⟨rfl, (by repeat' (first | exact Bl.refl _ | with_reducible assumption | with_reducible refine Bl.drew_ ?_ | with_reducible refine Bl.drewN_ ?_ _ | with_reducible refine Bl.alloc_ ?_ _ | with_reducible refine Bl.trans_ ?_ (by assumption) | with_reducible refine Bl.trans_ ?_ (And.left (by assumption))))⟩

set_option maxHeartbeats 1000000 in
theorem eqFileS_yes (A1 A2 : Option Addr) (c1 c2 : Nat) (L : List Fl) (n : Nat) (hn : n = L.length) (w : World) (hm : n ≤ 9223372036854775807) (H1 : FilesAt w w.heap.size A1 L) (H2 : FilesAt w w.heap.size A2 L) :
    Calls Try.prog 44 #[.slice A1 n c1, .slice A2 n c2] w fun e w' => e = .returned (.bool true) ∧ Bl w w' := by
  have HN := Lib.hid hn
  clear hn
  have K1 := Lib.hid H1
  have K2 := Lib.hid H2
  clear H1 H2
  have hnn : ((n : Int) != (n : Int)) = false := by simp
  go_enter Try.func44, Try.ntmps44
  go_wp2
  go_loopw [5] (fun i wr => ∃ k : Nat, k ≤ n ∧ i = .int .i64 k ∧ Bl w wr) (fun i _ => n - (intOf i).toNat)
  case atStart => exact ⟨0, by omega, rfl, Bl.refl _⟩
  case round =>
    obtain ⟨k, hk, rfl, hbl⟩ := hrel
    by_cases hlt : k < n
    · have hkl : k < L.length := by have := HN.out; omega
      obtain ⟨g1, o1, rfl, hg1, hc1⟩ := K1.out.cell (by omega)
      obtain ⟨g2, o2, rfl, hg2, hc2⟩ := K2.out.cell (by omega)
      obtain ⟨p1, p2⟩ := hc1 k hkl
      obtain ⟨q1, q2⟩ := hc2 k hkl
      obtain ⟨f, hf⟩ : ∃ f, f = L[k] := ⟨_, rfl⟩
      rw [← hf] at p1 p2 q1 q2
      clear hc1 hc2 hkl hf
      have HSH := Lib.hid (show ∀ wx, Bl w wx → Bl w wx ∧ wx.cell? ⟨g1, o1 + k * 2, none⟩ = some (.string f.1) ∧ wx.cell? ⟨g1, o1 + k * 2 + 1, none⟩ = some (.string f.2) ∧ wx.cell? ⟨g2, o2 + k * 2, none⟩ = some (.string f.1) ∧ wx.cell? ⟨g2, o2 + k * 2 + 1, none⟩ = some (.string f.2) from fun wx hb => by
        obtain ⟨hc, _⟩ := bcell hb
        exact ⟨hb, (hc _ _ hg1).trans p1, (hc _ _ hg1).trans p2, (hc _ _ hg2).trans q1, (hc _ _ hg2).trans q2⟩)
      clear p1 p2 q1 q2 hg1 hg2
      go_wp2_with fail
      refine wp_region_held_drew (S := fun wx => Bl w wx ∧ wx.cell? ⟨g1, o1 + k * 2, none⟩ = some (.string f.1) ∧ wx.cell? ⟨g1, o1 + k * 2 + 1, none⟩ = some (.string f.2) ∧ wx.cell? ⟨g2, o2 + k * 2, none⟩ = some (.string f.1) ∧ wx.cell? ⟨g2, o2 + k * 2 + 1, none⟩ = some (.string f.2)) (by kernel_rfl) ?_ (fun hHeld => ?_)
      · (exact HSH.out _ (by repeat' (first | exact Bl.refl _ | with_reducible assumption | with_reducible refine Bl.drew_ ?_ | with_reducible refine Bl.drewN_ ?_ _ | with_reducible refine Bl.alloc_ ?_ _ | with_reducible refine Bl.trans_ ?_ (by assumption) | with_reducible refine Bl.trans_ ?_ (And.left (by assumption)))))
      refine wpAnyH_take (i := 0) (v := ?_) rfl (by kernel_rfl) (by kernel_rfl) (by kernel_rfl) (fun _ _ _ h => h) (Or.inl ⟨by kernel_rfl, ?_⟩) (by assumption) ?_
      rotate_left
      · (intro wx hSw; (try dsimp only at hSw); go_simp; try (with_reducible rfl))
      try simp only [Act.put, List.getElem_toArray, List.getElem_cons_succ, List.getElem_cons_zero, List.setIfInBounds_toArray, List.set_cons_zero, List.set_cons_succ]
      refine wpAnyH_take (i := 1) (v := ?_) rfl (by kernel_rfl) (by kernel_rfl) (by kernel_rfl) (fun _ _ _ h => h) (Or.inl ⟨by kernel_rfl, ?_⟩) (by assumption) ?_
      rotate_left
      · (intro wx hSw; (try dsimp only at hSw); go_simp; try (with_reducible rfl))
      try simp only [Act.put, List.getElem_toArray, List.getElem_cons_succ, List.getElem_cons_zero, List.setIfInBounds_toArray, List.set_cons_zero, List.set_cons_succ]
      refine wpAnyH_take (i := 2) (v := ?_) rfl (by kernel_rfl) (by kernel_rfl) (by kernel_rfl) (fun _ _ _ h => h) (Or.inl ⟨by kernel_rfl, ?_⟩) (by assumption) ?_
      rotate_left
      · (intro wx hSw; (try dsimp only at hSw); go_simp; try (with_reducible rfl))
      try simp only [Act.put, List.getElem_toArray, List.getElem_cons_succ, List.getElem_cons_zero, List.setIfInBounds_toArray, List.set_cons_zero, List.set_cons_succ]
      refine wpAnyH_take (i := 3) (v := ?_) rfl (by kernel_rfl) (by kernel_rfl) (by kernel_rfl) (fun _ _ _ h => h) (Or.inl ⟨by kernel_rfl, ?_⟩) (by assumption) ?_
      rotate_left
      · (intro wx hSw; (try dsimp only at hSw); go_simp; try (with_reducible rfl))
      try simp only [Act.put, List.getElem_toArray, List.getElem_cons_succ, List.getElem_cons_zero, List.setIfInBounds_toArray, List.set_cons_zero, List.set_cons_succ]
      refine wpAnyH_take (i := 4) (v := ?_) rfl (by kernel_rfl) (by kernel_rfl) (by kernel_rfl) (fun _ _ _ h => h) (Or.inl ⟨by kernel_rfl, ?_⟩) (by assumption) ?_
      rotate_left
      · (intro wx hSw; (try dsimp only at hSw); go_simp; try (with_reducible rfl))
      try simp only [Act.put, List.getElem_toArray, List.getElem_cons_succ, List.getElem_cons_zero, List.setIfInBounds_toArray, List.set_cons_zero, List.set_cons_succ]
      refine wpAnyH_take (i := 5) (v := ?_) rfl (by kernel_rfl) (by kernel_rfl) (by kernel_rfl) (fun _ _ _ h => h) (Or.inl ⟨by kernel_rfl, ?_⟩) (by assumption) ?_
      rotate_left
      · (intro wx hSw; (try dsimp only at hSw); go_simp; try (with_reducible rfl))
      try simp only [Act.put, List.getElem_toArray, List.getElem_cons_succ, List.getElem_cons_zero, List.setIfInBounds_toArray, List.set_cons_zero, List.set_cons_succ]
      refine wpAnyH_take (i := 6) (v := ?_) rfl (by kernel_rfl) (by kernel_rfl) (by kernel_rfl) (fun _ _ _ h => h) (Or.inl ⟨by kernel_rfl, ?_⟩) (by assumption) ?_
      rotate_left
      · (intro wx hSw; (try dsimp only at hSw); go_simp; try (with_reducible rfl))
      try simp only [Act.put, List.getElem_toArray, List.getElem_cons_succ, List.getElem_cons_zero, List.setIfInBounds_toArray, List.set_cons_zero, List.set_cons_succ]
      refine wpAnyH_take (i := 7) (v := ?_) rfl (by kernel_rfl) (by kernel_rfl) (by kernel_rfl) (fun _ _ _ h => h) (Or.inl ⟨by kernel_rfl, ?_⟩) (by assumption) ?_
      rotate_left
      · (intro wx hSw; (try dsimp only at hSw); go_simp; try (with_reducible rfl))
      try simp only [Act.put, List.getElem_toArray, List.getElem_cons_succ, List.getElem_cons_zero, List.setIfInBounds_toArray, List.set_cons_zero, List.set_cons_succ]
      refine wpAnyH_ready (rs := [8]) (by kernel_rfl) (by simp) ?_
      refine AllReadyH.cons rfl (fun K hK => ?_) AllReadyH.nil
      go_simp
      (go_at_call 80; refine (eqFile_yes f _).mono ?_; rintro e w1 ⟨rfl, hb1⟩)
      try (go_wp2_with fail)
      refine hK.out _ _ ?_ (fun hHeld => ?_)
      · (exact HSH.out _ (by repeat' (first | exact Bl.refl _ | with_reducible assumption | with_reducible refine Bl.drew_ ?_ | with_reducible refine Bl.drewN_ ?_ _ | with_reducible refine Bl.alloc_ ?_ _ | with_reducible refine Bl.trans_ ?_ (by assumption) | with_reducible refine Bl.trans_ ?_ (And.left (by assumption)))))
      clear hK K
      try simp only [Act.put, List.getElem_toArray, List.getElem_cons_succ, List.getElem_cons_zero, List.setIfInBounds_toArray, List.set_cons_zero, List.set_cons_succ]
      refine wpAnyH_take (i := 9) (v := ?_) rfl (by kernel_rfl) (by kernel_rfl) (by kernel_rfl) (fun _ _ _ h => h) (Or.inl ⟨by kernel_rfl, ?_⟩) (by assumption) ?_
      rotate_left
      · (intro wx hSw; (try dsimp only at hSw); go_simp; try (with_reducible rfl))
      try simp only [Act.put, List.getElem_toArray, List.getElem_cons_succ, List.getElem_cons_zero, List.setIfInBounds_toArray, List.set_cons_zero, List.set_cons_succ]
      refine wpAnyH_done (by kernel_rfl) ?_ _
      go_wp2
      go_roundw
      case rel => exact ⟨k + 1, by omega, by go_num, (by repeat' (first | exact Bl.refl _ | with_reducible assumption | with_reducible refine Bl.drew_ ?_ | with_reducible refine Bl.drewN_ ?_ _ | with_reducible refine Bl.alloc_ ?_ _ | with_reducible refine Bl.trans_ ?_ (by assumption) | with_reducible refine Bl.trans_ ?_ (And.left (by assumption))))⟩
      case measure => simp [intOf]; omega
    · go_wp2
      go_ret
      exact ⟨rfl, hbl⟩

set_option maxHeartbeats 1000000 in
theorem eqDOp_yes (f : Dp) (w : World) :
    Calls Try.prog 81 #[.agg #[.int .i64 f.kind, .string f.name, .string f.to, .string f.data], .agg #[.int .i64 f.kind, .string f.name, .string f.to, .string f.data]] w fun e w' => e = .returned (.bool true) ∧ Bl w w' := by
  obtain ⟨a, b, c, d⟩ := f
  have h0 : (a != a) = false := by simp
  have h1 := str_self b
  have h2 := str_self c
  have h3 := str_self d
  show Calls Try.prog 81 #[.agg #[.int .i64 a, .string b, .string c, .string d], .agg #[.int .i64 a, .string b, .string c, .string d]] w _
  go_enter Try.func81, Try.ntmps81
  go_wp2
  go_ret
  exact ⟨rfl, (by repeat' (first | exact Bl.refl _ | with_reducible assumption | with_reducible refine Bl.drew_ ?_ | with_reducible refine Bl.drewN_ ?_ _ | with_reducible refine Bl.alloc_ ?_ _ | with_reducible refine Bl.trans_ ?_ (by assumption) | with_reducible refine Bl.trans_ ?_ (And.left (by assumption))))⟩

set_option maxHeartbeats 1000000 in
theorem eqDOpS_yes (A1 A2 : Option Addr) (c1 c2 : Nat) (L : List Dp) (n : Nat) (hn : n = L.length) (w : World) (hm : n ≤ 9223372036854775807) (H1 : OpsAt w w.heap.size A1 L) (H2 : OpsAt w w.heap.size A2 L) :
    Calls Try.prog 45 #[.slice A1 n c1, .slice A2 n c2] w fun e w' => e = .returned (.bool true) ∧ Bl w w' := by
  have HN := Lib.hid hn
  clear hn
  have K1 := Lib.hid H1
  have K2 := Lib.hid H2
  clear H1 H2
  have hnn : ((n : Int) != (n : Int)) = false := by simp
  go_enter Try.func45, Try.ntmps45
  go_wp2
  go_loopw [5] (fun i wr => ∃ k : Nat, k ≤ n ∧ i = .int .i64 k ∧ Bl w wr) (fun i _ => n - (intOf i).toNat)
  case atStart => exact ⟨0, by omega, rfl, Bl.refl _⟩
  case round =>
    obtain ⟨k, hk, rfl, hbl⟩ := hrel
    by_cases hlt : k < n
    · have hkl : k < L.length := by have := HN.out; omega
      obtain ⟨g1, o1, rfl, hg1, hc1⟩ := K1.out.cell (by omega)
      obtain ⟨g2, o2, rfl, hg2, hc2⟩ := K2.out.cell (by omega)
      obtain ⟨p1, p2, p3, p4⟩ := hc1 k hkl
      obtain ⟨q1, q2, q3, q4⟩ := hc2 k hkl
      obtain ⟨f, hf⟩ : ∃ f, f = L[k] := ⟨_, rfl⟩
      rw [← hf] at p1 p2 p3 p4 q1 q2 q3 q4
      clear hc1 hc2 hkl hf
      have HSH := Lib.hid (show ∀ wx, Bl w wx → Bl w wx ∧ wx.cell? ⟨g1, o1 + k * 4, none⟩ = some (.int .i64 f.kind) ∧ wx.cell? ⟨g1, o1 + k * 4 + 1, none⟩ = some (.string f.name) ∧ wx.cell? ⟨g1, o1 + k * 4 + 2, none⟩ = some (.string f.to) ∧ wx.cell? ⟨g1, o1 + k * 4 + 3, none⟩ = some (.string f.data) ∧ wx.cell? ⟨g2, o2 + k * 4, none⟩ = some (.int .i64 f.kind) ∧ wx.cell? ⟨g2, o2 + k * 4 + 1, none⟩ = some (.string f.name) ∧ wx.cell? ⟨g2, o2 + k * 4 + 2, none⟩ = some (.string f.to) ∧ wx.cell? ⟨g2, o2 + k * 4 + 3, none⟩ = some (.string f.data) from fun wx hb => by
        obtain ⟨hc, _⟩ := bcell hb
        exact ⟨hb, (hc _ _ hg1).trans p1, (hc _ _ hg1).trans p2, (hc _ _ hg1).trans p3, (hc _ _ hg1).trans p4, (hc _ _ hg2).trans q1, (hc _ _ hg2).trans q2, (hc _ _ hg2).trans q3, (hc _ _ hg2).trans q4⟩)
      clear p1 p2 p3 p4 q1 q2 q3 q4 hg1 hg2
      go_wp2_with fail
      refine wp_region_held_drew (S := fun wx => Bl w wx ∧ wx.cell? ⟨g1, o1 + k * 4, none⟩ = some (.int .i64 f.kind) ∧ wx.cell? ⟨g1, o1 + k * 4 + 1, none⟩ = some (.string f.name) ∧ wx.cell? ⟨g1, o1 + k * 4 + 2, none⟩ = some (.string f.to) ∧ wx.cell? ⟨g1, o1 + k * 4 + 3, none⟩ = some (.string f.data) ∧ wx.cell? ⟨g2, o2 + k * 4, none⟩ = some (.int .i64 f.kind) ∧ wx.cell? ⟨g2, o2 + k * 4 + 1, none⟩ = some (.string f.name) ∧ wx.cell? ⟨g2, o2 + k * 4 + 2, none⟩ = some (.string f.to) ∧ wx.cell? ⟨g2, o2 + k * 4 + 3, none⟩ = some (.string f.data)) (by kernel_rfl) ?_ (fun hHeld => ?_)
      · (exact HSH.out _ (by repeat' (first | exact Bl.refl _ | with_reducible assumption | with_reducible refine Bl.drew_ ?_ | with_reducible refine Bl.drewN_ ?_ _ | with_reducible refine Bl.alloc_ ?_ _ | with_reducible refine Bl.trans_ ?_ (by assumption) | with_reducible refine Bl.trans_ ?_ (And.left (by assumption)))))
      refine wpAnyH_take (i := 0) (v := ?_) rfl (by kernel_rfl) (by kernel_rfl) (by kernel_rfl) (fun _ _ _ h => h) (Or.inl ⟨by kernel_rfl, ?_⟩) (by assumption) ?_
      rotate_left
      · (intro wx hSw; (try dsimp only at hSw); go_simp; try (with_reducible rfl))
      try simp only [Act.put, List.getElem_toArray, List.getElem_cons_succ, List.getElem_cons_zero, List.setIfInBounds_toArray, List.set_cons_zero, List.set_cons_succ]
      refine wpAnyH_take (i := 1) (v := ?_) rfl (by kernel_rfl) (by kernel_rfl) (by kernel_rfl) (fun _ _ _ h => h) (Or.inl ⟨by kernel_rfl, ?_⟩) (by assumption) ?_
      rotate_left
      · (intro wx hSw; (try dsimp only at hSw); go_simp; try (with_reducible rfl))
      try simp only [Act.put, List.getElem_toArray, List.getElem_cons_succ, List.getElem_cons_zero, List.setIfInBounds_toArray, List.set_cons_zero, List.set_cons_succ]
      refine wpAnyH_take (i := 2) (v := ?_) rfl (by kernel_rfl) (by kernel_rfl) (by kernel_rfl) (fun _ _ _ h => h) (Or.inl ⟨by kernel_rfl, ?_⟩) (by assumption) ?_
      rotate_left
      · (intro wx hSw; (try dsimp only at hSw); go_simp; try (with_reducible rfl))
      try simp only [Act.put, List.getElem_toArray, List.getElem_cons_succ, List.getElem_cons_zero, List.setIfInBounds_toArray, List.set_cons_zero, List.set_cons_succ]
      refine wpAnyH_take (i := 3) (v := ?_) rfl (by kernel_rfl) (by kernel_rfl) (by kernel_rfl) (fun _ _ _ h => h) (Or.inl ⟨by kernel_rfl, ?_⟩) (by assumption) ?_
      rotate_left
      · (intro wx hSw; (try dsimp only at hSw); go_simp; try (with_reducible rfl))
      try simp only [Act.put, List.getElem_toArray, List.getElem_cons_succ, List.getElem_cons_zero, List.setIfInBounds_toArray, List.set_cons_zero, List.set_cons_succ]
      refine wpAnyH_take (i := 4) (v := ?_) rfl (by kernel_rfl) (by kernel_rfl) (by kernel_rfl) (fun _ _ _ h => h) (Or.inl ⟨by kernel_rfl, ?_⟩) (by assumption) ?_
      rotate_left
      · (intro wx hSw; (try dsimp only at hSw); go_simp; try (with_reducible rfl))
      try simp only [Act.put, List.getElem_toArray, List.getElem_cons_succ, List.getElem_cons_zero, List.setIfInBounds_toArray, List.set_cons_zero, List.set_cons_succ]
      refine wpAnyH_take (i := 5) (v := ?_) rfl (by kernel_rfl) (by kernel_rfl) (by kernel_rfl) (fun _ _ _ h => h) (Or.inl ⟨by kernel_rfl, ?_⟩) (by assumption) ?_
      rotate_left
      · (intro wx hSw; (try dsimp only at hSw); go_simp; try (with_reducible rfl))
      try simp only [Act.put, List.getElem_toArray, List.getElem_cons_succ, List.getElem_cons_zero, List.setIfInBounds_toArray, List.set_cons_zero, List.set_cons_succ]
      refine wpAnyH_take (i := 6) (v := ?_) rfl (by kernel_rfl) (by kernel_rfl) (by kernel_rfl) (fun _ _ _ h => h) (Or.inl ⟨by kernel_rfl, ?_⟩) (by assumption) ?_
      rotate_left
      · (intro wx hSw; (try dsimp only at hSw); go_simp; try (with_reducible rfl))
      try simp only [Act.put, List.getElem_toArray, List.getElem_cons_succ, List.getElem_cons_zero, List.setIfInBounds_toArray, List.set_cons_zero, List.set_cons_succ]
      refine wpAnyH_take (i := 7) (v := ?_) rfl (by kernel_rfl) (by kernel_rfl) (by kernel_rfl) (fun _ _ _ h => h) (Or.inl ⟨by kernel_rfl, ?_⟩) (by assumption) ?_
      rotate_left
      · (intro wx hSw; (try dsimp only at hSw); go_simp; try (with_reducible rfl))
      try simp only [Act.put, List.getElem_toArray, List.getElem_cons_succ, List.getElem_cons_zero, List.setIfInBounds_toArray, List.set_cons_zero, List.set_cons_succ]
      refine wpAnyH_ready (rs := [8]) (by kernel_rfl) (by simp) ?_
      refine AllReadyH.cons rfl (fun K hK => ?_) AllReadyH.nil
      go_simp
      (go_at_call 81; refine (eqDOp_yes f _).mono ?_; rintro e w1 ⟨rfl, hb1⟩)
      try (go_wp2_with fail)
      refine hK.out _ _ ?_ (fun hHeld => ?_)
      · (exact HSH.out _ (by repeat' (first | exact Bl.refl _ | with_reducible assumption | with_reducible refine Bl.drew_ ?_ | with_reducible refine Bl.drewN_ ?_ _ | with_reducible refine Bl.alloc_ ?_ _ | with_reducible refine Bl.trans_ ?_ (by assumption) | with_reducible refine Bl.trans_ ?_ (And.left (by assumption)))))
      clear hK K
      try simp only [Act.put, List.getElem_toArray, List.getElem_cons_succ, List.getElem_cons_zero, List.setIfInBounds_toArray, List.set_cons_zero, List.set_cons_succ]
      refine wpAnyH_take (i := 9) (v := ?_) rfl (by kernel_rfl) (by kernel_rfl) (by kernel_rfl) (fun _ _ _ h => h) (Or.inl ⟨by kernel_rfl, ?_⟩) (by assumption) ?_
      rotate_left
      · (intro wx hSw; (try dsimp only at hSw); go_simp; try (with_reducible rfl))
      try simp only [Act.put, List.getElem_toArray, List.getElem_cons_succ, List.getElem_cons_zero, List.setIfInBounds_toArray, List.set_cons_zero, List.set_cons_succ]
      refine wpAnyH_done (by kernel_rfl) ?_ _
      go_wp2
      go_roundw
      case rel => exact ⟨k + 1, by omega, by go_num, (by repeat' (first | exact Bl.refl _ | with_reducible assumption | with_reducible refine Bl.drew_ ?_ | with_reducible refine Bl.drewN_ ?_ _ | with_reducible refine Bl.alloc_ ?_ _ | with_reducible refine Bl.trans_ ?_ (by assumption) | with_reducible refine Bl.trans_ ?_ (And.left (by assumption))))⟩
      case measure => simp [intOf]; omega
    · go_wp2
      go_ret
      exact ⟨rfl, hbl⟩

end Go.Proofs.Ytgfmgmcpfefmkaa

set_option linter.unusedSimpArgs false
set_option linter.unusedVariables false
namespace Go.Proofs.Ytgfmgmcpfefmkaa
open Go.RowKit


set_option maxHeartbeats 1000000 in
theorem szFileS_any (A : Option Addr) (n c : Nat) (L : List Fl) (hn : n = L.length) (l : Int) (w : World) (hm : n ≤ 9223372036854775807) (hz : ∀ f ∈ L, f.1.size ≤ 9223372036854775807 ∧ f.2.size ≤ 9223372036854775807) (hl0 : 0 ≤ l) (hl1 : l ≤ 1048576) (H1 : FilesAt w w.heap.size A L) :
    Calls Try.prog 31 #[.slice A n c, .int .i64 l] w fun e w' => e = .returned (.int .i64 (leftI l (n + szL szFl L))) ∧ Bl w w' := by
  have K1 := Lib.hid H1
  have HN := Lib.hid hn
  have HZ := Lib.hid hz
  clear H1 hn hz
  by_cases h1 : l - n < 0
  · go_enter Try.func31, Try.ntmps31
    go_wp2
    go_ret
    exact ⟨ret_int (by rw [leftI_neg (by omega)]), Bl.refl w⟩
  · have h1' : ¬ l - (n : Int) < 0 := h1
    go_enter Try.func31, Try.ntmps31
    go_wp2
    go_loopw [1, 5] (fun q i wr => ∃ k : Nat, k ≤ n ∧ i = .int .i64 k ∧ q = .int .i64 (l - n - (szL szFl (L.take k) : Nat)) ∧ 0 ≤ l - n - (szL szFl (L.take k) : Nat) ∧ Bl w wr) (fun _ i _ => n - (intOf i).toNat)
    case atStart => exact ⟨0, by omega, rfl, by simp [szL], by simp [szL]; omega, Bl.refl w⟩
    case round =>
      obtain ⟨k, hk, rfl, rfl, h0, hbl⟩ := hrel
      have BW := Lib.hid hbl
      by_cases hlt : k < n
      · have hkl : k < L.length := by have := HN.out; omega
        obtain ⟨g1, o1, rfl, hg1, hc1⟩ := K1.out.cell (by omega)
        obtain ⟨p1, p2⟩ := hc1 k hkl
        rw [← (bcell hbl).1 _ _ hg1] at p1 p2
        clear hc1
        have hzk := HZ.out _ (List.getElem_mem hkl)
        have hst := szL_take szFl L k hkl
        have hle := szL_le szFl L (k + 1)
        obtain ⟨f, hf⟩ : ∃ f, f = L[k] := ⟨_, rfl⟩
        rw [← hf] at p1 p2 hzk hst
        obtain ⟨z0, z1⟩ := hzk
        obtain ⟨t, ht⟩ : ∃ t, t = szL szFl (L.take k) := ⟨_, rfl⟩
        rw [← ht] at h0 hst
        try rw [← ht]
        have HT := Lib.hid ht
        rw [hst] at hle
        have HST := Lib.hid hst
        have i0 : (0 : Int) ≤ (k : Int) := by omega
        have i1 : (k : Int) < (n : Int) := by omega
        clear hf ht hst hbl
        by_cases hneg : l - n - (t : Int) - ((szFl f : Nat) : Int) < 0
        · have hv := leftI_neg (l := l - n - (t : Int)) (n := szFl f) hneg
          have hv2 := leftI_neg (l := l) (n := n + szL szFl L) (by omega)
          go_wp2_with fail
          refine (szFile_any f (l - n - (t : Int)) _ z0 z1 (by omega) (by omega)).mono ?_
          rintro e w1 ⟨rfl, hb1⟩
          rw [hv]
          go_wp2
          go_ret
          exact ⟨ret_int hv2.symm, BW.out.trans_ hb1⟩
        · have hv := leftI_pos (l := l - n - (t : Int)) (n := szFl f) hneg
          go_wp2_with fail
          refine (szFile_any f (l - n - (t : Int)) _ z0 z1 (by omega) (by omega)).mono ?_
          rintro e w1 ⟨rfl, hb1⟩
          rw [hv]
          go_wp2
          go_roundw
          case rel => exact ⟨k + 1, by omega, by go_num, by rw [HST.out]; congr 1; omega, by rw [HST.out]; omega, BW.out.trans_ hb1⟩
          case measure => simp [intOf]; omega
      · obtain rfl : k = n := by omega
        have e : L.take k = L := List.take_of_length_le (by have := HN.out; omega)
        rw [e] at h0
        try rw [e]
        go_wp2
        go_ret
        exact ⟨ret_int (by rw [leftI_pos (by omega)]; omega), hbl⟩

set_option maxHeartbeats 400000 in
theorem toFile_any (f : Fl) (w : World) :
    Calls Try.prog 74 #[.agg #[.string f.1, .string f.2]] w fun e w' => e = .returned (.agg #[.string f.1, .string f.2]) ∧ Bl w w' := by
  obtain ⟨a, b⟩ := f
  go_enter Try.func74, Try.ntmps74
  go_wp2
  exact bodyPost_ret (v := .agg #[.string a, .string b]) (by simp [results, Try.results74, go_sem]) rfl ⟨rfl, (by repeat' (first | exact Bl.refl _ | with_reducible assumption | with_reducible refine Bl.drew_ ?_ | with_reducible refine Bl.drewN_ ?_ _ | with_reducible refine Bl.alloc_ ?_ _ | with_reducible refine Bl.trans_ ?_ (by assumption) | with_reducible refine Bl.trans_ ?_ (And.left (by assumption))))⟩

def mkFile (n : Nat) : Array Value := madeCells (Value.agg #[.string ⟨#[]⟩, .string ⟨#[]⟩]).cells (n * 2)
theorem size_mkFile (n : Nat) : (mkFile n).size = n * 2 := size_madeCells _ _
theorem make_File (n : Nat) (hn : n ≤ 1048576) (w : World) : (Instr.makeSlice 28 (.int .i64 (n : Int)) (.int .i64 (n : Int))).run Try.prog w = .ok (.slice (some ⟨w.heap.size, 0, none⟩) n n) (w.alloc (.cells (mkFile n) 86)) := by
  obtain ⟨i0, hi, hz0, hz1, hz2⟩ := info_parts infoFile
  have h := run_make_rowN (P := Try.prog) 28 86 i0 _ Try.underlying28 hi hz0 .i64 .i64 n n (Nat.le_refl _) (by rw [hz2]; omega) (by omega) w
  rw [hz1] at h
  exact h

theorem filledFile_step {w : World} {g n k : Nat} {L : List Fl} (h : FilledE 86 encF 2 w g n k L) (hk : k < n) (hl : k < L.length) {f : Fl} (hf : f = L[k]) :
    FilledE 86 encF 2 ((w.setCell ⟨g, k * 2, none⟩ (.string f.1)).setCell ⟨g, k * 2 + 1, none⟩ (.string f.2)) g n (k + 1) L := by
  obtain ⟨cur, hb, hs, hc⟩ := h
  refine ⟨((cur.setIfInBounds (k * 2) (.string f.1)).setIfInBounds (k * 2 + 1) (.string f.2)), (heap_setCell_same _ g _ _ _ _ (heap_setCell_same _ g _ _ _ _ hb)), by simpa using hs, fun j hj hj' r hr => ?_⟩
  rcases Nat.lt_or_ge j k with h | h
  · have hne : ∀ i, i < 2 → k * 2 + i ≠ j * 2 + r := fun i hi => by omega
    rw [Array.getElem?_setIfInBounds_ne (by omega)]; rw [Array.getElem?_setIfInBounds_ne (by omega)]
    exact hc j h hj' r hr
  · obtain rfl : j = k := by omega
    rw [← hf]
    have h2 : r = 0 ∨ r = 1 := by omega
    rcases h2 with rfl | rfl
    · simp only [Nat.add_zero]; rw [Array.getElem?_setIfInBounds_ne (by omega), Array.getElem?_setIfInBounds_self_of_lt (by first | omega | (simp only [Array.size_setIfInBounds]; omega))]; rfl
    · rw [Array.getElem?_setIfInBounds_self_of_lt (by first | omega | (simp only [Array.size_setIfInBounds]; omega))]; rfl

/-- What a copy leaves: a row of its own. -/
def FileMade (n : Nat) (L : List Fl) (w : World) (e : Ending) (w' : World) : Prop :=
  ∃ g, e = .returned (.slice (some ⟨g, 0, none⟩) n n) ∧ OwnF w' w.heap.size (.slice (some ⟨g, 0, none⟩) n n) L ∧ Bl w w' ∧ w.heap.size < w'.heap.size

set_option maxHeartbeats 1000000 in
theorem toFileS_any (A : Option Addr) (n c : Nat) (L : List Fl) (hn : n = L.length) (w : World) (hm : n ≤ 1048576) (H1 : FilesAt w w.heap.size A L) :
    Calls Try.prog 36 #[.slice A n c] w (FileMade n L w) := by
  have K1 := Lib.hid H1
  have HN := Lib.hid hn
  clear H1 hn
  have hmk := make_File n hm
  go_enter Try.func36, Try.ntmps36
  go_wp2
  clear hmk
  go_loopw [4] (fun i wr => ∃ k : Nat, k ≤ n ∧ i = .int .i64 k ∧ Bl w wr ∧ FilledE 86 encF 2 wr w.heap.size n k L) (fun i _ => n - (intOf i).toNat)
  case atStart => exact ⟨0, by omega, rfl, (by repeat' (first | exact Bl.refl _ | with_reducible assumption | with_reducible refine Bl.drew_ ?_ | with_reducible refine Bl.drewN_ ?_ _ | with_reducible refine Bl.alloc_ ?_ _ | with_reducible refine Bl.trans_ ?_ (by assumption) | with_reducible refine Bl.trans_ ?_ (And.left (by assumption)))), mkFile n, heap_alloc_new _ _, size_mkFile n, fun j h => absurd h (by omega)⟩
  case round =>
    obtain ⟨k, hk, rfl, hbl, hF⟩ := hrel
    have F := Lib.hid hF
    clear hF
    by_cases hlt : k < n
    · have hkl : k < L.length := by have := HN.out; omega
      obtain ⟨g1, o1, rfl, hg1, hc1⟩ := K1.out.cell (by omega)
      obtain ⟨p1, p2⟩ := hc1 k hkl
      rw [← (bcell hbl).1 _ _ hg1] at p1 p2
      clear hc1
      obtain ⟨f, hf⟩ : ∃ f, f = L[k] := ⟨_, rfl⟩
      rw [← hf] at p1 p2
      have HF := Lib.hid hf
      clear hf
      go_wp2_with fail
      refine (toFile_any f _).mono ?_
      rintro e w1 ⟨rfl, hb⟩
      have F2 := Lib.hid (F.out.bl hb)
      obtain ⟨y0, -, z⟩ := F2.out.cells
      obtain ⟨v0, z0⟩ := z (k * 2) (by omega)
      have x0 := y0 (k * 2)
      obtain ⟨v1, z1⟩ := z (k * 2 + 1) (by omega)
      have x1 := y0 (k * 2 + 1)
      clear y0 z
      go_wp2
      go_roundw
      case rel => exact ⟨k + 1, by omega, by go_num, (Bl.set_ (Bl.set_ (hbl.trans_ hb) (Nat.le_refl _) _) (Nat.le_refl _) _), filledFile_step F2.out hlt hkl HF.out⟩
      case measure => simp [intOf]; omega
    · go_wp2
      go_ret
      have e : k = n := by omega
      subst e
      exact ⟨_, rfl, F.out.own encF_len HN.out hm (Nat.le_refl _), hbl, F.out.cells.2.1⟩

set_option maxHeartbeats 1000000 in
theorem szDOpS_any (A : Option Addr) (n c : Nat) (L : List Dp) (hn : n = L.length) (l : Int) (w : World) (hm : n ≤ 9223372036854775807) (hz : ∀ f ∈ L, f.name.size ≤ 9223372036854775807 ∧ f.to.size ≤ 9223372036854775807 ∧ f.data.size ≤ 9223372036854775807) (hl0 : 0 ≤ l) (hl1 : l ≤ 1048576) (H1 : OpsAt w w.heap.size A L) :
    Calls Try.prog 32 #[.slice A n c, .int .i64 l] w fun e w' => e = .returned (.int .i64 (leftI l (n + szL szDp L))) ∧ Bl w w' := by
  have K1 := Lib.hid H1
  have HN := Lib.hid hn
  have HZ := Lib.hid hz
  clear H1 hn hz
  by_cases h1 : l - n < 0
  · go_enter Try.func32, Try.ntmps32
    go_wp2
    go_ret
    exact ⟨ret_int (by rw [leftI_neg (by omega)]), Bl.refl w⟩
  · have h1' : ¬ l - (n : Int) < 0 := h1
    go_enter Try.func32, Try.ntmps32
    go_wp2
    go_loopw [1, 5] (fun q i wr => ∃ k : Nat, k ≤ n ∧ i = .int .i64 k ∧ q = .int .i64 (l - n - (szL szDp (L.take k) : Nat)) ∧ 0 ≤ l - n - (szL szDp (L.take k) : Nat) ∧ Bl w wr) (fun _ i _ => n - (intOf i).toNat)
    case atStart => exact ⟨0, by omega, rfl, by simp [szL], by simp [szL]; omega, Bl.refl w⟩
    case round =>
      obtain ⟨k, hk, rfl, rfl, h0, hbl⟩ := hrel
      have BW := Lib.hid hbl
      by_cases hlt : k < n
      · have hkl : k < L.length := by have := HN.out; omega
        obtain ⟨g1, o1, rfl, hg1, hc1⟩ := K1.out.cell (by omega)
        obtain ⟨p1, p2, p3, p4⟩ := hc1 k hkl
        rw [← (bcell hbl).1 _ _ hg1] at p1 p2 p3 p4
        clear hc1
        have hzk := HZ.out _ (List.getElem_mem hkl)
        have hst := szL_take szDp L k hkl
        have hle := szL_le szDp L (k + 1)
        obtain ⟨f, hf⟩ : ∃ f, f = L[k] := ⟨_, rfl⟩
        rw [← hf] at p1 p2 p3 p4 hzk hst
        obtain ⟨z0, z1, z2⟩ := hzk
        obtain ⟨t, ht⟩ : ∃ t, t = szL szDp (L.take k) := ⟨_, rfl⟩
        rw [← ht] at h0 hst
        try rw [← ht]
        have HT := Lib.hid ht
        rw [hst] at hle
        have HST := Lib.hid hst
        have i0 : (0 : Int) ≤ (k : Int) := by omega
        have i1 : (k : Int) < (n : Int) := by omega
        clear hf ht hst hbl
        by_cases hneg : l - n - (t : Int) - ((szDp f : Nat) : Int) < 0
        · have hv := leftI_neg (l := l - n - (t : Int)) (n := szDp f) hneg
          have hv2 := leftI_neg (l := l) (n := n + szL szDp L) (by omega)
          go_wp2_with fail
          refine (szDOp_any f (l - n - (t : Int)) _ z0 z1 z2 (by omega) (by omega)).mono ?_
          rintro e w1 ⟨rfl, hb1⟩
          rw [hv]
          go_wp2
          go_ret
          exact ⟨ret_int hv2.symm, BW.out.trans_ hb1⟩
        · have hv := leftI_pos (l := l - n - (t : Int)) (n := szDp f) hneg
          go_wp2_with fail
          refine (szDOp_any f (l - n - (t : Int)) _ z0 z1 z2 (by omega) (by omega)).mono ?_
          rintro e w1 ⟨rfl, hb1⟩
          rw [hv]
          go_wp2
          go_roundw
          case rel => exact ⟨k + 1, by omega, by go_num, by rw [HST.out]; congr 1; omega, by rw [HST.out]; omega, BW.out.trans_ hb1⟩
          case measure => simp [intOf]; omega
      · obtain rfl : k = n := by omega
        have e : L.take k = L := List.take_of_length_le (by have := HN.out; omega)
        rw [e] at h0
        try rw [e]
        go_wp2
        go_ret
        exact ⟨ret_int (by rw [leftI_pos (by omega)]; omega), hbl⟩

set_option maxHeartbeats 400000 in
theorem toDOp_any (f : Dp) (w : World) :
    Calls Try.prog 75 #[.agg #[.int .i64 f.kind, .string f.name, .string f.to, .string f.data]] w fun e w' => e = .returned (.agg #[.int .i64 f.kind, .string f.name, .string f.to, .string f.data]) ∧ Bl w w' := by
  obtain ⟨a, b, c, d⟩ := f
  go_enter Try.func75, Try.ntmps75
  go_wp2
  exact bodyPost_ret (v := .agg #[.int .i64 a, .string b, .string c, .string d]) (by simp [results, Try.results75, go_sem]) rfl ⟨rfl, (by repeat' (first | exact Bl.refl _ | with_reducible assumption | with_reducible refine Bl.drew_ ?_ | with_reducible refine Bl.drewN_ ?_ _ | with_reducible refine Bl.alloc_ ?_ _ | with_reducible refine Bl.trans_ ?_ (by assumption) | with_reducible refine Bl.trans_ ?_ (And.left (by assumption))))⟩

def mkDOp (n : Nat) : Array Value := madeCells (Value.agg #[.int .i64 0, .string ⟨#[]⟩, .string ⟨#[]⟩, .string ⟨#[]⟩]).cells (n * 4)
theorem size_mkDOp (n : Nat) : (mkDOp n).size = n * 4 := size_madeCells _ _
theorem make_DOp (n : Nat) (hn : n ≤ 1048576) (w : World) : (Instr.makeSlice 29 (.int .i64 (n : Int)) (.int .i64 (n : Int))).run Try.prog w = .ok (.slice (some ⟨w.heap.size, 0, none⟩) n n) (w.alloc (.cells (mkDOp n) 51)) := by
  obtain ⟨i0, hi, hz0, hz1, hz2⟩ := info_parts infoDOp
  have h := run_make_rowN (P := Try.prog) 29 51 i0 _ Try.underlying29 hi hz0 .i64 .i64 n n (Nat.le_refl _) (by rw [hz2]; omega) (by omega) w
  rw [hz1] at h
  exact h

theorem filledDOp_step {w : World} {g n k : Nat} {L : List Dp} (h : FilledE 51 encO 4 w g n k L) (hk : k < n) (hl : k < L.length) {f : Dp} (hf : f = L[k]) :
    FilledE 51 encO 4 ((((w.setCell ⟨g, k * 4, none⟩ (.int .i64 f.kind)).setCell ⟨g, k * 4 + 1, none⟩ (.string f.name)).setCell ⟨g, k * 4 + 2, none⟩ (.string f.to)).setCell ⟨g, k * 4 + 3, none⟩ (.string f.data)) g n (k + 1) L := by
  obtain ⟨cur, hb, hs, hc⟩ := h
  refine ⟨((((cur.setIfInBounds (k * 4) (.int .i64 f.kind)).setIfInBounds (k * 4 + 1) (.string f.name)).setIfInBounds (k * 4 + 2) (.string f.to)).setIfInBounds (k * 4 + 3) (.string f.data)), (heap_setCell_same _ g _ _ _ _ (heap_setCell_same _ g _ _ _ _ (heap_setCell_same _ g _ _ _ _ (heap_setCell_same _ g _ _ _ _ hb)))), by simpa using hs, fun j hj hj' r hr => ?_⟩
  rcases Nat.lt_or_ge j k with h | h
  · have hne : ∀ i, i < 4 → k * 4 + i ≠ j * 4 + r := fun i hi => by omega
    rw [Array.getElem?_setIfInBounds_ne (by omega)]; rw [Array.getElem?_setIfInBounds_ne (by omega)]; rw [Array.getElem?_setIfInBounds_ne (by omega)]; rw [Array.getElem?_setIfInBounds_ne (by omega)]
    exact hc j h hj' r hr
  · obtain rfl : j = k := by omega
    rw [← hf]
    have h4 : r = 0 ∨ r = 1 ∨ r = 2 ∨ r = 3 := by omega
    rcases h4 with rfl | rfl | rfl | rfl
    · simp only [Nat.add_zero]; rw [Array.getElem?_setIfInBounds_ne (by omega), Array.getElem?_setIfInBounds_ne (by omega), Array.getElem?_setIfInBounds_ne (by omega), Array.getElem?_setIfInBounds_self_of_lt (by first | omega | (simp only [Array.size_setIfInBounds]; omega))]; rfl
    · rw [Array.getElem?_setIfInBounds_ne (by omega), Array.getElem?_setIfInBounds_ne (by omega), Array.getElem?_setIfInBounds_self_of_lt (by first | omega | (simp only [Array.size_setIfInBounds]; omega))]; rfl
    · rw [Array.getElem?_setIfInBounds_ne (by omega), Array.getElem?_setIfInBounds_self_of_lt (by first | omega | (simp only [Array.size_setIfInBounds]; omega))]; rfl
    · rw [Array.getElem?_setIfInBounds_self_of_lt (by first | omega | (simp only [Array.size_setIfInBounds]; omega))]; rfl

/-- What a copy leaves: a row of its own. -/
def DOpMade (n : Nat) (L : List Dp) (w : World) (e : Ending) (w' : World) : Prop :=
  ∃ g, e = .returned (.slice (some ⟨g, 0, none⟩) n n) ∧ OwnO w' w.heap.size (.slice (some ⟨g, 0, none⟩) n n) L ∧ Bl w w' ∧ w.heap.size < w'.heap.size

set_option maxHeartbeats 1000000 in
theorem toDOpS_any (A : Option Addr) (n c : Nat) (L : List Dp) (hn : n = L.length) (w : World) (hm : n ≤ 1048576) (H1 : OpsAt w w.heap.size A L) :
    Calls Try.prog 37 #[.slice A n c] w (DOpMade n L w) := by
  have K1 := Lib.hid H1
  have HN := Lib.hid hn
  clear H1 hn
  have hmk := make_DOp n hm
  go_enter Try.func37, Try.ntmps37
  go_wp2
  clear hmk
  go_loopw [4] (fun i wr => ∃ k : Nat, k ≤ n ∧ i = .int .i64 k ∧ Bl w wr ∧ FilledE 51 encO 4 wr w.heap.size n k L) (fun i _ => n - (intOf i).toNat)
  case atStart => exact ⟨0, by omega, rfl, (by repeat' (first | exact Bl.refl _ | with_reducible assumption | with_reducible refine Bl.drew_ ?_ | with_reducible refine Bl.drewN_ ?_ _ | with_reducible refine Bl.alloc_ ?_ _ | with_reducible refine Bl.trans_ ?_ (by assumption) | with_reducible refine Bl.trans_ ?_ (And.left (by assumption)))), mkDOp n, heap_alloc_new _ _, size_mkDOp n, fun j h => absurd h (by omega)⟩
  case round =>
    obtain ⟨k, hk, rfl, hbl, hF⟩ := hrel
    have F := Lib.hid hF
    clear hF
    by_cases hlt : k < n
    · have hkl : k < L.length := by have := HN.out; omega
      obtain ⟨g1, o1, rfl, hg1, hc1⟩ := K1.out.cell (by omega)
      obtain ⟨p1, p2, p3, p4⟩ := hc1 k hkl
      rw [← (bcell hbl).1 _ _ hg1] at p1 p2 p3 p4
      clear hc1
      obtain ⟨f, hf⟩ : ∃ f, f = L[k] := ⟨_, rfl⟩
      rw [← hf] at p1 p2 p3 p4
      have HF := Lib.hid hf
      clear hf
      go_wp2_with fail
      refine (toDOp_any f _).mono ?_
      rintro e w1 ⟨rfl, hb⟩
      have F2 := Lib.hid (F.out.bl hb)
      obtain ⟨y0, -, z⟩ := F2.out.cells
      obtain ⟨v0, z0⟩ := z (k * 4) (by omega)
      have x0 := y0 (k * 4)
      obtain ⟨v1, z1⟩ := z (k * 4 + 1) (by omega)
      have x1 := y0 (k * 4 + 1)
      obtain ⟨v2, z2⟩ := z (k * 4 + 2) (by omega)
      have x2 := y0 (k * 4 + 2)
      obtain ⟨v3, z3⟩ := z (k * 4 + 3) (by omega)
      have x3 := y0 (k * 4 + 3)
      clear y0 z
      go_wp2
      go_roundw
      case rel => exact ⟨k + 1, by omega, by go_num, (Bl.set_ (Bl.set_ (Bl.set_ (Bl.set_ (hbl.trans_ hb) (Nat.le_refl _) _) (Nat.le_refl _) _) (Nat.le_refl _) _) (Nat.le_refl _) _), filledDOp_step F2.out hlt hkl HF.out⟩
      case measure => simp [intOf]; omega
    · go_wp2
      go_ret
      have e : k = n := by omega
      subst e
      exact ⟨_, rfl, F.out.own encO_len HN.out hm (Nat.le_refl _), hbl, F.out.cells.2.1⟩

end Go.Proofs.Ytgfmgmcpfefmkaa

set_option linter.unusedSimpArgs false
set_option linter.unusedVariables false
namespace Go.Proofs.Ytgfmgmcpfefmkaa
open Go.RowKit


theorem own_snocFile {w : World} {B : Nat} {v : Value} {V : List Fl} {f : Fl} (h : w.ownsRow B 86 2 v (V.length + 1) (csE encF V ++ encF f)) : OwnF w B v (V ++ [f]) := by
  unfold OwnF
  have e : csE encF (V ++ [f]) = csE encF V ++ encF f := by rw [csE_append]; simp [csE]
  rw [e, show (V ++ [f]).length = V.length + 1 from by simp]
  exact h

set_option maxHeartbeats 1000000 in
theorem wp_append_File {ops : Array Oper} {rest : List Oper} {o : Oper} {a : Act} {Q : Exit → Act → World → Prop} (hgd : o.guard = none) (s x : Operand)
    (ho : o.op = .call { callee := .builtin .append, args := #[s, x], argTypes := #[28, 28] })
    (w : World) (B : Nat) (v : Value) (V : List Fl) (f : Fl) (ty : TypeId) (hs : a.eval s = v) (hx : a.eval x = .slice (some ⟨w.heap.size, 0, none⟩) 1 1)
    (hO : OwnF w B v V) (hl : V.length ≤ 1048575) (hB : B ≤ w.heap.size)
    (h : ∀ v' w', OwnF w' B v' (V ++ [f]) → (∀ W : World, Bl W w → W.heap.size ≤ B → Bl W w') → wpList Try.prog ops Q rest (a.put o.dst v') w') :
    wpList Try.prog ops Q (o :: rest) a (w.alloc (.cells #[.string f.1, .string f.2] ty)) := by
  obtain ⟨i0, hi, hz0, hz1, hz2⟩ := info_parts infoFile
  have hO' : w.ownsRow B 86 2 v V.length (csE encF V) := hO
  refine wpList_append_own_at _ hgd s x _ ho B 86 i0 _ 2 32 Try.underlying28 hi hz0 hz1 hz2 rfl (by decide) v V.length (csE encF V) hs (World.ownsRow.alloc hO' _) ⟨w.heap.size, 0, none⟩ 1 1 (encF f) hx rfl ?_ (encF_one f) (by unfold maxLen; omega) (by omega) (by simp; omega) ?_
  · intro j u hj
    have hj' : j < 2 := (List.getElem?_eq_some_iff.1 hj).1
    rw [Go.WideShapes.add_plain, Nat.zero_add]
    have hc : (#[.string f.1, .string f.2] : Array Value)[j]? = some u := by
      rw [← hj]
      unfold encF
      simp
    rw [World.cell?_alloc_mark]
    exact hc
  · intro v' w' h1 h2 _ _
    refine h v' w' (own_snocFile h1) fun W hW hWB => ?_
    refine (hW.alloc_ _).grown_ h2 fun g hg => ?_
    have := (World.ownsRow.lt hO' g hg).1
    omega

theorem wp_copy_File {ops : Array Oper} {rest : List Oper} {o : Oper} {a : Act} {Q : Exit → Act → World → Prop} (hgd : o.guard = none) (s x : Operand)
    (ho : o.op = .call { callee := .builtin .append, args := #[s, x], argTypes := #[28, 28] })
    (w : World) (B : Nat) (v : Value) (A : Option Addr) (n c : Nat) (L : List Fl) (hs : a.eval s = v) (hx : a.eval x = .slice A n c) (hO : OwnF w B v []) (hB : B ≤ w.heap.size) (hn : n = L.length) (hm : n ≤ 1048576) (H : FilesAt w w.heap.size A L)
    (h : ∀ v' w', OwnF w' B v' L → (∀ W : World, Bl W w → W.heap.size ≤ B → Bl W w') → wpList Try.prog ops Q rest (a.put o.dst v') w') :
    wpList Try.prog ops Q (o :: rest) a w := by
  obtain ⟨i0, hi, hz0, hz1, hz2⟩ := info_parts infoFile
  have hO' : w.ownsRow B 86 2 v 0 [] := hO
  have hr : Reads w w.heap.size 2 A n (csE encF L) := reads_of_cells H (by rw [csE_length encF_len, hn]) (by omega)
  refine wpList_append_any w hgd s x _ ho B 86 i0 _ 2 32 Try.underlying28 hi hz0 hz1 hz2 rfl (by decide) v 0 [] hs hO' w.heap.size A n c (csE encF L) hx hr (csE_one encF_one L) (by unfold maxLen; omega) (by omega) hB ?_
  intro v' w' h1 h2 _
  refine h v' w' ?_ fun W hW hWB => hW.grown_ h2 fun g hg => ?_
  · unfold OwnF Owns
    rw [← hn]
    simpa using h1
  · have := (World.ownsRow.lt hO' g hg).1
    omega

theorem own_snocDOp {w : World} {B : Nat} {v : Value} {V : List Dp} {f : Dp} (h : w.ownsRow B 51 4 v (V.length + 1) (csE encO V ++ encO f)) : OwnO w B v (V ++ [f]) := by
  unfold OwnO
  have e : csE encO (V ++ [f]) = csE encO V ++ encO f := by rw [csE_append]; simp [csE]
  rw [e, show (V ++ [f]).length = V.length + 1 from by simp]
  exact h


theorem wp_copy_DOp {ops : Array Oper} {rest : List Oper} {o : Oper} {a : Act} {Q : Exit → Act → World → Prop} (hgd : o.guard = none) (s x : Operand)
    (ho : o.op = .call { callee := .builtin .append, args := #[s, x], argTypes := #[29, 29] })
    (w : World) (B : Nat) (v : Value) (A : Option Addr) (n c : Nat) (L : List Dp) (hs : a.eval s = v) (hx : a.eval x = .slice A n c) (hO : OwnO w B v []) (hB : B ≤ w.heap.size) (hn : n = L.length) (hm : n ≤ 1048576) (H : OpsAt w w.heap.size A L)
    (h : ∀ v' w', OwnO w' B v' L → (∀ W : World, Bl W w → W.heap.size ≤ B → Bl W w') → wpList Try.prog ops Q rest (a.put o.dst v') w') :
    wpList Try.prog ops Q (o :: rest) a w := by
  obtain ⟨i0, hi, hz0, hz1, hz2⟩ := info_parts infoDOp
  have hO' : w.ownsRow B 51 4 v 0 [] := hO
  have hr : Reads w w.heap.size 4 A n (csE encO L) := reads_of_cells H (by rw [csE_length encO_len, hn]) (by omega)
  refine wpList_append_any w hgd s x _ ho B 51 i0 _ 4 56 Try.underlying29 hi hz0 hz1 hz2 rfl (by decide) v 0 [] hs hO' w.heap.size A n c (csE encO L) hx hr (csE_one encO_one L) (by unfold maxLen; omega) (by omega) hB ?_
  intro v' w' h1 h2 _
  refine h v' w' ?_ fun W hW hWB => hW.grown_ h2 fun g hg => ?_
  · unfold OwnO Owns
    rw [← hn]
    simpa using h1
  · have := (World.ownsRow.lt hO' g hg).1
    omega

end Go.Proofs.Ytgfmgmcpfefmkaa
