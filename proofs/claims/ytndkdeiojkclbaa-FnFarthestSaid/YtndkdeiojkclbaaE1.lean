/-
  What is proved here: the arcs that leave a node, as the model and as the code gather them. No conditions beyond those that each theorem states.
-/
import Derived.Test.YtndkdeiojkclbaaA4
import Derived.Test.YtndkdeiojkclbaaA6
set_option linter.unusedSimpArgs false
set_option linter.unusedVariables false
namespace Go.Proofs.Ytndkdeiojkclbaa
open Go.RowKit

/-- The cells of arcs, one behind the other. -/
def cs3 : List Arc3 → List Value
  | [] => []
  | a :: l => .int .i64 a.1 :: .int .i64 a.2.1 :: .int .i64 a.2.2 :: cs3 l
theorem cs3_append : ∀ (l m : List Arc3), cs3 (l ++ m) = cs3 l ++ cs3 m
  | [], _ => rfl
  | a :: l, m => by simp [cs3, cs3_append l m]
theorem cs3_length : ∀ (l : List Arc3), (cs3 l).length = l.length * 3
  | [] => rfl
  | a :: l => by simp [cs3, cs3_length l]; omega
theorem cs3_at : ∀ (l : List Arc3) (k : Nat) (h : k < l.length), (cs3 l)[k * 3]? = some (.int .i64 l[k].1) ∧ (cs3 l)[k * 3 + 1]? = some (.int .i64 l[k].2.1) ∧ (cs3 l)[k * 3 + 2]? = some (.int .i64 l[k].2.2)
  | a :: l, 0, _ => ⟨rfl, rfl, rfl⟩
  | a :: l, k + 1, h => by
    have h' : k < l.length := by simpa using h
    obtain ⟨x, y, z⟩ := cs3_at l k h'
    have e0 : (k + 1) * 3 = k * 3 + 3 := by omega
    refine ⟨?_, ?_, ?_⟩
    · rw [e0]; simpa [cs3] using x
    · rw [e0, show k * 3 + 3 + 1 = (k * 3 + 1) + 3 from by omega]; simpa [cs3] using y
    · rw [e0, show k * 3 + 3 + 2 = (k * 3 + 2) + 3 from by omega]; simpa [cs3] using z

/-- The value v owns the arcs L, in blocks from B on. -/
def OwnA (w : World) (B : Nat) (v : Value) (L : List Arc3) : Prop := w.ownsRow B 52 3 v L.length (cs3 L)
theorem OwnA.nil_ (w : World) (B : Nat) : OwnA w B (.slice none 0 0) [] := World.ownsRow_nil _ _ _ _
theorem OwnA.shape {w : World} {B : Nat} {v : Value} {L : List Arc3} (h : OwnA w B v L) :
    ∃ A c, v = .slice A L.length c ∧ ArcsAt w w.heap.size A L ∧ (0 < L.length → ∃ g, A = some ⟨g, 0, none⟩ ∧ B ≤ g ∧ w.frozen? ⟨g, 0, none⟩ = false) := by
  have h' : w.ownsRow B 52 3 v L.length (cs3 L) := h
  rcases h'.2 with ⟨rfl, h0⟩ | ⟨g, cap, cur, rfl, hB, hg, hnc, hcm, hcs, htake⟩
  · exact ⟨none, 0, by rw [h0], fun hp => absurd hp (by omega), fun hp => absurd hp (by omega)⟩
  · have hlt : g < w.heap.size := (Array.getElem?_eq_some_iff.1 hg).1
    refine ⟨some ⟨g, 0, none⟩, cap, rfl, fun _ => ⟨g, 0, rfl, hlt, fun k hk => ?_⟩, fun _ => ⟨g, rfl, hB, by simpa using World.ownsRow.frozenAt h' 0⟩⟩
    obtain ⟨x, y, z⟩ := cs3_at L k hk
    rw [Nat.zero_add]
    exact ⟨(World.ownsRow.cellAt h' _ (by omega)).trans x, (World.ownsRow.cellAt h' _ (by omega)).trans y, (World.ownsRow.cellAt h' _ (by omega)).trans z⟩
theorem OwnA.lt {w : World} {B : Nat} {v : Value} {L : List Arc3} (h : OwnA w B v L) : ∀ g, v.ownBlock = some g → B ≤ g ∧ g < w.heap.size := World.ownsRow.lt h
theorem OwnA.low {w : World} {B B' : Nat} {v : Value} {L : List Arc3} (h : OwnA w B' v L) (hB : B ≤ B') : OwnA w B v L :=
  ⟨h.1, h.2.imp id (fun ⟨g, cap, cur, a, b, c⟩ => ⟨g, cap, cur, a, Nat.le_trans hB b, c⟩)⟩
theorem own_start (w : World) (o : Obj) : OwnA ((w.alloc o).alloc (.cells #[] 52)) (w.heap.size + 1) (.slice (some ⟨w.heap.size + 1, 0, none⟩) 0 0) [] := by
  have h := World.ownsRow_made (base := w.heap.size + 1) (e := 52) (size := 3) (w.alloc o) #[] 0 (by simp) (by unfold maxLen; omega) rfl
  rw [World.size_alloc] at h
  exact h
theorem new3 (w : World) (x y z : Value) (t : TypeId) : ∀ j u, [x, y, z][j]? = some u → (w.alloc (.cells #[x, y, z] t)).cell? ((⟨w.heap.size, 0, none⟩ : Addr).add j) = some u := by
  intro j u hj
  match j, hj with
  | 0, hj => simp at hj; subst hj; simp [Addr.add, go_sem]
  | 1, hj => simp at hj; subst hj; simp [Addr.add, go_sem]
  | 2, hj => simp at hj; subst hj; simp [Addr.add, go_sem]
  | (j + 3), hj => simp at hj
theorem one3 (a b c : Int) : ∀ u ∈ [Value.int .i64 a, .int .i64 b, .int .i64 c], u.oneCell' = true := by
  intro u hu
  simp at hu
  rcases hu with rfl | rfl | rfl <;> rfl

theorem own_snoc {w : World} {B : Nat} {v : Value} {F : List Arc3} {a : Arc3} (h : w.ownsRow B 52 3 v (F.length + 1) (cs3 F ++ [.int .i64 a.1, .int .i64 a.2.1, .int .i64 a.2.2])) : OwnA w B v (F ++ [a]) := by
  unfold OwnA
  rw [cs3_append, List.length_append]
  exact h

/-- The arcs that leave a node. -/
def fromL (v : Int) (L : List Arc3) : List Arc3 := L.filter fun a => a.1 == v
theorem fromL_yes {v : Int} {L : List Arc3} {k : Nat} (h : k < L.length) (hv : (L[k].1 == v) = true) : fromL v (L.take (k + 1)) = fromL v (L.take k) ++ [L[k]] := by
  unfold fromL
  rw [List.take_succ_eq_append_getElem h, List.filter_append]
  simp [List.filter_cons, hv]
theorem fromL_no {v : Int} {L : List Arc3} {k : Nat} (h : k < L.length) (hv : (L[k].1 == v) = false) : fromL v (L.take (k + 1)) = fromL v (L.take k) := by
  unfold fromL
  rw [List.take_succ_eq_append_getElem h, List.filter_append]
  simp [List.filter_cons, hv]
theorem fromL_len (v : Int) (L : List Arc3) (k : Nat) : (fromL v (L.take k)).length ≤ k := by
  unfold fromL
  exact Nat.le_trans (List.length_filter_le _ _) (List.length_take_le _ _)

/-- A new list of arcs is left. -/
def ListMade (L : List Arc3) (w : World) (e : Ending) (w' : World) : Prop := ∃ v, e = .returned v ∧ OwnA w' w.heap.size v L ∧ Bl w w'

theorem box2h {w wx : World} {a b : Value} {t : TypeId} (h : Bl (w.alloc (.cells #[a, b] t)) wx) : wx.cell? ⟨w.heap.size, 0, none⟩ = some a ∧ wx.cell? ⟨w.heap.size, 1, none⟩ = some b := by
  have hc := (bcell h).1
  exact ⟨by rw [hc _ _ (by simp)]; simp [go_sem], by rw [hc _ _ (by simp)]; simp [go_sem]⟩

-- (l1Outs_any left out)

/-- The arcs that leave a node of a graph; none where the graph is not right. -/
def outsL (N : Int) (L : List Arc3) (u : Int) : List Arc3 := if okB N L = true then fromL u L else []

-- (specOuts_any left out)


end Go.Proofs.Ytndkdeiojkclbaa
