/-
  What is proved here: the arcs that leave a node, as the model and as the code gather them. No conditions beyond those that each theorem states.
-/
import Derived.Test.YtffjpfanmnkmgaaA4
import Derived.Test.YtffjpfanmnkmgaaA6
set_option linter.unusedSimpArgs false
set_option linter.unusedVariables false
namespace Go.Proofs.Ytffjpfanmnkmgaa
open Go.RowKit

/-- The cells of arcs, one behind the other. -/
def cs3 : List Arc3 → List Value
  | [] => []
  | a :: l => .int .i64 a.1 :: .int .i64 a.2.1 :: .int .i64 a.2.2 :: cs3 l
theorem cs3_append : ∀ (l m : List Arc3), cs3 (l ++ m) = cs3 l ++ cs3 m
  | [], _ => rfl
  | a :: l, m => by simp [cs3, cs3_append l m]
theorem cs3_length : ∀ (l : List Arc3), (cs3 l).length = l.length * 3
  | [] => rfl
  | a :: l => by simp [cs3, cs3_length l]; omega
theorem cs3_at : ∀ (l : List Arc3) (k : Nat) (h : k < l.length), (cs3 l)[k * 3]? = some (.int .i64 l[k].1) ∧ (cs3 l)[k * 3 + 1]? = some (.int .i64 l[k].2.1) ∧ (cs3 l)[k * 3 + 2]? = some (.int .i64 l[k].2.2)
  | a :: l, 0, _ => ⟨rfl, rfl, rfl⟩
  | a :: l, k + 1, h => by
    have h' : k < l.length := by simpa using h
    obtain ⟨x, y, z⟩ := cs3_at l k h'
    have e0 : (k + 1) * 3 = k * 3 + 3 := by omega
    refine ⟨?_, ?_, ?_⟩
    · rw [e0]; simpa [cs3] using x
    · rw [e0, show k * 3 + 3 + 1 = (k * 3 + 1) + 3 from by omega]; simpa [cs3] using y
    · rw [e0, show k * 3 + 3 + 2 = (k * 3 + 2) + 3 from by omega]; simpa [cs3] using z

/-- The value v owns the arcs L, in blocks from B on. -/
def OwnA (w : World) (B : Nat) (v : Value) (L : List Arc3) : Prop := w.ownsRow B 87 3 v L.length (cs3 L)
theorem OwnA.nil_ (w : World) (B : Nat) : OwnA w B (.slice none 0 0) [] := World.ownsRow_nil _ _ _ _
theorem OwnA.shape {w : World} {B : Nat} {v : Value} {L : List Arc3} (h : OwnA w B v L) :
    ∃ A c, v = .slice A L.length c ∧ ArcsAt w w.heap.size A L ∧ (0 < L.length → ∃ g, A = some ⟨g, 0, none⟩ ∧ B ≤ g ∧ w.frozen? ⟨g, 0, none⟩ = false) := by
  have h' : w.ownsRow B 87 3 v L.length (cs3 L) := h
  rcases h'.2 with ⟨rfl, h0⟩ | ⟨g, cap, cur, rfl, hB, hg, hnc, hcm, hcs, htake⟩
  · exact ⟨none, 0, by rw [h0], fun hp => absurd hp (by omega), fun hp => absurd hp (by omega)⟩
  · have hlt : g < w.heap.size := (Array.getElem?_eq_some_iff.1 hg).1
    refine ⟨some ⟨g, 0, none⟩, cap, rfl, fun _ => ⟨g, 0, rfl, hlt, fun k hk => ?_⟩, fun _ => ⟨g, rfl, hB, by simpa using World.ownsRow.frozenAt h' 0⟩⟩
    obtain ⟨x, y, z⟩ := cs3_at L k hk
    rw [Nat.zero_add]
    exact ⟨(World.ownsRow.cellAt h' _ (by omega)).trans x, (World.ownsRow.cellAt h' _ (by omega)).trans y, (World.ownsRow.cellAt h' _ (by omega)).trans z⟩
theorem OwnA.lt {w : World} {B : Nat} {v : Value} {L : List Arc3} (h : OwnA w B v L) : ∀ g, v.ownBlock = some g → B ≤ g ∧ g < w.heap.size := World.ownsRow.lt h
theorem OwnA.low {w : World} {B B' : Nat} {v : Value} {L : List Arc3} (h : OwnA w B' v L) (hB : B ≤ B') : OwnA w B v L :=
  ⟨h.1, h.2.imp id (fun ⟨g, cap, cur, a, b, c⟩ => ⟨g, cap, cur, a, Nat.le_trans hB b, c⟩)⟩
theorem own_start (w : World) (o : Obj) : OwnA ((w.alloc o).alloc (.cells #[] 87)) (w.heap.size + 1) (.slice (some ⟨w.heap.size + 1, 0, none⟩) 0 0) [] := by
  have h := World.ownsRow_made (base := w.heap.size + 1) (e := 87) (size := 3) (w.alloc o) #[] 0 (by simp) (by unfold maxLen; omega) rfl
  rw [World.size_alloc] at h
  exact h
theorem new3 (w : World) (x y z : Value) (t : TypeId) : ∀ j u, [x, y, z][j]? = some u → (w.alloc (.cells #[x, y, z] t)).cell? ((⟨w.heap.size, 0, none⟩ : Addr).add j) = some u := by
  intro j u hj
  match j, hj with
  | 0, hj => simp at hj; subst hj; simp [Addr.add, go_sem]
  | 1, hj => simp at hj; subst hj; simp [Addr.add, go_sem]
  | 2, hj => simp at hj; subst hj; simp [Addr.add, go_sem]
  | (j + 3), hj => simp at hj
theorem one3 (a b c : Int) : ∀ u ∈ [Value.int .i64 a, .int .i64 b, .int .i64 c], u.oneCell' = true := by
  intro u hu
  simp at hu
  rcases hu with rfl | rfl | rfl <;> rfl

theorem own_snoc {w : World} {B : Nat} {v : Value} {F : List Arc3} {a : Arc3} (h : w.ownsRow B 87 3 v (F.length + 1) (cs3 F ++ [.int .i64 a.1, .int .i64 a.2.1, .int .i64 a.2.2])) : OwnA w B v (F ++ [a]) := by
  unfold OwnA
  rw [cs3_append, List.length_append]
  exact h

/-- The arcs that leave a node. -/
def fromL (v : Int) (L : List Arc3) : List Arc3 := L.filter fun a => a.1 == v
theorem fromL_yes {v : Int} {L : List Arc3} {k : Nat} (h : k < L.length) (hv : (L[k].1 == v) = true) : fromL v (L.take (k + 1)) = fromL v (L.take k) ++ [L[k]] := by
  unfold fromL
  rw [List.take_succ_eq_append_getElem h, List.filter_append]
  simp [List.filter_cons, hv]
theorem fromL_no {v : Int} {L : List Arc3} {k : Nat} (h : k < L.length) (hv : (L[k].1 == v) = false) : fromL v (L.take (k + 1)) = fromL v (L.take k) := by
  unfold fromL
  rw [List.take_succ_eq_append_getElem h, List.filter_append]
  simp [List.filter_cons, hv]
theorem fromL_len (v : Int) (L : List Arc3) (k : Nat) : (fromL v (L.take k)).length ≤ k := by
  unfold fromL
  exact Nat.le_trans (List.length_filter_le _ _) (List.length_take_le _ _)

/-- A new list of arcs is left. -/
def ListMade (L : List Arc3) (w : World) (e : Ending) (w' : World) : Prop := ∃ v, e = .returned v ∧ OwnA w' w.heap.size v L ∧ Bl w w'

theorem box2h {w wx : World} {a b : Value} {t : TypeId} (h : Bl (w.alloc (.cells #[a, b] t)) wx) : wx.cell? ⟨w.heap.size, 0, none⟩ = some a ∧ wx.cell? ⟨w.heap.size, 1, none⟩ = some b := by
  have hc := (bcell h).1
  exact ⟨by rw [hc _ _ (by simp)]; simp [go_sem], by rw [hc _ _ (by simp)]; simp [go_sem]⟩

set_option maxRecDepth 100000 in
set_option maxHeartbeats 1000000 in
theorem l1Outs_any (N u : Int) (A : Option Addr) (n c : Nat) (L : List Arc3) (hn : n = L.length) (w : World) (hm : n ≤ 1048576) (H1 : ArcsAt w w.heap.size A L) :
    Calls Try.prog 153 #[.agg #[.int .i64 N, .slice A n c], .int .i64 u] w (ListMade (fromL u L) w) := by
  obtain ⟨i0, hi, hz0, hz1, hz2⟩ := info_parts infoArc
  have I0 := Lib.hid hi
  have I1 := Lib.hid hz0
  have I2 := Lib.hid hz1
  have I3 := Lib.hid hz2
  have K1 := Lib.hid H1
  have HN := Lib.hid hn
  clear H1 hn hi hz0 hz1 hz2
  go_enter Try.func153, Try.ntmps153
  go_wp2
  go_loopw [5, 6] (fun v i wr => ∃ k : Nat, k ≤ n ∧ i = .int .i64 k ∧ OwnA wr (w.heap.size + 1) v (fromL u (L.take k)) ∧ Bl (w.alloc (.cells #[.int .i64 N, .slice A n c] 38)) wr) (fun _ i _ => n - (intOf i).toNat)
  case atStart => exact ⟨0, by omega, rfl, own_start _ _, (by repeat' (first | exact Bl.refl _ | with_reducible assumption | with_reducible refine Bl.drew_ ?_ | with_reducible refine Bl.drewN_ ?_ _ | with_reducible refine Bl.alloc_ ?_ _ | with_reducible refine Bl.trans_ ?_ (by assumption) | with_reducible refine Bl.trans_ ?_ (And.left (by assumption))))⟩
  case round =>
    obtain ⟨k, hk, rfl, hown, hbl⟩ := hrel
    have hs := hbl.size
    obtain ⟨q0, q1⟩ := box2h hbl
    have hbw : Bl w wr := (Bl.alloc_ (Bl.refl w) _).trans_ hbl
    have hsw := hbw.size
    have O := Lib.hid hown
    clear hown
    by_cases hlt : k < n
    · have hkl : k < L.length := by have := HN.out; omega
      obtain ⟨g1, o1, rfl, hg1, hc1⟩ := K1.out (by omega)
      obtain ⟨p1, p2, p3⟩ := hc1 k hkl
      clear hc1
      rw [← (bcell hbw).1 _ _ hg1] at p1 p2 p3
      have hlen := fromL_len u L k
      generalize hx : L[k].1 = x at p1
      generalize hy : L[k].2.1 = y at p2
      generalize hz : L[k].2.2 = z at p3
      have HX := Lib.hid hx
      have HY := Lib.hid hy
      have HZ := Lib.hid hz
      clear hx hy hz
      by_cases b1 : (x == u) = true
      · have HF := Lib.hid (fromL_yes hkl (by rw [HX.out]; exact b1))
        generalize fromL u (L.take k) = F at hlen HF O
        go_wp2_with (at_builtin; refine wpList_append_own _ rfl (.tmp 23) (.tmp 29) _ rfl (w.heap.size + 1) 87 i0 _ 3 24 Try.underlying36 I0.out I1.out I2.out I3.out rfl (by decide) _ F.length (cs3 F) rfl (World.ownsRow.alloc O.out _) ⟨wr.heap.size, 0, none⟩ 1 1 [.int .i64 x, .int .i64 y, .int .i64 z] rfl rfl (new3 _ _ _ _ _) (one3 _ _ _) ?c3 ?c4 ?c5 ?_)
        case c3 => unfold maxLen; omega
        case c4 => omega
        case c5 => simp at hs ⊢; omega
        intro v' w1 hown' hgrow _
        have O1 := Lib.hid (own_snoc (a := L[k]) (by rw [HX.out, HY.out, HZ.out]; exact hown'))
        have hb1 : Bl (w.alloc (.cells #[.int .i64 N, .slice (some ⟨g1, o1, none⟩) n c] 38)) w1 := (hbl.alloc_ _).grown_ hgrow (fun g hg => by have := (O.out.lt g hg).1; simpa using this)
        clear hown' hgrow
        go_wp2
        go_roundw
        case rel => exact ⟨k + 1, by omega, by go_num, by rw [HF.out]; exact O1.out, hb1⟩
        case measure => simp [intOf]; omega
      · have b1' : (x == u) = false := by simpa using b1
        clear b1
        have HF := Lib.hid (fromL_no hkl (by rw [HX.out]; exact b1'))
        go_wp2
        go_roundw
        case rel => exact ⟨k + 1, by omega, by go_num, by rw [HF.out]; exact O.out, hbl⟩
        case measure => simp [intOf]; omega
    · go_wp2
      go_ret
      refine ⟨_, rfl, ?_, hbw⟩
      have e : fromL u (L.take k) = fromL u L := by rw [List.take_of_length_le (by have := HN.out; omega)]
      rw [← e]
      exact O.out.low (by omega)

/-- The arcs that leave a node of a graph; none where the graph is not right. -/
def outsL (N : Int) (L : List Arc3) (u : Int) : List Arc3 := if okB N L = true then fromL u L else []

-- (specOuts_any left out)


end Go.Proofs.Ytffjpfanmnkmgaa
