/-
  What is proved here: contracts of less, of the place above, and of the exchange of two items, on both sides. No conditions beyond those that each theorem states.
-/
import Derived.Test.YtelgjfflhcmljaaI2
import Derived.BigRegion
set_option linter.unusedSimpArgs false
set_option linter.unusedVariables false
namespace Go.Proofs.Ytelgjfflhcmljaa
open Go.RowKit

theorem less_key {a b c d : Int} (h : ¬ a = c) : lessI (a, b) (c, d) = decide (a < c) := by
  simp [lessI, h]
theorem less_id {a b d : Int} : lessI (a, b) (a, d) = decide (b < d) := by
  simp [lessI]

set_option maxHeartbeats 400000 in
theorem itemLess_any (a b c d : Int) (w : World) :
    Calls Try.prog 170 #[.agg #[.int .i64 a, .int .i64 b], .agg #[.int .i64 c, .int .i64 d]] w fun e w' => e = .returned (.bool (lessI (a, b) (c, d))) ∧ Bl w w' := by
  by_cases h : a = c
  · subst h
    have h' : (a != a) = false := by simp
    go_enter Try.func170, Try.ntmps170
    go_wp2
    go_ret
    exact ⟨ret_bool less_id.symm, (by repeat' (first | exact Bl.refl _ | with_reducible assumption | with_reducible refine Bl.drew_ ?_ | with_reducible refine Bl.drewN_ ?_ _ | with_reducible refine Bl.alloc_ ?_ _ | with_reducible refine Bl.trans_ ?_ (by assumption) | with_reducible refine Bl.trans_ ?_ (And.left (by assumption))))⟩
  · have h' : (a != c) = true := by simpa using h
    go_enter Try.func170, Try.ntmps170
    go_wp2
    go_ret
    exact ⟨ret_bool (less_key h).symm, (by repeat' (first | exact Bl.refl _ | with_reducible assumption | with_reducible refine Bl.drew_ ?_ | with_reducible refine Bl.drewN_ ?_ _ | with_reducible refine Bl.alloc_ ?_ _ | with_reducible refine Bl.trans_ ?_ (by assumption) | with_reducible refine Bl.trans_ ?_ (And.left (by assumption))))⟩

set_option maxHeartbeats 400000 in
theorem l2Less_any (a b c d : Int) (w : World) :
    Calls Try.prog 104 #[.agg #[.int .i64 a, .int .i64 b], .agg #[.int .i64 c, .int .i64 d]] w fun e w' => e = .returned (.bool (lessI (a, b) (c, d))) ∧ Bl w w' := by
  by_cases h1 : a < c
  · go_enter Try.func104, Try.ntmps104
    go_wp2
    go_ret
    exact ⟨ret_bool (by simp [lessI]; omega), (by repeat' (first | exact Bl.refl _ | with_reducible assumption | with_reducible refine Bl.drew_ ?_ | with_reducible refine Bl.drewN_ ?_ _ | with_reducible refine Bl.alloc_ ?_ _ | with_reducible refine Bl.trans_ ?_ (by assumption) | with_reducible refine Bl.trans_ ?_ (And.left (by assumption))))⟩
  · by_cases h2 : a = c
    · subst h2
      by_cases h3 : b < d
      · go_enter Try.func104, Try.ntmps104
        go_wp2
        go_ret
        exact ⟨ret_bool (by simp [lessI]; omega), (by repeat' (first | exact Bl.refl _ | with_reducible assumption | with_reducible refine Bl.drew_ ?_ | with_reducible refine Bl.drewN_ ?_ _ | with_reducible refine Bl.alloc_ ?_ _ | with_reducible refine Bl.trans_ ?_ (by assumption) | with_reducible refine Bl.trans_ ?_ (And.left (by assumption))))⟩
      · go_enter Try.func104, Try.ntmps104
        go_wp2
        go_ret
        exact ⟨ret_bool (by simp [lessI]; omega), (by repeat' (first | exact Bl.refl _ | with_reducible assumption | with_reducible refine Bl.drew_ ?_ | with_reducible refine Bl.drewN_ ?_ _ | with_reducible refine Bl.alloc_ ?_ _ | with_reducible refine Bl.trans_ ?_ (by assumption) | with_reducible refine Bl.trans_ ?_ (And.left (by assumption))))⟩
    · go_enter Try.func104, Try.ntmps104
      go_wp2
      go_ret
      exact ⟨ret_bool (by simp [lessI]; omega), (by repeat' (first | exact Bl.refl _ | with_reducible assumption | with_reducible refine Bl.drew_ ?_ | with_reducible refine Bl.drewN_ ?_ _ | with_reducible refine Bl.alloc_ ?_ _ | with_reducible refine Bl.trans_ ?_ (by assumption) | with_reducible refine Bl.trans_ ?_ (And.left (by assumption))))⟩

set_option maxHeartbeats 400000 in
theorem above_any (k : Nat) (w : World) (hk : 0 < k) (hm : k ≤ 1048576) :
    Calls Try.prog 183 #[.int .i64 (k : Int)] w fun e w' => e = .returned (.int .i64 (((k - 1) / 2 : Nat) : Int)) ∧ w = w' := by
  have h0 : (0 : Int) ≤ (k : Int) - 1 := by omega
  go_enter Try.func183, Try.ntmps183
  go_wp2
  go_ret
  exact ⟨ret_int (by omega), rfl⟩

/-- A heap of the code's own: its list, and less. -/
def HBox (w : World) (hb : Nat) (v : Value) : Prop := w.cell? ⟨hb, 0, none⟩ = some v ∧ w.cell? ⟨hb, 1, none⟩ = some (.func (.func 170) #[] #[]) ∧ w.frozen? ⟨hb, 0, none⟩ = false
theorem HBox.bl {w w' : World} {hb : Nat} {v : Value} (h : HBox w hb v) (hlt : hb < w.heap.size) (k : Bl w w') : HBox w' hb v := by
  obtain ⟨a, b⟩ := bcell k
  exact ⟨(a _ _ hlt).trans h.1, (a _ _ hlt).trans h.2.1, (b _ _ hlt).trans h.2.2⟩
theorem HBox.lt {w : World} {hb : Nat} {v : Value} (h : HBox w hb v) : hb < w.heap.size := World.block_lt_of_cell? _ _ h.1
theorem HBox.grown_ {w w' : World} {hb : Nat} {v : Value} {row : Option Nat} (h : HBox w hb v) (k : w.grownBy w' row) (hne : some hb ≠ row) : HBox w' hb v := by
  have e := k.block hb h.lt hne
  exact ⟨(World.cell?_of_block (a := ⟨hb, 0, none⟩) e).trans h.1, (World.cell?_of_block (a := ⟨hb, 1, none⟩) e).trans h.2.1, (World.frozen?_of_block (a := ⟨hb, 0, none⟩) e).trans h.2.2⟩

/-- The row at block g owns the items L. -/
def RowI (w : World) (g n c : Nat) (L : List It) : Prop := OwnI w g (.slice (some ⟨g, 0, none⟩) n c) L ∧ n = L.length
theorem RowI.cells {w : World} {g n c : Nat} {L : List It} (h : RowI w g n c L) : (∀ o, w.frozen? ⟨g, o, none⟩ = false) ∧ g < w.heap.size ∧
    ∀ k (hk : k < L.length), w.cell? ⟨g, k * 2, none⟩ = some (.int .i64 (atI L k).1) ∧ w.cell? ⟨g, k * 2 + 1, none⟩ = some (.int .i64 (atI L k).2) := by
  obtain ⟨h, rfl⟩ := h
  have h' : w.ownsRow g 116 2 (.slice (some ⟨g, 0, none⟩) L.length c) L.length (cs2 L) := h
  refine ⟨fun o => World.ownsRow.frozenAt h' o, ?_, fun k hk => ?_⟩
  · exact (World.ownsRow.lt h' g rfl).2
  · obtain ⟨x, y⟩ := cs2_at L k hk
    rw [atI_eq hk]
    exact ⟨(World.ownsRow.cellAt h' _ (by omega)).trans x, (World.ownsRow.cellAt h' _ (by omega)).trans y⟩
theorem RowI.bl {w w' : World} {g n c : Nat} {L : List It} (h : RowI w g n c L) (k : Bl w w') : RowI w' g n c L := ⟨Owns.bl h.1 k, h.2⟩
theorem RowI.set {w : World} {g n c : Nat} {L : List It} (h : RowI w g n c L) (k : Nat) (x y : Int) :
    RowI ((w.setCell ⟨g, k * 2, none⟩ (.int .i64 x)).setCell ⟨g, k * 2 + 1, none⟩ (.int .i64 y)) g n c (L.set k (x, y)) ∧
      w.grownBy ((w.setCell ⟨g, k * 2, none⟩ (.int .i64 x)).setCell ⟨g, k * 2 + 1, none⟩ (.int .i64 y)) (some g) := by
  obtain ⟨h, rfl⟩ := h
  have h1 := Owns.stored (show Owns 116 2 w g (.slice (some ⟨g, 0, none⟩) L.length c) L.length (cs2 L) from h) (k * 2) (.int .i64 x)
  have h2 := Owns.stored h1.1 (k * 2 + 1) (.int .i64 y)
  refine ⟨⟨?_, by simp⟩, grown_trans h1.2 h2.2⟩
  unfold OwnI
  rw [cs2_set, List.length_set]
  exact h2.1

theorem swap_world {w : World} {g n c i j : Nat} {L : List It} (h : RowI w g n c L) :
    RowI ((((w.setCell ⟨g, i * 2, none⟩ (.int .i64 (atI L j).1)).setCell ⟨g, i * 2 + 1, none⟩ (.int .i64 (atI L j).2)).setCell ⟨g, j * 2, none⟩ (.int .i64 (atI L i).1)).setCell ⟨g, j * 2 + 1, none⟩ (.int .i64 (atI L i).2)) g n c (swapI L i j) ∧
      w.grownBy ((((w.setCell ⟨g, i * 2, none⟩ (.int .i64 (atI L j).1)).setCell ⟨g, i * 2 + 1, none⟩ (.int .i64 (atI L j).2)).setCell ⟨g, j * 2, none⟩ (.int .i64 (atI L i).1)).setCell ⟨g, j * 2 + 1, none⟩ (.int .i64 (atI L i).2)) (some g) := by
  obtain ⟨a, b⟩ := h.set i (atI L j).1 (atI L j).2
  obtain ⟨a', b'⟩ := a.set j (atI L i).1 (atI L i).2
  exact ⟨a', grown_trans b b'⟩

/-- What an exchange, or many, leave: the items are now these; nothing else has turned. -/
def RowTo (g n c : Nat) (L : List It) (w : World) (e : Ending) (w' : World) : Prop := e = .returned (.tuple #[]) ∧ RowI w' g n c L ∧ w.grownBy w' (some g)

set_option maxHeartbeats 1000000 in
theorem swap_any (hb g n c i j : Nat) (L : List It) (w : World) (hm : n ≤ 1048576) (hR : RowI w g n c L) (hH : HBox w hb (.slice (some ⟨g, 0, none⟩) n c)) (hi : i < n) (hj : j < n) (hij : i ≠ j) :
    Calls Try.prog 184 #[.pointer (some ⟨hb, 0, none⟩), .int .i64 (i : Int), .int .i64 (j : Int)] w (RowTo g n c (swapI L i j) w) := by
  have R := Lib.hid hR
  obtain ⟨hfz, hg, hc⟩ := hR.cells
  obtain ⟨h0, h1, h2⟩ := hH
  have hn := hR.2
  obtain ⟨a1, a2⟩ := hc i (by omega)
  obtain ⟨b1, b2⟩ := hc j (by omega)
  have f1 := hfz (i * 2)
  have f2 := hfz (i * 2 + 1)
  have f3 := hfz (j * 2)
  have f4 := hfz (j * 2 + 1)
  clear hfz hc hR h2 hn
  generalize hx : (atI L i).1 = x at a1
  generalize hy : (atI L i).2 = y at a2
  generalize hx' : (atI L j).1 = x' at b1
  generalize hy' : (atI L j).2 = y' at b2
  have HX := Lib.hid hx
  have HY := Lib.hid hy
  have HX' := Lib.hid hx'
  have HY' := Lib.hid hy'
  clear hx hy hx' hy'
  have i0 : (i : Int) < (n : Int) := by omega
  have j0 : (j : Int) < (n : Int) := by omega
  go_enter Try.func184, Try.ntmps184
  go_wp2
  go_region
  go_end0
  rw [← HX.out, ← HY.out, ← HX'.out, ← HY'.out]
  obtain ⟨u, v⟩ := swap_world (i := i) (j := j) R.out
  exact ⟨rfl, u.bl (Bl.refl _).drew_, grown_bl v (Bl.refl _).drew_⟩

-- (l2Swap_any left out)

end Go.Proofs.Ytelgjfflhcmljaa
