/-
  What is proved here: pop and arrange on a heap of the code's own. No conditions beyond those that each theorem states.
-/
import Derived.Test.YtelgjfflhcmljaaJ2
import Derived.Test.YtelgjfflhcmljaaI6
set_option linter.unusedSimpArgs false
set_option linter.unusedVariables false
namespace Go.Proofs.Ytelgjfflhcmljaa
open Go.RowKit

/-- What is left when the first is taken. -/
def popL (L : List It) : List It := downI ((L.set 0 (atI L (L.length - 1))).take (L.length - 1)) 0
theorem RowI.cut {w : World} {g n c m : Nat} {L : List It} (h : RowI w g n c L) (hm : m ≤ n) : RowI w g m c (L.take m) := by
  obtain ⟨h, rfl⟩ := h
  refine ⟨?_, by rw [List.length_take]; omega⟩
  have h1 := Owns.take_ (show Owns 116 2 w g (.slice (some ⟨g, 0, none⟩) L.length c) L.length (cs2 L) from h) hm (by simp)
  unfold OwnI
  rw [cs2_take, List.length_take, Nat.min_eq_left hm]
  exact h1
theorem RowI.room {w : World} {g n c : Nat} {L : List It} (h : RowI w g n c L) : n ≤ c := by
  obtain ⟨h, rfl⟩ := h
  have h' : w.ownsRow g 116 2 (.slice (some ⟨g, 0, none⟩) L.length c) L.length (cs2 L) := h
  rcases h'.2 with ⟨e, _⟩ | ⟨g', cap, cur, e, _, _, hnc, _⟩
  · simp at e
  · injection e with e1 e2 e3
    omega
theorem RowI.setOther {w : World} {g n c : Nat} {L : List It} (h : RowI w g n c L) {p : Addr} (hp : g ≠ p.block) (u : Value) : RowI (w.setCell p u) g n c L :=
  ⟨Owns.setOther h.1 (fun g' e => by injection e with e; subst e; exact hp) u, h.2⟩
theorem RowI.set0 {w : World} {g n c : Nat} {L : List It} (h : RowI w g n c L) (x y : Int) :
    RowI ((w.setCell ⟨g, 0, none⟩ (.int .i64 x)).setCell ⟨g, 1, none⟩ (.int .i64 y)) g n c (L.set 0 (x, y)) := by
  have := (h.set 0 x y).1
  simpa using this

/-- What a pop leaves. -/
def PopPost (hb g n c : Nat) (L : List It) (w : World) (e : Ending) (w' : World) : Prop :=
  e = .returned (.agg #[.int .i64 (atI L 0).1, .int .i64 (atI L 0).2]) ∧ RowI w' g n c (popL L) ∧ HBox w' hb (.slice (some ⟨g, 0, none⟩) n c) ∧ Turn (fun k => k = hb ∨ k = g) w w'

set_option maxHeartbeats 2000000 in
theorem pop_any (hb g m c : Nat) (L : List It) (w : World) (hm : m + 1 ≤ 1048576) (hR : RowI w g (m + 1) c L) (hH : HBox w hb (.slice (some ⟨g, 0, none⟩) (m + 1) c)) (hne : hb ≠ g) :
    Calls Try.prog 172 #[.pointer (some ⟨hb, 0, none⟩)] w (PopPost hb g m c L w) := by
  have R := Lib.hid hR
  have hroom := hR.room
  obtain ⟨hfz, hg, hc⟩ := hR.cells
  have hn := hR.2
  have hbl := hH.lt
  have H := Lib.hid hH
  obtain ⟨h0, h1, h2⟩ := hH
  obtain ⟨a1, a2⟩ := hc 0 (by omega)
  obtain ⟨b1, b2⟩ := hc m (by omega)
  have f1 := hfz 0
  have f2 := hfz 1
  rw [Nat.zero_mul] at a1 a2
  clear hfz hc hR
  have HN := Lib.hid hn
  clear hn
  generalize hx : (atI L 0).1 = x at a1
  generalize hy : (atI L 0).2 = y at a2
  generalize hx' : (atI L m).1 = x' at b1
  generalize hy' : (atI L m).2 = y' at b2
  have HX := Lib.hid hx
  have HY := Lib.hid hy
  have HX' := Lib.hid hx'
  have HY' := Lib.hid hy'
  clear hx hy hx' hy'
  have i0 : (m : Int) < ((m + 1 : Nat) : Int) := by omega
  have i1 : (0 : Int) < ((m + 1 : Nat) : Int) := by omega
  have i2 : (m : Int) ≤ (c : Int) := by omega
  go_enter Try.func172, Try.ntmps172
  go_wp2_with fail
  go_region
  go_wp2_with fail
  have L1 : ((L.set 0 (x', y')).take m) = ((L.set 0 (atI L (L.length - 1))).take (L.length - 1)) := by
    rw [← HN.out, Nat.add_sub_cancel, ← HX'.out, ← HY'.out]
  have HL1 := Lib.hid L1
  clear L1
  have R1 := Lib.hid (((R.out.set0 x' y').cut (m := m) (by omega)).setOther (p := ⟨hb, 0, none⟩) (fun h => hne h.symm) (.slice (some ⟨g, 0, none⟩) m c))
  have hsz : ((((w.setCell ⟨g, 0, none⟩ (.int .i64 x')).setCell ⟨g, 1, none⟩ (.int .i64 y')).setCell ⟨hb, 0, none⟩ (.slice (some ⟨g, 0, none⟩) m c))).heap.size = w.heap.size := by simp
  have HB1 := Lib.hid (show HBox ((((w.setCell ⟨g, 0, none⟩ (.int .i64 x')).setCell ⟨g, 1, none⟩ (.int .i64 y')).setCell ⟨hb, 0, none⟩ (.slice (some ⟨g, 0, none⟩) m c))) hb (.slice (some ⟨g, 0, none⟩) m c) from ⟨by simp [go_sem, h0, hne], by simp [go_sem, h1, hne], by simp [go_sem, h2, hne]⟩)
  have T1 := Lib.hid (show Turn (fun k => k = hb ∨ k = g) w ((((w.setCell ⟨g, 0, none⟩ (.int .i64 x')).setCell ⟨g, 1, none⟩ (.int .i64 y')).setCell ⟨hb, 0, none⟩ (.slice (some ⟨g, 0, none⟩) m c))) from (((Turn.refl _ w).set (.inl (.inr rfl)) _).set (.inl (.inr rfl)) _).set (.inl (.inl rfl)) _)
  generalize ((((w.setCell ⟨g, 0, none⟩ (.int .i64 x')).setCell ⟨g, 1, none⟩ (.int .i64 y')).setCell ⟨hb, 0, none⟩ (.slice (some ⟨g, 0, none⟩) m c))) = wa at *
  refine (sink_any hb g m c 0 _ _ (by omega) (R1.out.bl (by repeat' (first | exact Bl.refl _ | with_reducible assumption | with_reducible refine Bl.drew_ ?_ | with_reducible refine Bl.drewN_ ?_ _ | with_reducible refine Bl.alloc_ ?_ _ | with_reducible refine Bl.trans_ ?_ (by assumption) | with_reducible refine Bl.trans_ ?_ (And.left (by assumption))))) (HB1.out.bl (by omega) (by repeat' (first | exact Bl.refl _ | with_reducible assumption | with_reducible refine Bl.drew_ ?_ | with_reducible refine Bl.drewN_ ?_ _ | with_reducible refine Bl.alloc_ ?_ _ | with_reducible refine Bl.trans_ ?_ (by assumption) | with_reducible refine Bl.trans_ ?_ (And.left (by assumption))))) hne (by omega)).mono ?_
  rintro e w4 ⟨rfl, hR4, hG4⟩
  have R4 := Lib.hid hR4
  have G4 := Lib.hid hG4
  clear hR4 hG4
  have hb4 := (HB1.out.bl (by omega) (show Bl wa ((wa.alloc (.cells #[.int .i64 0, .int .i64 0] 116)).alloc (.cells #[.int .i64 x, .int .i64 y] 116)).drew from (by repeat' (first | exact Bl.refl _ | with_reducible assumption | with_reducible refine Bl.drew_ ?_ | with_reducible refine Bl.drewN_ ?_ _ | with_reducible refine Bl.alloc_ ?_ _ | with_reducible refine Bl.trans_ ?_ (by assumption) | with_reducible refine Bl.trans_ ?_ (And.left (by assumption)))))).grown_ G4.out (by simp; exact hne)
  have HB4 := Lib.hid hb4
  have c1 := G4.out.cell (a := ⟨w.heap.size + 1, 0, none⟩) (v := .int .i64 x) (by simp [go_sem, ← hsz]) (by simp; omega)
  have c2 := G4.out.cell (a := ⟨w.heap.size + 1, 1, none⟩) (v := .int .i64 y) (by simp [go_sem, ← hsz]) (by simp; omega)
  have c3 := G4.out.cell (a := ⟨w.heap.size, 0, none⟩) (v := .int .i64 0) (by simp [go_sem, ← hsz]) (by simp; omega)
  have c4 := G4.out.cell (a := ⟨w.heap.size, 1, none⟩) (v := .int .i64 0) (by simp [go_sem, ← hsz]) (by simp; omega)
  have hblk := G4.out.block w.heap.size (by simp; omega) (by simp; omega)
  have f3 := (World.frozen?_of_block (a := ⟨w.heap.size, 0, none⟩) hblk).trans (show _ = false from by simp [go_sem, ← hsz])
  have f4 := (World.frozen?_of_block (a := ⟨w.heap.size, 1, none⟩) hblk).trans (show _ = false from by simp [go_sem, ← hsz])
  have HZ := Lib.hid hsz
  clear hb4 hblk hsz
  go_wp2
  refine bodyPost_ret (v := .agg #[.int .i64 x, .int .i64 y]) (by simp [results, Try.results172, go_sem, c3, c4]) rfl ⟨by rw [← HX.out, ← HY.out], ?_, ?_, ?_⟩
  · have h5 := (R4.out.setOther (p := ⟨w.heap.size, 0, none⟩) (by show g ≠ w.heap.size; omega) (.int .i64 x)).setOther (p := ⟨w.heap.size, 1, none⟩) (by show g ≠ w.heap.size; omega) (.int .i64 y)
    unfold popL
    rw [← HL1.out]
    exact h5
  · obtain ⟨k0, k1, k2⟩ := HB4.out
    have hne2 : ¬ w.heap.size = hb := by omega
    have hne3 : ¬ hb = w.heap.size := by omega
    exact ⟨by simp [go_sem, k0, hne2, hne3], by simp [go_sem, k1, hne2, hne3], by simp [go_sem, k2, hne2, hne3]⟩
  · refine Turn.set (Turn.set (T1.out.trans ((Turn.of_bl (S := fun k => k = hb ∨ k = g) (show Bl wa _ from (by repeat' (first | exact Bl.refl _ | with_reducible assumption | with_reducible refine Bl.drew_ ?_ | with_reducible refine Bl.drewN_ ?_ _ | with_reducible refine Bl.alloc_ ?_ _ | with_reducible refine Bl.trans_ ?_ (by assumption) | with_reducible refine Bl.trans_ ?_ (And.left (by assumption)))))).trans (Turn.of_grown (S := fun k => k = hb ∨ k = g) G4.out (fun k h => by injection h with h; exact .inr h.symm)) (fun i _ h => h)) (fun i _ h => h)) (.inr ?_) _) (.inr ?_) _ <;> exact Nat.le_refl _

end Go.Proofs.Ytelgjfflhcmljaa
