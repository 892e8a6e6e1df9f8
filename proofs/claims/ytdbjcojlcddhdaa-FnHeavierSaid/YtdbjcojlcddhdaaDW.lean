/-
  What is proved here: graphs, two nodes and a weight that are drawn by a code. No conditions beyond those that each theorem states.
-/
import Derived.Test.YtdbjcojlcddhdaaDR
import Derived.Test.YtdbjcojlcddhdaaW4
import Derived.Deep.Cut
set_option linter.unusedSimpArgs false
set_option linter.unusedVariables false
namespace Go.Proofs.Ytdbjcojlcddhdaa
open Go.RowKit

/-- A graph and two numbers that are drawn by a code. -/
def DrawnW2 (w : World) (e : Ending) (w' : World) : Prop :=
  ∃ (N : Int) (A' : Option Addr) (l c' : Nat) (L : List Arc3) (u v : Int), e = .returned (.tuple #[.agg #[.int .i64 N, .slice A' l c'], .int .i64 u, .int .i64 v]) ∧ Drawn w.heap.size w' N A' l c' L ∧ Bl w w'
/-- A graph, two numbers and a weight that are drawn by a code. -/
def DrawnW3 (w : World) (e : Ending) (w' : World) : Prop :=
  ∃ (N : Int) (A' : Option Addr) (l c' : Nat) (L : List Arc3) (u v x : Int), e = .returned (.tuple #[.agg #[.int .i64 N, .slice A' l c'], .int .i64 u, .int .i64 v, .int .i64 x]) ∧ Drawn w.heap.size w' N A' l c' L ∧ In64 x ∧ Bl w w'
-- draw of WeightOf
theorem there_new3 (w : World) (t : TypeId) : (w.alloc (.cells #[.int .i64 0, .int .i64 0, .int .i64 0] t)).there w.heap.size 0 3 := fun j hj => by
  match j, hj with
  | 0, _ => simp [go_sem]
  | 1, _ => simp [go_sem]
  | 2, _ => simp [go_sem]
  | (k + 3), h => exact absurd h (by omega)
theorem size3 : (Try.prog.info? 51).map (·.size) = some 3 := by kernel_rfl
theorem there_turn {w w' : World} {P o k : Nat} {S : Nat → Prop} (h : w.there P o k) (t : Turn S w w') (hP : P < w.heap.size) (hS : ¬ S P) : w'.there P o k := fun j hj => by
  rw [(t.cells hP hS _).1, (t.cells hP hS _).2]
  exact h j hj
theorem OwnA.turn {w w' : World} {B : Nat} {v : Value} {L : List Arc3} {S : Nat → Prop} (h : OwnA w B v L) (k : Turn S w w') (hS : ∀ g, v.ownBlock = some g → ¬ S g) : OwnA w' B v L :=
  Owns.turn (t := 51) (s := 3) h k hS

set_option maxRecDepth 100000 in
set_option maxHeartbeats 4000000 in
theorem drawWeightOf_any (A : Option Addr) (n c : Nat) (w : World) (hn : n ≤ 1099511627776) (H : BytesAt w A n) :
    Calls Try.prog 19 #[.slice A n c] w (DrawnW2 w) := by
  have K := Lib.hid H
  clear H
  go_enter Try.func19, Try.ntmps19
  go_wp2_with fail
  refine (open_any A n c _ (K.out.bl (by repeat' (first | exact Bl.refl _ | with_reducible assumption | with_reducible refine Bl.drew_ ?_ | with_reducible refine Bl.drewN_ ?_ _ | with_reducible refine Bl.alloc_ ?_ _ | with_reducible refine Bl.trans_ ?_ (by assumption) | with_reducible refine Bl.trans_ ?_ (And.left (by assumption)))))).mono ?_
  rintro e w1 ⟨rfl, hr, hb, hlt⟩
  have R1 := Lib.hid (show RdAny w1 (w.heap.size + 1) A n c from by rw [World.size_alloc] at hr; exact hr)
  have B1 := Lib.hid hb
  have s1 := hb.size
  simp only [World.size_alloc] at s1 hlt
  clear hr hb
  go_wp2_with fail
  refine (graph_any 8 (w.heap.size + 1) A n c _ hn (by omega) (by omega) R1.out (fun h0 g off e => by have := K.out.lt' h0 g off e; omega)).mono ?_
  rintro e w2 ⟨N, A', l, c', L, rfl, hd, hr, hg⟩
  have D2 := Lib.hid hd
  have R2 := Lib.hid hr
  have G2 := Lib.hid hg
  have hN := hd.2.2.1
  have hl200 := hd.2.1
  have s2 := hg.size
  clear hd hr hg
  have B2 := Lib.hid (show Bl (w.alloc (.cells #[.int .i64 0, .slice none 0 0] 26)) w2 from B1.out.grown_ G2.out (fun g e => by injection e with e; simp; omega))
  have R3 := Lib.hid (R2.out.bl (Bl.alloc_ (Bl.refl w2) (.cells #[.int .i64 N, .slice A' l c'] 26)))
  have HSH := Lib.hid (show ∀ wx, (w2.alloc (.cells #[.int .i64 N, .slice A' l c'] 26)).grownBy wx (some (w.heap.size + 1)) → (w2.alloc (.cells #[.int .i64 N, .slice A' l c'] 26)).grownBy wx (some (w.heap.size + 1)) ∧ wx.cell? ⟨w2.heap.size, 0, none⟩ = some (.int .i64 N) ∧ wx.cell? ⟨w2.heap.size, 1, none⟩ = some (.slice A' l c') from fun wx h =>
    ⟨h, h.cell (by simp [go_sem]) (by simp; omega), h.cell (by simp [go_sem]) (by simp; omega)⟩)
  have hN0 := hN.1
  have hN1 := hN.2
  have RES := Lib.hid (show Two (w2.alloc (.cells #[.int .i64 N, .slice A' l c'] 26)) w.heap.size (.int .i64 0) (.slice none 0 0) from ((Two.new w _ _).bl B2.out).bl (Bl.alloc_ (Bl.refl _) _))
  have nb : w2.heap.size ≠ w.heap.size := by omega
  have nb' : w.heap.size ≠ w2.heap.size := by omega
  by_cases hl : 0 < l
  · have b0 : decide ((0 : Int) < (l : Int)) = true := by simpa using hl
    go_wp2_with fail
    refine (once_any 2 (w.heap.size + 1) A n c _ hn (by omega) (by omega) R3.out).mono ?_
    rintro e w4 ⟨b, rfl, hr4, hg4⟩
    have G4 := Lib.hid hg4
    have R4 := Lib.hid hr4
    clear hr4 hg4
    cases b with
    | false =>
      obtain ⟨-, y0, y1⟩ := HSH.out _ G4.out
      go_wp2_with fail
      refine (node_any N _ (w.heap.size + 1) A n c _ hn hN0 hN1 R4.out).mono ?_
      rintro e w5 ⟨s, hs, rfl, hr5, hg5⟩
      have G5 := Lib.hid (grown_trans G4.out hg5)
      have R5 := Lib.hid hr5
      clear y0 y1
      obtain ⟨-, y0, y1⟩ := HSH.out _ G5.out
      have s5 := G5.out.size
      simp only [World.size_alloc] at s5
      have RES5 := Lib.hid (RES.out.grown_ G5.out (by simp))
      clear hs hr5 hg5
      go_wp2_with fail
      refine wp_region_held_drew (S := fun wx => wx.cell? ⟨w2.heap.size, 0, none⟩ = some (.int .i64 N) ∧ wx.cell? ⟨w2.heap.size, 1, none⟩ = some (.slice A' l c')) (by kernel_rfl) ?_ (fun hHeld => ?_)
      · (first | exact (HSH.out _ hGG).2 | (refine ⟨?_, ?_⟩ <;> (simp [go_sem, nb, nb', *]; done)))
      refine wpAnyH_take (i := 0) (v := ?_) rfl (by kernel_rfl) (by kernel_rfl) (by kernel_rfl) (fun _ _ _ h => h) (Or.inl ⟨by kernel_rfl, ?_⟩) (by assumption) ?_
      rotate_left
      · (intro wx hSw; (try dsimp only at hSw); go_simp; try (with_reducible rfl))
      try simp only [Act.put, List.getElem_toArray, List.getElem_cons_succ, List.getElem_cons_zero, List.setIfInBounds_toArray, List.set_cons_zero, List.set_cons_succ]
      refine wpAnyH_take (i := 1) (v := ?_) rfl (by kernel_rfl) (by kernel_rfl) (by kernel_rfl) (fun _ _ _ h => h) (Or.inl ⟨by kernel_rfl, ?_⟩) (by assumption) ?_
      rotate_left
      · (intro wx hSw; (try dsimp only at hSw); go_simp; try (with_reducible rfl))
      try simp only [Act.put, List.getElem_toArray, List.getElem_cons_succ, List.getElem_cons_zero, List.setIfInBounds_toArray, List.set_cons_zero, List.set_cons_succ]
      refine wpAnyH_take (i := 2) (v := ?_) rfl (by kernel_rfl) (by kernel_rfl) (by kernel_rfl) (fun _ _ _ h => h) (Or.inl ⟨by kernel_rfl, ?_⟩) (by assumption) ?_
      rotate_left
      · (intro wx hSw; (try dsimp only at hSw); go_simp; try (with_reducible rfl))
      try simp only [Act.put, List.getElem_toArray, List.getElem_cons_succ, List.getElem_cons_zero, List.setIfInBounds_toArray, List.set_cons_zero, List.set_cons_succ]
      refine wpAnyH_take (i := 3) (v := ?_) rfl (by kernel_rfl) (by kernel_rfl) (by kernel_rfl) (fun _ _ _ h => h) (Or.inl ⟨by kernel_rfl, ?_⟩) (by assumption) ?_
      rotate_left
      · (intro wx hSw; (try dsimp only at hSw); go_simp; try (with_reducible rfl))
      try simp only [Act.put, List.getElem_toArray, List.getElem_cons_succ, List.getElem_cons_zero, List.setIfInBounds_toArray, List.set_cons_zero, List.set_cons_succ]
      refine wpAnyH_ready (rs := [4]) (by kernel_rfl) (by simp) ?_
      refine AllReadyH.cons rfl (fun K hK => ?_) AllReadyH.nil
      go_simp
      (go_at_call 62; refine (node_any N _ (w.heap.size + 1) A n c _ hn hN0 hN1 (R5.out.bl (by repeat' (first | exact Bl.refl _ | with_reducible assumption | with_reducible refine Bl.drew_ ?_ | with_reducible refine Bl.drewN_ ?_ _ | with_reducible refine Bl.alloc_ ?_ _ | with_reducible refine Bl.trans_ ?_ (by assumption) | with_reducible refine Bl.trans_ ?_ (And.left (by assumption)))))).mono ?_; rintro e w3 ⟨x, hx, rfl, hr, hg⟩; have hg' := grown_trans (bl_grown (show Bl w5 _ from (by repeat' (first | exact Bl.refl _ | with_reducible assumption | with_reducible refine Bl.drew_ ?_ | with_reducible refine Bl.drewN_ ?_ _ | with_reducible refine Bl.alloc_ ?_ _ | with_reducible refine Bl.trans_ ?_ (by assumption) | with_reducible refine Bl.trans_ ?_ (And.left (by assumption))))) _) hg; have hGG := grown_trans G5.out hg'; obtain ⟨r0, r1, fr0, fr1⟩ := Two.facts ((RES5.out).grown_ hg' (by simp)))
      try (go_wp2_with fail)
      refine hK.out _ _ ?_ (fun hHeld => ?_)
      · (first | exact (HSH.out _ hGG).2 | (refine ⟨?_, ?_⟩ <;> (simp [go_sem, nb, nb', *]; done)))
      clear hK K
      try simp only [Act.put, List.getElem_toArray, List.getElem_cons_succ, List.getElem_cons_zero, List.setIfInBounds_toArray, List.set_cons_zero, List.set_cons_succ]
      refine wpAnyH_ready (rs := [5]) (by kernel_rfl) (by simp) ?_
      refine AllReadyH.cons rfl (fun K hK => ?_) AllReadyH.nil
      go_simp
      refine hK.out _ _ ?_ (fun hHeld => ?_)
      · (first | exact (HSH.out _ hGG).2 | (refine ⟨?_, ?_⟩ <;> (simp [go_sem, nb, nb', *]; done)))
      clear hK K
      try simp only [Act.put, List.getElem_toArray, List.getElem_cons_succ, List.getElem_cons_zero, List.setIfInBounds_toArray, List.set_cons_zero, List.set_cons_succ]
      refine wpAnyH_take (i := 6) (v := ?_) rfl (by kernel_rfl) (by kernel_rfl) (by kernel_rfl) (fun _ _ _ h => h) (Or.inl ⟨by kernel_rfl, ?_⟩) (by assumption) ?_
      rotate_left
      · (intro wx hSw; (try dsimp only at hSw); go_simp; try (with_reducible rfl))
      try simp only [Act.put, List.getElem_toArray, List.getElem_cons_succ, List.getElem_cons_zero, List.setIfInBounds_toArray, List.set_cons_zero, List.set_cons_succ]
      refine wpAnyH_take (i := 7) (v := ?_) rfl (by kernel_rfl) (by kernel_rfl) (by kernel_rfl) (fun _ _ _ h => h) (Or.inl ⟨by kernel_rfl, ?_⟩) (by assumption) ?_
      rotate_left
      · (intro wx hSw; (try dsimp only at hSw); go_simp; try (with_reducible rfl))
      try simp only [Act.put, List.getElem_toArray, List.getElem_cons_succ, List.getElem_cons_zero, List.setIfInBounds_toArray, List.set_cons_zero, List.set_cons_succ]
      refine wpAnyH_done (by kernel_rfl) ?_ _
      go_wp2
      refine bodyPost_ret (v := .tuple #[.agg #[.int .i64 N, .slice A' l c'], .int .i64 s, .int .i64 x]) (by simp [results, Try.results19, go_sem, r0, r1, fr0, fr1]) rfl ?_
      have D3 := (D2.out.bl (Bl.alloc_ (Bl.refl w2) (.cells #[.int .i64 N, .slice A' l c'] 26))).far hGG (by omega)
      have B3 : Bl w w3 := ((((Bl.alloc_ (Bl.refl w) _).trans_ B2.out).alloc_ (.cells #[.int .i64 N, .slice A' l c'] 26)).grown_ hGG (fun g e => by injection e with e; omega))
      exact ⟨N, A', l, c', L, s, x, rfl, ⟨D3.1, D3.2.1, D3.2.2.1, ((D3.2.2.2.set_ (by show w.heap.size < w1.heap.size; omega) _).set_ (by show w.heap.size < w1.heap.size; omega) _).low (by omega)⟩, (B3.set_ (Nat.le_refl _) _).set_ (Nat.le_refl _) _⟩
    | true =>
      obtain ⟨ha, hlc⟩ := D2.out.arcs
      have hlL := D2.out.1
      obtain ⟨g, off, rfl, hgl, -⟩ := ha (by omega)
      have T4 := Lib.hid (show Turn (fun i => i = w.heap.size + 1) (w2.alloc (.cells #[.int .i64 N, .slice (some ⟨g, off, none⟩) l c'] 26)) w4 from Turn.of_grown G4.out (fun k e => by injection e with e; exact e.symm))
      have OW := Lib.hid (show ∀ wx, Turn (fun i => i = w.heap.size + 1) (w2.alloc (.cells #[.int .i64 N, .slice (some ⟨g, off, none⟩) l c'] 26)) wx → OwnA wx w1.heap.size (.slice (some ⟨g, off, none⟩) l c') L from fun wx h =>
        OwnA.turn (OwnA.bl D2.out.2.2.2 (Bl.alloc_ (Bl.refl _) _)) h (fun i hi e => by have := (D2.out.2.2.2.lt i hi).1; omega))
      have HST := Lib.hid (show ∀ wx, Turn (fun i => i = w.heap.size + 1) (w2.alloc (.cells #[.int .i64 N, .slice (some ⟨g, off, none⟩) l c'] 26)) wx → wx.cell? ⟨w2.heap.size, 0, none⟩ = some (.int .i64 N) ∧ wx.cell? ⟨w2.heap.size, 1, none⟩ = some (.slice (some ⟨g, off, none⟩) l c') from fun wx h =>
        ⟨(h.cells (by simp) (by omega) 0).1.trans (by simp [go_sem]), (h.cells (by simp) (by omega) 1).1.trans (by simp [go_sem])⟩)
      have HEX := Lib.hid (show ∀ q, q < l → ∃ x y z : Int, Hid (∀ wx, Turn (fun i => i = w.heap.size + 1) (w2.alloc (.cells #[.int .i64 N, .slice (some ⟨g, off, none⟩) l c'] 26)) wx → wx.cell? ⟨g, off + q * 3, none⟩ = some (.int .i64 x) ∧ wx.cell? ⟨g, off + q * 3 + 1, none⟩ = some (.int .i64 y) ∧ wx.cell? ⟨g, off + q * 3 + 2, none⟩ = some (.int .i64 z)) from fun q hq =>
        ⟨L[q].1, L[q].2.1, L[q].2.2, Lib.hid (fun wx h => by
          obtain ⟨A9, c9, e9, h9, -⟩ := (OW.out wx h).shape
          injection e9 with e9
          obtain ⟨g', off', e', -, hc⟩ := h9 (by omega)
          rw [← e9] at e'
          injection e' with e'
          injection e' with e1 e2
          subst e1
          subst e2
          exact hc q (by omega))⟩)
      have y01 := HST.out _ T4.out
      obtain ⟨y0, y1⟩ := y01
      clear ha hgl hlL
      go_wp2_with fail
      go_cut [7] from 21 (fun v wc => ∃ (P : Nat) (x y : Int), v = .pointer (some ⟨P, 0, none⟩) ∧ w2.heap.size + 1 ≤ P ∧ wc.cell? ⟨P, 0, none⟩ = some (.int .i64 x) ∧ wc.cell? ⟨P, 1, none⟩ = some (.int .i64 y) ∧ Turn (fun i => i = w.heap.size + 1) (w2.alloc (.cells #[.int .i64 N, .slice (some ⟨g, off, none⟩) l c'] 26)) wc)
      case first =>
        refine wp_region_held_drew (S := fun wx => wx.cell? ⟨w2.heap.size, 0, none⟩ = some (.int .i64 N) ∧ wx.cell? ⟨w2.heap.size, 1, none⟩ = some (.slice (some ⟨g, off, none⟩) l c')) (by kernel_rfl) ?_ (fun hHeld => ?_)
        · exact HST.out _ (T4.out.bl (Bl.drew_ (Bl.refl _)))
        refine wpAnyH_take (i := 0) (v := ?_) rfl (by kernel_rfl) (by kernel_rfl) (by kernel_rfl) (fun _ _ _ h => h) (Or.inl ⟨by kernel_rfl, ?_⟩) (by assumption) ?_
        rotate_left
        · (intro wx hSw; (try dsimp only at hSw); go_simp; try (with_reducible rfl))
        try simp only [Act.put, List.getElem_toArray, List.getElem_cons_succ, List.getElem_cons_zero, List.setIfInBounds_toArray, List.set_cons_zero, List.set_cons_succ]
        refine wpAnyH_take (i := 1) (v := ?_) rfl (by kernel_rfl) (by kernel_rfl) (by kernel_rfl) (fun _ _ _ h => h) (Or.inl ⟨by kernel_rfl, ?_⟩) (by assumption) ?_
        rotate_left
        · (intro wx hSw; (try dsimp only at hSw); go_simp; try (with_reducible rfl))
        try simp only [Act.put, List.getElem_toArray, List.getElem_cons_succ, List.getElem_cons_zero, List.setIfInBounds_toArray, List.set_cons_zero, List.set_cons_succ]
        refine wpAnyH_take (i := 2) (v := ?_) rfl (by kernel_rfl) (by kernel_rfl) (by kernel_rfl) (fun _ _ _ h => h) (Or.inl ⟨by kernel_rfl, ?_⟩) (by assumption) ?_
        rotate_left
        · (intro wx hSw; (try dsimp only at hSw); go_simp; try (with_reducible rfl))
        try simp only [Act.put, List.getElem_toArray, List.getElem_cons_succ, List.getElem_cons_zero, List.setIfInBounds_toArray, List.set_cons_zero, List.set_cons_succ]
        refine wpAnyH_take (i := 3) (v := ?_) rfl (by kernel_rfl) (by kernel_rfl) (by kernel_rfl) (fun _ _ _ h => h) (Or.inl ⟨by kernel_rfl, ?_⟩) (by assumption) ?_
        rotate_left
        · (intro wx hSw; (try dsimp only at hSw); go_simp; try (with_reducible rfl))
        try simp only [Act.put, List.getElem_toArray, List.getElem_cons_succ, List.getElem_cons_zero, List.setIfInBounds_toArray, List.set_cons_zero, List.set_cons_succ]
        refine wpAnyH_take (i := 4) (v := ?_) rfl (by kernel_rfl) (by kernel_rfl) (by kernel_rfl) (fun _ _ _ h => h) (Or.inl ⟨by kernel_rfl, ?_⟩) (by assumption) ?_
        rotate_left
        · (intro wx hSw; (try dsimp only at hSw); go_simp; try (with_reducible rfl))
        try simp only [Act.put, List.getElem_toArray, List.getElem_cons_succ, List.getElem_cons_zero, List.setIfInBounds_toArray, List.set_cons_zero, List.set_cons_succ]
        clear hHeld
        generalize hw : World.drew w4 = w_0
        have T_0 := Lib.hid (show Turn (fun i => i = w.heap.size + 1) (w2.alloc (.cells #[.int .i64 N, .slice (some ⟨g, off, none⟩) l c'] 26)) w_0 from by rw [← hw]; exact T4.out.bl (Bl.drew_ (Bl.refl _)))
        have R_0 := Lib.hid (show RdAny w_0 (w.heap.size + 1) A n c from by rw [← hw]; exact R4.out.bl (Bl.drew_ (Bl.refl _)))
        clear hw
        refine wpAnyH_ready (rs := [5, 9]) (by kernel_rfl) (by simp) ?_
        refine AllReadyH.cons rfl (fun K hK => ?_) (AllReadyH.cons rfl (fun K hK => ?_) AllReadyH.nil)
        · go_simp
          refine hK.out _ _ ?_ (fun hHeld => ?_)
          · exact HST.out _ T_0.out
          clear hK K
          try simp only [Act.put, List.getElem_toArray, List.getElem_cons_succ, List.getElem_cons_zero, List.setIfInBounds_toArray, List.set_cons_zero, List.set_cons_succ]
          refine wpAnyH_ready (rs := [6, 9]) (by kernel_rfl) (by simp) ?_
          refine AllReadyH.cons rfl (fun K hK => ?_) (AllReadyH.cons rfl (fun K hK => ?_) AllReadyH.nil)
          · go_simp
            refine (below_any l (w.heap.size + 1) A n c _ hn (by omega) R_0.out).mono ?_
            rintro e w_2 ⟨kk, hkk, rfl, hr, hg⟩
            obtain ⟨q, rfl⟩ : ∃ q : Nat, kk = q := ⟨kk.toNat, by omega⟩
            have i0 : (0 : Int) ≤ (q : Int) := by omega
            have i1 : (q : Int) < (l : Int) := by omega
            have i2 : q < l := by omega
            have hgT : Turn (fun i => i = w.heap.size + 1) w_0 w_2 := Turn.of_grown hg (fun k e => by injection e with e; exact e.symm)
            have T_2 := Lib.hid (T_0.out.trans hgT (fun i _ h => h))
            obtain ⟨x, y, z, HXY⟩ := HEX.out q i2
            clear hr hg hgT hkk
            try (go_wp2_with fail)
            refine hK.out _ _ ?_ (fun hHeld => ?_)
            · exact HST.out _ T_2.out
            clear hK K
            try simp only [Act.put, List.getElem_toArray, List.getElem_cons_succ, List.getElem_cons_zero, List.setIfInBounds_toArray, List.set_cons_zero, List.set_cons_succ]
            refine wpAnyH_take (i := 7) (v := ?_) rfl (by kernel_rfl) (by kernel_rfl) (by kernel_rfl) (fun _ _ _ h => h) (Or.inl ⟨by kernel_rfl, ?_⟩) (by assumption) ?_
            rotate_left
            · (intro wx hSw; (try dsimp only at hSw); go_simp; try (with_reducible rfl))
            try simp only [Act.put, List.getElem_toArray, List.getElem_cons_succ, List.getElem_cons_zero, List.setIfInBounds_toArray, List.set_cons_zero, List.set_cons_succ]
            refine wpAnyH_ready (rs := [8, 9]) (by kernel_rfl) (by simp) ?_
            refine AllReadyH.cons rfl (fun K hK => ?_) (AllReadyH.cons rfl (fun K hK => ?_) AllReadyH.nil)
            · obtain ⟨p1, p2, p3⟩ := HXY.out _ T_2.out
              go_simp
              refine hK.out _ _ ?_ (fun hHeld => ?_)
              · exact HST.out _ T_2.out
              clear hK K
              try simp only [Act.put, List.getElem_toArray, List.getElem_cons_succ, List.getElem_cons_zero, List.setIfInBounds_toArray, List.set_cons_zero, List.set_cons_succ]
              clear p1 p2 p3
              refine wpAnyH_ready (rs := [9]) (by kernel_rfl) (by simp) ?_
              refine AllReadyH.cons rfl (fun K hK => ?_) AllReadyH.nil
              · go_simp
                refine hK.out _ _ ?_ (fun hHeld => ?_)
                · exact HST.out _ (T_2.out.bl (Bl.alloc_ (Bl.refl _) _))
                clear hK K
                try simp only [Act.put, List.getElem_toArray, List.getElem_cons_succ, List.getElem_cons_zero, List.setIfInBounds_toArray, List.set_cons_zero, List.set_cons_succ]
                generalize hw : World.alloc _ _ = w_4
                have hb : Bl w_2 w_4 := by rw [← hw]; exact Bl.alloc_ (Bl.refl _) _
                have T_4 := Lib.hid (T_2.out.bl hb)
                have TH_4 := Lib.hid (show w_4.there w_2.heap.size 0 3 from by rw [← hw]; exact there_new3 _ _)
                have LT_4 := Lib.hid (show w_2.heap.size < w_4.heap.size from by rw [← hw]; simp)
                have LO := Lib.hid (show w2.heap.size + 1 ≤ w_2.heap.size from by have := T_2.out.size; simp only [World.size_alloc] at this; exact this)
                clear hw hb
                refine wpAnyH_ready (rs := [10]) (by kernel_rfl) (by simp) ?_
                refine AllReadyH.cons rfl (fun K hK => ?_) AllReadyH.nil
                rw [if_pos (by rfl)]
                have TW := Lib.hid (show Turn (fun i => i = w.heap.size + 1) (w2.alloc (.cells #[.int .i64 N, .slice (some ⟨g, off, none⟩) l c'] 26)) (w_4.setCells (w_2.heap.size) 0 [.int .i64 x, .int .i64 y, .int .i64 z]) from (((T_4.out.set (p := ⟨w_2.heap.size, 0, none⟩) (.inr (by simp only [World.size_alloc]; exact LO.out)) _).set (p := ⟨w_2.heap.size, 0 + 1, none⟩) (.inr (by simp only [World.size_alloc]; exact LO.out)) _).set (p := ⟨w_2.heap.size, 0 + 1 + 1, none⟩) (.inr (by simp only [World.size_alloc]; exact LO.out)) _))
                have CW := Lib.hid (World.rangeAt_setCells_same w_4 (w_2.heap.size) 0 [.int .i64 x, .int .i64 y, .int .i64 z] TH_4.out)
                refine wp_store_mid _ _ _ rfl (w_2.heap.size) 0 #[.int .i64 x, .int .i64 y, .int .i64 z] rfl rfl TH_4.out size3 (by simp [Value.oneCell']) ?_
                simp only [Act.put, List.setIfInBounds_toArray, List.set_cons_zero, List.set_cons_succ, List.toList_toArray]
                refine hK.out _ _ ?_ (fun hHeld => ?_)
                · exact HST.out _ TW.out
                clear hK K
                try simp only [Act.put, List.getElem_toArray, List.getElem_cons_succ, List.getElem_cons_zero, List.setIfInBounds_toArray, List.set_cons_zero, List.set_cons_succ]
                refine wpAnyH_done (by kernel_rfl) ?_ _
                go_wp2_with fail
                go_meet
                exact ⟨w_2.heap.size, x, y, rfl, LO.out, CW.out 0 _ rfl, CW.out 1 _ rfl, TW.out⟩
            · go_simp
              refine hK.out _ _ ?_ (fun hHeld => ?_)
              · exact HST.out _ (T_2.out.bl (Bl.alloc_ (Bl.refl _) _))
              clear hK K
              try simp only [Act.put, List.getElem_toArray, List.getElem_cons_succ, List.getElem_cons_zero, List.setIfInBounds_toArray, List.set_cons_zero, List.set_cons_succ]
              generalize hw : World.alloc _ _ = w_5
              have hb : Bl w_2 w_5 := by rw [← hw]; exact Bl.alloc_ (Bl.refl _) _
              have T_5 := Lib.hid (T_2.out.bl hb)
              have TH_5 := Lib.hid (show w_5.there w_2.heap.size 0 3 from by rw [← hw]; exact there_new3 _ _)
              have LT_5 := Lib.hid (show w_2.heap.size < w_5.heap.size from by rw [← hw]; simp)
              have LO := Lib.hid (show w2.heap.size + 1 ≤ w_2.heap.size from by have := T_2.out.size; simp only [World.size_alloc] at this; exact this)
              clear hw hb
              refine wpAnyH_ready (rs := [8]) (by kernel_rfl) (by simp) ?_
              refine AllReadyH.cons rfl (fun K hK => ?_) AllReadyH.nil
              · obtain ⟨p1, p2, p3⟩ := HXY.out _ T_5.out
                go_simp
                refine hK.out _ _ ?_ (fun hHeld => ?_)
                · exact HST.out _ T_5.out
                clear hK K
                try simp only [Act.put, List.getElem_toArray, List.getElem_cons_succ, List.getElem_cons_zero, List.setIfInBounds_toArray, List.set_cons_zero, List.set_cons_succ]
                clear p1 p2 p3
                refine wpAnyH_ready (rs := [10]) (by kernel_rfl) (by simp) ?_
                refine AllReadyH.cons rfl (fun K hK => ?_) AllReadyH.nil
                rw [if_pos (by rfl)]
                have TW := Lib.hid (show Turn (fun i => i = w.heap.size + 1) (w2.alloc (.cells #[.int .i64 N, .slice (some ⟨g, off, none⟩) l c'] 26)) (w_5.setCells (w_2.heap.size) 0 [.int .i64 x, .int .i64 y, .int .i64 z]) from (((T_5.out.set (p := ⟨w_2.heap.size, 0, none⟩) (.inr (by simp only [World.size_alloc]; exact LO.out)) _).set (p := ⟨w_2.heap.size, 0 + 1, none⟩) (.inr (by simp only [World.size_alloc]; exact LO.out)) _).set (p := ⟨w_2.heap.size, 0 + 1 + 1, none⟩) (.inr (by simp only [World.size_alloc]; exact LO.out)) _))
                have CW := Lib.hid (World.rangeAt_setCells_same w_5 (w_2.heap.size) 0 [.int .i64 x, .int .i64 y, .int .i64 z] TH_5.out)
                refine wp_store_mid _ _ _ rfl (w_2.heap.size) 0 #[.int .i64 x, .int .i64 y, .int .i64 z] rfl rfl TH_5.out size3 (by simp [Value.oneCell']) ?_
                simp only [Act.put, List.setIfInBounds_toArray, List.set_cons_zero, List.set_cons_succ, List.toList_toArray]
                refine hK.out _ _ ?_ (fun hHeld => ?_)
                · exact HST.out _ TW.out
                clear hK K
                try simp only [Act.put, List.getElem_toArray, List.getElem_cons_succ, List.getElem_cons_zero, List.setIfInBounds_toArray, List.set_cons_zero, List.set_cons_succ]
                refine wpAnyH_done (by kernel_rfl) ?_ _
                go_wp2_with fail
                go_meet
                exact ⟨w_2.heap.size, x, y, rfl, LO.out, CW.out 0 _ rfl, CW.out 1 _ rfl, TW.out⟩
          · go_simp
            refine hK.out _ _ ?_ (fun hHeld => ?_)
            · exact HST.out _ (T_0.out.bl (Bl.alloc_ (Bl.refl _) _))
            clear hK K
            try simp only [Act.put, List.getElem_toArray, List.getElem_cons_succ, List.getElem_cons_zero, List.setIfInBounds_toArray, List.set_cons_zero, List.set_cons_succ]
            generalize hw : World.alloc _ _ = w_7
            have hb : Bl w_0 w_7 := by rw [← hw]; exact Bl.alloc_ (Bl.refl _) _
            have T_7 := Lib.hid (T_0.out.bl hb)
            have TH_7 := Lib.hid (show w_7.there w_0.heap.size 0 3 from by rw [← hw]; exact there_new3 _ _)
            have LT_7 := Lib.hid (show w_0.heap.size < w_7.heap.size from by rw [← hw]; simp)
            have LO := Lib.hid (show w2.heap.size + 1 ≤ w_0.heap.size from by have := T_0.out.size; simp only [World.size_alloc] at this; exact this)
            have R_7 := Lib.hid (R_0.out.bl hb)
            clear hw hb
            refine wpAnyH_ready (rs := [6]) (by kernel_rfl) (by simp) ?_
            refine AllReadyH.cons rfl (fun K hK => ?_) AllReadyH.nil
            · go_simp
              refine (below_any l (w.heap.size + 1) A n c _ hn (by omega) R_7.out).mono ?_
              rintro e w_8 ⟨kk, hkk, rfl, hr, hg⟩
              obtain ⟨q, rfl⟩ : ∃ q : Nat, kk = q := ⟨kk.toNat, by omega⟩
              have i0 : (0 : Int) ≤ (q : Int) := by omega
              have i1 : (q : Int) < (l : Int) := by omega
              have i2 : q < l := by omega
              have hgT : Turn (fun i => i = w.heap.size + 1) w_7 w_8 := Turn.of_grown hg (fun k e => by injection e with e; exact e.symm)
              have T_8 := Lib.hid (T_7.out.trans hgT (fun i _ h => h))
              obtain ⟨x, y, z, HXY⟩ := HEX.out q i2
              have TH_8 := Lib.hid (there_turn TH_7.out hgT LT_7.out (by have := LO.out; omega))
              have LT_8 := Lib.hid (Nat.lt_of_lt_of_le LT_7.out hgT.size)
              clear hr hg hgT hkk
              try (go_wp2_with fail)
              refine hK.out _ _ ?_ (fun hHeld => ?_)
              · exact HST.out _ T_8.out
              clear hK K
              try simp only [Act.put, List.getElem_toArray, List.getElem_cons_succ, List.getElem_cons_zero, List.setIfInBounds_toArray, List.set_cons_zero, List.set_cons_succ]
              refine wpAnyH_take (i := 7) (v := ?_) rfl (by kernel_rfl) (by kernel_rfl) (by kernel_rfl) (fun _ _ _ h => h) (Or.inl ⟨by kernel_rfl, ?_⟩) (by assumption) ?_
              rotate_left
              · (intro wx hSw; (try dsimp only at hSw); go_simp; try (with_reducible rfl))
              try simp only [Act.put, List.getElem_toArray, List.getElem_cons_succ, List.getElem_cons_zero, List.setIfInBounds_toArray, List.set_cons_zero, List.set_cons_succ]
              refine wpAnyH_ready (rs := [8]) (by kernel_rfl) (by simp) ?_
              refine AllReadyH.cons rfl (fun K hK => ?_) AllReadyH.nil
              · obtain ⟨p1, p2, p3⟩ := HXY.out _ T_8.out
                go_simp
                refine hK.out _ _ ?_ (fun hHeld => ?_)
                · exact HST.out _ T_8.out
                clear hK K
                try simp only [Act.put, List.getElem_toArray, List.getElem_cons_succ, List.getElem_cons_zero, List.setIfInBounds_toArray, List.set_cons_zero, List.set_cons_succ]
                clear p1 p2 p3
                refine wpAnyH_ready (rs := [10]) (by kernel_rfl) (by simp) ?_
                refine AllReadyH.cons rfl (fun K hK => ?_) AllReadyH.nil
                rw [if_pos (by rfl)]
                have TW := Lib.hid (show Turn (fun i => i = w.heap.size + 1) (w2.alloc (.cells #[.int .i64 N, .slice (some ⟨g, off, none⟩) l c'] 26)) (w_8.setCells (w_0.heap.size) 0 [.int .i64 x, .int .i64 y, .int .i64 z]) from (((T_8.out.set (p := ⟨w_0.heap.size, 0, none⟩) (.inr (by simp only [World.size_alloc]; exact LO.out)) _).set (p := ⟨w_0.heap.size, 0 + 1, none⟩) (.inr (by simp only [World.size_alloc]; exact LO.out)) _).set (p := ⟨w_0.heap.size, 0 + 1 + 1, none⟩) (.inr (by simp only [World.size_alloc]; exact LO.out)) _))
                have CW := Lib.hid (World.rangeAt_setCells_same w_8 (w_0.heap.size) 0 [.int .i64 x, .int .i64 y, .int .i64 z] TH_8.out)
                refine wp_store_mid _ _ _ rfl (w_0.heap.size) 0 #[.int .i64 x, .int .i64 y, .int .i64 z] rfl rfl TH_8.out size3 (by simp [Value.oneCell']) ?_
                simp only [Act.put, List.setIfInBounds_toArray, List.set_cons_zero, List.set_cons_succ, List.toList_toArray]
                refine hK.out _ _ ?_ (fun hHeld => ?_)
                · exact HST.out _ TW.out
                clear hK K
                try simp only [Act.put, List.getElem_toArray, List.getElem_cons_succ, List.getElem_cons_zero, List.setIfInBounds_toArray, List.set_cons_zero, List.set_cons_succ]
                refine wpAnyH_done (by kernel_rfl) ?_ _
                go_wp2_with fail
                go_meet
                exact ⟨w_0.heap.size, x, y, rfl, LO.out, CW.out 0 _ rfl, CW.out 1 _ rfl, TW.out⟩
        · go_simp
          refine hK.out _ _ ?_ (fun hHeld => ?_)
          · exact HST.out _ (T_0.out.bl (Bl.alloc_ (Bl.refl _) _))
          clear hK K
          try simp only [Act.put, List.getElem_toArray, List.getElem_cons_succ, List.getElem_cons_zero, List.setIfInBounds_toArray, List.set_cons_zero, List.set_cons_succ]
          generalize hw : World.alloc _ _ = w_10
          have hb : Bl w_0 w_10 := by rw [← hw]; exact Bl.alloc_ (Bl.refl _) _
          have T_10 := Lib.hid (T_0.out.bl hb)
          have TH_10 := Lib.hid (show w_10.there w_0.heap.size 0 3 from by rw [← hw]; exact there_new3 _ _)
          have LT_10 := Lib.hid (show w_0.heap.size < w_10.heap.size from by rw [← hw]; simp)
          have LO := Lib.hid (show w2.heap.size + 1 ≤ w_0.heap.size from by have := T_0.out.size; simp only [World.size_alloc] at this; exact this)
          have R_10 := Lib.hid (R_0.out.bl hb)
          clear hw hb
          refine wpAnyH_ready (rs := [5]) (by kernel_rfl) (by simp) ?_
          refine AllReadyH.cons rfl (fun K hK => ?_) AllReadyH.nil
          · go_simp
            refine hK.out _ _ ?_ (fun hHeld => ?_)
            · exact HST.out _ T_10.out
            clear hK K
            try simp only [Act.put, List.getElem_toArray, List.getElem_cons_succ, List.getElem_cons_zero, List.setIfInBounds_toArray, List.set_cons_zero, List.set_cons_succ]
            refine wpAnyH_ready (rs := [6]) (by kernel_rfl) (by simp) ?_
            refine AllReadyH.cons rfl (fun K hK => ?_) AllReadyH.nil
            · go_simp
              refine (below_any l (w.heap.size + 1) A n c _ hn (by omega) R_10.out).mono ?_
              rintro e w_12 ⟨kk, hkk, rfl, hr, hg⟩
              obtain ⟨q, rfl⟩ : ∃ q : Nat, kk = q := ⟨kk.toNat, by omega⟩
              have i0 : (0 : Int) ≤ (q : Int) := by omega
              have i1 : (q : Int) < (l : Int) := by omega
              have i2 : q < l := by omega
              have hgT : Turn (fun i => i = w.heap.size + 1) w_10 w_12 := Turn.of_grown hg (fun k e => by injection e with e; exact e.symm)
              have T_12 := Lib.hid (T_10.out.trans hgT (fun i _ h => h))
              obtain ⟨x, y, z, HXY⟩ := HEX.out q i2
              have TH_12 := Lib.hid (there_turn TH_10.out hgT LT_10.out (by have := LO.out; omega))
              have LT_12 := Lib.hid (Nat.lt_of_lt_of_le LT_10.out hgT.size)
              clear hr hg hgT hkk
              try (go_wp2_with fail)
              refine hK.out _ _ ?_ (fun hHeld => ?_)
              · exact HST.out _ T_12.out
              clear hK K
              try simp only [Act.put, List.getElem_toArray, List.getElem_cons_succ, List.getElem_cons_zero, List.setIfInBounds_toArray, List.set_cons_zero, List.set_cons_succ]
              refine wpAnyH_take (i := 7) (v := ?_) rfl (by kernel_rfl) (by kernel_rfl) (by kernel_rfl) (fun _ _ _ h => h) (Or.inl ⟨by kernel_rfl, ?_⟩) (by assumption) ?_
              rotate_left
              · (intro wx hSw; (try dsimp only at hSw); go_simp; try (with_reducible rfl))
              try simp only [Act.put, List.getElem_toArray, List.getElem_cons_succ, List.getElem_cons_zero, List.setIfInBounds_toArray, List.set_cons_zero, List.set_cons_succ]
              refine wpAnyH_ready (rs := [8]) (by kernel_rfl) (by simp) ?_
              refine AllReadyH.cons rfl (fun K hK => ?_) AllReadyH.nil
              · obtain ⟨p1, p2, p3⟩ := HXY.out _ T_12.out
                go_simp
                refine hK.out _ _ ?_ (fun hHeld => ?_)
                · exact HST.out _ T_12.out
                clear hK K
                try simp only [Act.put, List.getElem_toArray, List.getElem_cons_succ, List.getElem_cons_zero, List.setIfInBounds_toArray, List.set_cons_zero, List.set_cons_succ]
                clear p1 p2 p3
                refine wpAnyH_ready (rs := [10]) (by kernel_rfl) (by simp) ?_
                refine AllReadyH.cons rfl (fun K hK => ?_) AllReadyH.nil
                rw [if_pos (by rfl)]
                have TW := Lib.hid (show Turn (fun i => i = w.heap.size + 1) (w2.alloc (.cells #[.int .i64 N, .slice (some ⟨g, off, none⟩) l c'] 26)) (w_12.setCells (w_0.heap.size) 0 [.int .i64 x, .int .i64 y, .int .i64 z]) from (((T_12.out.set (p := ⟨w_0.heap.size, 0, none⟩) (.inr (by simp only [World.size_alloc]; exact LO.out)) _).set (p := ⟨w_0.heap.size, 0 + 1, none⟩) (.inr (by simp only [World.size_alloc]; exact LO.out)) _).set (p := ⟨w_0.heap.size, 0 + 1 + 1, none⟩) (.inr (by simp only [World.size_alloc]; exact LO.out)) _))
                have CW := Lib.hid (World.rangeAt_setCells_same w_12 (w_0.heap.size) 0 [.int .i64 x, .int .i64 y, .int .i64 z] TH_12.out)
                refine wp_store_mid _ _ _ rfl (w_0.heap.size) 0 #[.int .i64 x, .int .i64 y, .int .i64 z] rfl rfl TH_12.out size3 (by simp [Value.oneCell']) ?_
                simp only [Act.put, List.setIfInBounds_toArray, List.set_cons_zero, List.set_cons_succ, List.toList_toArray]
                refine hK.out _ _ ?_ (fun hHeld => ?_)
                · exact HST.out _ TW.out
                clear hK K
                try simp only [Act.put, List.getElem_toArray, List.getElem_cons_succ, List.getElem_cons_zero, List.setIfInBounds_toArray, List.set_cons_zero, List.set_cons_succ]
                refine wpAnyH_done (by kernel_rfl) ?_ _
                go_wp2_with fail
                go_meet
                exact ⟨w_0.heap.size, x, y, rfl, LO.out, CW.out 0 _ rfl, CW.out 1 _ rfl, TW.out⟩
      case rest =>
        obtain ⟨P, x, y, rfl, hP, hx0, hy0, hT⟩ := hcut
        obtain ⟨c0, c1⟩ := HST.out _ hT
        obtain ⟨z0, z1, zf0, zf1⟩ := Two.facts RES.out
        have r0 := (hT.cells (g := w.heap.size) (by simp; omega) (by omega) 0).1.trans z0
        have r1 := (hT.cells (g := w.heap.size) (by simp; omega) (by omega) 1).1.trans z1
        have fr0 := (hT.cells (g := w.heap.size) (by simp; omega) (by omega) 0).2.trans zf0
        have fr1 := (hT.cells (g := w.heap.size) (by simp; omega) (by omega) 1).2.trans zf1
        have nP : P ≠ w.heap.size := by omega
        have nP' : w.heap.size ≠ P := by omega
        have HT := Lib.hid hT
        clear hT y0 y1 z0 z1 zf0 zf1
        go_wp2_with fail
        refine wp_region_held_drew (S := fun wx => wx.cell? ⟨w2.heap.size, 0, none⟩ = some (.int .i64 N) ∧ wx.cell? ⟨w2.heap.size, 1, none⟩ = some (.slice (some ⟨g, off, none⟩) l c') ∧ wx.cell? ⟨P, 0, none⟩ = some (.int .i64 x) ∧ wx.cell? ⟨P, 1, none⟩ = some (.int .i64 y)) (by kernel_rfl) ?_ (fun hHeld => ?_)
        · (refine ⟨?_, ?_, ?_, ?_⟩ <;> (simp [go_sem, nb, nb', nP, nP', *]; done))
        refine wpAnyH_take (i := 0) (v := ?_) rfl (by kernel_rfl) (by kernel_rfl) (by kernel_rfl) (fun _ _ _ h => h) (Or.inl ⟨by kernel_rfl, ?_⟩) (by assumption) ?_
        rotate_left
        · (intro wx hSw; (try dsimp only at hSw); go_simp; try (with_reducible rfl))
        try simp only [Act.put, List.getElem_toArray, List.getElem_cons_succ, List.getElem_cons_zero, List.setIfInBounds_toArray, List.set_cons_zero, List.set_cons_succ]
        refine wpAnyH_take (i := 1) (v := ?_) rfl (by kernel_rfl) (by kernel_rfl) (by kernel_rfl) (fun _ _ _ h => h) (Or.inl ⟨by kernel_rfl, ?_⟩) (by assumption) ?_
        rotate_left
        · (intro wx hSw; (try dsimp only at hSw); go_simp; try (with_reducible rfl))
        try simp only [Act.put, List.getElem_toArray, List.getElem_cons_succ, List.getElem_cons_zero, List.setIfInBounds_toArray, List.set_cons_zero, List.set_cons_succ]
        refine wpAnyH_take (i := 2) (v := ?_) rfl (by kernel_rfl) (by kernel_rfl) (by kernel_rfl) (fun _ _ _ h => h) (Or.inl ⟨by kernel_rfl, ?_⟩) (by assumption) ?_
        rotate_left
        · (intro wx hSw; (try dsimp only at hSw); go_simp; try (with_reducible rfl))
        try simp only [Act.put, List.getElem_toArray, List.getElem_cons_succ, List.getElem_cons_zero, List.setIfInBounds_toArray, List.set_cons_zero, List.set_cons_succ]
        refine wpAnyH_take (i := 3) (v := ?_) rfl (by kernel_rfl) (by kernel_rfl) (by kernel_rfl) (fun _ _ _ h => h) (Or.inl ⟨by kernel_rfl, ?_⟩) (by assumption) ?_
        rotate_left
        · (intro wx hSw; (try dsimp only at hSw); go_simp; try (with_reducible rfl))
        try simp only [Act.put, List.getElem_toArray, List.getElem_cons_succ, List.getElem_cons_zero, List.setIfInBounds_toArray, List.set_cons_zero, List.set_cons_succ]
        refine wpAnyH_take (i := 4) (v := ?_) rfl (by kernel_rfl) (by kernel_rfl) (by kernel_rfl) (fun _ _ _ h => h) (Or.inl ⟨by kernel_rfl, ?_⟩) (by assumption) ?_
        rotate_left
        · (intro wx hSw; (try dsimp only at hSw); go_simp; try (with_reducible rfl))
        try simp only [Act.put, List.getElem_toArray, List.getElem_cons_succ, List.getElem_cons_zero, List.setIfInBounds_toArray, List.set_cons_zero, List.set_cons_succ]
        refine wpAnyH_ready (rs := [5]) (by kernel_rfl) (by simp) ?_
        refine AllReadyH.cons rfl (fun K hK => ?_) AllReadyH.nil
        go_simp
        refine hK.out _ _ ?_ (fun hHeld => ?_)
        · (refine ⟨?_, ?_, ?_, ?_⟩ <;> (simp [go_sem, nb, nb', nP, nP', *]; done))
        clear hK K
        try simp only [Act.put, List.getElem_toArray, List.getElem_cons_succ, List.getElem_cons_zero, List.setIfInBounds_toArray, List.set_cons_zero, List.set_cons_succ]
        refine wpAnyH_take (i := 6) (v := ?_) rfl (by kernel_rfl) (by kernel_rfl) (by kernel_rfl) (fun _ _ _ h => h) (Or.inl ⟨by kernel_rfl, ?_⟩) (by assumption) ?_
        rotate_left
        · (intro wx hSw; (try dsimp only at hSw); go_simp; try (with_reducible rfl))
        try simp only [Act.put, List.getElem_toArray, List.getElem_cons_succ, List.getElem_cons_zero, List.setIfInBounds_toArray, List.set_cons_zero, List.set_cons_succ]
        refine wpAnyH_take (i := 7) (v := ?_) rfl (by kernel_rfl) (by kernel_rfl) (by kernel_rfl) (fun _ _ _ h => h) (Or.inl ⟨by kernel_rfl, ?_⟩) (by assumption) ?_
        rotate_left
        · (intro wx hSw; (try dsimp only at hSw); go_simp; try (with_reducible rfl))
        try simp only [Act.put, List.getElem_toArray, List.getElem_cons_succ, List.getElem_cons_zero, List.setIfInBounds_toArray, List.set_cons_zero, List.set_cons_succ]
        refine wpAnyH_done (by kernel_rfl) ?_ _
        go_wp2
        refine bodyPost_ret (v := .tuple #[.agg #[.int .i64 N, .slice (some ⟨g, off, none⟩) l c'], .int .i64 x, .int .i64 y]) (by simp [results, Try.results19, go_sem, r0, r1, fr0, fr1]) rfl ?_
        have OF := OW.out _ (HT.out.bl (by repeat' (first | exact Bl.refl _ | with_reducible assumption | with_reducible refine Bl.drew_ ?_ | with_reducible refine Bl.drewN_ ?_ _ | with_reducible refine Bl.alloc_ ?_ _ | with_reducible refine Bl.trans_ ?_ (by assumption) | with_reducible refine Bl.trans_ ?_ (And.left (by assumption)))))
        have BF : Bl w _ := (Turn.to_bl (((Bl.alloc_ (Bl.refl w) _).trans_ B2.out).alloc_ (.cells #[.int .i64 N, .slice (some ⟨g, off, none⟩) l c'] 26)) HT.out (fun i e => by omega)).trans_ (Bl.drew_ (Bl.refl _))
        exact ⟨N, _, l, c', L, x, y, rfl, ⟨D2.out.1, D2.out.2.1, D2.out.2.2.1, ((OF.set_ (by show w.heap.size < w1.heap.size; omega) _).set_ (by show w.heap.size < w1.heap.size; omega) _).low (by omega)⟩, (BF.set_ (Nat.le_refl _) _).set_ (Nat.le_refl _) _⟩
  · have b0 : decide ((0 : Int) < (l : Int)) = false := by simpa using hl
    have G4 := Lib.hid (bl_grown (Bl.refl (w2.alloc (.cells #[.int .i64 N, .slice A' l c'] 26))) (some (w.heap.size + 1)))
    obtain ⟨-, y0, y1⟩ := HSH.out _ G4.out
    go_wp2_with fail
    refine (node_any N _ (w.heap.size + 1) A n c _ hn hN0 hN1 R3.out).mono ?_
    rintro e w5 ⟨s, hs, rfl, hr5, hg5⟩
    have G5 := Lib.hid (grown_trans G4.out hg5)
    have R5 := Lib.hid hr5
    clear y0 y1
    obtain ⟨-, y0, y1⟩ := HSH.out _ G5.out
    have s5 := G5.out.size
    simp only [World.size_alloc] at s5
    have RES5 := Lib.hid (RES.out.grown_ G5.out (by simp))
    clear hs hr5 hg5
    go_wp2_with fail
    refine wp_region_held_drew (S := fun wx => wx.cell? ⟨w2.heap.size, 0, none⟩ = some (.int .i64 N) ∧ wx.cell? ⟨w2.heap.size, 1, none⟩ = some (.slice A' l c')) (by kernel_rfl) ?_ (fun hHeld => ?_)
    · (first | exact (HSH.out _ hGG).2 | (refine ⟨?_, ?_⟩ <;> (simp [go_sem, nb, nb', *]; done)))
    refine wpAnyH_take (i := 0) (v := ?_) rfl (by kernel_rfl) (by kernel_rfl) (by kernel_rfl) (fun _ _ _ h => h) (Or.inl ⟨by kernel_rfl, ?_⟩) (by assumption) ?_
    rotate_left
    · (intro wx hSw; (try dsimp only at hSw); go_simp; try (with_reducible rfl))
    try simp only [Act.put, List.getElem_toArray, List.getElem_cons_succ, List.getElem_cons_zero, List.setIfInBounds_toArray, List.set_cons_zero, List.set_cons_succ]
    refine wpAnyH_take (i := 1) (v := ?_) rfl (by kernel_rfl) (by kernel_rfl) (by kernel_rfl) (fun _ _ _ h => h) (Or.inl ⟨by kernel_rfl, ?_⟩) (by assumption) ?_
    rotate_left
    · (intro wx hSw; (try dsimp only at hSw); go_simp; try (with_reducible rfl))
    try simp only [Act.put, List.getElem_toArray, List.getElem_cons_succ, List.getElem_cons_zero, List.setIfInBounds_toArray, List.set_cons_zero, List.set_cons_succ]
    refine wpAnyH_take (i := 2) (v := ?_) rfl (by kernel_rfl) (by kernel_rfl) (by kernel_rfl) (fun _ _ _ h => h) (Or.inl ⟨by kernel_rfl, ?_⟩) (by assumption) ?_
    rotate_left
    · (intro wx hSw; (try dsimp only at hSw); go_simp; try (with_reducible rfl))
    try simp only [Act.put, List.getElem_toArray, List.getElem_cons_succ, List.getElem_cons_zero, List.setIfInBounds_toArray, List.set_cons_zero, List.set_cons_succ]
    refine wpAnyH_take (i := 3) (v := ?_) rfl (by kernel_rfl) (by kernel_rfl) (by kernel_rfl) (fun _ _ _ h => h) (Or.inl ⟨by kernel_rfl, ?_⟩) (by assumption) ?_
    rotate_left
    · (intro wx hSw; (try dsimp only at hSw); go_simp; try (with_reducible rfl))
    try simp only [Act.put, List.getElem_toArray, List.getElem_cons_succ, List.getElem_cons_zero, List.setIfInBounds_toArray, List.set_cons_zero, List.set_cons_succ]
    refine wpAnyH_ready (rs := [4]) (by kernel_rfl) (by simp) ?_
    refine AllReadyH.cons rfl (fun K hK => ?_) AllReadyH.nil
    go_simp
    (go_at_call 62; refine (node_any N _ (w.heap.size + 1) A n c _ hn hN0 hN1 (R5.out.bl (by repeat' (first | exact Bl.refl _ | with_reducible assumption | with_reducible refine Bl.drew_ ?_ | with_reducible refine Bl.drewN_ ?_ _ | with_reducible refine Bl.alloc_ ?_ _ | with_reducible refine Bl.trans_ ?_ (by assumption) | with_reducible refine Bl.trans_ ?_ (And.left (by assumption)))))).mono ?_; rintro e w3 ⟨x, hx, rfl, hr, hg⟩; have hg' := grown_trans (bl_grown (show Bl w5 _ from (by repeat' (first | exact Bl.refl _ | with_reducible assumption | with_reducible refine Bl.drew_ ?_ | with_reducible refine Bl.drewN_ ?_ _ | with_reducible refine Bl.alloc_ ?_ _ | with_reducible refine Bl.trans_ ?_ (by assumption) | with_reducible refine Bl.trans_ ?_ (And.left (by assumption))))) _) hg; have hGG := grown_trans G5.out hg'; obtain ⟨r0, r1, fr0, fr1⟩ := Two.facts ((RES5.out).grown_ hg' (by simp)))
    try (go_wp2_with fail)
    refine hK.out _ _ ?_ (fun hHeld => ?_)
    · (first | exact (HSH.out _ hGG).2 | (refine ⟨?_, ?_⟩ <;> (simp [go_sem, nb, nb', *]; done)))
    clear hK K
    try simp only [Act.put, List.getElem_toArray, List.getElem_cons_succ, List.getElem_cons_zero, List.setIfInBounds_toArray, List.set_cons_zero, List.set_cons_succ]
    refine wpAnyH_ready (rs := [5]) (by kernel_rfl) (by simp) ?_
    refine AllReadyH.cons rfl (fun K hK => ?_) AllReadyH.nil
    go_simp
    refine hK.out _ _ ?_ (fun hHeld => ?_)
    · (first | exact (HSH.out _ hGG).2 | (refine ⟨?_, ?_⟩ <;> (simp [go_sem, nb, nb', *]; done)))
    clear hK K
    try simp only [Act.put, List.getElem_toArray, List.getElem_cons_succ, List.getElem_cons_zero, List.setIfInBounds_toArray, List.set_cons_zero, List.set_cons_succ]
    refine wpAnyH_take (i := 6) (v := ?_) rfl (by kernel_rfl) (by kernel_rfl) (by kernel_rfl) (fun _ _ _ h => h) (Or.inl ⟨by kernel_rfl, ?_⟩) (by assumption) ?_
    rotate_left
    · (intro wx hSw; (try dsimp only at hSw); go_simp; try (with_reducible rfl))
    try simp only [Act.put, List.getElem_toArray, List.getElem_cons_succ, List.getElem_cons_zero, List.setIfInBounds_toArray, List.set_cons_zero, List.set_cons_succ]
    refine wpAnyH_take (i := 7) (v := ?_) rfl (by kernel_rfl) (by kernel_rfl) (by kernel_rfl) (fun _ _ _ h => h) (Or.inl ⟨by kernel_rfl, ?_⟩) (by assumption) ?_
    rotate_left
    · (intro wx hSw; (try dsimp only at hSw); go_simp; try (with_reducible rfl))
    try simp only [Act.put, List.getElem_toArray, List.getElem_cons_succ, List.getElem_cons_zero, List.setIfInBounds_toArray, List.set_cons_zero, List.set_cons_succ]
    refine wpAnyH_done (by kernel_rfl) ?_ _
    go_wp2
    refine bodyPost_ret (v := .tuple #[.agg #[.int .i64 N, .slice A' l c'], .int .i64 s, .int .i64 x]) (by simp [results, Try.results19, go_sem, r0, r1, fr0, fr1]) rfl ?_
    have D3 := (D2.out.bl (Bl.alloc_ (Bl.refl w2) (.cells #[.int .i64 N, .slice A' l c'] 26))).far hGG (by omega)
    have B3 : Bl w w3 := ((((Bl.alloc_ (Bl.refl w) _).trans_ B2.out).alloc_ (.cells #[.int .i64 N, .slice A' l c'] 26)).grown_ hGG (fun g e => by injection e with e; omega))
    exact ⟨N, A', l, c', L, s, x, rfl, ⟨D3.1, D3.2.1, D3.2.2.1, ((D3.2.2.2.set_ (by show w.heap.size < w1.heap.size; omega) _).set_ (by show w.heap.size < w1.heap.size; omega) _).low (by omega)⟩, (B3.set_ (Nat.le_refl _) _).set_ (Nat.le_refl _) _⟩

set_option maxRecDepth 100000 in
set_option maxHeartbeats 1000000 in
theorem drawWeighed_any (A : Option Addr) (n c : Nat) (w : World) (hn : n ≤ 1099511627776) (H : BytesAt w A n) :
    Calls Try.prog 16 #[.slice A n c] w (DrawnW3 w) := by
  have K := Lib.hid H
  clear H
  go_enter Try.func16, Try.ntmps16
  go_wp2_with fail
  refine (open_any A n c _ (K.out.bl (by repeat' (first | exact Bl.refl _ | with_reducible assumption | with_reducible refine Bl.drew_ ?_ | with_reducible refine Bl.drewN_ ?_ _ | with_reducible refine Bl.alloc_ ?_ _ | with_reducible refine Bl.trans_ ?_ (by assumption) | with_reducible refine Bl.trans_ ?_ (And.left (by assumption)))))).mono ?_
  rintro e w1 ⟨rfl, hr, hb, hlt⟩
  have R1 := Lib.hid (show RdAny w1 (w.heap.size + 1) A n c from by rw [World.size_alloc] at hr; exact hr)
  have B1 := Lib.hid hb
  have s1 := hb.size
  simp only [World.size_alloc] at s1 hlt
  have HK1 := Lib.hid (K.out.bl ((Bl.alloc_ (Bl.refl w) _).trans_ hb))
  clear hr hb
  go_wp2_with fail
  refine (drawWeightOf_any A n c _ hn HK1.out).mono ?_
  rintro e w2 ⟨N, A', l, c', L, u, v, rfl, hd, hb2⟩
  have D2 := Lib.hid hd
  have C2 := Lib.hid hb2
  have hN := hd.2.2.1
  have s2 := hb2.size
  have R2 := Lib.hid (R1.out.bl hb2)
  clear hd hb2
  have B2 := Lib.hid (show Bl (w.alloc (.cells #[.int .i64 0, .slice none 0 0] 26)) w2 from B1.out.trans_ C2.out)
  have R3 := Lib.hid (R2.out.bl (Bl.alloc_ (Bl.refl w2) (.cells #[.int .i64 N, .slice A' l c'] 26)))
  have HSH := Lib.hid (show ∀ wx, (w2.alloc (.cells #[.int .i64 N, .slice A' l c'] 26)).grownBy wx (some (w.heap.size + 1)) → (w2.alloc (.cells #[.int .i64 N, .slice A' l c'] 26)).grownBy wx (some (w.heap.size + 1)) ∧ wx.cell? ⟨w2.heap.size, 0, none⟩ = some (.int .i64 N) ∧ wx.cell? ⟨w2.heap.size, 1, none⟩ = some (.slice A' l c') from fun wx h =>
    ⟨h, h.cell (by simp [go_sem]) (by simp; omega), h.cell (by simp [go_sem]) (by simp; omega)⟩)
  have RES := Lib.hid (show Two (w2.alloc (.cells #[.int .i64 N, .slice A' l c'] 26)) w.heap.size (.int .i64 0) (.slice none 0 0) from ((Two.new w _ _).bl B2.out).bl (Bl.alloc_ (Bl.refl _) _))
  have nb : w2.heap.size ≠ w.heap.size := by omega
  have nb' : w.heap.size ≠ w2.heap.size := by omega
  go_wp2_with fail
  refine wp_region_held_drew (S := fun wx => wx.cell? ⟨w2.heap.size, 0, none⟩ = some (.int .i64 N) ∧ wx.cell? ⟨w2.heap.size, 1, none⟩ = some (.slice A' l c')) (by kernel_rfl) ?_ (fun hHeld => ?_)
  · (first | exact (HSH.out _ hGG).2 | (refine ⟨?_, ?_⟩ <;> (simp [go_sem, nb, nb', *]; done)))
  refine wpAnyH_take (i := 0) (v := ?_) rfl (by kernel_rfl) (by kernel_rfl) (by kernel_rfl) (fun _ _ _ h => h) (Or.inl ⟨by kernel_rfl, ?_⟩) (by assumption) ?_
  rotate_left
  · (intro wx hSw; (try dsimp only at hSw); go_simp; try (with_reducible rfl))
  try simp only [Act.put, List.getElem_toArray, List.getElem_cons_succ, List.getElem_cons_zero, List.setIfInBounds_toArray, List.set_cons_zero, List.set_cons_succ]
  refine wpAnyH_take (i := 1) (v := ?_) rfl (by kernel_rfl) (by kernel_rfl) (by kernel_rfl) (fun _ _ _ h => h) (Or.inl ⟨by kernel_rfl, ?_⟩) (by assumption) ?_
  rotate_left
  · (intro wx hSw; (try dsimp only at hSw); go_simp; try (with_reducible rfl))
  try simp only [Act.put, List.getElem_toArray, List.getElem_cons_succ, List.getElem_cons_zero, List.setIfInBounds_toArray, List.set_cons_zero, List.set_cons_succ]
  refine wpAnyH_take (i := 2) (v := ?_) rfl (by kernel_rfl) (by kernel_rfl) (by kernel_rfl) (fun _ _ _ h => h) (Or.inl ⟨by kernel_rfl, ?_⟩) (by assumption) ?_
  rotate_left
  · (intro wx hSw; (try dsimp only at hSw); go_simp; try (with_reducible rfl))
  try simp only [Act.put, List.getElem_toArray, List.getElem_cons_succ, List.getElem_cons_zero, List.setIfInBounds_toArray, List.set_cons_zero, List.set_cons_succ]
  refine wpAnyH_take (i := 3) (v := ?_) rfl (by kernel_rfl) (by kernel_rfl) (by kernel_rfl) (fun _ _ _ h => h) (Or.inl ⟨by kernel_rfl, ?_⟩) (by assumption) ?_
  rotate_left
  · (intro wx hSw; (try dsimp only at hSw); go_simp; try (with_reducible rfl))
  try simp only [Act.put, List.getElem_toArray, List.getElem_cons_succ, List.getElem_cons_zero, List.setIfInBounds_toArray, List.set_cons_zero, List.set_cons_succ]
  refine wpAnyH_ready (rs := [4]) (by kernel_rfl) (by simp) ?_
  refine AllReadyH.cons rfl (fun K hK => ?_) AllReadyH.nil
  go_simp
  (go_at_call 52; refine (off_any 0 14 (w.heap.size + 1) A n c _ hn (by omega) (by omega) (by omega) (by omega) (R3.out.bl (by repeat' (first | exact Bl.refl _ | with_reducible assumption | with_reducible refine Bl.drew_ ?_ | with_reducible refine Bl.drewN_ ?_ _ | with_reducible refine Bl.alloc_ ?_ _ | with_reducible refine Bl.trans_ ?_ (by assumption) | with_reducible refine Bl.trans_ ?_ (And.left (by assumption)))))).mono ?_; rintro e w3 ⟨x, hx, rfl, hr, hg⟩; have hGG := grown_trans (bl_grown (show Bl (w2.alloc (.cells #[.int .i64 N, .slice A' l c'] 26)) _ from (by repeat' (first | exact Bl.refl _ | with_reducible assumption | with_reducible refine Bl.drew_ ?_ | with_reducible refine Bl.drewN_ ?_ _ | with_reducible refine Bl.alloc_ ?_ _ | with_reducible refine Bl.trans_ ?_ (by assumption) | with_reducible refine Bl.trans_ ?_ (And.left (by assumption))))) _) hg; obtain ⟨r0, r1, fr0, fr1⟩ := Two.facts ((RES.out).grown_ hGG (by simp)))
  try (go_wp2_with fail)
  refine hK.out _ _ ?_ (fun hHeld => ?_)
  · (first | exact (HSH.out _ hGG).2 | (refine ⟨?_, ?_⟩ <;> (simp [go_sem, nb, nb', *]; done)))
  clear hK K
  try simp only [Act.put, List.getElem_toArray, List.getElem_cons_succ, List.getElem_cons_zero, List.setIfInBounds_toArray, List.set_cons_zero, List.set_cons_succ]
  refine wpAnyH_ready (rs := [5]) (by kernel_rfl) (by simp) ?_
  refine AllReadyH.cons rfl (fun K hK => ?_) AllReadyH.nil
  go_simp
  refine hK.out _ _ ?_ (fun hHeld => ?_)
  · (first | exact (HSH.out _ hGG).2 | (refine ⟨?_, ?_⟩ <;> (simp [go_sem, nb, nb', *]; done)))
  clear hK K
  try simp only [Act.put, List.getElem_toArray, List.getElem_cons_succ, List.getElem_cons_zero, List.setIfInBounds_toArray, List.set_cons_zero, List.set_cons_succ]
  refine wpAnyH_take (i := 6) (v := ?_) rfl (by kernel_rfl) (by kernel_rfl) (by kernel_rfl) (fun _ _ _ h => h) (Or.inl ⟨by kernel_rfl, ?_⟩) (by assumption) ?_
  rotate_left
  · (intro wx hSw; (try dsimp only at hSw); go_simp; try (with_reducible rfl))
  try simp only [Act.put, List.getElem_toArray, List.getElem_cons_succ, List.getElem_cons_zero, List.setIfInBounds_toArray, List.set_cons_zero, List.set_cons_succ]
  refine wpAnyH_take (i := 7) (v := ?_) rfl (by kernel_rfl) (by kernel_rfl) (by kernel_rfl) (fun _ _ _ h => h) (Or.inl ⟨by kernel_rfl, ?_⟩) (by assumption) ?_
  rotate_left
  · (intro wx hSw; (try dsimp only at hSw); go_simp; try (with_reducible rfl))
  try simp only [Act.put, List.getElem_toArray, List.getElem_cons_succ, List.getElem_cons_zero, List.setIfInBounds_toArray, List.set_cons_zero, List.set_cons_succ]
  refine wpAnyH_take (i := 8) (v := ?_) rfl (by kernel_rfl) (by kernel_rfl) (by kernel_rfl) (fun _ _ _ h => h) (Or.inl ⟨by kernel_rfl, ?_⟩) (by assumption) ?_
  rotate_left
  · (intro wx hSw; (try dsimp only at hSw); go_simp; try (with_reducible rfl))
  try simp only [Act.put, List.getElem_toArray, List.getElem_cons_succ, List.getElem_cons_zero, List.setIfInBounds_toArray, List.set_cons_zero, List.set_cons_succ]
  refine wpAnyH_done (by kernel_rfl) ?_ _
  go_wp2
  refine bodyPost_ret (v := .tuple #[.agg #[.int .i64 N, .slice A' l c'], .int .i64 u, .int .i64 v, .int .i64 x]) (by simp [results, Try.results16, go_sem, r0, r1, fr0, fr1]) rfl ?_
  have D3 := (D2.out.bl (Bl.alloc_ (Bl.refl w2) (.cells #[.int .i64 N, .slice A' l c'] 26))).far hGG (by omega)
  have B3 : Bl w w3 := ((((Bl.alloc_ (Bl.refl w) _).trans_ B2.out).alloc_ (.cells #[.int .i64 N, .slice A' l c'] 26)).grown_ hGG (fun g e => by injection e with e; omega))
  exact ⟨N, A', l, c', L, u, v, x, rfl, ⟨D3.1, D3.2.1, D3.2.2.1, ((D3.2.2.2.set_ (by show w.heap.size < w1.heap.size; omega) _).set_ (by show w.heap.size < w1.heap.size; omega) _).low (by omega)⟩, hx, (B3.set_ (Nat.le_refl _) _).set_ (Nat.le_refl _) _⟩

end Go.Proofs.Ytdbjcojlcddhdaa
