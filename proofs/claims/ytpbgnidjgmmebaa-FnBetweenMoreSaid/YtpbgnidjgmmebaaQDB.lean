/-
  What is proved here: graphs, two nodes and a length that are drawn by a code. No conditions beyond those that each theorem states.
-/
import Derived.Test.YtpbgnidjgmmebaaQDR
import Derived.Test.YtpbgnidjgmmebaaZN
import Derived.Test.YtpbgnidjgmmebaaZP
set_option linter.unusedSimpArgs false
set_option linter.unusedVariables false
namespace Go.Proofs.Ytpbgnidjgmmebaa
open Go.RowKit

def DrawnG3 (w : World) (e : Ending) (w' : World) : Prop :=
  ∃ N A' l c' L s t m, e = .returned (.tuple #[.agg #[.int .i64 N, .slice A' l c'], .int .i64 s, .int .i64 t, .int .i64 m]) ∧ Drawn w.heap.size w' N A' l c' L ∧ In64 s ∧ In64 t ∧ In64 m ∧ Bl w w'

set_option maxRecDepth 100000 in
set_option maxHeartbeats 1000000 in
theorem drawBetween_any (A : Option Addr) (n c : Nat) (w : World) (hn : n ≤ 1099511627776) (H : BytesAt w A n) :
    Calls Try.prog 38 #[.slice A n c] w (DrawnG3 w) := by
  have K := Lib.hid H
  clear H
  go_enter Try.func38, Try.ntmps38
  go_wp2_with fail
  refine (open_any A n c _ (K.out.bl (by repeat' (first | exact Bl.refl _ | with_reducible assumption | with_reducible refine Bl.drew_ ?_ | with_reducible refine Bl.drewN_ ?_ _ | with_reducible refine Bl.alloc_ ?_ _ | with_reducible refine Bl.trans_ ?_ (by assumption) | with_reducible refine Bl.trans_ ?_ (And.left (by assumption)))))).mono ?_
  rintro e w1 ⟨rfl, hr, hb, hlt⟩
  have R1 := Lib.hid (show RdAny w1 (w.heap.size + 1) A n c from by rw [World.size_alloc] at hr; exact hr)
  have B1 := Lib.hid hb
  have s1 := hb.size
  simp only [World.size_alloc] at s1 hlt
  have HK1 := Lib.hid (K.out.bl ((Bl.alloc_ (Bl.refl w) _).trans_ hb))
  clear hr hb
  go_wp2_with fail
  refine (drawDistOf_any A n c _ hn HK1.out).mono ?_
  rintro e w2 ⟨N, A', l, c', L, s, t, rfl, hd, hs, ht, hb2⟩
  have D2 := Lib.hid hd
  have C2 := Lib.hid hb2
  have S2 := Lib.hid hs
  have T2 := Lib.hid ht
  obtain ⟨ha, hlc⟩ := hd.arcs
  have HL := Lib.hid hd.1
  have hl200 := hd.2.1
  have HA := Lib.hid (ha.bl (Bl.alloc_ (Bl.refl w2) (.cells #[.int .i64 N, .slice A' l c'] 26)))
  have s2 := hb2.size
  have R2 := Lib.hid (R1.out.bl hb2)
  clear hd hb2 hs ht ha
  have B2 := Lib.hid (show Bl (w.alloc (.cells #[.int .i64 0, .slice none 0 0] 26)) w2 from B1.out.trans_ C2.out)
  have R3 := Lib.hid (R2.out.bl (Bl.alloc_ (Bl.refl w2) (.cells #[.int .i64 N, .slice A' l c'] 26)))
  have HSH := Lib.hid (show ∀ wx, (w2.alloc (.cells #[.int .i64 N, .slice A' l c'] 26)).grownBy wx (some (w.heap.size + 1)) → (w2.alloc (.cells #[.int .i64 N, .slice A' l c'] 26)).grownBy wx (some (w.heap.size + 1)) ∧ wx.cell? ⟨w2.heap.size, 0, none⟩ = some (.int .i64 N) ∧ wx.cell? ⟨w2.heap.size, 1, none⟩ = some (.slice A' l c') from fun wx h =>
    ⟨h, h.cell (by simp [go_sem]) (by simp; omega), h.cell (by simp [go_sem]) (by simp; omega)⟩)
  have RES := Lib.hid (show Two (w2.alloc (.cells #[.int .i64 N, .slice A' l c'] 26)) w.heap.size (.int .i64 0) (.slice none 0 0) from ((Two.new w _ _).bl B2.out).bl (Bl.alloc_ (Bl.refl _) _))
  have nb : w2.heap.size ≠ w.heap.size := by omega
  have nb' : w.heap.size ≠ w2.heap.size := by omega
  have FIN := Lib.hid (show ∀ (w9 : World) (y : Int), (w2.alloc (.cells #[.int .i64 N, .slice A' l c'] 26)).grownBy w9 (some (w.heap.size + 1)) → In64 y →
      DrawnG3 w (.returned (.tuple #[.agg #[.int .i64 N, .slice A' l c'], .int .i64 s, .int .i64 t, .int .i64 y])) ((w9.setCell ⟨w.heap.size, 0, none⟩ (.int .i64 N)).setCell ⟨w.heap.size, 1, none⟩ (.slice A' l c')) from fun w9 y hG hy => by
    have D3 := (D2.out.bl (Bl.alloc_ (Bl.refl w2) (.cells #[.int .i64 N, .slice A' l c'] 26))).far hG (by omega)
    have B3 : Bl w w9 := ((((Bl.alloc_ (Bl.refl w) _).trans_ B2.out).alloc_ (.cells #[.int .i64 N, .slice A' l c'] 26)).grown_ hG (fun g e => by injection e with e; omega))
    exact ⟨N, A', l, c', L, s, t, y, rfl, ⟨D3.1, D3.2.1, D3.2.2.1, ((D3.2.2.2.set_ (by show w.heap.size < w1.heap.size; omega) _).set_ (by show w.heap.size < w1.heap.size; omega) _).low (by omega)⟩, S2.out, T2.out, hy, (B3.set_ (Nat.le_refl _) _).set_ (Nat.le_refl _) _⟩)
  go_wp2_with fail
  refine (specDistOf_any N s t A' l c' L HL.out hlc _ (by omega) HA.out).mono ?_
  rintro e w3 ⟨rfl, hb3⟩
  have D3 := distOfI_bounds (N := N) (s := s) (t := t) (L := L)
  have R4 := Lib.hid (R3.out.bl hb3)
  have G4 := Lib.hid (bl_grown hb3 (some (w.heap.size + 1)))
  obtain ⟨-, y0, y1⟩ := HSH.out _ G4.out
  generalize distOfI N L s t = d at *
  clear hb3
  by_cases e1 : d < 0
  · have b1 : decide (d < 0) = true := by simpa using e1
    go_wp2_with fail
    refine wp_region_held_drew (S := fun wx => wx.cell? ⟨w2.heap.size, 0, none⟩ = some (.int .i64 N) ∧ wx.cell? ⟨w2.heap.size, 1, none⟩ = some (.slice A' l c')) (by kernel_rfl) ?_ (fun hHeld => ?_)
    · (first | exact (HSH.out _ hGG).2 | (refine ⟨?_, ?_⟩ <;> (simp [go_sem, nb, nb', *]; done)))
    refine wpAnyH_take (i := 0) (v := ?_) rfl (by kernel_rfl) (by kernel_rfl) (by kernel_rfl) (fun _ _ _ h => h) (Or.inl ⟨by kernel_rfl, ?_⟩) (by assumption) ?_
    rotate_left
    · (intro wx hSw; (try dsimp only at hSw); go_simp; try (with_reducible rfl))
    try simp only [Act.put, List.getElem_toArray, List.getElem_cons_succ, List.getElem_cons_zero, List.setIfInBounds_toArray, List.set_cons_zero, List.set_cons_succ]
    refine wpAnyH_take (i := 1) (v := ?_) rfl (by kernel_rfl) (by kernel_rfl) (by kernel_rfl) (fun _ _ _ h => h) (Or.inl ⟨by kernel_rfl, ?_⟩) (by assumption) ?_
    rotate_left
    · (intro wx hSw; (try dsimp only at hSw); go_simp; try (with_reducible rfl))
    try simp only [Act.put, List.getElem_toArray, List.getElem_cons_succ, List.getElem_cons_zero, List.setIfInBounds_toArray, List.set_cons_zero, List.set_cons_succ]
    refine wpAnyH_take (i := 2) (v := ?_) rfl (by kernel_rfl) (by kernel_rfl) (by kernel_rfl) (fun _ _ _ h => h) (Or.inl ⟨by kernel_rfl, ?_⟩) (by assumption) ?_
    rotate_left
    · (intro wx hSw; (try dsimp only at hSw); go_simp; try (with_reducible rfl))
    try simp only [Act.put, List.getElem_toArray, List.getElem_cons_succ, List.getElem_cons_zero, List.setIfInBounds_toArray, List.set_cons_zero, List.set_cons_succ]
    refine wpAnyH_take (i := 3) (v := ?_) rfl (by kernel_rfl) (by kernel_rfl) (by kernel_rfl) (fun _ _ _ h => h) (Or.inl ⟨by kernel_rfl, ?_⟩) (by assumption) ?_
    rotate_left
    · (intro wx hSw; (try dsimp only at hSw); go_simp; try (with_reducible rfl))
    try simp only [Act.put, List.getElem_toArray, List.getElem_cons_succ, List.getElem_cons_zero, List.setIfInBounds_toArray, List.set_cons_zero, List.set_cons_succ]
    refine wpAnyH_ready (rs := [4]) (by kernel_rfl) (by simp) ?_
    refine AllReadyH.cons rfl (fun K hK => ?_) AllReadyH.nil
    go_simp
    (go_at_call 73; refine (off_any 0 20 (w.heap.size + 1) A n c _ hn (by omega) (by omega) (by omega) (by omega) (R4.out.bl (by repeat' (first | exact Bl.refl _ | with_reducible assumption | with_reducible refine Bl.drew_ ?_ | with_reducible refine Bl.drewN_ ?_ _ | with_reducible refine Bl.alloc_ ?_ _ | with_reducible refine Bl.trans_ ?_ (by assumption) | with_reducible refine Bl.trans_ ?_ (And.left (by assumption)))))).mono ?_; rintro e w5 ⟨x, hx, rfl, hr, hg⟩; have hGG := grown_trans G4.out (grown_trans (bl_grown (show Bl w3 _ from (by repeat' (first | exact Bl.refl _ | with_reducible assumption | with_reducible refine Bl.drew_ ?_ | with_reducible refine Bl.drewN_ ?_ _ | with_reducible refine Bl.alloc_ ?_ _ | with_reducible refine Bl.trans_ ?_ (by assumption) | with_reducible refine Bl.trans_ ?_ (And.left (by assumption))))) _) hg); obtain ⟨r0, r1, fr0, fr1⟩ := Two.facts ((RES.out).grown_ hGG (by simp)))
    try (go_wp2_with fail)
    refine hK.out _ _ ?_ (fun hHeld => ?_)
    · (first | exact (HSH.out _ hGG).2 | (refine ⟨?_, ?_⟩ <;> (simp [go_sem, nb, nb', *]; done)))
    clear hK K
    try simp only [Act.put, List.getElem_toArray, List.getElem_cons_succ, List.getElem_cons_zero, List.setIfInBounds_toArray, List.set_cons_zero, List.set_cons_succ]
    refine wpAnyH_ready (rs := [5]) (by kernel_rfl) (by simp) ?_
    refine AllReadyH.cons rfl (fun K hK => ?_) AllReadyH.nil
    go_simp
    refine hK.out _ _ ?_ (fun hHeld => ?_)
    · (first | exact (HSH.out _ hGG).2 | (refine ⟨?_, ?_⟩ <;> (simp [go_sem, nb, nb', *]; done)))
    clear hK K
    try simp only [Act.put, List.getElem_toArray, List.getElem_cons_succ, List.getElem_cons_zero, List.setIfInBounds_toArray, List.set_cons_zero, List.set_cons_succ]
    refine wpAnyH_take (i := 6) (v := ?_) rfl (by kernel_rfl) (by kernel_rfl) (by kernel_rfl) (fun _ _ _ h => h) (Or.inl ⟨by kernel_rfl, ?_⟩) (by assumption) ?_
    rotate_left
    · (intro wx hSw; (try dsimp only at hSw); go_simp; try (with_reducible rfl))
    try simp only [Act.put, List.getElem_toArray, List.getElem_cons_succ, List.getElem_cons_zero, List.setIfInBounds_toArray, List.set_cons_zero, List.set_cons_succ]
    refine wpAnyH_take (i := 7) (v := ?_) rfl (by kernel_rfl) (by kernel_rfl) (by kernel_rfl) (fun _ _ _ h => h) (Or.inl ⟨by kernel_rfl, ?_⟩) (by assumption) ?_
    rotate_left
    · (intro wx hSw; (try dsimp only at hSw); go_simp; try (with_reducible rfl))
    try simp only [Act.put, List.getElem_toArray, List.getElem_cons_succ, List.getElem_cons_zero, List.setIfInBounds_toArray, List.set_cons_zero, List.set_cons_succ]
    refine wpAnyH_take (i := 8) (v := ?_) rfl (by kernel_rfl) (by kernel_rfl) (by kernel_rfl) (fun _ _ _ h => h) (Or.inl ⟨by kernel_rfl, ?_⟩) (by assumption) ?_
    rotate_left
    · (intro wx hSw; (try dsimp only at hSw); go_simp; try (with_reducible rfl))
    try simp only [Act.put, List.getElem_toArray, List.getElem_cons_succ, List.getElem_cons_zero, List.setIfInBounds_toArray, List.set_cons_zero, List.set_cons_succ]
    refine wpAnyH_done (by kernel_rfl) ?_ _
    go_wp2
    refine bodyPost_ret (v := .tuple #[.agg #[.int .i64 N, .slice A' l c'], .int .i64 s, .int .i64 t, .int .i64 x]) (by simp [results, Try.results38, go_sem, r0, r1, fr0, fr1]) rfl ?_
    exact FIN.out _ _ hGG hx
  · have b1 : decide (d < 0) = false := by simpa using e1
    go_wp2_with fail
    refine (once_any 4 (w.heap.size + 1) A n c _ hn (by omega) (by omega) R4.out).mono ?_
    rintro e w4 ⟨b, rfl, hr, hg⟩
    have R5 := Lib.hid hr
    have G5 := Lib.hid (grown_trans G4.out hg)
    clear hr hg y0 y1
    obtain ⟨-, y0, y1⟩ := HSH.out _ G5.out
    cases b with
    | true =>
      go_wp2_with fail
      refine wp_region_held_drew (S := fun wx => wx.cell? ⟨w2.heap.size, 0, none⟩ = some (.int .i64 N) ∧ wx.cell? ⟨w2.heap.size, 1, none⟩ = some (.slice A' l c')) (by kernel_rfl) ?_ (fun hHeld => ?_)
      · (first | exact (HSH.out _ hGG).2 | (refine ⟨?_, ?_⟩ <;> (simp [go_sem, nb, nb', *]; done)))
      refine wpAnyH_take (i := 0) (v := ?_) rfl (by kernel_rfl) (by kernel_rfl) (by kernel_rfl) (fun _ _ _ h => h) (Or.inl ⟨by kernel_rfl, ?_⟩) (by assumption) ?_
      rotate_left
      · (intro wx hSw; (try dsimp only at hSw); go_simp; try (with_reducible rfl))
      try simp only [Act.put, List.getElem_toArray, List.getElem_cons_succ, List.getElem_cons_zero, List.setIfInBounds_toArray, List.set_cons_zero, List.set_cons_succ]
      refine wpAnyH_take (i := 1) (v := ?_) rfl (by kernel_rfl) (by kernel_rfl) (by kernel_rfl) (fun _ _ _ h => h) (Or.inl ⟨by kernel_rfl, ?_⟩) (by assumption) ?_
      rotate_left
      · (intro wx hSw; (try dsimp only at hSw); go_simp; try (with_reducible rfl))
      try simp only [Act.put, List.getElem_toArray, List.getElem_cons_succ, List.getElem_cons_zero, List.setIfInBounds_toArray, List.set_cons_zero, List.set_cons_succ]
      refine wpAnyH_take (i := 2) (v := ?_) rfl (by kernel_rfl) (by kernel_rfl) (by kernel_rfl) (fun _ _ _ h => h) (Or.inl ⟨by kernel_rfl, ?_⟩) (by assumption) ?_
      rotate_left
      · (intro wx hSw; (try dsimp only at hSw); go_simp; try (with_reducible rfl))
      try simp only [Act.put, List.getElem_toArray, List.getElem_cons_succ, List.getElem_cons_zero, List.setIfInBounds_toArray, List.set_cons_zero, List.set_cons_succ]
      refine wpAnyH_take (i := 3) (v := ?_) rfl (by kernel_rfl) (by kernel_rfl) (by kernel_rfl) (fun _ _ _ h => h) (Or.inl ⟨by kernel_rfl, ?_⟩) (by assumption) ?_
      rotate_left
      · (intro wx hSw; (try dsimp only at hSw); go_simp; try (with_reducible rfl))
      try simp only [Act.put, List.getElem_toArray, List.getElem_cons_succ, List.getElem_cons_zero, List.setIfInBounds_toArray, List.set_cons_zero, List.set_cons_succ]
      refine wpAnyH_ready (rs := [4]) (by kernel_rfl) (by simp) ?_
      refine AllReadyH.cons rfl (fun K hK => ?_) AllReadyH.nil
      go_simp
      (go_at_call 73; refine (off_any 0 20 (w.heap.size + 1) A n c _ hn (by omega) (by omega) (by omega) (by omega) (R5.out.bl (by repeat' (first | exact Bl.refl _ | with_reducible assumption | with_reducible refine Bl.drew_ ?_ | with_reducible refine Bl.drewN_ ?_ _ | with_reducible refine Bl.alloc_ ?_ _ | with_reducible refine Bl.trans_ ?_ (by assumption) | with_reducible refine Bl.trans_ ?_ (And.left (by assumption)))))).mono ?_; rintro e w5 ⟨x, hx, rfl, hr, hg⟩; have hGG := grown_trans G5.out (grown_trans (bl_grown (show Bl w4 _ from (by repeat' (first | exact Bl.refl _ | with_reducible assumption | with_reducible refine Bl.drew_ ?_ | with_reducible refine Bl.drewN_ ?_ _ | with_reducible refine Bl.alloc_ ?_ _ | with_reducible refine Bl.trans_ ?_ (by assumption) | with_reducible refine Bl.trans_ ?_ (And.left (by assumption))))) _) hg); obtain ⟨r0, r1, fr0, fr1⟩ := Two.facts ((RES.out).grown_ hGG (by simp)))
      try (go_wp2_with fail)
      refine hK.out _ _ ?_ (fun hHeld => ?_)
      · (first | exact (HSH.out _ hGG).2 | (refine ⟨?_, ?_⟩ <;> (simp [go_sem, nb, nb', *]; done)))
      clear hK K
      try simp only [Act.put, List.getElem_toArray, List.getElem_cons_succ, List.getElem_cons_zero, List.setIfInBounds_toArray, List.set_cons_zero, List.set_cons_succ]
      refine wpAnyH_ready (rs := [5]) (by kernel_rfl) (by simp) ?_
      refine AllReadyH.cons rfl (fun K hK => ?_) AllReadyH.nil
      go_simp
      refine hK.out _ _ ?_ (fun hHeld => ?_)
      · (first | exact (HSH.out _ hGG).2 | (refine ⟨?_, ?_⟩ <;> (simp [go_sem, nb, nb', *]; done)))
      clear hK K
      try simp only [Act.put, List.getElem_toArray, List.getElem_cons_succ, List.getElem_cons_zero, List.setIfInBounds_toArray, List.set_cons_zero, List.set_cons_succ]
      refine wpAnyH_take (i := 6) (v := ?_) rfl (by kernel_rfl) (by kernel_rfl) (by kernel_rfl) (fun _ _ _ h => h) (Or.inl ⟨by kernel_rfl, ?_⟩) (by assumption) ?_
      rotate_left
      · (intro wx hSw; (try dsimp only at hSw); go_simp; try (with_reducible rfl))
      try simp only [Act.put, List.getElem_toArray, List.getElem_cons_succ, List.getElem_cons_zero, List.setIfInBounds_toArray, List.set_cons_zero, List.set_cons_succ]
      refine wpAnyH_take (i := 7) (v := ?_) rfl (by kernel_rfl) (by kernel_rfl) (by kernel_rfl) (fun _ _ _ h => h) (Or.inl ⟨by kernel_rfl, ?_⟩) (by assumption) ?_
      rotate_left
      · (intro wx hSw; (try dsimp only at hSw); go_simp; try (with_reducible rfl))
      try simp only [Act.put, List.getElem_toArray, List.getElem_cons_succ, List.getElem_cons_zero, List.setIfInBounds_toArray, List.set_cons_zero, List.set_cons_succ]
      refine wpAnyH_take (i := 8) (v := ?_) rfl (by kernel_rfl) (by kernel_rfl) (by kernel_rfl) (fun _ _ _ h => h) (Or.inl ⟨by kernel_rfl, ?_⟩) (by assumption) ?_
      rotate_left
      · (intro wx hSw; (try dsimp only at hSw); go_simp; try (with_reducible rfl))
      try simp only [Act.put, List.getElem_toArray, List.getElem_cons_succ, List.getElem_cons_zero, List.setIfInBounds_toArray, List.set_cons_zero, List.set_cons_succ]
      refine wpAnyH_done (by kernel_rfl) ?_ _
      go_wp2
      refine bodyPost_ret (v := .tuple #[.agg #[.int .i64 N, .slice A' l c'], .int .i64 s, .int .i64 t, .int .i64 x]) (by simp [results, Try.results38, go_sem, r0, r1, fr0, fr1]) rfl ?_
      exact FIN.out _ _ hGG hx
    | false =>
      go_wp2_with fail
      refine wp_region_held_drew (S := fun wx => wx.cell? ⟨w2.heap.size, 0, none⟩ = some (.int .i64 N) ∧ wx.cell? ⟨w2.heap.size, 1, none⟩ = some (.slice A' l c')) (by kernel_rfl) ?_ (fun hHeld => ?_)
      · (first | exact (HSH.out _ hGG).2 | (refine ⟨?_, ?_⟩ <;> (simp [go_sem, nb, nb', *]; done)))
      refine wpAnyH_take (i := 0) (v := ?_) rfl (by kernel_rfl) (by kernel_rfl) (by kernel_rfl) (fun _ _ _ h => h) (Or.inl ⟨by kernel_rfl, ?_⟩) (by assumption) ?_
      rotate_left
      · (intro wx hSw; (try dsimp only at hSw); go_simp; try (with_reducible rfl))
      try simp only [Act.put, List.getElem_toArray, List.getElem_cons_succ, List.getElem_cons_zero, List.setIfInBounds_toArray, List.set_cons_zero, List.set_cons_succ]
      refine wpAnyH_take (i := 1) (v := ?_) rfl (by kernel_rfl) (by kernel_rfl) (by kernel_rfl) (fun _ _ _ h => h) (Or.inl ⟨by kernel_rfl, ?_⟩) (by assumption) ?_
      rotate_left
      · (intro wx hSw; (try dsimp only at hSw); go_simp; try (with_reducible rfl))
      try simp only [Act.put, List.getElem_toArray, List.getElem_cons_succ, List.getElem_cons_zero, List.setIfInBounds_toArray, List.set_cons_zero, List.set_cons_succ]
      refine wpAnyH_take (i := 2) (v := ?_) rfl (by kernel_rfl) (by kernel_rfl) (by kernel_rfl) (fun _ _ _ h => h) (Or.inl ⟨by kernel_rfl, ?_⟩) (by assumption) ?_
      rotate_left
      · (intro wx hSw; (try dsimp only at hSw); go_simp; try (with_reducible rfl))
      try simp only [Act.put, List.getElem_toArray, List.getElem_cons_succ, List.getElem_cons_zero, List.setIfInBounds_toArray, List.set_cons_zero, List.set_cons_succ]
      refine wpAnyH_take (i := 3) (v := ?_) rfl (by kernel_rfl) (by kernel_rfl) (by kernel_rfl) (fun _ _ _ h => h) (Or.inl ⟨by kernel_rfl, ?_⟩) (by assumption) ?_
      rotate_left
      · (intro wx hSw; (try dsimp only at hSw); go_simp; try (with_reducible rfl))
      try simp only [Act.put, List.getElem_toArray, List.getElem_cons_succ, List.getElem_cons_zero, List.setIfInBounds_toArray, List.set_cons_zero, List.set_cons_succ]
      refine wpAnyH_take (i := 4) (v := ?_) rfl (by kernel_rfl) (by kernel_rfl) (by kernel_rfl) (fun _ _ _ h => h) (Or.inl ⟨by kernel_rfl, ?_⟩) (by assumption) ?_
      rotate_left
      · (intro wx hSw; (try dsimp only at hSw); go_simp; try (with_reducible rfl))
      try simp only [Act.put, List.getElem_toArray, List.getElem_cons_succ, List.getElem_cons_zero, List.setIfInBounds_toArray, List.set_cons_zero, List.set_cons_succ]
      refine wpAnyH_ready (rs := [5]) (by kernel_rfl) (by simp) ?_
      refine AllReadyH.cons rfl (fun K hK => ?_) AllReadyH.nil
      go_simp
      (go_at_call 74; refine (below_any 6 (w.heap.size + 1) A n c _ hn (by omega) (R5.out.bl (by repeat' (first | exact Bl.refl _ | with_reducible assumption | with_reducible refine Bl.drew_ ?_ | with_reducible refine Bl.drewN_ ?_ _ | with_reducible refine Bl.alloc_ ?_ _ | with_reducible refine Bl.trans_ ?_ (by assumption) | with_reducible refine Bl.trans_ ?_ (And.left (by assumption)))))).mono ?_; rintro e w5 ⟨x, ⟨hx0, hx1⟩, rfl, hr, hg⟩; have a1 : IntKind.i64.wrap (d + x) = d + x := IntWalk.i64_in _ (by omega); have hxx : In64 (d + x) := (by unfold In64; omega); have hGG := grown_trans G5.out (grown_trans (bl_grown (show Bl w4 _ from (by repeat' (first | exact Bl.refl _ | with_reducible assumption | with_reducible refine Bl.drew_ ?_ | with_reducible refine Bl.drewN_ ?_ _ | with_reducible refine Bl.alloc_ ?_ _ | with_reducible refine Bl.trans_ ?_ (by assumption) | with_reducible refine Bl.trans_ ?_ (And.left (by assumption))))) _) hg); obtain ⟨r0, r1, fr0, fr1⟩ := Two.facts ((RES.out).grown_ hGG (by simp)))
      try (go_wp2_with fail)
      refine hK.out _ _ ?_ (fun hHeld => ?_)
      · (first | exact (HSH.out _ hGG).2 | (refine ⟨?_, ?_⟩ <;> (simp [go_sem, nb, nb', *]; done)))
      clear hK K
      try simp only [Act.put, List.getElem_toArray, List.getElem_cons_succ, List.getElem_cons_zero, List.setIfInBounds_toArray, List.set_cons_zero, List.set_cons_succ]
      refine wpAnyH_take (i := 6) (v := ?_) rfl (by kernel_rfl) (by kernel_rfl) (by kernel_rfl) (fun _ _ _ h => h) (Or.inl ⟨by kernel_rfl, ?_⟩) (by assumption) ?_
      rotate_left
      · (intro wx hSw; (try dsimp only at hSw); go_simp; try (with_reducible rfl))
      try simp only [Act.put, List.getElem_toArray, List.getElem_cons_succ, List.getElem_cons_zero, List.setIfInBounds_toArray, List.set_cons_zero, List.set_cons_succ]
      refine wpAnyH_ready (rs := [7]) (by kernel_rfl) (by simp) ?_
      refine AllReadyH.cons rfl (fun K hK => ?_) AllReadyH.nil
      go_simp
      refine hK.out _ _ ?_ (fun hHeld => ?_)
      · (first | exact (HSH.out _ hGG).2 | (refine ⟨?_, ?_⟩ <;> (simp [go_sem, nb, nb', *]; done)))
      clear hK K
      try simp only [Act.put, List.getElem_toArray, List.getElem_cons_succ, List.getElem_cons_zero, List.setIfInBounds_toArray, List.set_cons_zero, List.set_cons_succ]
      refine wpAnyH_take (i := 8) (v := ?_) rfl (by kernel_rfl) (by kernel_rfl) (by kernel_rfl) (fun _ _ _ h => h) (Or.inl ⟨by kernel_rfl, ?_⟩) (by assumption) ?_
      rotate_left
      · (intro wx hSw; (try dsimp only at hSw); go_simp; try (with_reducible rfl))
      try simp only [Act.put, List.getElem_toArray, List.getElem_cons_succ, List.getElem_cons_zero, List.setIfInBounds_toArray, List.set_cons_zero, List.set_cons_succ]
      refine wpAnyH_take (i := 9) (v := ?_) rfl (by kernel_rfl) (by kernel_rfl) (by kernel_rfl) (fun _ _ _ h => h) (Or.inl ⟨by kernel_rfl, ?_⟩) (by assumption) ?_
      rotate_left
      · (intro wx hSw; (try dsimp only at hSw); go_simp; try (with_reducible rfl))
      try simp only [Act.put, List.getElem_toArray, List.getElem_cons_succ, List.getElem_cons_zero, List.setIfInBounds_toArray, List.set_cons_zero, List.set_cons_succ]
      refine wpAnyH_take (i := 10) (v := ?_) rfl (by kernel_rfl) (by kernel_rfl) (by kernel_rfl) (fun _ _ _ h => h) (Or.inl ⟨by kernel_rfl, ?_⟩) (by assumption) ?_
      rotate_left
      · (intro wx hSw; (try dsimp only at hSw); go_simp; try (with_reducible rfl))
      try simp only [Act.put, List.getElem_toArray, List.getElem_cons_succ, List.getElem_cons_zero, List.setIfInBounds_toArray, List.set_cons_zero, List.set_cons_succ]
      refine wpAnyH_done (by kernel_rfl) ?_ _
      go_wp2
      refine bodyPost_ret (v := .tuple #[.agg #[.int .i64 N, .slice A' l c'], .int .i64 s, .int .i64 t, .int .i64 (d + x)]) (by simp [results, Try.results38, go_sem, r0, r1, fr0, fr1]) rfl ?_
      exact FIN.out _ _ hGG hxx

end Go.Proofs.Ytpbgnidjgmmebaa
