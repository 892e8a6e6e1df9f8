/-
  What is proved here: heaps, ids and keys that are drawn by a code. No conditions beyond those that each theorem states.
-/
import Derived.Test.YtnpngkppbmndiabR4
import Derived.Test.YtnpngkppbmndiabHM3
set_option linter.unusedSimpArgs false
set_option linter.unusedVariables false
namespace Go.Proofs.Ytnpngkppbmndiab
open Go.RowKit

/-- Items, an id and a key that are drawn by a code. -/
def DrawnK (w : World) (e : Ending) (w' : World) : Prop :=
  ∃ v L id key, e = .returned (.tuple #[v, .int .i64 id, .int .i64 key]) ∧ OwnI w' w.heap.size v L ∧ WfL L ∧ L.length ≤ 20 ∧ (Lit.int .i64 key).wf = true ∧ Bl w w'
theorem wf_in64 {b : Int} (h : In64 b) : (Lit.int .i64 b).wf = true := by unfold In64 at h; exact WalkArith.wf_i64 h

set_option maxRecDepth 100000 in
set_option maxHeartbeats 1000000 in
theorem drawHeapLess_any (A : Option Addr) (n c : Nat) (w : World) (hn : n ≤ 1099511627776) (H : BytesAt w A n) (hA : 0 < n → ∀ g, blockOf A = some g → g < w.heap.size) :
    Calls Try.prog 35 #[.slice A n c] w (DrawnK w) := by
  have K := Lib.hid H
  have HA := Lib.hid hA
  clear H hA
  go_enter Try.func35, Try.ntmps35
  go_wp2_with fail
  refine (open_any A n c _ K.out).mono ?_
  rintro e w1 ⟨rfl, hr, hb, hlt⟩
  have R1 := Lib.hid hr
  have B1 := Lib.hid hb
  clear hr hb
  go_wp2_with fail
  refine (heap_any _ A n c _ hn R1.out (fun h0 g h => by have := HA.out h0 g h; omega)).mono ?_
  rintro e w2 ⟨v, L, rfl, hO, hwf, hl, hr, ht⟩
  obtain ⟨A1, c1, rfl, -, -, -, hs⟩ := Owns.shape hO
  have O2 := Lib.hid (Owns.low hO B1.out.size)
  have WF := Lib.hid hwf
  have R2 := Lib.hid hr
  have B2 := Lib.hid (Turn.to_bl B1.out ht (fun i h => by omega))
  have IT := Lib.hid hO.at_
  have HS := Lib.hid hs
  have VL := Lib.hid (Owns.lt hO)
  have s2 := ht.size
  clear hO hwf hr ht hs
  obtain ⟨l, hl'⟩ : ∃ l, l = L.length := ⟨_, rfl⟩
  rw [← hl'] at hl ⊢
  have HL := Lib.hid hl'
  have OL := Lib.hid (show OwnI w2 w.heap.size (.slice A1 l c1) L from by rw [hl']; exact O2.out)
  clear hl' O2
  have tail : ∀ wq, w2.grownBy wq (some w.heap.size) → OwnI wq w.heap.size (.slice A1 l c1) L ∧ Bl w wq := fun wq h => ⟨Owns.grown_ OL.out h (fun g hg => by have := (VL.out g (by rw [ownBlock_slice] at hg ⊢; exact hg)).1; simp; omega), B2.out.grown_ h (fun g hg => by injection hg with hg; omega)⟩
  have TL := Lib.hid tail
  clear tail
  by_cases h0 : 0 < l
  · have h0' : (0 : Int) < (l : Int) := by omega
    go_wp2_with fail
    refine (once_any 4 _ A n c _ hn (by omega) (by omega) R2.out).mono ?_
    rintro e w3 ⟨t, rfl, hr, hg⟩
    have R3 := Lib.hid hr
    have G3 := Lib.hid hg
    clear hr hg
    cases t with
    | true =>
      go_wp2_with fail
      refine (off_any 1 9 w.heap.size A n c _ hn (by omega) (by omega) (by omega) (by omega) R3.out).mono ?_
      rintro e w4 ⟨x, hx, rfl, hr, hg⟩
      have R4 := Lib.hid hr
      have G4 := Lib.hid (grown_trans G3.out hg)
      clear hr hg hx
      go_wp2_with fail
      refine (off_any 0 9 w.heap.size A n c _ hn (by omega) (by omega) (by omega) (by omega) R4.out).mono ?_
      rintro e w5 ⟨y, hy, rfl, hr, hg⟩
      have Y := Lib.hid hy
      have G5 := Lib.hid (grown_trans G4.out hg)
      clear hr hg hy
      go_wp2
      go_ret3
      exact ⟨_, L, x, y, rfl, (TL.out _ G5.out).1, WF.out, by have := HL.out; omega, wf_in64 Y.out, (TL.out _ G5.out).2⟩
    | false =>
      go_wp2_with fail
      refine (below_any l w.heap.size A n c _ hn (by omega) R3.out).mono ?_
      rintro e w4 ⟨i, ⟨i0, i1⟩, rfl, hr, hg⟩
      have R4 := Lib.hid hr
      have G4 := Lib.hid (grown_trans G3.out hg)
      clear hr hg
      obtain ⟨k, rfl⟩ := Int.eq_ofNat_of_zero_le i0
      have hkl : k < L.length := by have := HL.out; omega
      have j0 : (k : Int) < (l : Int) := by have := HL.out; omega
      obtain ⟨g1, o1, rfl, hg1, hc1⟩ := (OwnI.at_ (TL.out _ G4.out).1).cell (by omega)
      obtain ⟨p1, p2⟩ := hc1 k hkl
      clear hc1
      generalize L[k].1 = x at p1
      generalize L[k].2 = y at p2
      have hwl := R4.out.lt
      have SH := Lib.hid (show ∀ wx, RdAny wx w.heap.size A n c ∧ (w4.alloc (.cells #[.int .i64 x, .int .i64 y] 33)).grownBy wx (some w.heap.size) → wx.cell? ⟨w4.heap.size, 0, none⟩ = some (.int .i64 x) ∧ wx.cell? ⟨w4.heap.size, 1, none⟩ = some (.int .i64 y) ∧ RdAny wx w.heap.size A n c ∧ (w4.alloc (.cells #[.int .i64 x, .int .i64 y] 33)).grownBy wx (some w.heap.size) from fun wx h =>
        ⟨h.2.cell (by simp [go_sem]) (by simp; omega), h.2.cell (by simp [go_sem]) (by simp; omega), h.1, h.2⟩)
      have RR := Lib.hid (R4.out.bl ((Bl.refl w4).alloc_ (.cells #[.int .i64 x, .int .i64 y] 33)))
      clear i0 i1
      go_wp2_with fail
      refine wp_region_held_drew (S := fun wx => wx.cell? ⟨w4.heap.size, 0, none⟩ = some (.int .i64 x) ∧ wx.cell? ⟨w4.heap.size, 1, none⟩ = some (.int .i64 y) ∧ RdAny wx w.heap.size A n c ∧ (w4.alloc (.cells #[.int .i64 x, .int .i64 y] 33)).grownBy wx (some w.heap.size)) (by kernel_rfl) ?_ (fun hHeld => ?_)
      · (first | exact SH.out _ ⟨hr, hG⟩ | exact SH.out _ ⟨RdAny.bl RR.out ((Bl.refl _).drew_), bl_grown ((Bl.refl _).drew_) _⟩)
      refine wpAnyH_take (i := 0) (v := ?_) rfl (by kernel_rfl) (by kernel_rfl) (by kernel_rfl) (fun _ _ _ h => h) (Or.inl ⟨by kernel_rfl, ?_⟩) (by assumption) ?_
      rotate_left
      · (intro wx hSw; (try dsimp only at hSw); go_simp; try (with_reducible rfl))
      try simp only [Act.put, List.getElem_toArray, List.getElem_cons_succ, List.getElem_cons_zero, List.setIfInBounds_toArray, List.set_cons_zero, List.set_cons_succ]
      refine wpAnyH_take (i := 1) (v := ?_) rfl (by kernel_rfl) (by kernel_rfl) (by kernel_rfl) (fun _ _ _ h => h) (Or.inl ⟨by kernel_rfl, ?_⟩) (by assumption) ?_
      rotate_left
      · (intro wx hSw; (try dsimp only at hSw); go_simp; try (with_reducible rfl))
      try simp only [Act.put, List.getElem_toArray, List.getElem_cons_succ, List.getElem_cons_zero, List.setIfInBounds_toArray, List.set_cons_zero, List.set_cons_succ]
      refine wpAnyH_take (i := 2) (v := ?_) rfl (by kernel_rfl) (by kernel_rfl) (by kernel_rfl) (fun _ _ _ h => h) (Or.inl ⟨by kernel_rfl, ?_⟩) (by assumption) ?_
      rotate_left
      · (intro wx hSw; (try dsimp only at hSw); go_simp; try (with_reducible rfl))
      try simp only [Act.put, List.getElem_toArray, List.getElem_cons_succ, List.getElem_cons_zero, List.setIfInBounds_toArray, List.set_cons_zero, List.set_cons_succ]
      refine wpAnyH_take (i := 3) (v := ?_) rfl (by kernel_rfl) (by kernel_rfl) (by kernel_rfl) (fun _ _ _ h => h) (Or.inl ⟨by kernel_rfl, ?_⟩) (by assumption) ?_
      rotate_left
      · (intro wx hSw; (try dsimp only at hSw); go_simp; try (with_reducible rfl))
      try simp only [Act.put, List.getElem_toArray, List.getElem_cons_succ, List.getElem_cons_zero, List.setIfInBounds_toArray, List.set_cons_zero, List.set_cons_succ]
      refine wpAnyH_take (i := 4) (v := ?_) rfl (by kernel_rfl) (by kernel_rfl) (by kernel_rfl) (fun _ _ _ h => h) (Or.inl ⟨by kernel_rfl, ?_⟩) (by assumption) ?_
      rotate_left
      · (intro wx hSw; (try dsimp only at hSw); go_simp; try (with_reducible rfl))
      try simp only [Act.put, List.getElem_toArray, List.getElem_cons_succ, List.getElem_cons_zero, List.setIfInBounds_toArray, List.set_cons_zero, List.set_cons_succ]
      refine wpAnyH_take (i := 5) (v := ?_) rfl (by kernel_rfl) (by kernel_rfl) (by kernel_rfl) (fun _ _ _ h => h) (Or.inl ⟨by kernel_rfl, ?_⟩) (by assumption) ?_
      rotate_left
      · (intro wx hSw; (try dsimp only at hSw); go_simp; try (with_reducible rfl))
      try simp only [Act.put, List.getElem_toArray, List.getElem_cons_succ, List.getElem_cons_zero, List.setIfInBounds_toArray, List.set_cons_zero, List.set_cons_succ]
      refine wpAnyH_ready (rs := [6]) (by kernel_rfl) (by simp) ?_
      refine AllReadyH.cons rfl (fun K hK => ?_) AllReadyH.nil
      go_simp
      (go_at_call 52; refine (below_any 6 w.heap.size A n c _ hn (by omega) hHeld.2.2.1).mono ?_; rintro e w5 ⟨d, ⟨d0, d1⟩, rfl, hr, hg⟩; have hG := grown_trans hHeld.2.2.2 hg)
      try (go_wp2_with fail)
      refine hK.out _ _ ?_ (fun hHeld => ?_)
      · (first | exact SH.out _ ⟨hr, hG⟩ | exact SH.out _ ⟨RdAny.bl RR.out ((Bl.refl _).drew_), bl_grown ((Bl.refl _).drew_) _⟩)
      clear hK K
      try simp only [Act.put, List.getElem_toArray, List.getElem_cons_succ, List.getElem_cons_zero, List.setIfInBounds_toArray, List.set_cons_zero, List.set_cons_succ]
      refine wpAnyH_take (i := 7) (v := ?_) rfl (by kernel_rfl) (by kernel_rfl) (by kernel_rfl) (fun _ _ _ h => h) (Or.inl ⟨by kernel_rfl, ?_⟩) (by assumption) ?_
      rotate_left
      · (intro wx hSw; (try dsimp only at hSw); go_simp; try (with_reducible rfl))
      try simp only [Act.put, List.getElem_toArray, List.getElem_cons_succ, List.getElem_cons_zero, List.setIfInBounds_toArray, List.set_cons_zero, List.set_cons_succ]
      refine wpAnyH_take (i := 8) (v := ?_) rfl (by kernel_rfl) (by kernel_rfl) (by kernel_rfl) (fun _ _ _ h => h) (Or.inl ⟨by kernel_rfl, ?_⟩) (by assumption) ?_
      rotate_left
      · (intro wx hSw; (try dsimp only at hSw); go_simp; try (with_reducible rfl))
      try simp only [Act.put, List.getElem_toArray, List.getElem_cons_succ, List.getElem_cons_zero, List.setIfInBounds_toArray, List.set_cons_zero, List.set_cons_succ]
      refine wpAnyH_take (i := 9) (v := ?_) rfl (by kernel_rfl) (by kernel_rfl) (by kernel_rfl) (fun _ _ _ h => h) (Or.inl ⟨by kernel_rfl, ?_⟩) (by assumption) ?_
      rotate_left
      · (intro wx hSw; (try dsimp only at hSw); go_simp; try (with_reducible rfl))
      try simp only [Act.put, List.getElem_toArray, List.getElem_cons_succ, List.getElem_cons_zero, List.setIfInBounds_toArray, List.set_cons_zero, List.set_cons_succ]
      refine wpAnyH_take (i := 10) (v := ?_) rfl (by kernel_rfl) (by kernel_rfl) (by kernel_rfl) (fun _ _ _ h => h) (Or.inl ⟨by kernel_rfl, ?_⟩) (by assumption) ?_
      rotate_left
      · (intro wx hSw; (try dsimp only at hSw); go_simp; try (with_reducible rfl))
      try simp only [Act.put, List.getElem_toArray, List.getElem_cons_succ, List.getElem_cons_zero, List.setIfInBounds_toArray, List.set_cons_zero, List.set_cons_succ]
      refine wpAnyH_done (by kernel_rfl) ?_ _
      have G5 := Lib.hid (grown_trans G4.out (grown_trans (bl_grown ((Bl.refl w4).alloc_ (.cells #[.int .i64 x, .int .i64 y] 33)) _) hG))
      go_wp2
      go_ret3
      exact ⟨_, L, y, _, rfl, (TL.out _ G5.out).1, WF.out, by have := HL.out; omega, wf_in64 (by first | exact wrap64_bounds _ | (rw [IntKind.wrap_i64]; exact wrap64_bounds _) | (rw [IntKind.wrap_i64]; unfold In64; omega) | (simp only [IntKind.wrap_i64]; unfold In64; omega)), (TL.out _ G5.out).2⟩
  · obtain rfl : l = 0 := by omega
    go_wp2_with fail
    refine (off_any 1 9 w.heap.size A n c _ hn (by omega) (by omega) (by omega) (by omega) R2.out).mono ?_
    rintro e w4 ⟨x, hx, rfl, hr, hg⟩
    have R4 := Lib.hid hr
    have G4 := Lib.hid hg
    clear hr hg hx
    go_wp2_with fail
    refine (off_any 0 9 w.heap.size A n c _ hn (by omega) (by omega) (by omega) (by omega) R4.out).mono ?_
    rintro e w5 ⟨y, hy, rfl, hr, hg⟩
    have Y := Lib.hid hy
    have G5 := Lib.hid (grown_trans G4.out hg)
    clear hr hg hy
    go_wp2
    go_ret3
    exact ⟨_, L, x, y, rfl, (TL.out _ G5.out).1, WF.out, by have := HL.out; omega, wf_in64 Y.out, (TL.out _ G5.out).2⟩

end Go.Proofs.Ytnpngkppbmndiab
