/-
  What is proved here: the program's copy of a disk. No conditions beyond those that each theorem states.
-/
import Derived.Test.YtipmjgciaalmbaaDKD1
set_option linter.unusedSimpArgs false
set_option linter.unusedVariables false
namespace Go.Proofs.Ytipmjgciaalmbaa
open Go.RowKit

set_option maxRecDepth 100000 in
set_option maxHeartbeats 16000000 in
theorem sameDisk_any {A1 A2 A3 : Option Addr} {n1 n2 n3 c1 c2 c3 : Nat} {L1 L2 : List Fl} {O : List Dp} (hb : DkB n1 n2 n3 L1 L2 O) (w : World) (H : DiskAt w w.heap.size A1 A2 A3 L1 L2 O) :
    Calls Try.prog 75 #[.agg #[.slice A1 n1 c1, .slice A2 n2 c2, .slice A3 n3 c3]] w (DiskNew L1 L2 O w) := by
  have KH := Lib.hid H
  have KB := Lib.hid hb
  clear H hb
  obtain ⟨w0, hw0⟩ : ∃ x, x = (w.alloc (.cells #[.slice A1 n1 c1, .slice A2 n2 c2, .slice A3 n3 c3] 31)).alloc (.cells #[.slice none 0 0, .slice none 0 0, .slice none 0 0] 31) := ⟨_, rfl⟩
  have B0 := Lib.hid (show Bl w w0 from by rw [hw0]; exact ((Bl.refl w).alloc_ _).alloc_ _)
  have s0 : w0.heap.size = w.heap.size + 1 + 1 := by rw [hw0]; simp
  have HSH := Lib.hid (show ∀ wx, Bl w0 wx → wx.cell? ⟨w.heap.size, 0, none⟩ = some (.slice A1 n1 c1) ∧ wx.cell? ⟨w.heap.size, 1, none⟩ = some (.slice A2 n2 c2) ∧ wx.cell? ⟨w.heap.size, 2, none⟩ = some (.slice A3 n3 c3) from fun wx hb => by
    rw [hw0] at hb
    obtain ⟨a, b, c⟩ := box3 (Bl.trans_ ((Bl.refl (w.alloc (.cells #[.slice A1 n1 c1, .slice A2 n2 c2, .slice A3 n3 c3] 31))).alloc_ _) hb)
    exact ⟨a, b, c⟩)
  have HRS := Lib.hid (show ∀ wx, Bl w0 wx → wx.cell? ⟨w.heap.size + 1, 0, none⟩ = some (.slice none 0 0) ∧ wx.cell? ⟨w.heap.size + 1, 1, none⟩ = some (.slice none 0 0) ∧ wx.cell? ⟨w.heap.size + 1, 2, none⟩ = some (.slice none 0 0) ∧ ∀ o, wx.frozen? ⟨w.heap.size + 1, o, none⟩ = false from fun wx hb => by
    rw [hw0] at hb
    obtain ⟨a, b, c⟩ := box3 hb
    simp only [World.size_alloc] at a b c
    exact ⟨a, b, c, fun o => by rw [(bcell hb).2 _ _ (by simp)]; simp [go_sem]⟩)
  have F0 := Lib.hid (KH.out.bl B0.out)
  have I := Lib.hid (In3.start (Bl.drew_ (Bl.refl w0)))
  go_enter Try.func75, Try.ntmps75
  go_wp2_with fail
  rw [← hw0]
  clear hw0
  refine wp_region_held_drew (S := fun wx => wx.cell? ⟨w.heap.size, 0, none⟩ = some (.slice A1 n1 c1) ∧ wx.cell? ⟨w.heap.size, 1, none⟩ = some (.slice A2 n2 c2) ∧ wx.cell? ⟨w.heap.size, 2, none⟩ = some (.slice A3 n3 c3)) (by kernel_rfl) (HSH.out _ I.out.bl) (fun hHeld => ?_)
  refine wpAnyH_take (i := 0) (v := ?_) rfl (by kernel_rfl) (by kernel_rfl) (by kernel_rfl) (fun _ _ _ h => h) (Or.inl ⟨by kernel_rfl, ?_⟩) (by assumption) ?_
  rotate_left
  · (intro wx hSw; (try dsimp only at hSw); go_simp; try (with_reducible rfl))
  try simp only [Act.put, List.getElem_toArray, List.getElem_cons_succ, List.getElem_cons_zero, List.setIfInBounds_toArray, List.set_cons_zero, List.set_cons_succ]
  refine wpAnyH_take (i := 1) (v := ?_) rfl (by kernel_rfl) (by kernel_rfl) (by kernel_rfl) (fun _ _ _ h => h) (Or.inl ⟨by kernel_rfl, ?_⟩) (by assumption) ?_
  rotate_left
  · (intro wx hSw; (try dsimp only at hSw); go_simp; try (with_reducible rfl))
  try simp only [Act.put, List.getElem_toArray, List.getElem_cons_succ, List.getElem_cons_zero, List.setIfInBounds_toArray, List.set_cons_zero, List.set_cons_succ]
  refine wpAnyH_take (i := 3) (v := ?_) rfl (by kernel_rfl) (by kernel_rfl) (by kernel_rfl) (fun _ _ _ h => h) (Or.inl ⟨by kernel_rfl, ?_⟩) (by assumption) ?_
  rotate_left
  · (intro wx hSw; (try dsimp only at hSw); go_simp; try (with_reducible rfl))
  try simp only [Act.put, List.getElem_toArray, List.getElem_cons_succ, List.getElem_cons_zero, List.setIfInBounds_toArray, List.set_cons_zero, List.set_cons_succ]
  refine wpAnyH_take (i := 4) (v := ?_) rfl (by kernel_rfl) (by kernel_rfl) (by kernel_rfl) (fun _ _ _ h => h) (Or.inl ⟨by kernel_rfl, ?_⟩) (by assumption) ?_
  rotate_left
  · (intro wx hSw; (try dsimp only at hSw); go_simp; try (with_reducible rfl))
  try simp only [Act.put, List.getElem_toArray, List.getElem_cons_succ, List.getElem_cons_zero, List.setIfInBounds_toArray, List.set_cons_zero, List.set_cons_succ]
  refine wpAnyH_take (i := 6) (v := ?_) rfl (by kernel_rfl) (by kernel_rfl) (by kernel_rfl) (fun _ _ _ h => h) (Or.inl ⟨by kernel_rfl, ?_⟩) (by assumption) ?_
  rotate_left
  · (intro wx hSw; (try dsimp only at hSw); go_simp; try (with_reducible rfl))
  try simp only [Act.put, List.getElem_toArray, List.getElem_cons_succ, List.getElem_cons_zero, List.setIfInBounds_toArray, List.set_cons_zero, List.set_cons_succ]
  refine wpAnyH_take (i := 7) (v := ?_) rfl (by kernel_rfl) (by kernel_rfl) (by kernel_rfl) (fun _ _ _ h => h) (Or.inl ⟨by kernel_rfl, ?_⟩) (by assumption) ?_
  rotate_left
  · (intro wx hSw; (try dsimp only at hSw); go_simp; try (with_reducible rfl))
  try simp only [Act.put, List.getElem_toArray, List.getElem_cons_succ, List.getElem_cons_zero, List.setIfInBounds_toArray, List.set_cons_zero, List.set_cons_succ]
  refine wpAnyH_ready (rs := [2]) (by kernel_rfl) (by simp) ?_
  refine (AllReadyH.cons rfl (fun K hK => ?_) AllReadyH.nil)
  go_simp
  (go_at_call 101; refine (cloneF_any A1 n1 c1 L1 KB.out.l1 _ KB.out.m1 (F0.out.f1.bl I.out.bl)).mono ?_; rintro e wx ⟨v, rfl, hv, hbx⟩)
  obtain ⟨PA, eA, rfl, -⟩ := Owns.shape (show Owns _ _ _ _ _ _ _ from hv)
  have J := Lib.hid (In3.putA I.out hv hbx)
  have hS := Lib.hid (HSH.out _ J.out.bl)
  clear I hv hbx
  have I := J
  clear J
  try (go_wp2_with fail)
  refine hK.out _ _ hS.out (fun hHeld => ?_)
  clear hK K hS
  try simp only [Act.put, List.getElem_toArray, List.getElem_cons_succ, List.getElem_cons_zero, List.setIfInBounds_toArray, List.set_cons_zero, List.set_cons_succ]
  refine wpAnyH_ready (rs := [5]) (by kernel_rfl) (by simp) ?_
  refine (AllReadyH.cons rfl (fun K hK => ?_) AllReadyH.nil)
  go_simp
  (go_at_call 101; refine (cloneF_any A2 n2 c2 L2 KB.out.l2 _ KB.out.m2 (F0.out.f2.bl I.out.bl)).mono ?_; rintro e wx ⟨v, rfl, hv, hbx⟩)
  obtain ⟨PB, eB, rfl, -⟩ := Owns.shape (show Owns _ _ _ _ _ _ _ from hv)
  have J := Lib.hid (In3.putB I.out hv hbx)
  have hS := Lib.hid (HSH.out _ J.out.bl)
  clear I hv hbx
  have I := J
  clear J
  try (go_wp2_with fail)
  refine hK.out _ _ hS.out (fun hHeld => ?_)
  clear hK K hS
  try simp only [Act.put, List.getElem_toArray, List.getElem_cons_succ, List.getElem_cons_zero, List.setIfInBounds_toArray, List.set_cons_zero, List.set_cons_succ]
  refine wpAnyH_ready (rs := [8]) (by kernel_rfl) (by simp) ?_
  refine (AllReadyH.cons rfl (fun K hK => ?_) AllReadyH.nil)
  go_simp
  (go_at_call 106; refine (cloneO_any A3 n3 c3 O KB.out.l3 _ KB.out.m3 (F0.out.f3.bl I.out.bl)).mono ?_; rintro e wx ⟨v, rfl, hv, hbx⟩)
  obtain ⟨PC, eC, rfl, -⟩ := Owns.shape (show Owns _ _ _ _ _ _ _ from hv)
  have J := Lib.hid (In3.putC I.out hv hbx)
  have hS := Lib.hid (HSH.out _ J.out.bl)
  clear I hv hbx
  have I := J
  clear J
  try (go_wp2_with fail)
  refine hK.out _ _ hS.out (fun hHeld => ?_)
  clear hK K hS
  try simp only [Act.put, List.getElem_toArray, List.getElem_cons_succ, List.getElem_cons_zero, List.setIfInBounds_toArray, List.set_cons_zero, List.set_cons_succ]
  refine wpAnyH_take (i := 9) (v := ?_) rfl (by kernel_rfl) (by kernel_rfl) (by kernel_rfl) (fun _ _ _ h => h) (Or.inl ⟨by kernel_rfl, ?_⟩) (by assumption) ?_
  rotate_left
  · (intro wx hSw; (try dsimp only at hSw); go_simp; try (with_reducible rfl))
  try simp only [Act.put, List.getElem_toArray, List.getElem_cons_succ, List.getElem_cons_zero, List.setIfInBounds_toArray, List.set_cons_zero, List.set_cons_succ]
  refine wpAnyH_ready (rs := [10]) (by kernel_rfl) (by simp) ?_
  refine (AllReadyH.cons rfl (fun K hK => ?_) AllReadyH.nil)
  obtain ⟨z0, z1, z2, f0⟩ := HRS.out _ I.out.bl
  go_simp
  refine hK.out _ _ ?_ (fun hHeld => ?_)
  · simp only [World.cell?_setCell_other _ _ _ _ (show (⟨w.heap.size + 1, 0, none⟩ : Addr) ≠ ⟨w.heap.size, _, none⟩ from by simp), World.cell?_setCell_other _ _ _ _ (show (⟨w.heap.size + 1, 1, none⟩ : Addr) ≠ ⟨w.heap.size, _, none⟩ from by simp), World.cell?_setCell_other _ _ _ _ (show (⟨w.heap.size + 1, 2, none⟩ : Addr) ≠ ⟨w.heap.size, _, none⟩ from by simp)]; exact HSH.out _ I.out.bl
  clear hK K
  try simp only [Act.put, List.getElem_toArray, List.getElem_cons_succ, List.getElem_cons_zero, List.setIfInBounds_toArray, List.set_cons_zero, List.set_cons_succ]
  refine wpAnyH_done (by kernel_rfl) ?_ _
  go_wp2
  refine bodyPost_ret (v := .agg #[.slice PA L1.length eA, .slice PB L2.length eB, .slice PC O.length eC]) (by simp [results, Try.results75, go_sem, z0, z1, z2]) rfl ⟨.slice PA L1.length eA, .slice PB L2.length eB, .slice PC O.length eC, rfl, I.out.fin B0.out (b := w.heap.size + 1) (by omega) (by omega) _ _ _⟩

end Go.Proofs.Ytipmjgciaalmbaa
