/-
  What is proved here: copies of disks, however much their ops hold. No conditions beyond those that each theorem states.
-/
import Derived.Test.YtgfmgmcpfefmkaaV7G13
import Derived.Test.YtgfmgmcpfefmkaaV7DKCP
set_option linter.unusedSimpArgs false
set_option linter.unusedVariables false
namespace Go.Proofs.Ytgfmgmcpfefmkaa
open Go.RowKit

/-- The lists of a disk are as long as is told, and no longer than is asked. -/
structure DkL (n1 n2 n3 : Nat) (L1 L2 : List Fl) (O : List Dp) : Prop where
  l1 : n1 = L1.length
  l2 : n2 = L2.length
  l3 : n3 = O.length
  m1 : n1 ≤ 1048576
  m2 : n2 ≤ 1048576
  m3 : n3 ≤ 1048576
theorem DkB.toL {n1 n2 n3 : Nat} {L1 L2 : List Fl} {O : List Dp} (h : DkB n1 n2 n3 L1 L2 O) : DkL n1 n2 n3 L1 L2 O := ⟨h.l1, h.l2, h.l3, h.m1, h.m2, h.m3⟩
theorem DkL.of_disk {n1 n2 n3 : Nat} {L1 L2 : List Fl} {O : List Dp} (h : diskB (L1, L2, O) = true) (h1 : n1 = L1.length) (h2 : n2 = L2.length) (h3 : n3 = O.length) : DkL n1 n2 n3 L1 L2 O := by
  have a := (files_parts (disk_live h)).1
  obtain ⟨b, c, -⟩ := disk_parts h
  have b := (files_parts b).1
  simp only at a
  exact ⟨h1, h2, h3, by omega, by omega, by omega⟩

set_option maxRecDepth 100000 in
set_option maxHeartbeats 16000000 in
theorem l15Copy_anyL {A1 A2 A3 : Option Addr} {n1 n2 n3 c1 c2 c3 : Nat} {L1 L2 : List Fl} {O : List Dp} (hb : DkL n1 n2 n3 L1 L2 O) (w : World) (H : DiskAt w w.heap.size A1 A2 A3 L1 L2 O) :
    Calls Try.prog 52 #[.agg #[.slice A1 n1 c1, .slice A2 n2 c2, .slice A3 n3 c3]] w (DiskNew L1 L2 O w) := by
  have KH := Lib.hid H
  have KB := Lib.hid hb
  clear H hb
  obtain ⟨w0, hw0⟩ : ∃ x, x = (w.alloc (.cells #[.slice A1 n1 c1, .slice A2 n2 c2, .slice A3 n3 c3] 31)).alloc (.cells #[.slice none 0 0, .slice none 0 0, .slice none 0 0] 31) := ⟨_, rfl⟩
  have B0 := Lib.hid (show Bl w w0 from by rw [hw0]; exact ((Bl.refl w).alloc_ _).alloc_ _)
  have s0 : w0.heap.size = w.heap.size + 1 + 1 := by rw [hw0]; simp
  have HSH := Lib.hid (show ∀ wx, Bl w0 wx → wx.cell? ⟨w.heap.size, 0, none⟩ = some (.slice A1 n1 c1) ∧ wx.cell? ⟨w.heap.size, 1, none⟩ = some (.slice A2 n2 c2) ∧ wx.cell? ⟨w.heap.size, 2, none⟩ = some (.slice A3 n3 c3) from fun wx hb => by
    rw [hw0] at hb
    obtain ⟨a, b, c⟩ := box3 (Bl.trans_ ((Bl.refl (w.alloc (.cells #[.slice A1 n1 c1, .slice A2 n2 c2, .slice A3 n3 c3] 31))).alloc_ _) hb)
    exact ⟨a, b, c⟩)
  have HRS := Lib.hid (show ∀ wx, Bl w0 wx → wx.cell? ⟨w.heap.size + 1, 0, none⟩ = some (.slice none 0 0) ∧ wx.cell? ⟨w.heap.size + 1, 1, none⟩ = some (.slice none 0 0) ∧ wx.cell? ⟨w.heap.size + 1, 2, none⟩ = some (.slice none 0 0) ∧ ∀ o, wx.frozen? ⟨w.heap.size + 1, o, none⟩ = false from fun wx hb => by
    rw [hw0] at hb
    obtain ⟨a, b, c⟩ := box3 hb
    simp only [World.size_alloc] at a b c
    exact ⟨a, b, c, fun o => by rw [(bcell hb).2 _ _ (by simp)]; simp [go_sem]⟩)
  have F0 := Lib.hid (KH.out.bl B0.out)
  have I := Lib.hid (In3.start (Bl.drew_ (Bl.refl w0)))
  go_enter Try.func52, Try.ntmps52
  go_wp2_with fail
  rw [← hw0]
  clear hw0
  refine wp_region_held_drew (S := fun wx => wx.cell? ⟨w.heap.size, 0, none⟩ = some (.slice A1 n1 c1) ∧ wx.cell? ⟨w.heap.size, 1, none⟩ = some (.slice A2 n2 c2) ∧ wx.cell? ⟨w.heap.size, 2, none⟩ = some (.slice A3 n3 c3)) (by kernel_rfl) (HSH.out _ I.out.bl) (fun hHeld => ?_)
  refine wpAnyH_take (i := 1) (v := ?_) rfl (by kernel_rfl) (by kernel_rfl) (by kernel_rfl) (fun _ _ _ h => h) (Or.inl ⟨by kernel_rfl, ?_⟩) (by assumption) ?_
  rotate_left
  · (intro wx hSw; (try dsimp only at hSw); go_simp; try (with_reducible rfl))
  try simp only [Act.put, List.getElem_toArray, List.getElem_cons_succ, List.getElem_cons_zero, List.setIfInBounds_toArray, List.set_cons_zero, List.set_cons_succ]
  refine wpAnyH_take (i := 2) (v := ?_) rfl (by kernel_rfl) (by kernel_rfl) (by kernel_rfl) (fun _ _ _ h => h) (Or.inl ⟨by kernel_rfl, ?_⟩) (by assumption) ?_
  rotate_left
  · (intro wx hSw; (try dsimp only at hSw); go_simp; try (with_reducible rfl))
  try simp only [Act.put, List.getElem_toArray, List.getElem_cons_succ, List.getElem_cons_zero, List.setIfInBounds_toArray, List.set_cons_zero, List.set_cons_succ]
  refine wpAnyH_take (i := 5) (v := ?_) rfl (by kernel_rfl) (by kernel_rfl) (by kernel_rfl) (fun _ _ _ h => h) (Or.inl ⟨by kernel_rfl, ?_⟩) (by assumption) ?_
  rotate_left
  · (intro wx hSw; (try dsimp only at hSw); go_simp; try (with_reducible rfl))
  try simp only [Act.put, List.getElem_toArray, List.getElem_cons_succ, List.getElem_cons_zero, List.setIfInBounds_toArray, List.set_cons_zero, List.set_cons_succ]
  refine wpAnyH_take (i := 6) (v := ?_) rfl (by kernel_rfl) (by kernel_rfl) (by kernel_rfl) (fun _ _ _ h => h) (Or.inl ⟨by kernel_rfl, ?_⟩) (by assumption) ?_
  rotate_left
  · (intro wx hSw; (try dsimp only at hSw); go_simp; try (with_reducible rfl))
  try simp only [Act.put, List.getElem_toArray, List.getElem_cons_succ, List.getElem_cons_zero, List.setIfInBounds_toArray, List.set_cons_zero, List.set_cons_succ]
  refine wpAnyH_take (i := 9) (v := ?_) rfl (by kernel_rfl) (by kernel_rfl) (by kernel_rfl) (fun _ _ _ h => h) (Or.inl ⟨by kernel_rfl, ?_⟩) (by assumption) ?_
  rotate_left
  · (intro wx hSw; (try dsimp only at hSw); go_simp; try (with_reducible rfl))
  try simp only [Act.put, List.getElem_toArray, List.getElem_cons_succ, List.getElem_cons_zero, List.setIfInBounds_toArray, List.set_cons_zero, List.set_cons_succ]
  refine wpAnyH_take (i := 10) (v := ?_) rfl (by kernel_rfl) (by kernel_rfl) (by kernel_rfl) (fun _ _ _ h => h) (Or.inl ⟨by kernel_rfl, ?_⟩) (by assumption) ?_
  rotate_left
  · (intro wx hSw; (try dsimp only at hSw); go_simp; try (with_reducible rfl))
  try simp only [Act.put, List.getElem_toArray, List.getElem_cons_succ, List.getElem_cons_zero, List.setIfInBounds_toArray, List.set_cons_zero, List.set_cons_succ]
  refine wpAnyH_ready (rs := [0, 4, 8]) (by kernel_rfl) (by simp) ?_
  refine (AllReadyH.cons rfl (fun K hK => ?_) (AllReadyH.cons rfl (fun K hK => ?_) (AllReadyH.cons rfl (fun K hK => ?_) AllReadyH.nil)))
  · have J := Lib.hid (In3.buildA I.out)
    have hS := Lib.hid (HSH.out _ J.out.bl)
    clear I
    have I := J
    clear J
    go_simp
    refine hK.out _ _ hS.out (fun hHeld => ?_)
    clear hK K hS
    try simp only [Act.put, List.getElem_toArray, List.getElem_cons_succ, List.getElem_cons_zero, List.setIfInBounds_toArray, List.set_cons_zero, List.set_cons_succ]
    refine wpAnyH_ready (rs := [3, 4, 8]) (by kernel_rfl) (by simp) ?_
    refine (AllReadyH.cons rfl (fun K hK => ?_) (AllReadyH.cons rfl (fun K hK => ?_) (AllReadyH.cons rfl (fun K hK => ?_) AllReadyH.nil)))
    · refine In3.stepA rfl (.tmp 3) (.tmp 5) rfl I.out (by simp [Act.eval, Act.put]; try rfl) (A := A1) (n := n1) (c := c1) (L := L1) (by simp [Act.eval, Act.put]) KB.out.l1 KB.out.m1 F0.out.f1 ?_
      intro PA kA eA wx hJ
      have J := Lib.hid hJ
      have hS := Lib.hid (HSH.out _ J.out.bl)
      clear I hJ
      have I := J
      clear J
      refine hK.out _ _ hS.out (fun hHeld => ?_)
      clear hK K hS
      try simp only [Act.put, List.getElem_toArray, List.getElem_cons_succ, List.getElem_cons_zero, List.setIfInBounds_toArray, List.set_cons_zero, List.set_cons_succ]
      refine wpAnyH_ready (rs := [4, 8]) (by kernel_rfl) (by simp) ?_
      refine (AllReadyH.cons rfl (fun K hK => ?_) (AllReadyH.cons rfl (fun K hK => ?_) AllReadyH.nil))
      · have J := Lib.hid (In3.buildB I.out)
        have hS := Lib.hid (HSH.out _ J.out.bl)
        clear I
        have I := J
        clear J
        go_simp
        refine hK.out _ _ hS.out (fun hHeld => ?_)
        clear hK K hS
        try simp only [Act.put, List.getElem_toArray, List.getElem_cons_succ, List.getElem_cons_zero, List.setIfInBounds_toArray, List.set_cons_zero, List.set_cons_succ]
        refine wpAnyH_ready (rs := [7, 8]) (by kernel_rfl) (by simp) ?_
        refine (AllReadyH.cons rfl (fun K hK => ?_) (AllReadyH.cons rfl (fun K hK => ?_) AllReadyH.nil))
        · refine In3.stepB rfl (.tmp 7) (.tmp 9) rfl I.out (by simp [Act.eval, Act.put]; try rfl) (A := A2) (n := n2) (c := c2) (L := L2) (by simp [Act.eval, Act.put]) KB.out.l2 KB.out.m2 F0.out.f2 ?_
          intro PB kB eB wx hJ
          have J := Lib.hid hJ
          have hS := Lib.hid (HSH.out _ J.out.bl)
          clear I hJ
          have I := J
          clear J
          refine hK.out _ _ hS.out (fun hHeld => ?_)
          clear hK K hS
          try simp only [Act.put, List.getElem_toArray, List.getElem_cons_succ, List.getElem_cons_zero, List.setIfInBounds_toArray, List.set_cons_zero, List.set_cons_succ]
          refine wpAnyH_ready (rs := [8]) (by kernel_rfl) (by simp) ?_
          refine (AllReadyH.cons rfl (fun K hK => ?_) AllReadyH.nil)
          have J := Lib.hid (In3.buildC I.out)
          have hS := Lib.hid (HSH.out _ J.out.bl)
          clear I
          have I := J
          clear J
          go_simp
          refine hK.out _ _ hS.out (fun hHeld => ?_)
          clear hK K hS
          try simp only [Act.put, List.getElem_toArray, List.getElem_cons_succ, List.getElem_cons_zero, List.setIfInBounds_toArray, List.set_cons_zero, List.set_cons_succ]
          refine wpAnyH_ready (rs := [11]) (by kernel_rfl) (by simp) ?_
          refine (AllReadyH.cons rfl (fun K hK => ?_) AllReadyH.nil)
          refine In3.stepC rfl (.tmp 11) (.tmp 13) rfl I.out (by simp [Act.eval, Act.put]; try rfl) (A := A3) (n := n3) (c := c3) (L := O) (by simp [Act.eval, Act.put]) KB.out.l3 KB.out.m3 F0.out.f3 ?_
          intro PC kC eC wx hJ
          have J := Lib.hid hJ
          have hS := Lib.hid (HSH.out _ J.out.bl)
          clear I hJ
          have I := J
          clear J
          refine hK.out _ _ hS.out (fun hHeld => ?_)
          clear hK K hS
          try simp only [Act.put, List.getElem_toArray, List.getElem_cons_succ, List.getElem_cons_zero, List.setIfInBounds_toArray, List.set_cons_zero, List.set_cons_succ]
          refine wpAnyH_take (i := 12) (v := ?_) rfl (by kernel_rfl) (by kernel_rfl) (by kernel_rfl) (fun _ _ _ h => h) (Or.inl ⟨by kernel_rfl, ?_⟩) (by assumption) ?_
          rotate_left
          · (intro wx hSw; (try dsimp only at hSw); go_simp; try (with_reducible rfl))
          try simp only [Act.put, List.getElem_toArray, List.getElem_cons_succ, List.getElem_cons_zero, List.setIfInBounds_toArray, List.set_cons_zero, List.set_cons_succ]
          refine wpAnyH_ready (rs := [13]) (by kernel_rfl) (by simp) ?_
          refine (AllReadyH.cons rfl (fun K hK => ?_) AllReadyH.nil)
          obtain ⟨z0, z1, z2, f0⟩ := HRS.out _ I.out.bl
          go_simp
          refine hK.out _ _ ?_ (fun hHeld => ?_)
          · simp only [World.cell?_setCell_other _ _ _ _ (show (⟨w.heap.size + 1, 0, none⟩ : Addr) ≠ ⟨w.heap.size, _, none⟩ from by simp), World.cell?_setCell_other _ _ _ _ (show (⟨w.heap.size + 1, 1, none⟩ : Addr) ≠ ⟨w.heap.size, _, none⟩ from by simp), World.cell?_setCell_other _ _ _ _ (show (⟨w.heap.size + 1, 2, none⟩ : Addr) ≠ ⟨w.heap.size, _, none⟩ from by simp)]; exact HSH.out _ I.out.bl
          clear hK K
          try simp only [Act.put, List.getElem_toArray, List.getElem_cons_succ, List.getElem_cons_zero, List.setIfInBounds_toArray, List.set_cons_zero, List.set_cons_succ]
          refine wpAnyH_done (by kernel_rfl) ?_ _
          go_wp2
          refine bodyPost_ret (v := .agg #[.slice PA kA eA, .slice PB kB eB, .slice PC kC eC]) (by simp [results, Try.results52, go_sem, z0, z1, z2]) rfl ⟨.slice PA kA eA, .slice PB kB eB, .slice PC kC eC, rfl, I.out.fin B0.out (b := w.heap.size + 1) (by omega) (by omega) _ _ _⟩
        · have J := Lib.hid (In3.buildC I.out)
          have hS := Lib.hid (HSH.out _ J.out.bl)
          clear I
          have I := J
          clear J
          go_simp
          refine hK.out _ _ hS.out (fun hHeld => ?_)
          clear hK K hS
          try simp only [Act.put, List.getElem_toArray, List.getElem_cons_succ, List.getElem_cons_zero, List.setIfInBounds_toArray, List.set_cons_zero, List.set_cons_succ]
          refine wpAnyH_ready (rs := [7]) (by kernel_rfl) (by simp) ?_
          refine (AllReadyH.cons rfl (fun K hK => ?_) AllReadyH.nil)
          refine In3.stepB rfl (.tmp 7) (.tmp 9) rfl I.out (by simp [Act.eval, Act.put]; try rfl) (A := A2) (n := n2) (c := c2) (L := L2) (by simp [Act.eval, Act.put]) KB.out.l2 KB.out.m2 F0.out.f2 ?_
          intro PB kB eB wx hJ
          have J := Lib.hid hJ
          have hS := Lib.hid (HSH.out _ J.out.bl)
          clear I hJ
          have I := J
          clear J
          refine hK.out _ _ hS.out (fun hHeld => ?_)
          clear hK K hS
          try simp only [Act.put, List.getElem_toArray, List.getElem_cons_succ, List.getElem_cons_zero, List.setIfInBounds_toArray, List.set_cons_zero, List.set_cons_succ]
          refine wpAnyH_ready (rs := [11]) (by kernel_rfl) (by simp) ?_
          refine (AllReadyH.cons rfl (fun K hK => ?_) AllReadyH.nil)
          refine In3.stepC rfl (.tmp 11) (.tmp 13) rfl I.out (by simp [Act.eval, Act.put]; try rfl) (A := A3) (n := n3) (c := c3) (L := O) (by simp [Act.eval, Act.put]) KB.out.l3 KB.out.m3 F0.out.f3 ?_
          intro PC kC eC wx hJ
          have J := Lib.hid hJ
          have hS := Lib.hid (HSH.out _ J.out.bl)
          clear I hJ
          have I := J
          clear J
          refine hK.out _ _ hS.out (fun hHeld => ?_)
          clear hK K hS
          try simp only [Act.put, List.getElem_toArray, List.getElem_cons_succ, List.getElem_cons_zero, List.setIfInBounds_toArray, List.set_cons_zero, List.set_cons_succ]
          refine wpAnyH_take (i := 12) (v := ?_) rfl (by kernel_rfl) (by kernel_rfl) (by kernel_rfl) (fun _ _ _ h => h) (Or.inl ⟨by kernel_rfl, ?_⟩) (by assumption) ?_
          rotate_left
          · (intro wx hSw; (try dsimp only at hSw); go_simp; try (with_reducible rfl))
          try simp only [Act.put, List.getElem_toArray, List.getElem_cons_succ, List.getElem_cons_zero, List.setIfInBounds_toArray, List.set_cons_zero, List.set_cons_succ]
          refine wpAnyH_ready (rs := [13]) (by kernel_rfl) (by simp) ?_
          refine (AllReadyH.cons rfl (fun K hK => ?_) AllReadyH.nil)
          obtain ⟨z0, z1, z2, f0⟩ := HRS.out _ I.out.bl
          go_simp
          refine hK.out _ _ ?_ (fun hHeld => ?_)
          · simp only [World.cell?_setCell_other _ _ _ _ (show (⟨w.heap.size + 1, 0, none⟩ : Addr) ≠ ⟨w.heap.size, _, none⟩ from by simp), World.cell?_setCell_other _ _ _ _ (show (⟨w.heap.size + 1, 1, none⟩ : Addr) ≠ ⟨w.heap.size, _, none⟩ from by simp), World.cell?_setCell_other _ _ _ _ (show (⟨w.heap.size + 1, 2, none⟩ : Addr) ≠ ⟨w.heap.size, _, none⟩ from by simp)]; exact HSH.out _ I.out.bl
          clear hK K
          try simp only [Act.put, List.getElem_toArray, List.getElem_cons_succ, List.getElem_cons_zero, List.setIfInBounds_toArray, List.set_cons_zero, List.set_cons_succ]
          refine wpAnyH_done (by kernel_rfl) ?_ _
          go_wp2
          refine bodyPost_ret (v := .agg #[.slice PA kA eA, .slice PB kB eB, .slice PC kC eC]) (by simp [results, Try.results52, go_sem, z0, z1, z2]) rfl ⟨.slice PA kA eA, .slice PB kB eB, .slice PC kC eC, rfl, I.out.fin B0.out (b := w.heap.size + 1) (by omega) (by omega) _ _ _⟩
      · have J := Lib.hid (In3.buildC I.out)
        have hS := Lib.hid (HSH.out _ J.out.bl)
        clear I
        have I := J
        clear J
        go_simp
        refine hK.out _ _ hS.out (fun hHeld => ?_)
        clear hK K hS
        try simp only [Act.put, List.getElem_toArray, List.getElem_cons_succ, List.getElem_cons_zero, List.setIfInBounds_toArray, List.set_cons_zero, List.set_cons_succ]
        refine wpAnyH_ready (rs := [4]) (by kernel_rfl) (by simp) ?_
        refine (AllReadyH.cons rfl (fun K hK => ?_) AllReadyH.nil)
        have J := Lib.hid (In3.buildB I.out)
        have hS := Lib.hid (HSH.out _ J.out.bl)
        clear I
        have I := J
        clear J
        go_simp
        refine hK.out _ _ hS.out (fun hHeld => ?_)
        clear hK K hS
        try simp only [Act.put, List.getElem_toArray, List.getElem_cons_succ, List.getElem_cons_zero, List.setIfInBounds_toArray, List.set_cons_zero, List.set_cons_succ]
        refine wpAnyH_ready (rs := [7]) (by kernel_rfl) (by simp) ?_
        refine (AllReadyH.cons rfl (fun K hK => ?_) AllReadyH.nil)
        refine In3.stepB rfl (.tmp 7) (.tmp 9) rfl I.out (by simp [Act.eval, Act.put]; try rfl) (A := A2) (n := n2) (c := c2) (L := L2) (by simp [Act.eval, Act.put]) KB.out.l2 KB.out.m2 F0.out.f2 ?_
        intro PB kB eB wx hJ
        have J := Lib.hid hJ
        have hS := Lib.hid (HSH.out _ J.out.bl)
        clear I hJ
        have I := J
        clear J
        refine hK.out _ _ hS.out (fun hHeld => ?_)
        clear hK K hS
        try simp only [Act.put, List.getElem_toArray, List.getElem_cons_succ, List.getElem_cons_zero, List.setIfInBounds_toArray, List.set_cons_zero, List.set_cons_succ]
        refine wpAnyH_ready (rs := [11]) (by kernel_rfl) (by simp) ?_
        refine (AllReadyH.cons rfl (fun K hK => ?_) AllReadyH.nil)
        refine In3.stepC rfl (.tmp 11) (.tmp 13) rfl I.out (by simp [Act.eval, Act.put]; try rfl) (A := A3) (n := n3) (c := c3) (L := O) (by simp [Act.eval, Act.put]) KB.out.l3 KB.out.m3 F0.out.f3 ?_
        intro PC kC eC wx hJ
        have J := Lib.hid hJ
        have hS := Lib.hid (HSH.out _ J.out.bl)
        clear I hJ
        have I := J
        clear J
        refine hK.out _ _ hS.out (fun hHeld => ?_)
        clear hK K hS
        try simp only [Act.put, List.getElem_toArray, List.getElem_cons_succ, List.getElem_cons_zero, List.setIfInBounds_toArray, List.set_cons_zero, List.set_cons_succ]
        refine wpAnyH_take (i := 12) (v := ?_) rfl (by kernel_rfl) (by kernel_rfl) (by kernel_rfl) (fun _ _ _ h => h) (Or.inl ⟨by kernel_rfl, ?_⟩) (by assumption) ?_
        rotate_left
        · (intro wx hSw; (try dsimp only at hSw); go_simp; try (with_reducible rfl))
        try simp only [Act.put, List.getElem_toArray, List.getElem_cons_succ, List.getElem_cons_zero, List.setIfInBounds_toArray, List.set_cons_zero, List.set_cons_succ]
        refine wpAnyH_ready (rs := [13]) (by kernel_rfl) (by simp) ?_
        refine (AllReadyH.cons rfl (fun K hK => ?_) AllReadyH.nil)
        obtain ⟨z0, z1, z2, f0⟩ := HRS.out _ I.out.bl
        go_simp
        refine hK.out _ _ ?_ (fun hHeld => ?_)
        · simp only [World.cell?_setCell_other _ _ _ _ (show (⟨w.heap.size + 1, 0, none⟩ : Addr) ≠ ⟨w.heap.size, _, none⟩ from by simp), World.cell?_setCell_other _ _ _ _ (show (⟨w.heap.size + 1, 1, none⟩ : Addr) ≠ ⟨w.heap.size, _, none⟩ from by simp), World.cell?_setCell_other _ _ _ _ (show (⟨w.heap.size + 1, 2, none⟩ : Addr) ≠ ⟨w.heap.size, _, none⟩ from by simp)]; exact HSH.out _ I.out.bl
        clear hK K
        try simp only [Act.put, List.getElem_toArray, List.getElem_cons_succ, List.getElem_cons_zero, List.setIfInBounds_toArray, List.set_cons_zero, List.set_cons_succ]
        refine wpAnyH_done (by kernel_rfl) ?_ _
        go_wp2
        refine bodyPost_ret (v := .agg #[.slice PA kA eA, .slice PB kB eB, .slice PC kC eC]) (by simp [results, Try.results52, go_sem, z0, z1, z2]) rfl ⟨.slice PA kA eA, .slice PB kB eB, .slice PC kC eC, rfl, I.out.fin B0.out (b := w.heap.size + 1) (by omega) (by omega) _ _ _⟩
    · have J := Lib.hid (In3.buildB I.out)
      have hS := Lib.hid (HSH.out _ J.out.bl)
      clear I
      have I := J
      clear J
      go_simp
      refine hK.out _ _ hS.out (fun hHeld => ?_)
      clear hK K hS
      try simp only [Act.put, List.getElem_toArray, List.getElem_cons_succ, List.getElem_cons_zero, List.setIfInBounds_toArray, List.set_cons_zero, List.set_cons_succ]
      refine wpAnyH_ready (rs := [3, 8]) (by kernel_rfl) (by simp) ?_
      refine (AllReadyH.cons rfl (fun K hK => ?_) (AllReadyH.cons rfl (fun K hK => ?_) AllReadyH.nil))
      · refine In3.stepA rfl (.tmp 3) (.tmp 5) rfl I.out (by simp [Act.eval, Act.put]; try rfl) (A := A1) (n := n1) (c := c1) (L := L1) (by simp [Act.eval, Act.put]) KB.out.l1 KB.out.m1 F0.out.f1 ?_
        intro PA kA eA wx hJ
        have J := Lib.hid hJ
        have hS := Lib.hid (HSH.out _ J.out.bl)
        clear I hJ
        have I := J
        clear J
        refine hK.out _ _ hS.out (fun hHeld => ?_)
        clear hK K hS
        try simp only [Act.put, List.getElem_toArray, List.getElem_cons_succ, List.getElem_cons_zero, List.setIfInBounds_toArray, List.set_cons_zero, List.set_cons_succ]
        refine wpAnyH_ready (rs := [7, 8]) (by kernel_rfl) (by simp) ?_
        refine (AllReadyH.cons rfl (fun K hK => ?_) (AllReadyH.cons rfl (fun K hK => ?_) AllReadyH.nil))
        · refine In3.stepB rfl (.tmp 7) (.tmp 9) rfl I.out (by simp [Act.eval, Act.put]; try rfl) (A := A2) (n := n2) (c := c2) (L := L2) (by simp [Act.eval, Act.put]) KB.out.l2 KB.out.m2 F0.out.f2 ?_
          intro PB kB eB wx hJ
          have J := Lib.hid hJ
          have hS := Lib.hid (HSH.out _ J.out.bl)
          clear I hJ
          have I := J
          clear J
          refine hK.out _ _ hS.out (fun hHeld => ?_)
          clear hK K hS
          try simp only [Act.put, List.getElem_toArray, List.getElem_cons_succ, List.getElem_cons_zero, List.setIfInBounds_toArray, List.set_cons_zero, List.set_cons_succ]
          refine wpAnyH_ready (rs := [8]) (by kernel_rfl) (by simp) ?_
          refine (AllReadyH.cons rfl (fun K hK => ?_) AllReadyH.nil)
          have J := Lib.hid (In3.buildC I.out)
          have hS := Lib.hid (HSH.out _ J.out.bl)
          clear I
          have I := J
          clear J
          go_simp
          refine hK.out _ _ hS.out (fun hHeld => ?_)
          clear hK K hS
          try simp only [Act.put, List.getElem_toArray, List.getElem_cons_succ, List.getElem_cons_zero, List.setIfInBounds_toArray, List.set_cons_zero, List.set_cons_succ]
          refine wpAnyH_ready (rs := [11]) (by kernel_rfl) (by simp) ?_
          refine (AllReadyH.cons rfl (fun K hK => ?_) AllReadyH.nil)
          refine In3.stepC rfl (.tmp 11) (.tmp 13) rfl I.out (by simp [Act.eval, Act.put]; try rfl) (A := A3) (n := n3) (c := c3) (L := O) (by simp [Act.eval, Act.put]) KB.out.l3 KB.out.m3 F0.out.f3 ?_
          intro PC kC eC wx hJ
          have J := Lib.hid hJ
          have hS := Lib.hid (HSH.out _ J.out.bl)
          clear I hJ
          have I := J
          clear J
          refine hK.out _ _ hS.out (fun hHeld => ?_)
          clear hK K hS
          try simp only [Act.put, List.getElem_toArray, List.getElem_cons_succ, List.getElem_cons_zero, List.setIfInBounds_toArray, List.set_cons_zero, List.set_cons_succ]
          refine wpAnyH_take (i := 12) (v := ?_) rfl (by kernel_rfl) (by kernel_rfl) (by kernel_rfl) (fun _ _ _ h => h) (Or.inl ⟨by kernel_rfl, ?_⟩) (by assumption) ?_
          rotate_left
          · (intro wx hSw; (try dsimp only at hSw); go_simp; try (with_reducible rfl))
          try simp only [Act.put, List.getElem_toArray, List.getElem_cons_succ, List.getElem_cons_zero, List.setIfInBounds_toArray, List.set_cons_zero, List.set_cons_succ]
          refine wpAnyH_ready (rs := [13]) (by kernel_rfl) (by simp) ?_
          refine (AllReadyH.cons rfl (fun K hK => ?_) AllReadyH.nil)
          obtain ⟨z0, z1, z2, f0⟩ := HRS.out _ I.out.bl
          go_simp
          refine hK.out _ _ ?_ (fun hHeld => ?_)
          · simp only [World.cell?_setCell_other _ _ _ _ (show (⟨w.heap.size + 1, 0, none⟩ : Addr) ≠ ⟨w.heap.size, _, none⟩ from by simp), World.cell?_setCell_other _ _ _ _ (show (⟨w.heap.size + 1, 1, none⟩ : Addr) ≠ ⟨w.heap.size, _, none⟩ from by simp), World.cell?_setCell_other _ _ _ _ (show (⟨w.heap.size + 1, 2, none⟩ : Addr) ≠ ⟨w.heap.size, _, none⟩ from by simp)]; exact HSH.out _ I.out.bl
          clear hK K
          try simp only [Act.put, List.getElem_toArray, List.getElem_cons_succ, List.getElem_cons_zero, List.setIfInBounds_toArray, List.set_cons_zero, List.set_cons_succ]
          refine wpAnyH_done (by kernel_rfl) ?_ _
          go_wp2
          refine bodyPost_ret (v := .agg #[.slice PA kA eA, .slice PB kB eB, .slice PC kC eC]) (by simp [results, Try.results52, go_sem, z0, z1, z2]) rfl ⟨.slice PA kA eA, .slice PB kB eB, .slice PC kC eC, rfl, I.out.fin B0.out (b := w.heap.size + 1) (by omega) (by omega) _ _ _⟩
        · have J := Lib.hid (In3.buildC I.out)
          have hS := Lib.hid (HSH.out _ J.out.bl)
          clear I
          have I := J
          clear J
          go_simp
          refine hK.out _ _ hS.out (fun hHeld => ?_)
          clear hK K hS
          try simp only [Act.put, List.getElem_toArray, List.getElem_cons_succ, List.getElem_cons_zero, List.setIfInBounds_toArray, List.set_cons_zero, List.set_cons_succ]
          refine wpAnyH_ready (rs := [7]) (by kernel_rfl) (by simp) ?_
          refine (AllReadyH.cons rfl (fun K hK => ?_) AllReadyH.nil)
          refine In3.stepB rfl (.tmp 7) (.tmp 9) rfl I.out (by simp [Act.eval, Act.put]; try rfl) (A := A2) (n := n2) (c := c2) (L := L2) (by simp [Act.eval, Act.put]) KB.out.l2 KB.out.m2 F0.out.f2 ?_
          intro PB kB eB wx hJ
          have J := Lib.hid hJ
          have hS := Lib.hid (HSH.out _ J.out.bl)
          clear I hJ
          have I := J
          clear J
          refine hK.out _ _ hS.out (fun hHeld => ?_)
          clear hK K hS
          try simp only [Act.put, List.getElem_toArray, List.getElem_cons_succ, List.getElem_cons_zero, List.setIfInBounds_toArray, List.set_cons_zero, List.set_cons_succ]
          refine wpAnyH_ready (rs := [11]) (by kernel_rfl) (by simp) ?_
          refine (AllReadyH.cons rfl (fun K hK => ?_) AllReadyH.nil)
          refine In3.stepC rfl (.tmp 11) (.tmp 13) rfl I.out (by simp [Act.eval, Act.put]; try rfl) (A := A3) (n := n3) (c := c3) (L := O) (by simp [Act.eval, Act.put]) KB.out.l3 KB.out.m3 F0.out.f3 ?_
          intro PC kC eC wx hJ
          have J := Lib.hid hJ
          have hS := Lib.hid (HSH.out _ J.out.bl)
          clear I hJ
          have I := J
          clear J
          refine hK.out _ _ hS.out (fun hHeld => ?_)
          clear hK K hS
          try simp only [Act.put, List.getElem_toArray, List.getElem_cons_succ, List.getElem_cons_zero, List.setIfInBounds_toArray, List.set_cons_zero, List.set_cons_succ]
          refine wpAnyH_take (i := 12) (v := ?_) rfl (by kernel_rfl) (by kernel_rfl) (by kernel_rfl) (fun _ _ _ h => h) (Or.inl ⟨by kernel_rfl, ?_⟩) (by assumption) ?_
          rotate_left
          · (intro wx hSw; (try dsimp only at hSw); go_simp; try (with_reducible rfl))
          try simp only [Act.put, List.getElem_toArray, List.getElem_cons_succ, List.getElem_cons_zero, List.setIfInBounds_toArray, List.set_cons_zero, List.set_cons_succ]
          refine wpAnyH_ready (rs := [13]) (by kernel_rfl) (by simp) ?_
          refine (AllReadyH.cons rfl (fun K hK => ?_) AllReadyH.nil)
          obtain ⟨z0, z1, z2, f0⟩ := HRS.out _ I.out.bl
          go_simp
          refine hK.out _ _ ?_ (fun hHeld => ?_)
          · simp only [World.cell?_setCell_other _ _ _ _ (show (⟨w.heap.size + 1, 0, none⟩ : Addr) ≠ ⟨w.heap.size, _, none⟩ from by simp), World.cell?_setCell_other _ _ _ _ (show (⟨w.heap.size + 1, 1, none⟩ : Addr) ≠ ⟨w.heap.size, _, none⟩ from by simp), World.cell?_setCell_other _ _ _ _ (show (⟨w.heap.size + 1, 2, none⟩ : Addr) ≠ ⟨w.heap.size, _, none⟩ from by simp)]; exact HSH.out _ I.out.bl
          clear hK K
          try simp only [Act.put, List.getElem_toArray, List.getElem_cons_succ, List.getElem_cons_zero, List.setIfInBounds_toArray, List.set_cons_zero, List.set_cons_succ]
          refine wpAnyH_done (by kernel_rfl) ?_ _
          go_wp2
          refine bodyPost_ret (v := .agg #[.slice PA kA eA, .slice PB kB eB, .slice PC kC eC]) (by simp [results, Try.results52, go_sem, z0, z1, z2]) rfl ⟨.slice PA kA eA, .slice PB kB eB, .slice PC kC eC, rfl, I.out.fin B0.out (b := w.heap.size + 1) (by omega) (by omega) _ _ _⟩
      · have J := Lib.hid (In3.buildC I.out)
        have hS := Lib.hid (HSH.out _ J.out.bl)
        clear I
        have I := J
        clear J
        go_simp
        refine hK.out _ _ hS.out (fun hHeld => ?_)
        clear hK K hS
        try simp only [Act.put, List.getElem_toArray, List.getElem_cons_succ, List.getElem_cons_zero, List.setIfInBounds_toArray, List.set_cons_zero, List.set_cons_succ]
        refine wpAnyH_ready (rs := [3]) (by kernel_rfl) (by simp) ?_
        refine (AllReadyH.cons rfl (fun K hK => ?_) AllReadyH.nil)
        refine In3.stepA rfl (.tmp 3) (.tmp 5) rfl I.out (by simp [Act.eval, Act.put]; try rfl) (A := A1) (n := n1) (c := c1) (L := L1) (by simp [Act.eval, Act.put]) KB.out.l1 KB.out.m1 F0.out.f1 ?_
        intro PA kA eA wx hJ
        have J := Lib.hid hJ
        have hS := Lib.hid (HSH.out _ J.out.bl)
        clear I hJ
        have I := J
        clear J
        refine hK.out _ _ hS.out (fun hHeld => ?_)
        clear hK K hS
        try simp only [Act.put, List.getElem_toArray, List.getElem_cons_succ, List.getElem_cons_zero, List.setIfInBounds_toArray, List.set_cons_zero, List.set_cons_succ]
        refine wpAnyH_ready (rs := [7]) (by kernel_rfl) (by simp) ?_
        refine (AllReadyH.cons rfl (fun K hK => ?_) AllReadyH.nil)
        refine In3.stepB rfl (.tmp 7) (.tmp 9) rfl I.out (by simp [Act.eval, Act.put]; try rfl) (A := A2) (n := n2) (c := c2) (L := L2) (by simp [Act.eval, Act.put]) KB.out.l2 KB.out.m2 F0.out.f2 ?_
        intro PB kB eB wx hJ
        have J := Lib.hid hJ
        have hS := Lib.hid (HSH.out _ J.out.bl)
        clear I hJ
        have I := J
        clear J
        refine hK.out _ _ hS.out (fun hHeld => ?_)
        clear hK K hS
        try simp only [Act.put, List.getElem_toArray, List.getElem_cons_succ, List.getElem_cons_zero, List.setIfInBounds_toArray, List.set_cons_zero, List.set_cons_succ]
        refine wpAnyH_ready (rs := [11]) (by kernel_rfl) (by simp) ?_
        refine (AllReadyH.cons rfl (fun K hK => ?_) AllReadyH.nil)
        refine In3.stepC rfl (.tmp 11) (.tmp 13) rfl I.out (by simp [Act.eval, Act.put]; try rfl) (A := A3) (n := n3) (c := c3) (L := O) (by simp [Act.eval, Act.put]) KB.out.l3 KB.out.m3 F0.out.f3 ?_
        intro PC kC eC wx hJ
        have J := Lib.hid hJ
        have hS := Lib.hid (HSH.out _ J.out.bl)
        clear I hJ
        have I := J
        clear J
        refine hK.out _ _ hS.out (fun hHeld => ?_)
        clear hK K hS
        try simp only [Act.put, List.getElem_toArray, List.getElem_cons_succ, List.getElem_cons_zero, List.setIfInBounds_toArray, List.set_cons_zero, List.set_cons_succ]
        refine wpAnyH_take (i := 12) (v := ?_) rfl (by kernel_rfl) (by kernel_rfl) (by kernel_rfl) (fun _ _ _ h => h) (Or.inl ⟨by kernel_rfl, ?_⟩) (by assumption) ?_
        rotate_left
        · (intro wx hSw; (try dsimp only at hSw); go_simp; try (with_reducible rfl))
        try simp only [Act.put, List.getElem_toArray, List.getElem_cons_succ, List.getElem_cons_zero, List.setIfInBounds_toArray, List.set_cons_zero, List.set_cons_succ]
        refine wpAnyH_ready (rs := [13]) (by kernel_rfl) (by simp) ?_
        refine (AllReadyH.cons rfl (fun K hK => ?_) AllReadyH.nil)
        obtain ⟨z0, z1, z2, f0⟩ := HRS.out _ I.out.bl
        go_simp
        refine hK.out _ _ ?_ (fun hHeld => ?_)
        · simp only [World.cell?_setCell_other _ _ _ _ (show (⟨w.heap.size + 1, 0, none⟩ : Addr) ≠ ⟨w.heap.size, _, none⟩ from by simp), World.cell?_setCell_other _ _ _ _ (show (⟨w.heap.size + 1, 1, none⟩ : Addr) ≠ ⟨w.heap.size, _, none⟩ from by simp), World.cell?_setCell_other _ _ _ _ (show (⟨w.heap.size + 1, 2, none⟩ : Addr) ≠ ⟨w.heap.size, _, none⟩ from by simp)]; exact HSH.out _ I.out.bl
        clear hK K
        try simp only [Act.put, List.getElem_toArray, List.getElem_cons_succ, List.getElem_cons_zero, List.setIfInBounds_toArray, List.set_cons_zero, List.set_cons_succ]
        refine wpAnyH_done (by kernel_rfl) ?_ _
        go_wp2
        refine bodyPost_ret (v := .agg #[.slice PA kA eA, .slice PB kB eB, .slice PC kC eC]) (by simp [results, Try.results52, go_sem, z0, z1, z2]) rfl ⟨.slice PA kA eA, .slice PB kB eB, .slice PC kC eC, rfl, I.out.fin B0.out (b := w.heap.size + 1) (by omega) (by omega) _ _ _⟩
    · have J := Lib.hid (In3.buildC I.out)
      have hS := Lib.hid (HSH.out _ J.out.bl)
      clear I
      have I := J
      clear J
      go_simp
      refine hK.out _ _ hS.out (fun hHeld => ?_)
      clear hK K hS
      try simp only [Act.put, List.getElem_toArray, List.getElem_cons_succ, List.getElem_cons_zero, List.setIfInBounds_toArray, List.set_cons_zero, List.set_cons_succ]
      refine wpAnyH_ready (rs := [3, 4]) (by kernel_rfl) (by simp) ?_
      refine (AllReadyH.cons rfl (fun K hK => ?_) (AllReadyH.cons rfl (fun K hK => ?_) AllReadyH.nil))
      · refine In3.stepA rfl (.tmp 3) (.tmp 5) rfl I.out (by simp [Act.eval, Act.put]; try rfl) (A := A1) (n := n1) (c := c1) (L := L1) (by simp [Act.eval, Act.put]) KB.out.l1 KB.out.m1 F0.out.f1 ?_
        intro PA kA eA wx hJ
        have J := Lib.hid hJ
        have hS := Lib.hid (HSH.out _ J.out.bl)
        clear I hJ
        have I := J
        clear J
        refine hK.out _ _ hS.out (fun hHeld => ?_)
        clear hK K hS
        try simp only [Act.put, List.getElem_toArray, List.getElem_cons_succ, List.getElem_cons_zero, List.setIfInBounds_toArray, List.set_cons_zero, List.set_cons_succ]
        refine wpAnyH_ready (rs := [4]) (by kernel_rfl) (by simp) ?_
        refine (AllReadyH.cons rfl (fun K hK => ?_) AllReadyH.nil)
        have J := Lib.hid (In3.buildB I.out)
        have hS := Lib.hid (HSH.out _ J.out.bl)
        clear I
        have I := J
        clear J
        go_simp
        refine hK.out _ _ hS.out (fun hHeld => ?_)
        clear hK K hS
        try simp only [Act.put, List.getElem_toArray, List.getElem_cons_succ, List.getElem_cons_zero, List.setIfInBounds_toArray, List.set_cons_zero, List.set_cons_succ]
        refine wpAnyH_ready (rs := [7]) (by kernel_rfl) (by simp) ?_
        refine (AllReadyH.cons rfl (fun K hK => ?_) AllReadyH.nil)
        refine In3.stepB rfl (.tmp 7) (.tmp 9) rfl I.out (by simp [Act.eval, Act.put]; try rfl) (A := A2) (n := n2) (c := c2) (L := L2) (by simp [Act.eval, Act.put]) KB.out.l2 KB.out.m2 F0.out.f2 ?_
        intro PB kB eB wx hJ
        have J := Lib.hid hJ
        have hS := Lib.hid (HSH.out _ J.out.bl)
        clear I hJ
        have I := J
        clear J
        refine hK.out _ _ hS.out (fun hHeld => ?_)
        clear hK K hS
        try simp only [Act.put, List.getElem_toArray, List.getElem_cons_succ, List.getElem_cons_zero, List.setIfInBounds_toArray, List.set_cons_zero, List.set_cons_succ]
        refine wpAnyH_ready (rs := [11]) (by kernel_rfl) (by simp) ?_
        refine (AllReadyH.cons rfl (fun K hK => ?_) AllReadyH.nil)
        refine In3.stepC rfl (.tmp 11) (.tmp 13) rfl I.out (by simp [Act.eval, Act.put]; try rfl) (A := A3) (n := n3) (c := c3) (L := O) (by simp [Act.eval, Act.put]) KB.out.l3 KB.out.m3 F0.out.f3 ?_
        intro PC kC eC wx hJ
        have J := Lib.hid hJ
        have hS := Lib.hid (HSH.out _ J.out.bl)
        clear I hJ
        have I := J
        clear J
        refine hK.out _ _ hS.out (fun hHeld => ?_)
        clear hK K hS
        try simp only [Act.put, List.getElem_toArray, List.getElem_cons_succ, List.getElem_cons_zero, List.setIfInBounds_toArray, List.set_cons_zero, List.set_cons_succ]
        refine wpAnyH_take (i := 12) (v := ?_) rfl (by kernel_rfl) (by kernel_rfl) (by kernel_rfl) (fun _ _ _ h => h) (Or.inl ⟨by kernel_rfl, ?_⟩) (by assumption) ?_
        rotate_left
        · (intro wx hSw; (try dsimp only at hSw); go_simp; try (with_reducible rfl))
        try simp only [Act.put, List.getElem_toArray, List.getElem_cons_succ, List.getElem_cons_zero, List.setIfInBounds_toArray, List.set_cons_zero, List.set_cons_succ]
        refine wpAnyH_ready (rs := [13]) (by kernel_rfl) (by simp) ?_
        refine (AllReadyH.cons rfl (fun K hK => ?_) AllReadyH.nil)
        obtain ⟨z0, z1, z2, f0⟩ := HRS.out _ I.out.bl
        go_simp
        refine hK.out _ _ ?_ (fun hHeld => ?_)
        · simp only [World.cell?_setCell_other _ _ _ _ (show (⟨w.heap.size + 1, 0, none⟩ : Addr) ≠ ⟨w.heap.size, _, none⟩ from by simp), World.cell?_setCell_other _ _ _ _ (show (⟨w.heap.size + 1, 1, none⟩ : Addr) ≠ ⟨w.heap.size, _, none⟩ from by simp), World.cell?_setCell_other _ _ _ _ (show (⟨w.heap.size + 1, 2, none⟩ : Addr) ≠ ⟨w.heap.size, _, none⟩ from by simp)]; exact HSH.out _ I.out.bl
        clear hK K
        try simp only [Act.put, List.getElem_toArray, List.getElem_cons_succ, List.getElem_cons_zero, List.setIfInBounds_toArray, List.set_cons_zero, List.set_cons_succ]
        refine wpAnyH_done (by kernel_rfl) ?_ _
        go_wp2
        refine bodyPost_ret (v := .agg #[.slice PA kA eA, .slice PB kB eB, .slice PC kC eC]) (by simp [results, Try.results52, go_sem, z0, z1, z2]) rfl ⟨.slice PA kA eA, .slice PB kB eB, .slice PC kC eC, rfl, I.out.fin B0.out (b := w.heap.size + 1) (by omega) (by omega) _ _ _⟩
      · have J := Lib.hid (In3.buildB I.out)
        have hS := Lib.hid (HSH.out _ J.out.bl)
        clear I
        have I := J
        clear J
        go_simp
        refine hK.out _ _ hS.out (fun hHeld => ?_)
        clear hK K hS
        try simp only [Act.put, List.getElem_toArray, List.getElem_cons_succ, List.getElem_cons_zero, List.setIfInBounds_toArray, List.set_cons_zero, List.set_cons_succ]
        refine wpAnyH_ready (rs := [3]) (by kernel_rfl) (by simp) ?_
        refine (AllReadyH.cons rfl (fun K hK => ?_) AllReadyH.nil)
        refine In3.stepA rfl (.tmp 3) (.tmp 5) rfl I.out (by simp [Act.eval, Act.put]; try rfl) (A := A1) (n := n1) (c := c1) (L := L1) (by simp [Act.eval, Act.put]) KB.out.l1 KB.out.m1 F0.out.f1 ?_
        intro PA kA eA wx hJ
        have J := Lib.hid hJ
        have hS := Lib.hid (HSH.out _ J.out.bl)
        clear I hJ
        have I := J
        clear J
        refine hK.out _ _ hS.out (fun hHeld => ?_)
        clear hK K hS
        try simp only [Act.put, List.getElem_toArray, List.getElem_cons_succ, List.getElem_cons_zero, List.setIfInBounds_toArray, List.set_cons_zero, List.set_cons_succ]
        refine wpAnyH_ready (rs := [7]) (by kernel_rfl) (by simp) ?_
        refine (AllReadyH.cons rfl (fun K hK => ?_) AllReadyH.nil)
        refine In3.stepB rfl (.tmp 7) (.tmp 9) rfl I.out (by simp [Act.eval, Act.put]; try rfl) (A := A2) (n := n2) (c := c2) (L := L2) (by simp [Act.eval, Act.put]) KB.out.l2 KB.out.m2 F0.out.f2 ?_
        intro PB kB eB wx hJ
        have J := Lib.hid hJ
        have hS := Lib.hid (HSH.out _ J.out.bl)
        clear I hJ
        have I := J
        clear J
        refine hK.out _ _ hS.out (fun hHeld => ?_)
        clear hK K hS
        try simp only [Act.put, List.getElem_toArray, List.getElem_cons_succ, List.getElem_cons_zero, List.setIfInBounds_toArray, List.set_cons_zero, List.set_cons_succ]
        refine wpAnyH_ready (rs := [11]) (by kernel_rfl) (by simp) ?_
        refine (AllReadyH.cons rfl (fun K hK => ?_) AllReadyH.nil)
        refine In3.stepC rfl (.tmp 11) (.tmp 13) rfl I.out (by simp [Act.eval, Act.put]; try rfl) (A := A3) (n := n3) (c := c3) (L := O) (by simp [Act.eval, Act.put]) KB.out.l3 KB.out.m3 F0.out.f3 ?_
        intro PC kC eC wx hJ
        have J := Lib.hid hJ
        have hS := Lib.hid (HSH.out _ J.out.bl)
        clear I hJ
        have I := J
        clear J
        refine hK.out _ _ hS.out (fun hHeld => ?_)
        clear hK K hS
        try simp only [Act.put, List.getElem_toArray, List.getElem_cons_succ, List.getElem_cons_zero, List.setIfInBounds_toArray, List.set_cons_zero, List.set_cons_succ]
        refine wpAnyH_take (i := 12) (v := ?_) rfl (by kernel_rfl) (by kernel_rfl) (by kernel_rfl) (fun _ _ _ h => h) (Or.inl ⟨by kernel_rfl, ?_⟩) (by assumption) ?_
        rotate_left
        · (intro wx hSw; (try dsimp only at hSw); go_simp; try (with_reducible rfl))
        try simp only [Act.put, List.getElem_toArray, List.getElem_cons_succ, List.getElem_cons_zero, List.setIfInBounds_toArray, List.set_cons_zero, List.set_cons_succ]
        refine wpAnyH_ready (rs := [13]) (by kernel_rfl) (by simp) ?_
        refine (AllReadyH.cons rfl (fun K hK => ?_) AllReadyH.nil)
        obtain ⟨z0, z1, z2, f0⟩ := HRS.out _ I.out.bl
        go_simp
        refine hK.out _ _ ?_ (fun hHeld => ?_)
        · simp only [World.cell?_setCell_other _ _ _ _ (show (⟨w.heap.size + 1, 0, none⟩ : Addr) ≠ ⟨w.heap.size, _, none⟩ from by simp), World.cell?_setCell_other _ _ _ _ (show (⟨w.heap.size + 1, 1, none⟩ : Addr) ≠ ⟨w.heap.size, _, none⟩ from by simp), World.cell?_setCell_other _ _ _ _ (show (⟨w.heap.size + 1, 2, none⟩ : Addr) ≠ ⟨w.heap.size, _, none⟩ from by simp)]; exact HSH.out _ I.out.bl
        clear hK K
        try simp only [Act.put, List.getElem_toArray, List.getElem_cons_succ, List.getElem_cons_zero, List.setIfInBounds_toArray, List.set_cons_zero, List.set_cons_succ]
        refine wpAnyH_done (by kernel_rfl) ?_ _
        go_wp2
        refine bodyPost_ret (v := .agg #[.slice PA kA eA, .slice PB kB eB, .slice PC kC eC]) (by simp [results, Try.results52, go_sem, z0, z1, z2]) rfl ⟨.slice PA kA eA, .slice PB kB eB, .slice PC kC eC, rfl, I.out.fin B0.out (b := w.heap.size + 1) (by omega) (by omega) _ _ _⟩
  · have J := Lib.hid (In3.buildB I.out)
    have hS := Lib.hid (HSH.out _ J.out.bl)
    clear I
    have I := J
    clear J
    go_simp
    refine hK.out _ _ hS.out (fun hHeld => ?_)
    clear hK K hS
    try simp only [Act.put, List.getElem_toArray, List.getElem_cons_succ, List.getElem_cons_zero, List.setIfInBounds_toArray, List.set_cons_zero, List.set_cons_succ]
    refine wpAnyH_ready (rs := [0, 8]) (by kernel_rfl) (by simp) ?_
    refine (AllReadyH.cons rfl (fun K hK => ?_) (AllReadyH.cons rfl (fun K hK => ?_) AllReadyH.nil))
    · have J := Lib.hid (In3.buildA I.out)
      have hS := Lib.hid (HSH.out _ J.out.bl)
      clear I
      have I := J
      clear J
      go_simp
      refine hK.out _ _ hS.out (fun hHeld => ?_)
      clear hK K hS
      try simp only [Act.put, List.getElem_toArray, List.getElem_cons_succ, List.getElem_cons_zero, List.setIfInBounds_toArray, List.set_cons_zero, List.set_cons_succ]
      refine wpAnyH_ready (rs := [3, 8]) (by kernel_rfl) (by simp) ?_
      refine (AllReadyH.cons rfl (fun K hK => ?_) (AllReadyH.cons rfl (fun K hK => ?_) AllReadyH.nil))
      · refine In3.stepA rfl (.tmp 3) (.tmp 5) rfl I.out (by simp [Act.eval, Act.put]; try rfl) (A := A1) (n := n1) (c := c1) (L := L1) (by simp [Act.eval, Act.put]) KB.out.l1 KB.out.m1 F0.out.f1 ?_
        intro PA kA eA wx hJ
        have J := Lib.hid hJ
        have hS := Lib.hid (HSH.out _ J.out.bl)
        clear I hJ
        have I := J
        clear J
        refine hK.out _ _ hS.out (fun hHeld => ?_)
        clear hK K hS
        try simp only [Act.put, List.getElem_toArray, List.getElem_cons_succ, List.getElem_cons_zero, List.setIfInBounds_toArray, List.set_cons_zero, List.set_cons_succ]
        refine wpAnyH_ready (rs := [7, 8]) (by kernel_rfl) (by simp) ?_
        refine (AllReadyH.cons rfl (fun K hK => ?_) (AllReadyH.cons rfl (fun K hK => ?_) AllReadyH.nil))
        · refine In3.stepB rfl (.tmp 7) (.tmp 9) rfl I.out (by simp [Act.eval, Act.put]; try rfl) (A := A2) (n := n2) (c := c2) (L := L2) (by simp [Act.eval, Act.put]) KB.out.l2 KB.out.m2 F0.out.f2 ?_
          intro PB kB eB wx hJ
          have J := Lib.hid hJ
          have hS := Lib.hid (HSH.out _ J.out.bl)
          clear I hJ
          have I := J
          clear J
          refine hK.out _ _ hS.out (fun hHeld => ?_)
          clear hK K hS
          try simp only [Act.put, List.getElem_toArray, List.getElem_cons_succ, List.getElem_cons_zero, List.setIfInBounds_toArray, List.set_cons_zero, List.set_cons_succ]
          refine wpAnyH_ready (rs := [8]) (by kernel_rfl) (by simp) ?_
          refine (AllReadyH.cons rfl (fun K hK => ?_) AllReadyH.nil)
          have J := Lib.hid (In3.buildC I.out)
          have hS := Lib.hid (HSH.out _ J.out.bl)
          clear I
          have I := J
          clear J
          go_simp
          refine hK.out _ _ hS.out (fun hHeld => ?_)
          clear hK K hS
          try simp only [Act.put, List.getElem_toArray, List.getElem_cons_succ, List.getElem_cons_zero, List.setIfInBounds_toArray, List.set_cons_zero, List.set_cons_succ]
          refine wpAnyH_ready (rs := [11]) (by kernel_rfl) (by simp) ?_
          refine (AllReadyH.cons rfl (fun K hK => ?_) AllReadyH.nil)
          refine In3.stepC rfl (.tmp 11) (.tmp 13) rfl I.out (by simp [Act.eval, Act.put]; try rfl) (A := A3) (n := n3) (c := c3) (L := O) (by simp [Act.eval, Act.put]) KB.out.l3 KB.out.m3 F0.out.f3 ?_
          intro PC kC eC wx hJ
          have J := Lib.hid hJ
          have hS := Lib.hid (HSH.out _ J.out.bl)
          clear I hJ
          have I := J
          clear J
          refine hK.out _ _ hS.out (fun hHeld => ?_)
          clear hK K hS
          try simp only [Act.put, List.getElem_toArray, List.getElem_cons_succ, List.getElem_cons_zero, List.setIfInBounds_toArray, List.set_cons_zero, List.set_cons_succ]
          refine wpAnyH_take (i := 12) (v := ?_) rfl (by kernel_rfl) (by kernel_rfl) (by kernel_rfl) (fun _ _ _ h => h) (Or.inl ⟨by kernel_rfl, ?_⟩) (by assumption) ?_
          rotate_left
          · (intro wx hSw; (try dsimp only at hSw); go_simp; try (with_reducible rfl))
          try simp only [Act.put, List.getElem_toArray, List.getElem_cons_succ, List.getElem_cons_zero, List.setIfInBounds_toArray, List.set_cons_zero, List.set_cons_succ]
          refine wpAnyH_ready (rs := [13]) (by kernel_rfl) (by simp) ?_
          refine (AllReadyH.cons rfl (fun K hK => ?_) AllReadyH.nil)
          obtain ⟨z0, z1, z2, f0⟩ := HRS.out _ I.out.bl
          go_simp
          refine hK.out _ _ ?_ (fun hHeld => ?_)
          · simp only [World.cell?_setCell_other _ _ _ _ (show (⟨w.heap.size + 1, 0, none⟩ : Addr) ≠ ⟨w.heap.size, _, none⟩ from by simp), World.cell?_setCell_other _ _ _ _ (show (⟨w.heap.size + 1, 1, none⟩ : Addr) ≠ ⟨w.heap.size, _, none⟩ from by simp), World.cell?_setCell_other _ _ _ _ (show (⟨w.heap.size + 1, 2, none⟩ : Addr) ≠ ⟨w.heap.size, _, none⟩ from by simp)]; exact HSH.out _ I.out.bl
          clear hK K
          try simp only [Act.put, List.getElem_toArray, List.getElem_cons_succ, List.getElem_cons_zero, List.setIfInBounds_toArray, List.set_cons_zero, List.set_cons_succ]
          refine wpAnyH_done (by kernel_rfl) ?_ _
          go_wp2
          refine bodyPost_ret (v := .agg #[.slice PA kA eA, .slice PB kB eB, .slice PC kC eC]) (by simp [results, Try.results52, go_sem, z0, z1, z2]) rfl ⟨.slice PA kA eA, .slice PB kB eB, .slice PC kC eC, rfl, I.out.fin B0.out (b := w.heap.size + 1) (by omega) (by omega) _ _ _⟩
        · have J := Lib.hid (In3.buildC I.out)
          have hS := Lib.hid (HSH.out _ J.out.bl)
          clear I
          have I := J
          clear J
          go_simp
          refine hK.out _ _ hS.out (fun hHeld => ?_)
          clear hK K hS
          try simp only [Act.put, List.getElem_toArray, List.getElem_cons_succ, List.getElem_cons_zero, List.setIfInBounds_toArray, List.set_cons_zero, List.set_cons_succ]
          refine wpAnyH_ready (rs := [7]) (by kernel_rfl) (by simp) ?_
          refine (AllReadyH.cons rfl (fun K hK => ?_) AllReadyH.nil)
          refine In3.stepB rfl (.tmp 7) (.tmp 9) rfl I.out (by simp [Act.eval, Act.put]; try rfl) (A := A2) (n := n2) (c := c2) (L := L2) (by simp [Act.eval, Act.put]) KB.out.l2 KB.out.m2 F0.out.f2 ?_
          intro PB kB eB wx hJ
          have J := Lib.hid hJ
          have hS := Lib.hid (HSH.out _ J.out.bl)
          clear I hJ
          have I := J
          clear J
          refine hK.out _ _ hS.out (fun hHeld => ?_)
          clear hK K hS
          try simp only [Act.put, List.getElem_toArray, List.getElem_cons_succ, List.getElem_cons_zero, List.setIfInBounds_toArray, List.set_cons_zero, List.set_cons_succ]
          refine wpAnyH_ready (rs := [11]) (by kernel_rfl) (by simp) ?_
          refine (AllReadyH.cons rfl (fun K hK => ?_) AllReadyH.nil)
          refine In3.stepC rfl (.tmp 11) (.tmp 13) rfl I.out (by simp [Act.eval, Act.put]; try rfl) (A := A3) (n := n3) (c := c3) (L := O) (by simp [Act.eval, Act.put]) KB.out.l3 KB.out.m3 F0.out.f3 ?_
          intro PC kC eC wx hJ
          have J := Lib.hid hJ
          have hS := Lib.hid (HSH.out _ J.out.bl)
          clear I hJ
          have I := J
          clear J
          refine hK.out _ _ hS.out (fun hHeld => ?_)
          clear hK K hS
          try simp only [Act.put, List.getElem_toArray, List.getElem_cons_succ, List.getElem_cons_zero, List.setIfInBounds_toArray, List.set_cons_zero, List.set_cons_succ]
          refine wpAnyH_take (i := 12) (v := ?_) rfl (by kernel_rfl) (by kernel_rfl) (by kernel_rfl) (fun _ _ _ h => h) (Or.inl ⟨by kernel_rfl, ?_⟩) (by assumption) ?_
          rotate_left
          · (intro wx hSw; (try dsimp only at hSw); go_simp; try (with_reducible rfl))
          try simp only [Act.put, List.getElem_toArray, List.getElem_cons_succ, List.getElem_cons_zero, List.setIfInBounds_toArray, List.set_cons_zero, List.set_cons_succ]
          refine wpAnyH_ready (rs := [13]) (by kernel_rfl) (by simp) ?_
          refine (AllReadyH.cons rfl (fun K hK => ?_) AllReadyH.nil)
          obtain ⟨z0, z1, z2, f0⟩ := HRS.out _ I.out.bl
          go_simp
          refine hK.out _ _ ?_ (fun hHeld => ?_)
          · simp only [World.cell?_setCell_other _ _ _ _ (show (⟨w.heap.size + 1, 0, none⟩ : Addr) ≠ ⟨w.heap.size, _, none⟩ from by simp), World.cell?_setCell_other _ _ _ _ (show (⟨w.heap.size + 1, 1, none⟩ : Addr) ≠ ⟨w.heap.size, _, none⟩ from by simp), World.cell?_setCell_other _ _ _ _ (show (⟨w.heap.size + 1, 2, none⟩ : Addr) ≠ ⟨w.heap.size, _, none⟩ from by simp)]; exact HSH.out _ I.out.bl
          clear hK K
          try simp only [Act.put, List.getElem_toArray, List.getElem_cons_succ, List.getElem_cons_zero, List.setIfInBounds_toArray, List.set_cons_zero, List.set_cons_succ]
          refine wpAnyH_done (by kernel_rfl) ?_ _
          go_wp2
          refine bodyPost_ret (v := .agg #[.slice PA kA eA, .slice PB kB eB, .slice PC kC eC]) (by simp [results, Try.results52, go_sem, z0, z1, z2]) rfl ⟨.slice PA kA eA, .slice PB kB eB, .slice PC kC eC, rfl, I.out.fin B0.out (b := w.heap.size + 1) (by omega) (by omega) _ _ _⟩
      · have J := Lib.hid (In3.buildC I.out)
        have hS := Lib.hid (HSH.out _ J.out.bl)
        clear I
        have I := J
        clear J
        go_simp
        refine hK.out _ _ hS.out (fun hHeld => ?_)
        clear hK K hS
        try simp only [Act.put, List.getElem_toArray, List.getElem_cons_succ, List.getElem_cons_zero, List.setIfInBounds_toArray, List.set_cons_zero, List.set_cons_succ]
        refine wpAnyH_ready (rs := [3]) (by kernel_rfl) (by simp) ?_
        refine (AllReadyH.cons rfl (fun K hK => ?_) AllReadyH.nil)
        refine In3.stepA rfl (.tmp 3) (.tmp 5) rfl I.out (by simp [Act.eval, Act.put]; try rfl) (A := A1) (n := n1) (c := c1) (L := L1) (by simp [Act.eval, Act.put]) KB.out.l1 KB.out.m1 F0.out.f1 ?_
        intro PA kA eA wx hJ
        have J := Lib.hid hJ
        have hS := Lib.hid (HSH.out _ J.out.bl)
        clear I hJ
        have I := J
        clear J
        refine hK.out _ _ hS.out (fun hHeld => ?_)
        clear hK K hS
        try simp only [Act.put, List.getElem_toArray, List.getElem_cons_succ, List.getElem_cons_zero, List.setIfInBounds_toArray, List.set_cons_zero, List.set_cons_succ]
        refine wpAnyH_ready (rs := [7]) (by kernel_rfl) (by simp) ?_
        refine (AllReadyH.cons rfl (fun K hK => ?_) AllReadyH.nil)
        refine In3.stepB rfl (.tmp 7) (.tmp 9) rfl I.out (by simp [Act.eval, Act.put]; try rfl) (A := A2) (n := n2) (c := c2) (L := L2) (by simp [Act.eval, Act.put]) KB.out.l2 KB.out.m2 F0.out.f2 ?_
        intro PB kB eB wx hJ
        have J := Lib.hid hJ
        have hS := Lib.hid (HSH.out _ J.out.bl)
        clear I hJ
        have I := J
        clear J
        refine hK.out _ _ hS.out (fun hHeld => ?_)
        clear hK K hS
        try simp only [Act.put, List.getElem_toArray, List.getElem_cons_succ, List.getElem_cons_zero, List.setIfInBounds_toArray, List.set_cons_zero, List.set_cons_succ]
        refine wpAnyH_ready (rs := [11]) (by kernel_rfl) (by simp) ?_
        refine (AllReadyH.cons rfl (fun K hK => ?_) AllReadyH.nil)
        refine In3.stepC rfl (.tmp 11) (.tmp 13) rfl I.out (by simp [Act.eval, Act.put]; try rfl) (A := A3) (n := n3) (c := c3) (L := O) (by simp [Act.eval, Act.put]) KB.out.l3 KB.out.m3 F0.out.f3 ?_
        intro PC kC eC wx hJ
        have J := Lib.hid hJ
        have hS := Lib.hid (HSH.out _ J.out.bl)
        clear I hJ
        have I := J
        clear J
        refine hK.out _ _ hS.out (fun hHeld => ?_)
        clear hK K hS
        try simp only [Act.put, List.getElem_toArray, List.getElem_cons_succ, List.getElem_cons_zero, List.setIfInBounds_toArray, List.set_cons_zero, List.set_cons_succ]
        refine wpAnyH_take (i := 12) (v := ?_) rfl (by kernel_rfl) (by kernel_rfl) (by kernel_rfl) (fun _ _ _ h => h) (Or.inl ⟨by kernel_rfl, ?_⟩) (by assumption) ?_
        rotate_left
        · (intro wx hSw; (try dsimp only at hSw); go_simp; try (with_reducible rfl))
        try simp only [Act.put, List.getElem_toArray, List.getElem_cons_succ, List.getElem_cons_zero, List.setIfInBounds_toArray, List.set_cons_zero, List.set_cons_succ]
        refine wpAnyH_ready (rs := [13]) (by kernel_rfl) (by simp) ?_
        refine (AllReadyH.cons rfl (fun K hK => ?_) AllReadyH.nil)
        obtain ⟨z0, z1, z2, f0⟩ := HRS.out _ I.out.bl
        go_simp
        refine hK.out _ _ ?_ (fun hHeld => ?_)
        · simp only [World.cell?_setCell_other _ _ _ _ (show (⟨w.heap.size + 1, 0, none⟩ : Addr) ≠ ⟨w.heap.size, _, none⟩ from by simp), World.cell?_setCell_other _ _ _ _ (show (⟨w.heap.size + 1, 1, none⟩ : Addr) ≠ ⟨w.heap.size, _, none⟩ from by simp), World.cell?_setCell_other _ _ _ _ (show (⟨w.heap.size + 1, 2, none⟩ : Addr) ≠ ⟨w.heap.size, _, none⟩ from by simp)]; exact HSH.out _ I.out.bl
        clear hK K
        try simp only [Act.put, List.getElem_toArray, List.getElem_cons_succ, List.getElem_cons_zero, List.setIfInBounds_toArray, List.set_cons_zero, List.set_cons_succ]
        refine wpAnyH_done (by kernel_rfl) ?_ _
        go_wp2
        refine bodyPost_ret (v := .agg #[.slice PA kA eA, .slice PB kB eB, .slice PC kC eC]) (by simp [results, Try.results52, go_sem, z0, z1, z2]) rfl ⟨.slice PA kA eA, .slice PB kB eB, .slice PC kC eC, rfl, I.out.fin B0.out (b := w.heap.size + 1) (by omega) (by omega) _ _ _⟩
    · have J := Lib.hid (In3.buildC I.out)
      have hS := Lib.hid (HSH.out _ J.out.bl)
      clear I
      have I := J
      clear J
      go_simp
      refine hK.out _ _ hS.out (fun hHeld => ?_)
      clear hK K hS
      try simp only [Act.put, List.getElem_toArray, List.getElem_cons_succ, List.getElem_cons_zero, List.setIfInBounds_toArray, List.set_cons_zero, List.set_cons_succ]
      refine wpAnyH_ready (rs := [0]) (by kernel_rfl) (by simp) ?_
      refine (AllReadyH.cons rfl (fun K hK => ?_) AllReadyH.nil)
      have J := Lib.hid (In3.buildA I.out)
      have hS := Lib.hid (HSH.out _ J.out.bl)
      clear I
      have I := J
      clear J
      go_simp
      refine hK.out _ _ hS.out (fun hHeld => ?_)
      clear hK K hS
      try simp only [Act.put, List.getElem_toArray, List.getElem_cons_succ, List.getElem_cons_zero, List.setIfInBounds_toArray, List.set_cons_zero, List.set_cons_succ]
      refine wpAnyH_ready (rs := [3]) (by kernel_rfl) (by simp) ?_
      refine (AllReadyH.cons rfl (fun K hK => ?_) AllReadyH.nil)
      refine In3.stepA rfl (.tmp 3) (.tmp 5) rfl I.out (by simp [Act.eval, Act.put]; try rfl) (A := A1) (n := n1) (c := c1) (L := L1) (by simp [Act.eval, Act.put]) KB.out.l1 KB.out.m1 F0.out.f1 ?_
      intro PA kA eA wx hJ
      have J := Lib.hid hJ
      have hS := Lib.hid (HSH.out _ J.out.bl)
      clear I hJ
      have I := J
      clear J
      refine hK.out _ _ hS.out (fun hHeld => ?_)
      clear hK K hS
      try simp only [Act.put, List.getElem_toArray, List.getElem_cons_succ, List.getElem_cons_zero, List.setIfInBounds_toArray, List.set_cons_zero, List.set_cons_succ]
      refine wpAnyH_ready (rs := [7]) (by kernel_rfl) (by simp) ?_
      refine (AllReadyH.cons rfl (fun K hK => ?_) AllReadyH.nil)
      refine In3.stepB rfl (.tmp 7) (.tmp 9) rfl I.out (by simp [Act.eval, Act.put]; try rfl) (A := A2) (n := n2) (c := c2) (L := L2) (by simp [Act.eval, Act.put]) KB.out.l2 KB.out.m2 F0.out.f2 ?_
      intro PB kB eB wx hJ
      have J := Lib.hid hJ
      have hS := Lib.hid (HSH.out _ J.out.bl)
      clear I hJ
      have I := J
      clear J
      refine hK.out _ _ hS.out (fun hHeld => ?_)
      clear hK K hS
      try simp only [Act.put, List.getElem_toArray, List.getElem_cons_succ, List.getElem_cons_zero, List.setIfInBounds_toArray, List.set_cons_zero, List.set_cons_succ]
      refine wpAnyH_ready (rs := [11]) (by kernel_rfl) (by simp) ?_
      refine (AllReadyH.cons rfl (fun K hK => ?_) AllReadyH.nil)
      refine In3.stepC rfl (.tmp 11) (.tmp 13) rfl I.out (by simp [Act.eval, Act.put]; try rfl) (A := A3) (n := n3) (c := c3) (L := O) (by simp [Act.eval, Act.put]) KB.out.l3 KB.out.m3 F0.out.f3 ?_
      intro PC kC eC wx hJ
      have J := Lib.hid hJ
      have hS := Lib.hid (HSH.out _ J.out.bl)
      clear I hJ
      have I := J
      clear J
      refine hK.out _ _ hS.out (fun hHeld => ?_)
      clear hK K hS
      try simp only [Act.put, List.getElem_toArray, List.getElem_cons_succ, List.getElem_cons_zero, List.setIfInBounds_toArray, List.set_cons_zero, List.set_cons_succ]
      refine wpAnyH_take (i := 12) (v := ?_) rfl (by kernel_rfl) (by kernel_rfl) (by kernel_rfl) (fun _ _ _ h => h) (Or.inl ⟨by kernel_rfl, ?_⟩) (by assumption) ?_
      rotate_left
      · (intro wx hSw; (try dsimp only at hSw); go_simp; try (with_reducible rfl))
      try simp only [Act.put, List.getElem_toArray, List.getElem_cons_succ, List.getElem_cons_zero, List.setIfInBounds_toArray, List.set_cons_zero, List.set_cons_succ]
      refine wpAnyH_ready (rs := [13]) (by kernel_rfl) (by simp) ?_
      refine (AllReadyH.cons rfl (fun K hK => ?_) AllReadyH.nil)
      obtain ⟨z0, z1, z2, f0⟩ := HRS.out _ I.out.bl
      go_simp
      refine hK.out _ _ ?_ (fun hHeld => ?_)
      · simp only [World.cell?_setCell_other _ _ _ _ (show (⟨w.heap.size + 1, 0, none⟩ : Addr) ≠ ⟨w.heap.size, _, none⟩ from by simp), World.cell?_setCell_other _ _ _ _ (show (⟨w.heap.size + 1, 1, none⟩ : Addr) ≠ ⟨w.heap.size, _, none⟩ from by simp), World.cell?_setCell_other _ _ _ _ (show (⟨w.heap.size + 1, 2, none⟩ : Addr) ≠ ⟨w.heap.size, _, none⟩ from by simp)]; exact HSH.out _ I.out.bl
      clear hK K
      try simp only [Act.put, List.getElem_toArray, List.getElem_cons_succ, List.getElem_cons_zero, List.setIfInBounds_toArray, List.set_cons_zero, List.set_cons_succ]
      refine wpAnyH_done (by kernel_rfl) ?_ _
      go_wp2
      refine bodyPost_ret (v := .agg #[.slice PA kA eA, .slice PB kB eB, .slice PC kC eC]) (by simp [results, Try.results52, go_sem, z0, z1, z2]) rfl ⟨.slice PA kA eA, .slice PB kB eB, .slice PC kC eC, rfl, I.out.fin B0.out (b := w.heap.size + 1) (by omega) (by omega) _ _ _⟩
  · have J := Lib.hid (In3.buildC I.out)
    have hS := Lib.hid (HSH.out _ J.out.bl)
    clear I
    have I := J
    clear J
    go_simp
    refine hK.out _ _ hS.out (fun hHeld => ?_)
    clear hK K hS
    try simp only [Act.put, List.getElem_toArray, List.getElem_cons_succ, List.getElem_cons_zero, List.setIfInBounds_toArray, List.set_cons_zero, List.set_cons_succ]
    refine wpAnyH_ready (rs := [0, 4]) (by kernel_rfl) (by simp) ?_
    refine (AllReadyH.cons rfl (fun K hK => ?_) (AllReadyH.cons rfl (fun K hK => ?_) AllReadyH.nil))
    · have J := Lib.hid (In3.buildA I.out)
      have hS := Lib.hid (HSH.out _ J.out.bl)
      clear I
      have I := J
      clear J
      go_simp
      refine hK.out _ _ hS.out (fun hHeld => ?_)
      clear hK K hS
      try simp only [Act.put, List.getElem_toArray, List.getElem_cons_succ, List.getElem_cons_zero, List.setIfInBounds_toArray, List.set_cons_zero, List.set_cons_succ]
      refine wpAnyH_ready (rs := [3, 4]) (by kernel_rfl) (by simp) ?_
      refine (AllReadyH.cons rfl (fun K hK => ?_) (AllReadyH.cons rfl (fun K hK => ?_) AllReadyH.nil))
      · refine In3.stepA rfl (.tmp 3) (.tmp 5) rfl I.out (by simp [Act.eval, Act.put]; try rfl) (A := A1) (n := n1) (c := c1) (L := L1) (by simp [Act.eval, Act.put]) KB.out.l1 KB.out.m1 F0.out.f1 ?_
        intro PA kA eA wx hJ
        have J := Lib.hid hJ
        have hS := Lib.hid (HSH.out _ J.out.bl)
        clear I hJ
        have I := J
        clear J
        refine hK.out _ _ hS.out (fun hHeld => ?_)
        clear hK K hS
        try simp only [Act.put, List.getElem_toArray, List.getElem_cons_succ, List.getElem_cons_zero, List.setIfInBounds_toArray, List.set_cons_zero, List.set_cons_succ]
        refine wpAnyH_ready (rs := [4]) (by kernel_rfl) (by simp) ?_
        refine (AllReadyH.cons rfl (fun K hK => ?_) AllReadyH.nil)
        have J := Lib.hid (In3.buildB I.out)
        have hS := Lib.hid (HSH.out _ J.out.bl)
        clear I
        have I := J
        clear J
        go_simp
        refine hK.out _ _ hS.out (fun hHeld => ?_)
        clear hK K hS
        try simp only [Act.put, List.getElem_toArray, List.getElem_cons_succ, List.getElem_cons_zero, List.setIfInBounds_toArray, List.set_cons_zero, List.set_cons_succ]
        refine wpAnyH_ready (rs := [7]) (by kernel_rfl) (by simp) ?_
        refine (AllReadyH.cons rfl (fun K hK => ?_) AllReadyH.nil)
        refine In3.stepB rfl (.tmp 7) (.tmp 9) rfl I.out (by simp [Act.eval, Act.put]; try rfl) (A := A2) (n := n2) (c := c2) (L := L2) (by simp [Act.eval, Act.put]) KB.out.l2 KB.out.m2 F0.out.f2 ?_
        intro PB kB eB wx hJ
        have J := Lib.hid hJ
        have hS := Lib.hid (HSH.out _ J.out.bl)
        clear I hJ
        have I := J
        clear J
        refine hK.out _ _ hS.out (fun hHeld => ?_)
        clear hK K hS
        try simp only [Act.put, List.getElem_toArray, List.getElem_cons_succ, List.getElem_cons_zero, List.setIfInBounds_toArray, List.set_cons_zero, List.set_cons_succ]
        refine wpAnyH_ready (rs := [11]) (by kernel_rfl) (by simp) ?_
        refine (AllReadyH.cons rfl (fun K hK => ?_) AllReadyH.nil)
        refine In3.stepC rfl (.tmp 11) (.tmp 13) rfl I.out (by simp [Act.eval, Act.put]; try rfl) (A := A3) (n := n3) (c := c3) (L := O) (by simp [Act.eval, Act.put]) KB.out.l3 KB.out.m3 F0.out.f3 ?_
        intro PC kC eC wx hJ
        have J := Lib.hid hJ
        have hS := Lib.hid (HSH.out _ J.out.bl)
        clear I hJ
        have I := J
        clear J
        refine hK.out _ _ hS.out (fun hHeld => ?_)
        clear hK K hS
        try simp only [Act.put, List.getElem_toArray, List.getElem_cons_succ, List.getElem_cons_zero, List.setIfInBounds_toArray, List.set_cons_zero, List.set_cons_succ]
        refine wpAnyH_take (i := 12) (v := ?_) rfl (by kernel_rfl) (by kernel_rfl) (by kernel_rfl) (fun _ _ _ h => h) (Or.inl ⟨by kernel_rfl, ?_⟩) (by assumption) ?_
        rotate_left
        · (intro wx hSw; (try dsimp only at hSw); go_simp; try (with_reducible rfl))
        try simp only [Act.put, List.getElem_toArray, List.getElem_cons_succ, List.getElem_cons_zero, List.setIfInBounds_toArray, List.set_cons_zero, List.set_cons_succ]
        refine wpAnyH_ready (rs := [13]) (by kernel_rfl) (by simp) ?_
        refine (AllReadyH.cons rfl (fun K hK => ?_) AllReadyH.nil)
        obtain ⟨z0, z1, z2, f0⟩ := HRS.out _ I.out.bl
        go_simp
        refine hK.out _ _ ?_ (fun hHeld => ?_)
        · simp only [World.cell?_setCell_other _ _ _ _ (show (⟨w.heap.size + 1, 0, none⟩ : Addr) ≠ ⟨w.heap.size, _, none⟩ from by simp), World.cell?_setCell_other _ _ _ _ (show (⟨w.heap.size + 1, 1, none⟩ : Addr) ≠ ⟨w.heap.size, _, none⟩ from by simp), World.cell?_setCell_other _ _ _ _ (show (⟨w.heap.size + 1, 2, none⟩ : Addr) ≠ ⟨w.heap.size, _, none⟩ from by simp)]; exact HSH.out _ I.out.bl
        clear hK K
        try simp only [Act.put, List.getElem_toArray, List.getElem_cons_succ, List.getElem_cons_zero, List.setIfInBounds_toArray, List.set_cons_zero, List.set_cons_succ]
        refine wpAnyH_done (by kernel_rfl) ?_ _
        go_wp2
        refine bodyPost_ret (v := .agg #[.slice PA kA eA, .slice PB kB eB, .slice PC kC eC]) (by simp [results, Try.results52, go_sem, z0, z1, z2]) rfl ⟨.slice PA kA eA, .slice PB kB eB, .slice PC kC eC, rfl, I.out.fin B0.out (b := w.heap.size + 1) (by omega) (by omega) _ _ _⟩
      · have J := Lib.hid (In3.buildB I.out)
        have hS := Lib.hid (HSH.out _ J.out.bl)
        clear I
        have I := J
        clear J
        go_simp
        refine hK.out _ _ hS.out (fun hHeld => ?_)
        clear hK K hS
        try simp only [Act.put, List.getElem_toArray, List.getElem_cons_succ, List.getElem_cons_zero, List.setIfInBounds_toArray, List.set_cons_zero, List.set_cons_succ]
        refine wpAnyH_ready (rs := [3]) (by kernel_rfl) (by simp) ?_
        refine (AllReadyH.cons rfl (fun K hK => ?_) AllReadyH.nil)
        refine In3.stepA rfl (.tmp 3) (.tmp 5) rfl I.out (by simp [Act.eval, Act.put]; try rfl) (A := A1) (n := n1) (c := c1) (L := L1) (by simp [Act.eval, Act.put]) KB.out.l1 KB.out.m1 F0.out.f1 ?_
        intro PA kA eA wx hJ
        have J := Lib.hid hJ
        have hS := Lib.hid (HSH.out _ J.out.bl)
        clear I hJ
        have I := J
        clear J
        refine hK.out _ _ hS.out (fun hHeld => ?_)
        clear hK K hS
        try simp only [Act.put, List.getElem_toArray, List.getElem_cons_succ, List.getElem_cons_zero, List.setIfInBounds_toArray, List.set_cons_zero, List.set_cons_succ]
        refine wpAnyH_ready (rs := [7]) (by kernel_rfl) (by simp) ?_
        refine (AllReadyH.cons rfl (fun K hK => ?_) AllReadyH.nil)
        refine In3.stepB rfl (.tmp 7) (.tmp 9) rfl I.out (by simp [Act.eval, Act.put]; try rfl) (A := A2) (n := n2) (c := c2) (L := L2) (by simp [Act.eval, Act.put]) KB.out.l2 KB.out.m2 F0.out.f2 ?_
        intro PB kB eB wx hJ
        have J := Lib.hid hJ
        have hS := Lib.hid (HSH.out _ J.out.bl)
        clear I hJ
        have I := J
        clear J
        refine hK.out _ _ hS.out (fun hHeld => ?_)
        clear hK K hS
        try simp only [Act.put, List.getElem_toArray, List.getElem_cons_succ, List.getElem_cons_zero, List.setIfInBounds_toArray, List.set_cons_zero, List.set_cons_succ]
        refine wpAnyH_ready (rs := [11]) (by kernel_rfl) (by simp) ?_
        refine (AllReadyH.cons rfl (fun K hK => ?_) AllReadyH.nil)
        refine In3.stepC rfl (.tmp 11) (.tmp 13) rfl I.out (by simp [Act.eval, Act.put]; try rfl) (A := A3) (n := n3) (c := c3) (L := O) (by simp [Act.eval, Act.put]) KB.out.l3 KB.out.m3 F0.out.f3 ?_
        intro PC kC eC wx hJ
        have J := Lib.hid hJ
        have hS := Lib.hid (HSH.out _ J.out.bl)
        clear I hJ
        have I := J
        clear J
        refine hK.out _ _ hS.out (fun hHeld => ?_)
        clear hK K hS
        try simp only [Act.put, List.getElem_toArray, List.getElem_cons_succ, List.getElem_cons_zero, List.setIfInBounds_toArray, List.set_cons_zero, List.set_cons_succ]
        refine wpAnyH_take (i := 12) (v := ?_) rfl (by kernel_rfl) (by kernel_rfl) (by kernel_rfl) (fun _ _ _ h => h) (Or.inl ⟨by kernel_rfl, ?_⟩) (by assumption) ?_
        rotate_left
        · (intro wx hSw; (try dsimp only at hSw); go_simp; try (with_reducible rfl))
        try simp only [Act.put, List.getElem_toArray, List.getElem_cons_succ, List.getElem_cons_zero, List.setIfInBounds_toArray, List.set_cons_zero, List.set_cons_succ]
        refine wpAnyH_ready (rs := [13]) (by kernel_rfl) (by simp) ?_
        refine (AllReadyH.cons rfl (fun K hK => ?_) AllReadyH.nil)
        obtain ⟨z0, z1, z2, f0⟩ := HRS.out _ I.out.bl
        go_simp
        refine hK.out _ _ ?_ (fun hHeld => ?_)
        · simp only [World.cell?_setCell_other _ _ _ _ (show (⟨w.heap.size + 1, 0, none⟩ : Addr) ≠ ⟨w.heap.size, _, none⟩ from by simp), World.cell?_setCell_other _ _ _ _ (show (⟨w.heap.size + 1, 1, none⟩ : Addr) ≠ ⟨w.heap.size, _, none⟩ from by simp), World.cell?_setCell_other _ _ _ _ (show (⟨w.heap.size + 1, 2, none⟩ : Addr) ≠ ⟨w.heap.size, _, none⟩ from by simp)]; exact HSH.out _ I.out.bl
        clear hK K
        try simp only [Act.put, List.getElem_toArray, List.getElem_cons_succ, List.getElem_cons_zero, List.setIfInBounds_toArray, List.set_cons_zero, List.set_cons_succ]
        refine wpAnyH_done (by kernel_rfl) ?_ _
        go_wp2
        refine bodyPost_ret (v := .agg #[.slice PA kA eA, .slice PB kB eB, .slice PC kC eC]) (by simp [results, Try.results52, go_sem, z0, z1, z2]) rfl ⟨.slice PA kA eA, .slice PB kB eB, .slice PC kC eC, rfl, I.out.fin B0.out (b := w.heap.size + 1) (by omega) (by omega) _ _ _⟩
    · have J := Lib.hid (In3.buildB I.out)
      have hS := Lib.hid (HSH.out _ J.out.bl)
      clear I
      have I := J
      clear J
      go_simp
      refine hK.out _ _ hS.out (fun hHeld => ?_)
      clear hK K hS
      try simp only [Act.put, List.getElem_toArray, List.getElem_cons_succ, List.getElem_cons_zero, List.setIfInBounds_toArray, List.set_cons_zero, List.set_cons_succ]
      refine wpAnyH_ready (rs := [0]) (by kernel_rfl) (by simp) ?_
      refine (AllReadyH.cons rfl (fun K hK => ?_) AllReadyH.nil)
      have J := Lib.hid (In3.buildA I.out)
      have hS := Lib.hid (HSH.out _ J.out.bl)
      clear I
      have I := J
      clear J
      go_simp
      refine hK.out _ _ hS.out (fun hHeld => ?_)
      clear hK K hS
      try simp only [Act.put, List.getElem_toArray, List.getElem_cons_succ, List.getElem_cons_zero, List.setIfInBounds_toArray, List.set_cons_zero, List.set_cons_succ]
      refine wpAnyH_ready (rs := [3]) (by kernel_rfl) (by simp) ?_
      refine (AllReadyH.cons rfl (fun K hK => ?_) AllReadyH.nil)
      refine In3.stepA rfl (.tmp 3) (.tmp 5) rfl I.out (by simp [Act.eval, Act.put]; try rfl) (A := A1) (n := n1) (c := c1) (L := L1) (by simp [Act.eval, Act.put]) KB.out.l1 KB.out.m1 F0.out.f1 ?_
      intro PA kA eA wx hJ
      have J := Lib.hid hJ
      have hS := Lib.hid (HSH.out _ J.out.bl)
      clear I hJ
      have I := J
      clear J
      refine hK.out _ _ hS.out (fun hHeld => ?_)
      clear hK K hS
      try simp only [Act.put, List.getElem_toArray, List.getElem_cons_succ, List.getElem_cons_zero, List.setIfInBounds_toArray, List.set_cons_zero, List.set_cons_succ]
      refine wpAnyH_ready (rs := [7]) (by kernel_rfl) (by simp) ?_
      refine (AllReadyH.cons rfl (fun K hK => ?_) AllReadyH.nil)
      refine In3.stepB rfl (.tmp 7) (.tmp 9) rfl I.out (by simp [Act.eval, Act.put]; try rfl) (A := A2) (n := n2) (c := c2) (L := L2) (by simp [Act.eval, Act.put]) KB.out.l2 KB.out.m2 F0.out.f2 ?_
      intro PB kB eB wx hJ
      have J := Lib.hid hJ
      have hS := Lib.hid (HSH.out _ J.out.bl)
      clear I hJ
      have I := J
      clear J
      refine hK.out _ _ hS.out (fun hHeld => ?_)
      clear hK K hS
      try simp only [Act.put, List.getElem_toArray, List.getElem_cons_succ, List.getElem_cons_zero, List.setIfInBounds_toArray, List.set_cons_zero, List.set_cons_succ]
      refine wpAnyH_ready (rs := [11]) (by kernel_rfl) (by simp) ?_
      refine (AllReadyH.cons rfl (fun K hK => ?_) AllReadyH.nil)
      refine In3.stepC rfl (.tmp 11) (.tmp 13) rfl I.out (by simp [Act.eval, Act.put]; try rfl) (A := A3) (n := n3) (c := c3) (L := O) (by simp [Act.eval, Act.put]) KB.out.l3 KB.out.m3 F0.out.f3 ?_
      intro PC kC eC wx hJ
      have J := Lib.hid hJ
      have hS := Lib.hid (HSH.out _ J.out.bl)
      clear I hJ
      have I := J
      clear J
      refine hK.out _ _ hS.out (fun hHeld => ?_)
      clear hK K hS
      try simp only [Act.put, List.getElem_toArray, List.getElem_cons_succ, List.getElem_cons_zero, List.setIfInBounds_toArray, List.set_cons_zero, List.set_cons_succ]
      refine wpAnyH_take (i := 12) (v := ?_) rfl (by kernel_rfl) (by kernel_rfl) (by kernel_rfl) (fun _ _ _ h => h) (Or.inl ⟨by kernel_rfl, ?_⟩) (by assumption) ?_
      rotate_left
      · (intro wx hSw; (try dsimp only at hSw); go_simp; try (with_reducible rfl))
      try simp only [Act.put, List.getElem_toArray, List.getElem_cons_succ, List.getElem_cons_zero, List.setIfInBounds_toArray, List.set_cons_zero, List.set_cons_succ]
      refine wpAnyH_ready (rs := [13]) (by kernel_rfl) (by simp) ?_
      refine (AllReadyH.cons rfl (fun K hK => ?_) AllReadyH.nil)
      obtain ⟨z0, z1, z2, f0⟩ := HRS.out _ I.out.bl
      go_simp
      refine hK.out _ _ ?_ (fun hHeld => ?_)
      · simp only [World.cell?_setCell_other _ _ _ _ (show (⟨w.heap.size + 1, 0, none⟩ : Addr) ≠ ⟨w.heap.size, _, none⟩ from by simp), World.cell?_setCell_other _ _ _ _ (show (⟨w.heap.size + 1, 1, none⟩ : Addr) ≠ ⟨w.heap.size, _, none⟩ from by simp), World.cell?_setCell_other _ _ _ _ (show (⟨w.heap.size + 1, 2, none⟩ : Addr) ≠ ⟨w.heap.size, _, none⟩ from by simp)]; exact HSH.out _ I.out.bl
      clear hK K
      try simp only [Act.put, List.getElem_toArray, List.getElem_cons_succ, List.getElem_cons_zero, List.setIfInBounds_toArray, List.set_cons_zero, List.set_cons_succ]
      refine wpAnyH_done (by kernel_rfl) ?_ _
      go_wp2
      refine bodyPost_ret (v := .agg #[.slice PA kA eA, .slice PB kB eB, .slice PC kC eC]) (by simp [results, Try.results52, go_sem, z0, z1, z2]) rfl ⟨.slice PA kA eA, .slice PB kB eB, .slice PC kC eC, rfl, I.out.fin B0.out (b := w.heap.size + 1) (by omega) (by omega) _ _ _⟩

set_option maxRecDepth 100000 in
set_option maxHeartbeats 16000000 in
theorem sameDisk_anyL {A1 A2 A3 : Option Addr} {n1 n2 n3 c1 c2 c3 : Nat} {L1 L2 : List Fl} {O : List Dp} (hb : DkL n1 n2 n3 L1 L2 O) (w : World) (H : DiskAt w w.heap.size A1 A2 A3 L1 L2 O) :
    Calls Try.prog 55 #[.agg #[.slice A1 n1 c1, .slice A2 n2 c2, .slice A3 n3 c3]] w (DiskNew L1 L2 O w) := by
  have KH := Lib.hid H
  have KB := Lib.hid hb
  clear H hb
  obtain ⟨w0, hw0⟩ : ∃ x, x = (w.alloc (.cells #[.slice A1 n1 c1, .slice A2 n2 c2, .slice A3 n3 c3] 31)).alloc (.cells #[.slice none 0 0, .slice none 0 0, .slice none 0 0] 31) := ⟨_, rfl⟩
  have B0 := Lib.hid (show Bl w w0 from by rw [hw0]; exact ((Bl.refl w).alloc_ _).alloc_ _)
  have s0 : w0.heap.size = w.heap.size + 1 + 1 := by rw [hw0]; simp
  have HSH := Lib.hid (show ∀ wx, Bl w0 wx → wx.cell? ⟨w.heap.size, 0, none⟩ = some (.slice A1 n1 c1) ∧ wx.cell? ⟨w.heap.size, 1, none⟩ = some (.slice A2 n2 c2) ∧ wx.cell? ⟨w.heap.size, 2, none⟩ = some (.slice A3 n3 c3) from fun wx hb => by
    rw [hw0] at hb
    obtain ⟨a, b, c⟩ := box3 (Bl.trans_ ((Bl.refl (w.alloc (.cells #[.slice A1 n1 c1, .slice A2 n2 c2, .slice A3 n3 c3] 31))).alloc_ _) hb)
    exact ⟨a, b, c⟩)
  have HRS := Lib.hid (show ∀ wx, Bl w0 wx → wx.cell? ⟨w.heap.size + 1, 0, none⟩ = some (.slice none 0 0) ∧ wx.cell? ⟨w.heap.size + 1, 1, none⟩ = some (.slice none 0 0) ∧ wx.cell? ⟨w.heap.size + 1, 2, none⟩ = some (.slice none 0 0) ∧ ∀ o, wx.frozen? ⟨w.heap.size + 1, o, none⟩ = false from fun wx hb => by
    rw [hw0] at hb
    obtain ⟨a, b, c⟩ := box3 hb
    simp only [World.size_alloc] at a b c
    exact ⟨a, b, c, fun o => by rw [(bcell hb).2 _ _ (by simp)]; simp [go_sem]⟩)
  have F0 := Lib.hid (KH.out.bl B0.out)
  have I := Lib.hid (In3.start (Bl.drew_ (Bl.refl w0)))
  go_enter Try.func55, Try.ntmps55
  go_wp2_with fail
  rw [← hw0]
  clear hw0
  refine wp_region_held_drew (S := fun wx => wx.cell? ⟨w.heap.size, 0, none⟩ = some (.slice A1 n1 c1) ∧ wx.cell? ⟨w.heap.size, 1, none⟩ = some (.slice A2 n2 c2) ∧ wx.cell? ⟨w.heap.size, 2, none⟩ = some (.slice A3 n3 c3)) (by kernel_rfl) (HSH.out _ I.out.bl) (fun hHeld => ?_)
  refine wpAnyH_take (i := 0) (v := ?_) rfl (by kernel_rfl) (by kernel_rfl) (by kernel_rfl) (fun _ _ _ h => h) (Or.inl ⟨by kernel_rfl, ?_⟩) (by assumption) ?_
  rotate_left
  · (intro wx hSw; (try dsimp only at hSw); go_simp; try (with_reducible rfl))
  try simp only [Act.put, List.getElem_toArray, List.getElem_cons_succ, List.getElem_cons_zero, List.setIfInBounds_toArray, List.set_cons_zero, List.set_cons_succ]
  refine wpAnyH_take (i := 1) (v := ?_) rfl (by kernel_rfl) (by kernel_rfl) (by kernel_rfl) (fun _ _ _ h => h) (Or.inl ⟨by kernel_rfl, ?_⟩) (by assumption) ?_
  rotate_left
  · (intro wx hSw; (try dsimp only at hSw); go_simp; try (with_reducible rfl))
  try simp only [Act.put, List.getElem_toArray, List.getElem_cons_succ, List.getElem_cons_zero, List.setIfInBounds_toArray, List.set_cons_zero, List.set_cons_succ]
  refine wpAnyH_take (i := 3) (v := ?_) rfl (by kernel_rfl) (by kernel_rfl) (by kernel_rfl) (fun _ _ _ h => h) (Or.inl ⟨by kernel_rfl, ?_⟩) (by assumption) ?_
  rotate_left
  · (intro wx hSw; (try dsimp only at hSw); go_simp; try (with_reducible rfl))
  try simp only [Act.put, List.getElem_toArray, List.getElem_cons_succ, List.getElem_cons_zero, List.setIfInBounds_toArray, List.set_cons_zero, List.set_cons_succ]
  refine wpAnyH_take (i := 4) (v := ?_) rfl (by kernel_rfl) (by kernel_rfl) (by kernel_rfl) (fun _ _ _ h => h) (Or.inl ⟨by kernel_rfl, ?_⟩) (by assumption) ?_
  rotate_left
  · (intro wx hSw; (try dsimp only at hSw); go_simp; try (with_reducible rfl))
  try simp only [Act.put, List.getElem_toArray, List.getElem_cons_succ, List.getElem_cons_zero, List.setIfInBounds_toArray, List.set_cons_zero, List.set_cons_succ]
  refine wpAnyH_take (i := 6) (v := ?_) rfl (by kernel_rfl) (by kernel_rfl) (by kernel_rfl) (fun _ _ _ h => h) (Or.inl ⟨by kernel_rfl, ?_⟩) (by assumption) ?_
  rotate_left
  · (intro wx hSw; (try dsimp only at hSw); go_simp; try (with_reducible rfl))
  try simp only [Act.put, List.getElem_toArray, List.getElem_cons_succ, List.getElem_cons_zero, List.setIfInBounds_toArray, List.set_cons_zero, List.set_cons_succ]
  refine wpAnyH_take (i := 7) (v := ?_) rfl (by kernel_rfl) (by kernel_rfl) (by kernel_rfl) (fun _ _ _ h => h) (Or.inl ⟨by kernel_rfl, ?_⟩) (by assumption) ?_
  rotate_left
  · (intro wx hSw; (try dsimp only at hSw); go_simp; try (with_reducible rfl))
  try simp only [Act.put, List.getElem_toArray, List.getElem_cons_succ, List.getElem_cons_zero, List.setIfInBounds_toArray, List.set_cons_zero, List.set_cons_succ]
  refine wpAnyH_ready (rs := [2]) (by kernel_rfl) (by simp) ?_
  refine (AllReadyH.cons rfl (fun K hK => ?_) AllReadyH.nil)
  go_simp
  (go_at_call 79; refine (cloneF_any A1 n1 c1 L1 KB.out.l1 _ KB.out.m1 (F0.out.f1.bl I.out.bl)).mono ?_; rintro e wx ⟨v, rfl, hv, hbx⟩)
  obtain ⟨PA, eA, rfl, -⟩ := Owns.shape (show Owns _ _ _ _ _ _ _ from hv)
  have J := Lib.hid (In3.putA I.out hv hbx)
  have hS := Lib.hid (HSH.out _ J.out.bl)
  clear I hv hbx
  have I := J
  clear J
  try (go_wp2_with fail)
  refine hK.out _ _ hS.out (fun hHeld => ?_)
  clear hK K hS
  try simp only [Act.put, List.getElem_toArray, List.getElem_cons_succ, List.getElem_cons_zero, List.setIfInBounds_toArray, List.set_cons_zero, List.set_cons_succ]
  refine wpAnyH_ready (rs := [5]) (by kernel_rfl) (by simp) ?_
  refine (AllReadyH.cons rfl (fun K hK => ?_) AllReadyH.nil)
  go_simp
  (go_at_call 79; refine (cloneF_any A2 n2 c2 L2 KB.out.l2 _ KB.out.m2 (F0.out.f2.bl I.out.bl)).mono ?_; rintro e wx ⟨v, rfl, hv, hbx⟩)
  obtain ⟨PB, eB, rfl, -⟩ := Owns.shape (show Owns _ _ _ _ _ _ _ from hv)
  have J := Lib.hid (In3.putB I.out hv hbx)
  have hS := Lib.hid (HSH.out _ J.out.bl)
  clear I hv hbx
  have I := J
  clear J
  try (go_wp2_with fail)
  refine hK.out _ _ hS.out (fun hHeld => ?_)
  clear hK K hS
  try simp only [Act.put, List.getElem_toArray, List.getElem_cons_succ, List.getElem_cons_zero, List.setIfInBounds_toArray, List.set_cons_zero, List.set_cons_succ]
  refine wpAnyH_ready (rs := [8]) (by kernel_rfl) (by simp) ?_
  refine (AllReadyH.cons rfl (fun K hK => ?_) AllReadyH.nil)
  go_simp
  (go_at_call 85; refine (cloneO_any A3 n3 c3 O KB.out.l3 _ KB.out.m3 (F0.out.f3.bl I.out.bl)).mono ?_; rintro e wx ⟨v, rfl, hv, hbx⟩)
  obtain ⟨PC, eC, rfl, -⟩ := Owns.shape (show Owns _ _ _ _ _ _ _ from hv)
  have J := Lib.hid (In3.putC I.out hv hbx)
  have hS := Lib.hid (HSH.out _ J.out.bl)
  clear I hv hbx
  have I := J
  clear J
  try (go_wp2_with fail)
  refine hK.out _ _ hS.out (fun hHeld => ?_)
  clear hK K hS
  try simp only [Act.put, List.getElem_toArray, List.getElem_cons_succ, List.getElem_cons_zero, List.setIfInBounds_toArray, List.set_cons_zero, List.set_cons_succ]
  refine wpAnyH_take (i := 9) (v := ?_) rfl (by kernel_rfl) (by kernel_rfl) (by kernel_rfl) (fun _ _ _ h => h) (Or.inl ⟨by kernel_rfl, ?_⟩) (by assumption) ?_
  rotate_left
  · (intro wx hSw; (try dsimp only at hSw); go_simp; try (with_reducible rfl))
  try simp only [Act.put, List.getElem_toArray, List.getElem_cons_succ, List.getElem_cons_zero, List.setIfInBounds_toArray, List.set_cons_zero, List.set_cons_succ]
  refine wpAnyH_ready (rs := [10]) (by kernel_rfl) (by simp) ?_
  refine (AllReadyH.cons rfl (fun K hK => ?_) AllReadyH.nil)
  obtain ⟨z0, z1, z2, f0⟩ := HRS.out _ I.out.bl
  go_simp
  refine hK.out _ _ ?_ (fun hHeld => ?_)
  · simp only [World.cell?_setCell_other _ _ _ _ (show (⟨w.heap.size + 1, 0, none⟩ : Addr) ≠ ⟨w.heap.size, _, none⟩ from by simp), World.cell?_setCell_other _ _ _ _ (show (⟨w.heap.size + 1, 1, none⟩ : Addr) ≠ ⟨w.heap.size, _, none⟩ from by simp), World.cell?_setCell_other _ _ _ _ (show (⟨w.heap.size + 1, 2, none⟩ : Addr) ≠ ⟨w.heap.size, _, none⟩ from by simp)]; exact HSH.out _ I.out.bl
  clear hK K
  try simp only [Act.put, List.getElem_toArray, List.getElem_cons_succ, List.getElem_cons_zero, List.setIfInBounds_toArray, List.set_cons_zero, List.set_cons_succ]
  refine wpAnyH_done (by kernel_rfl) ?_ _
  go_wp2
  refine bodyPost_ret (v := .agg #[.slice PA L1.length eA, .slice PB L2.length eB, .slice PC O.length eC]) (by simp [results, Try.results55, go_sem, z0, z1, z2]) rfl ⟨.slice PA L1.length eA, .slice PB L2.length eB, .slice PC O.length eC, rfl, I.out.fin B0.out (b := w.heap.size + 1) (by omega) (by omega) _ _ _⟩

end Go.Proofs.Ytgfmgmcpfefmkaa
