/-
  What is proved here: Sync, on both sides. No conditions beyond those that each theorem states.
-/
import Derived.Test.YtipmjgciaalmbaaDKV
set_option linter.unusedSimpArgs false
set_option linter.unusedVariables false
namespace Go.Proofs.Ytipmjgciaalmbaa
open Go.RowKit

/-- A disk of its own. -/
def DiskNew (LA LB : List Fl) (LC : List Dp) (w : World) (e : Ending) (w' : World) : Prop := ∃ vA vB vC, e = .returned (.agg #[vA, vB, vC]) ∧ In3 w w' vA vB vC LA LB LC
theorem In3.low {w w0 wx : World} {vA vB vC : Value} {LA LB : List Fl} {LC : List Dp} (h : In3 w0 wx vA vB vC LA LB LC) (hw : Bl w w0) : In3 w wx vA vB vC LA LB LC :=
  ⟨h.oA.low hw.size, h.oB.low hw.size, h.oC.low hw.size, hw.trans_ h.bl, h.dAB, h.dAC, h.dBC⟩
theorem In3.blx {w0 wx wy : World} {vA vB vC : Value} {LA LB : List Fl} {LC : List Dp} (h : In3 w0 wx vA vB vC LA LB LC) (hb : Bl wx wy) : In3 w0 wy vA vB vC LA LB LC :=
  ⟨h.oA.bl hb, h.oB.bl hb, h.oC.bl hb, h.bl.trans_ hb, h.dAB, h.dAC, h.dBC⟩
theorem owns_setLow {t : TypeId} {s : Nat} {w : World} {B : Nat} {v : Value} {n : Nat} {vs : List Value} (h : Owns t s w B v n vs) {b : Nat} (hb : b < B) (o : Nat) (u : Value) : Owns t s (w.setCell ⟨b, o, none⟩ u) B v n vs :=
  Owns.setOther h (fun g hg => by
    have := (Owns.lt h g hg).1
    show g ≠ b
    omega) u
theorem bl_set_mid {w w2 wx : World} (h : Bl w w2) (k : Bl w2 wx) {b : Nat} (hb : w.heap.size ≤ b) (o : Nat) (u : Value) : Bl w (wx.setCell ⟨b, o, none⟩ u) := Bl.set_ (h.trans_ k) hb u
theorem In3.fin {w w2 wx : World} {vA vB vC : Value} {LA LB : List Fl} {LC : List Dp} (h : In3 w2 wx vA vB vC LA LB LC) (hw : Bl w w2) {b : Nat} (h1 : w.heap.size ≤ b) (h2 : b < w2.heap.size) (x y z : Value) :
    In3 w (((wx.setCell ⟨b, 0, none⟩ x).setCell ⟨b, 1, none⟩ y).setCell ⟨b, 2, none⟩ z) vA vB vC LA LB LC :=
  ⟨Owns.low (owns_setLow (owns_setLow (owns_setLow (show Owns _ _ _ _ _ _ _ from h.oA) h2 0 x) h2 1 y) h2 2 z) hw.size,
   Owns.low (owns_setLow (owns_setLow (owns_setLow (show Owns _ _ _ _ _ _ _ from h.oB) h2 0 x) h2 1 y) h2 2 z) hw.size,
   Owns.low (owns_setLow (owns_setLow (owns_setLow (show Owns _ _ _ _ _ _ _ from h.oC) h2 0 x) h2 1 y) h2 2 z) hw.size,
   Bl.set_ (Bl.set_ (Bl.set_ (hw.trans_ h.bl) h1 _) h1 _) h1 _, h.dAB, h.dAC, h.dBC⟩
/-- The disk behind a Sync. -/
def syncD (D : Dk) : List Fl := if diskB D then D.1 else []

set_option maxRecDepth 100000 in
set_option maxHeartbeats 8000000 in
theorem specSync_any {A1 A2 A3 : Option Addr} {n1 n2 n3 c1 c2 c3 : Nat} {L1 L2 : List Fl} {O : List Dp} (hb : DkB n1 n2 n3 L1 L2 O) (w : World) (H : DiskAt w w.heap.size A1 A2 A3 L1 L2 O) :
    Calls Try.prog 20 #[.agg #[.slice A1 n1 c1, .slice A2 n2 c2, .slice A3 n3 c3]] w (DiskNew (syncD (L1, L2, O)) (syncD (L1, L2, O)) [] w) := by
  have KH := Lib.hid H
  have KB := Lib.hid hb
  clear H hb
  by_cases hd : diskB (L1, L2, O) = true
  · have HD := Lib.hid hd
    have HE : syncD (L1, L2, O) = L1 := by unfold syncD; rw [hd]; rfl
    rw [HE]
    clear hd HE
    go_enter Try.func20, Try.ntmps20
    go_wp2_with fail
    refine (specOk_dk KB.out _ (KH.out.bl (by repeat' (first | exact Bl.refl _ | with_reducible assumption | with_reducible refine Bl.drew_ ?_ | with_reducible refine Bl.drewN_ ?_ _ | with_reducible refine Bl.alloc_ ?_ _ | with_reducible refine Bl.trans_ ?_ (by assumption) | with_reducible refine Bl.trans_ ?_ (And.left (by assumption)))))).mono ?_
    rintro e w2 ⟨rfl, hb2⟩
    have B2 := Lib.hid (show Bl w w2 from (((Bl.refl w).alloc_ _).alloc_ _).trans_ hb2)
    have s2 := hb2.size
    simp only [World.size_alloc] at s2
    obtain ⟨hc, hf⟩ := bcell hb2
    have q0 : w2.cell? ⟨w.heap.size, 0, none⟩ = some (.slice A1 n1 c1) := by rw [hc _ _ (by simp; omega)]; simp [go_sem]
    have y0 : w2.cell? ⟨w.heap.size + 1, 0, none⟩ = some (.slice none 0 0) := by rw [hc _ _ (by simp)]; simp [go_sem]
    have y1 : w2.cell? ⟨w.heap.size + 1, 1, none⟩ = some (.slice none 0 0) := by rw [hc _ _ (by simp)]; simp [go_sem]
    have y2 : w2.cell? ⟨w.heap.size + 1, 2, none⟩ = some (.slice none 0 0) := by rw [hc _ _ (by simp)]; simp [go_sem]
    have y3 : ∀ o, w2.frozen? ⟨w.heap.size + 1, o, none⟩ = false := fun o => by rw [hf _ _ (by simp)]; simp [go_sem]
    have HSH := Lib.hid (show ∀ wx, Bl w2 wx → wx.cell? ⟨w.heap.size, 0, none⟩ = some (.slice A1 n1 c1) from fun wx hb => ((bcell hb).1 _ _ (by omega)).trans q0)
    have HRS := Lib.hid (show ∀ wx, Bl w2 wx → wx.cell? ⟨w.heap.size + 1, 0, none⟩ = some (.slice none 0 0) ∧ wx.cell? ⟨w.heap.size + 1, 1, none⟩ = some (.slice none 0 0) ∧ wx.cell? ⟨w.heap.size + 1, 2, none⟩ = some (.slice none 0 0) ∧ ∀ o, wx.frozen? ⟨w.heap.size + 1, o, none⟩ = false from fun wx hb =>
      ⟨((bcell hb).1 _ _ (by omega)).trans y0, ((bcell hb).1 _ _ (by omega)).trans y1, ((bcell hb).1 _ _ (by omega)).trans y2, fun o => ((bcell hb).2 _ _ (by omega)).trans (y3 o)⟩)
    have F2 := Lib.hid (KH.out.f1.bl B2.out)
    have I := Lib.hid (In3.start (Bl.drew_ (Bl.refl w2)))
    rw [HD.out]
    clear hb2 hc hf y0 y1 y2 y3
    go_wp2_with fail
    refine wp_region_held_drew (S := fun wx => wx.cell? ⟨w.heap.size, 0, none⟩ = some (.slice A1 n1 c1)) (by kernel_rfl) (HSH.out _ I.out.bl) (fun hHeld => ?_)
    clear q0
    refine wpAnyH_take (i := 1) (v := ?_) rfl (by kernel_rfl) (by kernel_rfl) (by kernel_rfl) (fun _ _ _ h => h) (Or.inl ⟨by kernel_rfl, ?_⟩) (by assumption) ?_
    rotate_left
    · (intro wx hSw; (try dsimp only at hSw); go_simp; try (with_reducible rfl))
    try simp only [Act.put, List.getElem_toArray, List.getElem_cons_succ, List.getElem_cons_zero, List.setIfInBounds_toArray, List.set_cons_zero, List.set_cons_succ]
    refine wpAnyH_take (i := 2) (v := ?_) rfl (by kernel_rfl) (by kernel_rfl) (by kernel_rfl) (fun _ _ _ h => h) (Or.inl ⟨by kernel_rfl, ?_⟩) (by assumption) ?_
    rotate_left
    · (intro wx hSw; (try dsimp only at hSw); go_simp; try (with_reducible rfl))
    try simp only [Act.put, List.getElem_toArray, List.getElem_cons_succ, List.getElem_cons_zero, List.setIfInBounds_toArray, List.set_cons_zero, List.set_cons_succ]
    refine wpAnyH_take (i := 5) (v := ?_) rfl (by kernel_rfl) (by kernel_rfl) (by kernel_rfl) (fun _ _ _ h => h) (Or.inl ⟨by kernel_rfl, ?_⟩) (by assumption) ?_
    rotate_left
    · (intro wx hSw; (try dsimp only at hSw); go_simp; try (with_reducible rfl))
    try simp only [Act.put, List.getElem_toArray, List.getElem_cons_succ, List.getElem_cons_zero, List.setIfInBounds_toArray, List.set_cons_zero, List.set_cons_succ]
    refine wpAnyH_take (i := 6) (v := ?_) rfl (by kernel_rfl) (by kernel_rfl) (by kernel_rfl) (fun _ _ _ h => h) (Or.inl ⟨by kernel_rfl, ?_⟩) (by assumption) ?_
    rotate_left
    · (intro wx hSw; (try dsimp only at hSw); go_simp; try (with_reducible rfl))
    try simp only [Act.put, List.getElem_toArray, List.getElem_cons_succ, List.getElem_cons_zero, List.setIfInBounds_toArray, List.set_cons_zero, List.set_cons_succ]
    refine wpAnyH_ready (rs := [0, 4]) (by kernel_rfl) (by simp) ?_
    refine (AllReadyH.cons rfl (fun K hK => ?_) (AllReadyH.cons rfl (fun K hK => ?_) AllReadyH.nil))
    · have J := Lib.hid (In3.buildA I.out)
      have hS := Lib.hid (HSH.out _ J.out.bl)
      clear I
      have I := J
      clear J
      go_simp
      refine hK.out _ _ hS.out (fun hHeld => ?_)
      clear hK K hS
      try simp only [Act.put, List.getElem_toArray, List.getElem_cons_succ, List.getElem_cons_zero, List.setIfInBounds_toArray, List.set_cons_zero, List.set_cons_succ]
      refine wpAnyH_ready (rs := [3, 4]) (by kernel_rfl) (by simp) ?_
      refine (AllReadyH.cons rfl (fun K hK => ?_) (AllReadyH.cons rfl (fun K hK => ?_) AllReadyH.nil))
      · refine In3.stepA rfl (.tmp 7) (.tmp 9) rfl I.out (by simp [Act.eval, Act.put]; try rfl) (A := A1) (n := n1) (c := c1) (L := L1) (by simp [Act.eval, Act.put]) KB.out.l1 KB.out.m1 F2.out ?_
        intro PA kA eA wx hJ
        have J := Lib.hid hJ
        have hS := Lib.hid (HSH.out _ J.out.bl)
        clear I hJ
        have I := J
        clear J
        refine hK.out _ _ hS.out (fun hHeld => ?_)
        clear hK K hS
        try simp only [Act.put, List.getElem_toArray, List.getElem_cons_succ, List.getElem_cons_zero, List.setIfInBounds_toArray, List.set_cons_zero, List.set_cons_succ]
        refine wpAnyH_ready (rs := [4]) (by kernel_rfl) (by simp) ?_
        refine (AllReadyH.cons rfl (fun K hK => ?_) AllReadyH.nil)
        have J := Lib.hid (In3.buildB I.out)
        have hS := Lib.hid (HSH.out _ J.out.bl)
        clear I
        have I := J
        clear J
        go_simp
        refine hK.out _ _ hS.out (fun hHeld => ?_)
        clear hK K hS
        try simp only [Act.put, List.getElem_toArray, List.getElem_cons_succ, List.getElem_cons_zero, List.setIfInBounds_toArray, List.set_cons_zero, List.set_cons_succ]
        refine wpAnyH_ready (rs := [7]) (by kernel_rfl) (by simp) ?_
        refine (AllReadyH.cons rfl (fun K hK => ?_) AllReadyH.nil)
        refine In3.stepB rfl (.tmp 11) (.tmp 13) rfl I.out (by simp [Act.eval, Act.put]; try rfl) (A := A1) (n := n1) (c := c1) (L := L1) (by simp [Act.eval, Act.put]) KB.out.l1 KB.out.m1 F2.out ?_
        intro PB kB eB wx hJ
        have J := Lib.hid hJ
        have hS := Lib.hid (HSH.out _ J.out.bl)
        clear I hJ
        have I := J
        clear J
        refine hK.out _ _ hS.out (fun hHeld => ?_)
        clear hK K hS
        try simp only [Act.put, List.getElem_toArray, List.getElem_cons_succ, List.getElem_cons_zero, List.setIfInBounds_toArray, List.set_cons_zero, List.set_cons_succ]
        refine wpAnyH_take (i := 8) (v := ?_) rfl (by kernel_rfl) (by kernel_rfl) (by kernel_rfl) (fun _ _ _ h => h) (Or.inl ⟨by kernel_rfl, ?_⟩) (by assumption) ?_
        rotate_left
        · (intro wx hSw; (try dsimp only at hSw); go_simp; try (with_reducible rfl))
        try simp only [Act.put, List.getElem_toArray, List.getElem_cons_succ, List.getElem_cons_zero, List.setIfInBounds_toArray, List.set_cons_zero, List.set_cons_succ]
        refine wpAnyH_ready (rs := [9]) (by kernel_rfl) (by simp) ?_
        refine (AllReadyH.cons rfl (fun K hK => ?_) AllReadyH.nil)
        obtain ⟨z0, z1, z2, f0⟩ := HRS.out _ I.out.bl
        go_simp
        refine hK.out _ _ ?_ (fun hHeld => ?_)
        · rw [World.cell?_setCell_other _ _ _ _ (by simp), World.cell?_setCell_other _ _ _ _ (by simp), World.cell?_setCell_other _ _ _ _ (by simp)]; exact HSH.out _ I.out.bl
        clear hK K
        try simp only [Act.put, List.getElem_toArray, List.getElem_cons_succ, List.getElem_cons_zero, List.setIfInBounds_toArray, List.set_cons_zero, List.set_cons_succ]
        refine wpAnyH_done (by kernel_rfl) ?_ _
        go_wp2
        refine bodyPost_ret (v := .agg #[.slice PA kA eA, .slice PB kB eB, .slice none 0 0]) (by simp [results, Try.results20, go_sem, z0, z1, z2]) rfl ⟨.slice PA kA eA, .slice PB kB eB, .slice none 0 0, rfl, I.out.fin B2.out (b := w.heap.size + 1) (by omega) (by omega) _ _ _⟩
      · have J := Lib.hid (In3.buildB I.out)
        have hS := Lib.hid (HSH.out _ J.out.bl)
        clear I
        have I := J
        clear J
        go_simp
        refine hK.out _ _ hS.out (fun hHeld => ?_)
        clear hK K hS
        try simp only [Act.put, List.getElem_toArray, List.getElem_cons_succ, List.getElem_cons_zero, List.setIfInBounds_toArray, List.set_cons_zero, List.set_cons_succ]
        refine wpAnyH_ready (rs := [3]) (by kernel_rfl) (by simp) ?_
        refine (AllReadyH.cons rfl (fun K hK => ?_) AllReadyH.nil)
        refine In3.stepA rfl (.tmp 7) (.tmp 9) rfl I.out (by simp [Act.eval, Act.put]; try rfl) (A := A1) (n := n1) (c := c1) (L := L1) (by simp [Act.eval, Act.put]) KB.out.l1 KB.out.m1 F2.out ?_
        intro PA kA eA wx hJ
        have J := Lib.hid hJ
        have hS := Lib.hid (HSH.out _ J.out.bl)
        clear I hJ
        have I := J
        clear J
        refine hK.out _ _ hS.out (fun hHeld => ?_)
        clear hK K hS
        try simp only [Act.put, List.getElem_toArray, List.getElem_cons_succ, List.getElem_cons_zero, List.setIfInBounds_toArray, List.set_cons_zero, List.set_cons_succ]
        refine wpAnyH_ready (rs := [7]) (by kernel_rfl) (by simp) ?_
        refine (AllReadyH.cons rfl (fun K hK => ?_) AllReadyH.nil)
        refine In3.stepB rfl (.tmp 11) (.tmp 13) rfl I.out (by simp [Act.eval, Act.put]; try rfl) (A := A1) (n := n1) (c := c1) (L := L1) (by simp [Act.eval, Act.put]) KB.out.l1 KB.out.m1 F2.out ?_
        intro PB kB eB wx hJ
        have J := Lib.hid hJ
        have hS := Lib.hid (HSH.out _ J.out.bl)
        clear I hJ
        have I := J
        clear J
        refine hK.out _ _ hS.out (fun hHeld => ?_)
        clear hK K hS
        try simp only [Act.put, List.getElem_toArray, List.getElem_cons_succ, List.getElem_cons_zero, List.setIfInBounds_toArray, List.set_cons_zero, List.set_cons_succ]
        refine wpAnyH_take (i := 8) (v := ?_) rfl (by kernel_rfl) (by kernel_rfl) (by kernel_rfl) (fun _ _ _ h => h) (Or.inl ⟨by kernel_rfl, ?_⟩) (by assumption) ?_
        rotate_left
        · (intro wx hSw; (try dsimp only at hSw); go_simp; try (with_reducible rfl))
        try simp only [Act.put, List.getElem_toArray, List.getElem_cons_succ, List.getElem_cons_zero, List.setIfInBounds_toArray, List.set_cons_zero, List.set_cons_succ]
        refine wpAnyH_ready (rs := [9]) (by kernel_rfl) (by simp) ?_
        refine (AllReadyH.cons rfl (fun K hK => ?_) AllReadyH.nil)
        obtain ⟨z0, z1, z2, f0⟩ := HRS.out _ I.out.bl
        go_simp
        refine hK.out _ _ ?_ (fun hHeld => ?_)
        · rw [World.cell?_setCell_other _ _ _ _ (by simp), World.cell?_setCell_other _ _ _ _ (by simp), World.cell?_setCell_other _ _ _ _ (by simp)]; exact HSH.out _ I.out.bl
        clear hK K
        try simp only [Act.put, List.getElem_toArray, List.getElem_cons_succ, List.getElem_cons_zero, List.setIfInBounds_toArray, List.set_cons_zero, List.set_cons_succ]
        refine wpAnyH_done (by kernel_rfl) ?_ _
        go_wp2
        refine bodyPost_ret (v := .agg #[.slice PA kA eA, .slice PB kB eB, .slice none 0 0]) (by simp [results, Try.results20, go_sem, z0, z1, z2]) rfl ⟨.slice PA kA eA, .slice PB kB eB, .slice none 0 0, rfl, I.out.fin B2.out (b := w.heap.size + 1) (by omega) (by omega) _ _ _⟩
    · have J := Lib.hid (In3.buildB I.out)
      have hS := Lib.hid (HSH.out _ J.out.bl)
      clear I
      have I := J
      clear J
      go_simp
      refine hK.out _ _ hS.out (fun hHeld => ?_)
      clear hK K hS
      try simp only [Act.put, List.getElem_toArray, List.getElem_cons_succ, List.getElem_cons_zero, List.setIfInBounds_toArray, List.set_cons_zero, List.set_cons_succ]
      refine wpAnyH_ready (rs := [0]) (by kernel_rfl) (by simp) ?_
      refine (AllReadyH.cons rfl (fun K hK => ?_) AllReadyH.nil)
      have J := Lib.hid (In3.buildA I.out)
      have hS := Lib.hid (HSH.out _ J.out.bl)
      clear I
      have I := J
      clear J
      go_simp
      refine hK.out _ _ hS.out (fun hHeld => ?_)
      clear hK K hS
      try simp only [Act.put, List.getElem_toArray, List.getElem_cons_succ, List.getElem_cons_zero, List.setIfInBounds_toArray, List.set_cons_zero, List.set_cons_succ]
      refine wpAnyH_ready (rs := [3]) (by kernel_rfl) (by simp) ?_
      refine (AllReadyH.cons rfl (fun K hK => ?_) AllReadyH.nil)
      refine In3.stepA rfl (.tmp 7) (.tmp 9) rfl I.out (by simp [Act.eval, Act.put]; try rfl) (A := A1) (n := n1) (c := c1) (L := L1) (by simp [Act.eval, Act.put]) KB.out.l1 KB.out.m1 F2.out ?_
      intro PA kA eA wx hJ
      have J := Lib.hid hJ
      have hS := Lib.hid (HSH.out _ J.out.bl)
      clear I hJ
      have I := J
      clear J
      refine hK.out _ _ hS.out (fun hHeld => ?_)
      clear hK K hS
      try simp only [Act.put, List.getElem_toArray, List.getElem_cons_succ, List.getElem_cons_zero, List.setIfInBounds_toArray, List.set_cons_zero, List.set_cons_succ]
      refine wpAnyH_ready (rs := [7]) (by kernel_rfl) (by simp) ?_
      refine (AllReadyH.cons rfl (fun K hK => ?_) AllReadyH.nil)
      refine In3.stepB rfl (.tmp 11) (.tmp 13) rfl I.out (by simp [Act.eval, Act.put]; try rfl) (A := A1) (n := n1) (c := c1) (L := L1) (by simp [Act.eval, Act.put]) KB.out.l1 KB.out.m1 F2.out ?_
      intro PB kB eB wx hJ
      have J := Lib.hid hJ
      have hS := Lib.hid (HSH.out _ J.out.bl)
      clear I hJ
      have I := J
      clear J
      refine hK.out _ _ hS.out (fun hHeld => ?_)
      clear hK K hS
      try simp only [Act.put, List.getElem_toArray, List.getElem_cons_succ, List.getElem_cons_zero, List.setIfInBounds_toArray, List.set_cons_zero, List.set_cons_succ]
      refine wpAnyH_take (i := 8) (v := ?_) rfl (by kernel_rfl) (by kernel_rfl) (by kernel_rfl) (fun _ _ _ h => h) (Or.inl ⟨by kernel_rfl, ?_⟩) (by assumption) ?_
      rotate_left
      · (intro wx hSw; (try dsimp only at hSw); go_simp; try (with_reducible rfl))
      try simp only [Act.put, List.getElem_toArray, List.getElem_cons_succ, List.getElem_cons_zero, List.setIfInBounds_toArray, List.set_cons_zero, List.set_cons_succ]
      refine wpAnyH_ready (rs := [9]) (by kernel_rfl) (by simp) ?_
      refine (AllReadyH.cons rfl (fun K hK => ?_) AllReadyH.nil)
      obtain ⟨z0, z1, z2, f0⟩ := HRS.out _ I.out.bl
      go_simp
      refine hK.out _ _ ?_ (fun hHeld => ?_)
      · rw [World.cell?_setCell_other _ _ _ _ (by simp), World.cell?_setCell_other _ _ _ _ (by simp), World.cell?_setCell_other _ _ _ _ (by simp)]; exact HSH.out _ I.out.bl
      clear hK K
      try simp only [Act.put, List.getElem_toArray, List.getElem_cons_succ, List.getElem_cons_zero, List.setIfInBounds_toArray, List.set_cons_zero, List.set_cons_succ]
      refine wpAnyH_done (by kernel_rfl) ?_ _
      go_wp2
      refine bodyPost_ret (v := .agg #[.slice PA kA eA, .slice PB kB eB, .slice none 0 0]) (by simp [results, Try.results20, go_sem, z0, z1, z2]) rfl ⟨.slice PA kA eA, .slice PB kB eB, .slice none 0 0, rfl, I.out.fin B2.out (b := w.heap.size + 1) (by omega) (by omega) _ _ _⟩
  · have hd' : diskB (L1, L2, O) = false := by simpa using hd
    have HD := Lib.hid hd'
    have HE : syncD (L1, L2, O) = [] := by unfold syncD; rw [hd']; rfl
    rw [HE]
    clear hd hd' HE
    go_enter Try.func20, Try.ntmps20
    go_wp2_with fail
    refine (specOk_dk KB.out _ (KH.out.bl (by repeat' (first | exact Bl.refl _ | with_reducible assumption | with_reducible refine Bl.drew_ ?_ | with_reducible refine Bl.drewN_ ?_ _ | with_reducible refine Bl.alloc_ ?_ _ | with_reducible refine Bl.trans_ ?_ (by assumption) | with_reducible refine Bl.trans_ ?_ (And.left (by assumption)))))).mono ?_
    rintro e w2 ⟨rfl, hb2⟩
    have B2 := Lib.hid (show Bl w w2 from (((Bl.refl w).alloc_ _).alloc_ _).trans_ hb2)
    have s2 := hb2.size
    simp only [World.size_alloc] at s2
    obtain ⟨hc, hf⟩ := bcell hb2
    have i1 : w.heap.size < w2.heap.size := by omega
    have i2 : w.heap.size + 1 < w2.heap.size := by omega
    have I := Lib.hid (In3.start (Bl.refl w2))
    rw [HD.out]
    clear hb2
    go_wp2
    refine bodyPost_ret (v := .agg #[.slice none 0 0, .slice none 0 0, .slice none 0 0]) (by simp [results, Try.results20, go_sem, hc, hf, i1, i2]) rfl ⟨nilV, nilV, nilV, rfl, I.out.fin B2.out (b := w.heap.size + 1) (by omega) (by omega) _ _ _⟩

end Go.Proofs.Ytipmjgciaalmbaa
