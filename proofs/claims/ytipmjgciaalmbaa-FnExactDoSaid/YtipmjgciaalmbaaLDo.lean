/-
  What is proved here: the walk of the exact law on Do: at every disk and op that can be read it returns true and leaves what was there as it was. No conditions beyond those that each theorem states.
-/
import Derived.Test.YtipmjgciaalmbaaDKD7
import Derived.Deep.Cut
import Derived.Deep.CutRange
set_option linter.unusedSimpArgs false
set_option linter.unusedVariables false
namespace Go.Proofs.Ytipmjgciaalmbaa
open Go.RowKit

set_option maxRecDepth 100000 in
set_option maxHeartbeats 16000000 in
theorem lawDo_any (A1 A2 A3 : Option Addr) (n1 c1 n2 c2 n3 c3 : Nat) (L1 L2 : List Fl) (O : List Dp) (hn1 : n1 = L1.length) (hn2 : n2 = L2.length) (hn3 : n3 = O.length) (o : Dp) (w : World)
    (hm1 : n1 ≤ 9223372036854775807) (hm2 : n2 ≤ 9223372036854775807) (hm3 : n3 ≤ 9223372036854775807)
    (hz1 : ∀ f ∈ L1, f.1.size ≤ 9223372036854775807 ∧ f.2.size ≤ 9223372036854775807) (hz2 : ∀ f ∈ L2, f.1.size ≤ 9223372036854775807 ∧ f.2.size ≤ 9223372036854775807)
    (hz3 : ∀ o ∈ O, o.name.size ≤ 9223372036854775807 ∧ o.to.size ≤ 9223372036854775807 ∧ o.data.size ≤ 9223372036854775807)
    (H1 : FilesAt w w.heap.size A1 L1) (H2 : FilesAt w w.heap.size A2 L2) (H3 : OpsAt w w.heap.size A3 O)
    (hzo : o.name.size ≤ 9223372036854775807 ∧ o.to.size ≤ 9223372036854775807 ∧ o.data.size ≤ 9223372036854775807) :
    Calls Try.prog 6 #[.agg #[.slice A1 n1 c1, .slice A2 n2 c2, .slice A3 n3 c3], .agg #[.int .i64 o.kind, .string o.name, .string o.to, .string o.data]] w fun e w' => e = .returned (.bool true) ∧ Bl w w' := by
  have KH := Lib.hid (show DiskAt w w.heap.size A1 A2 A3 L1 L2 O from ⟨H1, H2, H3⟩)
  have N1 := Lib.hid hn1
  have N2 := Lib.hid hn2
  have N3 := Lib.hid hn3
  have Z1 := Lib.hid hz1
  have Z2 := Lib.hid hz2
  have Z3 := Lib.hid hz3
  obtain ⟨r, hr⟩ : ∃ r, r = leftI 1048576 (dkSz L1 L2 O) := ⟨_, rfl⟩
  have HR := Lib.hid hr
  clear H1 H2 H3 hn1 hn2 hn3 hz1 hz2 hz3 hr
  by_cases hneg : r < 0
  · go_enter Try.func6, Try.ntmps6
    go_wp2_with fail
    refine (szDisk_any A1 A2 A3 n1 c1 n2 c2 n3 c3 L1 L2 O N1.out N2.out N3.out _ hm1 hm2 hm3 Z1.out Z2.out Z3.out (KH.out.f1.bl (by repeat' (first | exact Bl.refl _ | with_reducible assumption | with_reducible refine Bl.drew_ ?_ | with_reducible refine Bl.drewN_ ?_ _ | with_reducible refine Bl.alloc_ ?_ _ | with_reducible refine Bl.trans_ ?_ (by assumption) | with_reducible refine Bl.trans_ ?_ (And.left (by assumption))))) (KH.out.f2.bl (by repeat' (first | exact Bl.refl _ | with_reducible assumption | with_reducible refine Bl.drew_ ?_ | with_reducible refine Bl.drewN_ ?_ _ | with_reducible refine Bl.alloc_ ?_ _ | with_reducible refine Bl.trans_ ?_ (by assumption) | with_reducible refine Bl.trans_ ?_ (And.left (by assumption))))) (KH.out.f3.bl (by repeat' (first | exact Bl.refl _ | with_reducible assumption | with_reducible refine Bl.drew_ ?_ | with_reducible refine Bl.drewN_ ?_ _ | with_reducible refine Bl.alloc_ ?_ _ | with_reducible refine Bl.trans_ ?_ (by assumption) | with_reducible refine Bl.trans_ ?_ (And.left (by assumption)))))).mono ?_
    rintro e w1 ⟨rfl, hb1⟩
    rw [← HR.out]
    have B1 := Lib.hid ((((Bl.refl w).alloc_ _).alloc_ _).trans_ hb1)
    clear hb1
    go_wp2
    go_ret
    exact ⟨rfl, B1.out⟩
  · have KB := Lib.hid (DkB.of N1.out N2.out N3.out (DkB.sz (n1 := n1) (n2 := n2) (n3 := n3) (by rw [← HR.out]; exact hneg)))
    have b1 := KB.out.m1
    have b2 := KB.out.m2
    have b3 := KB.out.m3
    clear hm1 hm2 hm3
    have hm1 : n1 ≤ 9223372036854775807 := by omega
    have hm2 : n2 ≤ 9223372036854775807 := by omega
    have hm3 : n3 ≤ 9223372036854775807 := by omega
    go_enter Try.func6, Try.ntmps6
    go_wp2_with fail
    refine (szDisk_any A1 A2 A3 n1 c1 n2 c2 n3 c3 L1 L2 O N1.out N2.out N3.out _ hm1 hm2 hm3 Z1.out Z2.out Z3.out (KH.out.f1.bl (by repeat' (first | exact Bl.refl _ | with_reducible assumption | with_reducible refine Bl.drew_ ?_ | with_reducible refine Bl.drewN_ ?_ _ | with_reducible refine Bl.alloc_ ?_ _ | with_reducible refine Bl.trans_ ?_ (by assumption) | with_reducible refine Bl.trans_ ?_ (And.left (by assumption))))) (KH.out.f2.bl (by repeat' (first | exact Bl.refl _ | with_reducible assumption | with_reducible refine Bl.drew_ ?_ | with_reducible refine Bl.drewN_ ?_ _ | with_reducible refine Bl.alloc_ ?_ _ | with_reducible refine Bl.trans_ ?_ (by assumption) | with_reducible refine Bl.trans_ ?_ (And.left (by assumption))))) (KH.out.f3.bl (by repeat' (first | exact Bl.refl _ | with_reducible assumption | with_reducible refine Bl.drew_ ?_ | with_reducible refine Bl.drewN_ ?_ _ | with_reducible refine Bl.alloc_ ?_ _ | with_reducible refine Bl.trans_ ?_ (by assumption) | with_reducible refine Bl.trans_ ?_ (And.left (by assumption)))))).mono ?_
    rintro e w1 ⟨rfl, hb1⟩
    rw [← HR.out]
    have Y1 := Lib.hid (show Bl ((w.alloc (.cells #[.slice A1 n1 c1, .slice A2 n2 c2, .slice A3 n3 c3] 25)).alloc (.cells #[.int .i64 o.kind, .string o.name, .string o.to, .string o.data] 41)) w1 from hb1)
    have B1 := Lib.hid ((((Bl.refl w).alloc_ _).alloc_ _).trans_ hb1)
    have P1 := Lib.hid (show Bx w1 w.heap.size (.slice A1 n1 c1) (.slice A2 n2 c2) (.slice A3 n3 c3) from Bx.new' (((Bl.refl _).alloc_ _).trans_ Y1.out))
    have z1 := Y1.out.size
    simp only [World.size_alloc] at z1
    have o1 : w1.cell? ⟨w.heap.size + 1, 0, none⟩ = some (.int .i64 o.kind) ∧ w1.cell? ⟨w.heap.size + 1, 1, none⟩ = some (.string o.name) ∧ w1.cell? ⟨w.heap.size + 1, 2, none⟩ = some (.string o.to) ∧ w1.cell? ⟨w.heap.size + 1, 3, none⟩ = some (.string o.data) := by
      have := box4 Y1.out
      simpa only [World.size_alloc] using this
    have OBX := Lib.hid (show ∀ wx, Bl w1 wx → wx.cell? ⟨w.heap.size + 1, 0, none⟩ = some (.int .i64 o.kind) ∧ wx.cell? ⟨w.heap.size + 1, 1, none⟩ = some (.string o.name) ∧ wx.cell? ⟨w.heap.size + 1, 2, none⟩ = some (.string o.to) ∧ wx.cell? ⟨w.heap.size + 1, 3, none⟩ = some (.string o.data) from fun wx hb => ⟨((bcell hb).1 _ _ (by omega)).trans o1.1, ((bcell hb).1 _ _ (by omega)).trans o1.2.1, ((bcell hb).1 _ _ (by omega)).trans o1.2.2.1, ((bcell hb).1 _ _ (by omega)).trans o1.2.2.2⟩)
    obtain ⟨o10, o11, o12, o13⟩ := o1
    clear hb1
    obtain ⟨r2, hr2⟩ : ∃ r2, r2 = leftI r (szDp o) := ⟨_, rfl⟩
    have HR2 := Lib.hid hr2
    have hrb : r ≤ 1048576 := by rw [HR.out]; unfold leftI; split <;> omega
    clear hr2
    obtain ⟨Pc0, Pc1, Pc2⟩ := P1.out
    by_cases hneg2 : r2 < 0
    · go_wp2_with fail
      refine (szDOp_any o r _ hzo.1 hzo.2.1 hzo.2.2 (by omega) hrb).mono ?_
      rintro e w2 ⟨rfl, hb2⟩
      rw [← HR2.out]
      have B2 := Lib.hid (B1.out.trans_ hb2)
      clear hb2
      go_wp2
      go_ret
      exact ⟨rfl, B2.out⟩
    · have hos : o.data.size ≤ 1048576 := by
        have e : szDp o = o.name.size + o.to.size + o.data.size := rfl
        have h := hneg2
        rw [HR2.out] at h
        unfold leftI at h
        split at h
        · omega
        · omega
      go_wp2_with fail
      refine (szDOp_any o r _ hzo.1 hzo.2.1 hzo.2.2 (by omega) hrb).mono ?_
      rintro e w2 ⟨rfl, hb2⟩
      rw [← HR2.out]
      have z2 := hb2.size
      have B2 := Lib.hid (B1.out.trans_ hb2)
      have P2 := Lib.hid (P1.out.bl hb2)
      have E2 := Lib.hid hb2
      clear Pc0 Pc1 Pc2 o10 o11 o12 o13 hb2
      obtain ⟨o10, o11, o12, o13⟩ := OBX.out _ E2.out
      obtain ⟨Pc0, Pc1, Pc2⟩ := P2.out
      obtain ⟨CC, hCC⟩ : ∃ c, c = (doD (L1, L2, O) o).2 := ⟨_, rfl⟩
      have HCC := Lib.hid hCC
      obtain ⟨hlA0, hlB0, hlC0⟩ := doD_len (L1, L2, O) o (show L2.length ≤ 1048576 from by have := N2.out; omega) (show O.length ≤ 1048576 from by have := N3.out; omega)
      obtain ⟨LA, hLA⟩ : ∃ l, l = (doD (L1, L2, O) o).1.1 := ⟨_, rfl⟩
      obtain ⟨LB, hLB⟩ : ∃ l, l = (doD (L1, L2, O) o).1.2.1 := ⟨_, rfl⟩
      obtain ⟨LC, hLC⟩ : ∃ l, l = (doD (L1, L2, O) o).1.2.2 := ⟨_, rfl⟩
      rw [← hLA] at hlA0
      rw [← hLB] at hlB0
      rw [← hLC] at hlC0
      have HLA := Lib.hid hLA
      have HLB := Lib.hid hLB
      have HLC := Lib.hid hLC
      clear hCC hLA hLB hLC
      go_upto_region 8 with fail
      go_cut [6, 7] from 26 to 33 (fun v6 v7 wc => CutR w2 wc v6 v7 LA LB LC CC)
      case first =>
        have HSH := Lib.hid (show ∀ wx, Bl w2 wx → wx.cell? ⟨w.heap.size, 0, none⟩ = some (.slice A1 n1 c1) ∧ wx.cell? ⟨w.heap.size, 1, none⟩ = some (.slice A2 n2 c2) ∧ wx.cell? ⟨w.heap.size, 2, none⟩ = some (.slice A3 n3 c3) ∧ wx.cell? ⟨w.heap.size + 1, 0, none⟩ = some (.int .i64 o.kind) ∧ wx.cell? ⟨w.heap.size + 1, 1, none⟩ = some (.string o.name) ∧ wx.cell? ⟨w.heap.size + 1, 2, none⟩ = some (.string o.to) ∧ wx.cell? ⟨w.heap.size + 1, 3, none⟩ = some (.string o.data) from fun wx hb => ⟨(P2.out.bl hb).c0, (P2.out.bl hb).c1, (P2.out.bl hb).c2, OBX.out _ (E2.out.trans_ hb)⟩)
        have BO := Lib.hid B2.out
        refine wp_region_held_drew (S := fun wx => wx.cell? ⟨w.heap.size, 0, none⟩ = some (.slice A1 n1 c1) ∧ wx.cell? ⟨w.heap.size, 1, none⟩ = some (.slice A2 n2 c2) ∧ wx.cell? ⟨w.heap.size, 2, none⟩ = some (.slice A3 n3 c3) ∧ wx.cell? ⟨w.heap.size + 1, 0, none⟩ = some (.int .i64 o.kind) ∧ wx.cell? ⟨w.heap.size + 1, 1, none⟩ = some (.string o.name) ∧ wx.cell? ⟨w.heap.size + 1, 2, none⟩ = some (.string o.to) ∧ wx.cell? ⟨w.heap.size + 1, 3, none⟩ = some (.string o.data)) (by kernel_rfl) (HSH.out _ (Bl.drew_ (Bl.refl _))) (fun hHeld => ?_)
        generalize hwd : World.drew w2 = wd at hHeld ⊢
        have I := Lib.hid (show Bl w2 wd from by rw [← hwd]; exact Bl.drew_ (Bl.refl _))
        clear hwd
        refine wpAnyH_take (i := 0) (v := ?_) rfl (by kernel_rfl) (by kernel_rfl) (by kernel_rfl) (fun _ _ _ h => h) (Or.inl ⟨by kernel_rfl, ?_⟩) (by assumption) ?_
        rotate_left
        · (intro wx hSw; (try dsimp only at hSw); go_simp; try (with_reducible rfl))
        try simp only [Act.put, List.getElem_toArray, List.getElem_cons_succ, List.getElem_cons_zero, List.setIfInBounds_toArray, List.set_cons_zero, List.set_cons_succ]
        refine wpAnyH_take (i := 2) (v := ?_) rfl (by kernel_rfl) (by kernel_rfl) (by kernel_rfl) (fun _ _ _ h => h) (Or.inl ⟨by kernel_rfl, ?_⟩) (by assumption) ?_
        rotate_left
        · (intro wx hSw; (try dsimp only at hSw); go_simp; try (with_reducible rfl))
        try simp only [Act.put, List.getElem_toArray, List.getElem_cons_succ, List.getElem_cons_zero, List.setIfInBounds_toArray, List.set_cons_zero, List.set_cons_succ]
        refine wpAnyH_ready (rs := [1, 8]) (by kernel_rfl) (by simp) ?_
        refine (AllReadyH.cons rfl (fun K hK => ?_) (AllReadyH.cons rfl (fun K hK => ?_) AllReadyH.nil))
        · go_simp
          (go_at_call 15; refine (toDisk_any A1 A2 A3 n1 c1 n2 c2 n3 c3 L1 L2 O N1.out N2.out N3.out _ b1 b2 b3 (KH.out.f1.bl (BO.out.trans_ I.out)) (KH.out.f2.bl (BO.out.trans_ I.out)) (KH.out.f3.bl (BO.out.trans_ I.out))).mono ?_; rintro e wa ⟨gx1, gx2, gx3, rfl, hdx, hbx⟩)
          have I' := Lib.hid (I.out.trans_ hbx)
          clear I
          have I := I'
          clear I'
          have DX := Lib.hid hdx.at_
          clear hdx hbx
          try (go_wp2_with fail)
          refine hK.out _ _ (HSH.out _ I.out) (fun hHeld => ?_)
          clear hK K
          try simp only [Act.put, List.getElem_toArray, List.getElem_cons_succ, List.getElem_cons_zero, List.setIfInBounds_toArray, List.set_cons_zero, List.set_cons_succ]
          refine wpAnyH_ready (rs := [3, 8]) (by kernel_rfl) (by simp) ?_
          refine (AllReadyH.cons rfl (fun K hK => ?_) (AllReadyH.cons rfl (fun K hK => ?_) AllReadyH.nil))
          · go_simp
            (go_at_call 26; refine (toDOp_any o _).mono ?_; rintro e wb ⟨rfl, hbx⟩)
            have DX' := Lib.hid (DX.out.bl hbx)
            clear DX
            have DX := DX'
            clear DX'
            have I' := Lib.hid (I.out.trans_ hbx)
            clear I
            have I := I'
            clear I'
            clear hbx
            try (go_wp2_with fail)
            refine hK.out _ _ (HSH.out _ I.out) (fun hHeld => ?_)
            clear hK K
            try simp only [Act.put, List.getElem_toArray, List.getElem_cons_succ, List.getElem_cons_zero, List.setIfInBounds_toArray, List.set_cons_zero, List.set_cons_succ]
            refine wpAnyH_ready (rs := [4, 8]) (by kernel_rfl) (by simp) ?_
            refine (AllReadyH.cons rfl (fun K hK => ?_) (AllReadyH.cons rfl (fun K hK => ?_) AllReadyH.nil))
            · go_simp
              (go_at_call 25; refine (specDo_any KB.out o hos _ DX.out).mono ?_; rintro e wd2 ⟨vA, vB, vC, rfl, hJ⟩)
              obtain ⟨PA, PB, PC, kA, eA, kB, eB, kC, eC, ⟨rfl, rfl, rfl⟩, -⟩ := hJ.opened'
              rw [← HLA.out, ← HLB.out, ← HLC.out] at hJ
              rw [← HCC.out]
              have hbx := hJ.bl
              have J := Lib.hid (hJ.low I.out)
              have I' := Lib.hid (I.out.trans_ hbx)
              clear I
              have I := I'
              clear I'
              clear hJ DX hbx
              try (go_wp2_with fail)
              refine hK.out _ _ (HSH.out _ I.out) (fun hHeld => ?_)
              clear hK K
              try simp only [Act.put, List.getElem_toArray, List.getElem_cons_succ, List.getElem_cons_zero, List.setIfInBounds_toArray, List.set_cons_zero, List.set_cons_succ]
              refine wpAnyH_take (i := 5) (v := ?_) rfl (by kernel_rfl) (by kernel_rfl) (by kernel_rfl) (fun _ _ _ h => h) (Or.inl ⟨by kernel_rfl, ?_⟩) (by assumption) ?_
              rotate_left
              · (intro wx hSw; (try dsimp only at hSw); go_simp; try (with_reducible rfl))
              try simp only [Act.put, List.getElem_toArray, List.getElem_cons_succ, List.getElem_cons_zero, List.setIfInBounds_toArray, List.set_cons_zero, List.set_cons_succ]
              refine wpAnyH_take (i := 6) (v := ?_) rfl (by kernel_rfl) (by kernel_rfl) (by kernel_rfl) (fun _ _ _ h => h) (Or.inl ⟨by kernel_rfl, ?_⟩) (by assumption) ?_
              rotate_left
              · (intro wx hSw; (try dsimp only at hSw); go_simp; try (with_reducible rfl))
              try simp only [Act.put, List.getElem_toArray, List.getElem_cons_succ, List.getElem_cons_zero, List.setIfInBounds_toArray, List.set_cons_zero, List.set_cons_succ]
              refine wpAnyH_take (i := 7) (v := ?_) rfl (by kernel_rfl) (by kernel_rfl) (by kernel_rfl) (fun _ _ _ h => h) (Or.inl ⟨by kernel_rfl, ?_⟩) (by assumption) ?_
              rotate_left
              · (intro wx hSw; (try dsimp only at hSw); go_simp; try (with_reducible rfl))
              try simp only [Act.put, List.getElem_toArray, List.getElem_cons_succ, List.getElem_cons_zero, List.setIfInBounds_toArray, List.set_cons_zero, List.set_cons_succ]
              refine wpAnyH_ready (rs := [8]) (by kernel_rfl) (by simp) ?_
              refine (AllReadyH.cons rfl (fun K hK => ?_) AllReadyH.nil)
              go_simp
              have hbx : Bl wd2 (wd2.alloc (.cells #[.slice none 0 0, .slice none 0 0, .slice none 0 0] 31)) := (Bl.refl _).alloc_ _
              have BZ := Lib.hid (Bz.new wd2)
              have WZ := Lib.hid (show w2.heap.size ≤ wd2.heap.size from I.out.size)
              have I' := Lib.hid (I.out.trans_ hbx)
              clear I hbx
              have I := I'
              clear I'
              refine hK.out _ _ (HSH.out _ I.out) (fun hHeld => ?_)
              clear hK K
              try simp only [Act.put, List.getElem_toArray, List.getElem_cons_succ, List.getElem_cons_zero, List.setIfInBounds_toArray, List.set_cons_zero, List.set_cons_succ]
              refine wpAnyH_ready (rs := [9]) (by kernel_rfl) (by simp) ?_
              refine (AllReadyH.cons rfl (fun K hK => ?_) AllReadyH.nil)
              go_simp
              have CR := Lib.hid (CutR.alloc_ J.out CC)
              refine hK.out _ _ (HSH.out _ (J.out.bl.alloc_ _)) (fun hHeld => ?_)
              clear hK K
              try simp only [Act.put, List.getElem_toArray, List.getElem_cons_succ, List.getElem_cons_zero, List.setIfInBounds_toArray, List.set_cons_zero, List.set_cons_succ]
              refine wpAnyH_take (i := 10) (v := ?_) rfl (by kernel_rfl) (by kernel_rfl) (by kernel_rfl) (fun _ _ _ h => h) (Or.inl ⟨by kernel_rfl, ?_⟩) (by assumption) ?_
              rotate_left
              · (intro wx hSw; (try dsimp only at hSw); go_simp; try (with_reducible rfl))
              try simp only [Act.put, List.getElem_toArray, List.getElem_cons_succ, List.getElem_cons_zero, List.setIfInBounds_toArray, List.set_cons_zero, List.set_cons_succ]
              refine wpAnyH_done (by kernel_rfl) ?_ _
              try (go_wp2_with fail)
              go_meet
              exact CR.out
            · go_simp
              have hbx : Bl wb (wb.alloc (.cells #[.slice none 0 0, .slice none 0 0, .slice none 0 0] 31)) := (Bl.refl _).alloc_ _
              have DX' := Lib.hid (DX.out.bl hbx)
              clear DX
              have DX := DX'
              clear DX'
              have BZ := Lib.hid (Bz.new wb)
              have WZ := Lib.hid (show w2.heap.size ≤ wb.heap.size from I.out.size)
              have I' := Lib.hid (I.out.trans_ hbx)
              clear I hbx
              have I := I'
              clear I'
              refine hK.out _ _ (HSH.out _ I.out) (fun hHeld => ?_)
              clear hK K
              try simp only [Act.put, List.getElem_toArray, List.getElem_cons_succ, List.getElem_cons_zero, List.setIfInBounds_toArray, List.set_cons_zero, List.set_cons_succ]
              refine wpAnyH_ready (rs := [4]) (by kernel_rfl) (by simp) ?_
              refine (AllReadyH.cons rfl (fun K hK => ?_) AllReadyH.nil)
              go_simp
              (go_at_call 25; refine (specDo_any KB.out o hos _ DX.out).mono ?_; rintro e wd2 ⟨vA, vB, vC, rfl, hJ⟩)
              obtain ⟨PA, PB, PC, kA, eA, kB, eB, kC, eC, ⟨rfl, rfl, rfl⟩, -⟩ := hJ.opened'
              rw [← HLA.out, ← HLB.out, ← HLC.out] at hJ
              rw [← HCC.out]
              have hbx := hJ.bl
              have SP := Lib.hid (hJ.apart BZ.out.bx.lt)
              have J := Lib.hid (hJ.low I.out)
              have BZ' := Lib.hid (BZ.out.bl hbx)
              clear BZ
              have BZ := BZ'
              clear BZ'
              have I' := Lib.hid (I.out.trans_ hbx)
              clear I
              have I := I'
              clear I'
              clear hJ DX hbx
              try (go_wp2_with fail)
              refine hK.out _ _ (HSH.out _ I.out) (fun hHeld => ?_)
              clear hK K
              try simp only [Act.put, List.getElem_toArray, List.getElem_cons_succ, List.getElem_cons_zero, List.setIfInBounds_toArray, List.set_cons_zero, List.set_cons_succ]
              refine wpAnyH_take (i := 5) (v := ?_) rfl (by kernel_rfl) (by kernel_rfl) (by kernel_rfl) (fun _ _ _ h => h) (Or.inl ⟨by kernel_rfl, ?_⟩) (by assumption) ?_
              rotate_left
              · (intro wx hSw; (try dsimp only at hSw); go_simp; try (with_reducible rfl))
              try simp only [Act.put, List.getElem_toArray, List.getElem_cons_succ, List.getElem_cons_zero, List.setIfInBounds_toArray, List.set_cons_zero, List.set_cons_succ]
              refine wpAnyH_take (i := 6) (v := ?_) rfl (by kernel_rfl) (by kernel_rfl) (by kernel_rfl) (fun _ _ _ h => h) (Or.inl ⟨by kernel_rfl, ?_⟩) (by assumption) ?_
              rotate_left
              · (intro wx hSw; (try dsimp only at hSw); go_simp; try (with_reducible rfl))
              try simp only [Act.put, List.getElem_toArray, List.getElem_cons_succ, List.getElem_cons_zero, List.setIfInBounds_toArray, List.set_cons_zero, List.set_cons_succ]
              refine wpAnyH_take (i := 7) (v := ?_) rfl (by kernel_rfl) (by kernel_rfl) (by kernel_rfl) (fun _ _ _ h => h) (Or.inl ⟨by kernel_rfl, ?_⟩) (by assumption) ?_
              rotate_left
              · (intro wx hSw; (try dsimp only at hSw); go_simp; try (with_reducible rfl))
              try simp only [Act.put, List.getElem_toArray, List.getElem_cons_succ, List.getElem_cons_zero, List.setIfInBounds_toArray, List.set_cons_zero, List.set_cons_succ]
              refine wpAnyH_ready (rs := [9]) (by kernel_rfl) (by simp) ?_
              refine (AllReadyH.cons rfl (fun K hK => ?_) AllReadyH.nil)
              obtain ⟨⟨z0, z1, z2⟩, z3⟩ := BZ.out
              go_simp
              have CR := Lib.hid (CutR.set_ J.out BZ.out WZ.out SP.out CC)
              refine hK.out _ _ (HSH.out _ (Bl.set_ (Bl.set_ (Bl.set_ J.out.bl WZ.out _) WZ.out _) WZ.out _)) (fun hHeld => ?_)
              clear hK K
              try simp only [Act.put, List.getElem_toArray, List.getElem_cons_succ, List.getElem_cons_zero, List.setIfInBounds_toArray, List.set_cons_zero, List.set_cons_succ]
              refine wpAnyH_take (i := 10) (v := ?_) rfl (by kernel_rfl) (by kernel_rfl) (by kernel_rfl) (fun _ _ _ h => h) (Or.inl ⟨by kernel_rfl, ?_⟩) (by assumption) ?_
              rotate_left
              · (intro wx hSw; (try dsimp only at hSw); go_simp; try (with_reducible rfl))
              try simp only [Act.put, List.getElem_toArray, List.getElem_cons_succ, List.getElem_cons_zero, List.setIfInBounds_toArray, List.set_cons_zero, List.set_cons_succ]
              refine wpAnyH_done (by kernel_rfl) ?_ _
              try (go_wp2_with fail)
              go_meet
              exact CR.out
          · go_simp
            have hbx : Bl wa (wa.alloc (.cells #[.slice none 0 0, .slice none 0 0, .slice none 0 0] 31)) := (Bl.refl _).alloc_ _
            have DX' := Lib.hid (DX.out.bl hbx)
            clear DX
            have DX := DX'
            clear DX'
            have BZ := Lib.hid (Bz.new wa)
            have WZ := Lib.hid (show w2.heap.size ≤ wa.heap.size from I.out.size)
            have I' := Lib.hid (I.out.trans_ hbx)
            clear I hbx
            have I := I'
            clear I'
            refine hK.out _ _ (HSH.out _ I.out) (fun hHeld => ?_)
            clear hK K
            try simp only [Act.put, List.getElem_toArray, List.getElem_cons_succ, List.getElem_cons_zero, List.setIfInBounds_toArray, List.set_cons_zero, List.set_cons_succ]
            refine wpAnyH_ready (rs := [3]) (by kernel_rfl) (by simp) ?_
            refine (AllReadyH.cons rfl (fun K hK => ?_) AllReadyH.nil)
            go_simp
            (go_at_call 26; refine (toDOp_any o _).mono ?_; rintro e wb ⟨rfl, hbx⟩)
            have BZ' := Lib.hid (BZ.out.bl hbx)
            clear BZ
            have BZ := BZ'
            clear BZ'
            have DX' := Lib.hid (DX.out.bl hbx)
            clear DX
            have DX := DX'
            clear DX'
            have I' := Lib.hid (I.out.trans_ hbx)
            clear I
            have I := I'
            clear I'
            clear hbx
            try (go_wp2_with fail)
            refine hK.out _ _ (HSH.out _ I.out) (fun hHeld => ?_)
            clear hK K
            try simp only [Act.put, List.getElem_toArray, List.getElem_cons_succ, List.getElem_cons_zero, List.setIfInBounds_toArray, List.set_cons_zero, List.set_cons_succ]
            refine wpAnyH_ready (rs := [4]) (by kernel_rfl) (by simp) ?_
            refine (AllReadyH.cons rfl (fun K hK => ?_) AllReadyH.nil)
            go_simp
            (go_at_call 25; refine (specDo_any KB.out o hos _ DX.out).mono ?_; rintro e wd2 ⟨vA, vB, vC, rfl, hJ⟩)
            obtain ⟨PA, PB, PC, kA, eA, kB, eB, kC, eC, ⟨rfl, rfl, rfl⟩, -⟩ := hJ.opened'
            rw [← HLA.out, ← HLB.out, ← HLC.out] at hJ
            rw [← HCC.out]
            have hbx := hJ.bl
            have SP := Lib.hid (hJ.apart BZ.out.bx.lt)
            have J := Lib.hid (hJ.low I.out)
            have BZ' := Lib.hid (BZ.out.bl hbx)
            clear BZ
            have BZ := BZ'
            clear BZ'
            have I' := Lib.hid (I.out.trans_ hbx)
            clear I
            have I := I'
            clear I'
            clear hJ DX hbx
            try (go_wp2_with fail)
            refine hK.out _ _ (HSH.out _ I.out) (fun hHeld => ?_)
            clear hK K
            try simp only [Act.put, List.getElem_toArray, List.getElem_cons_succ, List.getElem_cons_zero, List.setIfInBounds_toArray, List.set_cons_zero, List.set_cons_succ]
            refine wpAnyH_take (i := 5) (v := ?_) rfl (by kernel_rfl) (by kernel_rfl) (by kernel_rfl) (fun _ _ _ h => h) (Or.inl ⟨by kernel_rfl, ?_⟩) (by assumption) ?_
            rotate_left
            · (intro wx hSw; (try dsimp only at hSw); go_simp; try (with_reducible rfl))
            try simp only [Act.put, List.getElem_toArray, List.getElem_cons_succ, List.getElem_cons_zero, List.setIfInBounds_toArray, List.set_cons_zero, List.set_cons_succ]
            refine wpAnyH_take (i := 6) (v := ?_) rfl (by kernel_rfl) (by kernel_rfl) (by kernel_rfl) (fun _ _ _ h => h) (Or.inl ⟨by kernel_rfl, ?_⟩) (by assumption) ?_
            rotate_left
            · (intro wx hSw; (try dsimp only at hSw); go_simp; try (with_reducible rfl))
            try simp only [Act.put, List.getElem_toArray, List.getElem_cons_succ, List.getElem_cons_zero, List.setIfInBounds_toArray, List.set_cons_zero, List.set_cons_succ]
            refine wpAnyH_take (i := 7) (v := ?_) rfl (by kernel_rfl) (by kernel_rfl) (by kernel_rfl) (fun _ _ _ h => h) (Or.inl ⟨by kernel_rfl, ?_⟩) (by assumption) ?_
            rotate_left
            · (intro wx hSw; (try dsimp only at hSw); go_simp; try (with_reducible rfl))
            try simp only [Act.put, List.getElem_toArray, List.getElem_cons_succ, List.getElem_cons_zero, List.setIfInBounds_toArray, List.set_cons_zero, List.set_cons_succ]
            refine wpAnyH_ready (rs := [9]) (by kernel_rfl) (by simp) ?_
            refine (AllReadyH.cons rfl (fun K hK => ?_) AllReadyH.nil)
            obtain ⟨⟨z0, z1, z2⟩, z3⟩ := BZ.out
            go_simp
            have CR := Lib.hid (CutR.set_ J.out BZ.out WZ.out SP.out CC)
            refine hK.out _ _ (HSH.out _ (Bl.set_ (Bl.set_ (Bl.set_ J.out.bl WZ.out _) WZ.out _) WZ.out _)) (fun hHeld => ?_)
            clear hK K
            try simp only [Act.put, List.getElem_toArray, List.getElem_cons_succ, List.getElem_cons_zero, List.setIfInBounds_toArray, List.set_cons_zero, List.set_cons_succ]
            refine wpAnyH_take (i := 10) (v := ?_) rfl (by kernel_rfl) (by kernel_rfl) (by kernel_rfl) (fun _ _ _ h => h) (Or.inl ⟨by kernel_rfl, ?_⟩) (by assumption) ?_
            rotate_left
            · (intro wx hSw; (try dsimp only at hSw); go_simp; try (with_reducible rfl))
            try simp only [Act.put, List.getElem_toArray, List.getElem_cons_succ, List.getElem_cons_zero, List.setIfInBounds_toArray, List.set_cons_zero, List.set_cons_succ]
            refine wpAnyH_done (by kernel_rfl) ?_ _
            try (go_wp2_with fail)
            go_meet
            exact CR.out
        · go_simp
          have hbx : Bl wd (wd.alloc (.cells #[.slice none 0 0, .slice none 0 0, .slice none 0 0] 31)) := (Bl.refl _).alloc_ _
          have BZ := Lib.hid (Bz.new wd)
          have WZ := Lib.hid (show w2.heap.size ≤ wd.heap.size from I.out.size)
          have I' := Lib.hid (I.out.trans_ hbx)
          clear I hbx
          have I := I'
          clear I'
          refine hK.out _ _ (HSH.out _ I.out) (fun hHeld => ?_)
          clear hK K
          try simp only [Act.put, List.getElem_toArray, List.getElem_cons_succ, List.getElem_cons_zero, List.setIfInBounds_toArray, List.set_cons_zero, List.set_cons_succ]
          refine wpAnyH_ready (rs := [1]) (by kernel_rfl) (by simp) ?_
          refine (AllReadyH.cons rfl (fun K hK => ?_) AllReadyH.nil)
          go_simp
          (go_at_call 15; refine (toDisk_any A1 A2 A3 n1 c1 n2 c2 n3 c3 L1 L2 O N1.out N2.out N3.out _ b1 b2 b3 (KH.out.f1.bl (BO.out.trans_ I.out)) (KH.out.f2.bl (BO.out.trans_ I.out)) (KH.out.f3.bl (BO.out.trans_ I.out))).mono ?_; rintro e wa ⟨gx1, gx2, gx3, rfl, hdx, hbx⟩)
          have BZ' := Lib.hid (BZ.out.bl hbx)
          clear BZ
          have BZ := BZ'
          clear BZ'
          have I' := Lib.hid (I.out.trans_ hbx)
          clear I
          have I := I'
          clear I'
          have DX := Lib.hid hdx.at_
          clear hdx hbx
          try (go_wp2_with fail)
          refine hK.out _ _ (HSH.out _ I.out) (fun hHeld => ?_)
          clear hK K
          try simp only [Act.put, List.getElem_toArray, List.getElem_cons_succ, List.getElem_cons_zero, List.setIfInBounds_toArray, List.set_cons_zero, List.set_cons_succ]
          refine wpAnyH_ready (rs := [3]) (by kernel_rfl) (by simp) ?_
          refine (AllReadyH.cons rfl (fun K hK => ?_) AllReadyH.nil)
          go_simp
          (go_at_call 26; refine (toDOp_any o _).mono ?_; rintro e wb ⟨rfl, hbx⟩)
          have BZ' := Lib.hid (BZ.out.bl hbx)
          clear BZ
          have BZ := BZ'
          clear BZ'
          have DX' := Lib.hid (DX.out.bl hbx)
          clear DX
          have DX := DX'
          clear DX'
          have I' := Lib.hid (I.out.trans_ hbx)
          clear I
          have I := I'
          clear I'
          clear hbx
          try (go_wp2_with fail)
          refine hK.out _ _ (HSH.out _ I.out) (fun hHeld => ?_)
          clear hK K
          try simp only [Act.put, List.getElem_toArray, List.getElem_cons_succ, List.getElem_cons_zero, List.setIfInBounds_toArray, List.set_cons_zero, List.set_cons_succ]
          refine wpAnyH_ready (rs := [4]) (by kernel_rfl) (by simp) ?_
          refine (AllReadyH.cons rfl (fun K hK => ?_) AllReadyH.nil)
          go_simp
          (go_at_call 25; refine (specDo_any KB.out o hos _ DX.out).mono ?_; rintro e wd2 ⟨vA, vB, vC, rfl, hJ⟩)
          obtain ⟨PA, PB, PC, kA, eA, kB, eB, kC, eC, ⟨rfl, rfl, rfl⟩, -⟩ := hJ.opened'
          rw [← HLA.out, ← HLB.out, ← HLC.out] at hJ
          rw [← HCC.out]
          have hbx := hJ.bl
          have SP := Lib.hid (hJ.apart BZ.out.bx.lt)
          have J := Lib.hid (hJ.low I.out)
          have BZ' := Lib.hid (BZ.out.bl hbx)
          clear BZ
          have BZ := BZ'
          clear BZ'
          have I' := Lib.hid (I.out.trans_ hbx)
          clear I
          have I := I'
          clear I'
          clear hJ DX hbx
          try (go_wp2_with fail)
          refine hK.out _ _ (HSH.out _ I.out) (fun hHeld => ?_)
          clear hK K
          try simp only [Act.put, List.getElem_toArray, List.getElem_cons_succ, List.getElem_cons_zero, List.setIfInBounds_toArray, List.set_cons_zero, List.set_cons_succ]
          refine wpAnyH_take (i := 5) (v := ?_) rfl (by kernel_rfl) (by kernel_rfl) (by kernel_rfl) (fun _ _ _ h => h) (Or.inl ⟨by kernel_rfl, ?_⟩) (by assumption) ?_
          rotate_left
          · (intro wx hSw; (try dsimp only at hSw); go_simp; try (with_reducible rfl))
          try simp only [Act.put, List.getElem_toArray, List.getElem_cons_succ, List.getElem_cons_zero, List.setIfInBounds_toArray, List.set_cons_zero, List.set_cons_succ]
          refine wpAnyH_take (i := 6) (v := ?_) rfl (by kernel_rfl) (by kernel_rfl) (by kernel_rfl) (fun _ _ _ h => h) (Or.inl ⟨by kernel_rfl, ?_⟩) (by assumption) ?_
          rotate_left
          · (intro wx hSw; (try dsimp only at hSw); go_simp; try (with_reducible rfl))
          try simp only [Act.put, List.getElem_toArray, List.getElem_cons_succ, List.getElem_cons_zero, List.setIfInBounds_toArray, List.set_cons_zero, List.set_cons_succ]
          refine wpAnyH_take (i := 7) (v := ?_) rfl (by kernel_rfl) (by kernel_rfl) (by kernel_rfl) (fun _ _ _ h => h) (Or.inl ⟨by kernel_rfl, ?_⟩) (by assumption) ?_
          rotate_left
          · (intro wx hSw; (try dsimp only at hSw); go_simp; try (with_reducible rfl))
          try simp only [Act.put, List.getElem_toArray, List.getElem_cons_succ, List.getElem_cons_zero, List.setIfInBounds_toArray, List.set_cons_zero, List.set_cons_succ]
          refine wpAnyH_ready (rs := [9]) (by kernel_rfl) (by simp) ?_
          refine (AllReadyH.cons rfl (fun K hK => ?_) AllReadyH.nil)
          obtain ⟨⟨z0, z1, z2⟩, z3⟩ := BZ.out
          go_simp
          have CR := Lib.hid (CutR.set_ J.out BZ.out WZ.out SP.out CC)
          refine hK.out _ _ (HSH.out _ (Bl.set_ (Bl.set_ (Bl.set_ J.out.bl WZ.out _) WZ.out _) WZ.out _)) (fun hHeld => ?_)
          clear hK K
          try simp only [Act.put, List.getElem_toArray, List.getElem_cons_succ, List.getElem_cons_zero, List.setIfInBounds_toArray, List.set_cons_zero, List.set_cons_succ]
          refine wpAnyH_take (i := 10) (v := ?_) rfl (by kernel_rfl) (by kernel_rfl) (by kernel_rfl) (fun _ _ _ h => h) (Or.inl ⟨by kernel_rfl, ?_⟩) (by assumption) ?_
          rotate_left
          · (intro wx hSw; (try dsimp only at hSw); go_simp; try (with_reducible rfl))
          try simp only [Act.put, List.getElem_toArray, List.getElem_cons_succ, List.getElem_cons_zero, List.setIfInBounds_toArray, List.set_cons_zero, List.set_cons_succ]
          refine wpAnyH_done (by kernel_rfl) ?_ _
          try (go_wp2_with fail)
          go_meet
          exact CR.out
      case rest =>
        obtain ⟨bs, a1, a2, a3, k1, d1, k2, d2, k3, d3, rfl, rfl, hbs, hQ, hI3, hSA⟩ := hcut
        obtain ⟨f1', f2', f3', m1', m1c, m2', m2c, m3', m3c, ⟨e1, e2, e3⟩, ⟨hk1, hk2, hk3⟩, hS, -, hSI⟩ := hI3.opened
        injection e1 with e11 e12 e13; injection e2 with e21 e22 e23; injection e3 with e31 e32 e33
        subst e11; subst e12; subst e21; subst e22; subst e31; subst e32
        clear e13 e23 e33
        have z3 := hI3.bl.size
        have hbsl := hQ.lt
        have B3 := Lib.hid (B2.out.trans_ hI3.bl)
        have E3 := Lib.hid (E2.out.trans_ hI3.bl)
        have P3 := Lib.hid (P2.out.bl hI3.bl)
        have Q3 := Lib.hid hQ
        have lk1 : k1 ≤ 1048576 := by omega
        have lk2 : k2 ≤ 1048576 := by omega
        have lk3 : k3 ≤ 1048576 := by omega
        have SK1 := Lib.hid hk1
        have SK2 := Lib.hid hk2
        have SK3 := Lib.hid hk3
        have S3 := Lib.hid hS
        have SI := Lib.hid hSI
        clear Pc0 Pc1 Pc2 hI3 hk1 hk2 hk3 hS hSI hQ hSA o10 o11 o12 o13
        obtain ⟨w3, rfl⟩ : ∃ x : World, x = wc := ⟨_, rfl⟩
        obtain ⟨Pc0, Pc1, Pc2⟩ := P3.out
        obtain ⟨Qc0, Qc1, Qc2⟩ := Q3.out
        go_wp2_with fail
        refine (toDisk_any A1 A2 A3 n1 c1 n2 c2 n3 c3 L1 L2 O N1.out N2.out N3.out _ b1 b2 b3 (KH.out.f1.bl B3.out) (KH.out.f2.bl B3.out) (KH.out.f3.bl B3.out)).mono ?_
        rintro e w4 ⟨g41, g42, g43, rfl, hd4, hb4⟩
        have z4 := hb4.size
        obtain ⟨-, -, hX, hXW, hXI⟩ := hd4.opened hb4 N1.out N2.out N3.out
        have XI := Lib.hid hXI
        have B4 := Lib.hid (B3.out.trans_ hb4)
        have E4 := Lib.hid (E3.out.trans_ hb4)
        have P4 := Lib.hid (P3.out.bl hb4)
        have Q4 := Lib.hid (Q3.out.bl hb4)
        have S4 := Lib.hid (S3.out.bl hb4)
        have X4 := Lib.hid hX
        have V4 := Lib.hid hXW
        clear Pc0 Pc1 Pc2 Qc0 Qc1 Qc2 hd4 hb4 hX hXW hXI
        go_upto_region 10 with fail
        generalize hw5 : World.alloc w4 (.cells #[.slice (some ⟨g41, 0, none⟩) n1 n1, .slice (some ⟨g42, 0, none⟩) n2 n2, .slice (some ⟨g43, 0, none⟩) n3 n3] 31) = w5
        have hb5 : Bl w4 w5 := by rw [← hw5]; exact (Bl.refl _).alloc_ _
        have R5 := Lib.hid (show Bx w5 w4.heap.size (.slice (some ⟨g41, 0, none⟩) n1 n1) (.slice (some ⟨g42, 0, none⟩) n2 n2) (.slice (some ⟨g43, 0, none⟩) n3 n3) from by rw [← hw5]; exact Bx.new _ _ _ _ _)
        have z5 := hb5.size
        have B5 := Lib.hid (B4.out.trans_ hb5)
        have E5 := Lib.hid (E4.out.trans_ hb5)
        have P5 := Lib.hid (P4.out.bl hb5)
        have Q5 := Lib.hid (Q4.out.bl hb5)
        have S5 := Lib.hid (S4.out.bl hb5)
        have X5 := Lib.hid (X4.out.bl hb5)
        have V5 := Lib.hid (V4.out.bl hb5)
        have zx := R5.out.lt
        clear hw5 hb5
        go_cut [9, 10] from 36 to 42 (fun v6 v7 wc => CutR w5 wc v6 v7 LA LB LC CC)
        case first =>
          have HSH := Lib.hid (show ∀ wx, Bl w5 wx → wx.cell? ⟨w4.heap.size, 0, none⟩ = some (.slice (some ⟨g41, 0, none⟩) n1 n1) ∧ wx.cell? ⟨w4.heap.size, 1, none⟩ = some (.slice (some ⟨g42, 0, none⟩) n2 n2) ∧ wx.cell? ⟨w4.heap.size, 2, none⟩ = some (.slice (some ⟨g43, 0, none⟩) n3 n3) ∧ wx.cell? ⟨w.heap.size + 1, 0, none⟩ = some (.int .i64 o.kind) ∧ wx.cell? ⟨w.heap.size + 1, 1, none⟩ = some (.string o.name) ∧ wx.cell? ⟨w.heap.size + 1, 2, none⟩ = some (.string o.to) ∧ wx.cell? ⟨w.heap.size + 1, 3, none⟩ = some (.string o.data) from fun wx hb => ⟨(R5.out.bl hb).c0, (R5.out.bl hb).c1, (R5.out.bl hb).c2, OBX.out _ (E5.out.trans_ hb)⟩)
          have BO := Lib.hid B5.out
          refine wp_region_held_drew (S := fun wx => wx.cell? ⟨w4.heap.size, 0, none⟩ = some (.slice (some ⟨g41, 0, none⟩) n1 n1) ∧ wx.cell? ⟨w4.heap.size, 1, none⟩ = some (.slice (some ⟨g42, 0, none⟩) n2 n2) ∧ wx.cell? ⟨w4.heap.size, 2, none⟩ = some (.slice (some ⟨g43, 0, none⟩) n3 n3) ∧ wx.cell? ⟨w.heap.size + 1, 0, none⟩ = some (.int .i64 o.kind) ∧ wx.cell? ⟨w.heap.size + 1, 1, none⟩ = some (.string o.name) ∧ wx.cell? ⟨w.heap.size + 1, 2, none⟩ = some (.string o.to) ∧ wx.cell? ⟨w.heap.size + 1, 3, none⟩ = some (.string o.data)) (by kernel_rfl) (HSH.out _ (Bl.drew_ (Bl.refl _))) (fun hHeld => ?_)
          generalize hwd : World.drew w5 = wd at hHeld ⊢
          have I := Lib.hid (show Bl w5 wd from by rw [← hwd]; exact Bl.drew_ (Bl.refl _))
          clear hwd
          have DX := Lib.hid (X5.out.bl I.out)
          refine wpAnyH_take (i := 0) (v := ?_) rfl (by kernel_rfl) (by kernel_rfl) (by kernel_rfl) (fun _ _ _ h => h) (Or.inl ⟨by kernel_rfl, ?_⟩) (by assumption) ?_
          rotate_left
          · (intro wx hSw; (try dsimp only at hSw); go_simp; try (with_reducible rfl))
          try simp only [Act.put, List.getElem_toArray, List.getElem_cons_succ, List.getElem_cons_zero, List.setIfInBounds_toArray, List.set_cons_zero, List.set_cons_succ]
          refine wpAnyH_take (i := 1) (v := ?_) rfl (by kernel_rfl) (by kernel_rfl) (by kernel_rfl) (fun _ _ _ h => h) (Or.inl ⟨by kernel_rfl, ?_⟩) (by assumption) ?_
          rotate_left
          · (intro wx hSw; (try dsimp only at hSw); go_simp; try (with_reducible rfl))
          try simp only [Act.put, List.getElem_toArray, List.getElem_cons_succ, List.getElem_cons_zero, List.setIfInBounds_toArray, List.set_cons_zero, List.set_cons_succ]
          refine wpAnyH_ready (rs := [2, 7]) (by kernel_rfl) (by simp) ?_
          refine (AllReadyH.cons rfl (fun K hK => ?_) (AllReadyH.cons rfl (fun K hK => ?_) AllReadyH.nil))
          · go_simp
            (go_at_call 26; refine (toDOp_any o _).mono ?_; rintro e wb ⟨rfl, hbx⟩)
            have DX' := Lib.hid (DX.out.bl hbx)
            clear DX
            have DX := DX'
            clear DX'
            have I' := Lib.hid (I.out.trans_ hbx)
            clear I
            have I := I'
            clear I'
            clear hbx
            try (go_wp2_with fail)
            refine hK.out _ _ (HSH.out _ I.out) (fun hHeld => ?_)
            clear hK K
            try simp only [Act.put, List.getElem_toArray, List.getElem_cons_succ, List.getElem_cons_zero, List.setIfInBounds_toArray, List.set_cons_zero, List.set_cons_succ]
            refine wpAnyH_ready (rs := [3, 7]) (by kernel_rfl) (by simp) ?_
            refine (AllReadyH.cons rfl (fun K hK => ?_) (AllReadyH.cons rfl (fun K hK => ?_) AllReadyH.nil))
            · go_simp
              (go_at_call 27; refine (implDo_any KB.out o hos _ DX.out).mono ?_; rintro e wd2 ⟨vA, vB, vC, rfl, hJ⟩)
              obtain ⟨PA, PB, PC, kA, eA, kB, eB, kC, eC, ⟨rfl, rfl, rfl⟩, -⟩ := hJ.opened'
              rw [← HLA.out, ← HLB.out, ← HLC.out] at hJ
              rw [← HCC.out]
              have hbx := hJ.bl
              have J := Lib.hid (hJ.low I.out)
              have I' := Lib.hid (I.out.trans_ hbx)
              clear I
              have I := I'
              clear I'
              clear hJ DX hbx
              try (go_wp2_with fail)
              refine hK.out _ _ (HSH.out _ I.out) (fun hHeld => ?_)
              clear hK K
              try simp only [Act.put, List.getElem_toArray, List.getElem_cons_succ, List.getElem_cons_zero, List.setIfInBounds_toArray, List.set_cons_zero, List.set_cons_succ]
              refine wpAnyH_take (i := 4) (v := ?_) rfl (by kernel_rfl) (by kernel_rfl) (by kernel_rfl) (fun _ _ _ h => h) (Or.inl ⟨by kernel_rfl, ?_⟩) (by assumption) ?_
              rotate_left
              · (intro wx hSw; (try dsimp only at hSw); go_simp; try (with_reducible rfl))
              try simp only [Act.put, List.getElem_toArray, List.getElem_cons_succ, List.getElem_cons_zero, List.setIfInBounds_toArray, List.set_cons_zero, List.set_cons_succ]
              refine wpAnyH_take (i := 5) (v := ?_) rfl (by kernel_rfl) (by kernel_rfl) (by kernel_rfl) (fun _ _ _ h => h) (Or.inl ⟨by kernel_rfl, ?_⟩) (by assumption) ?_
              rotate_left
              · (intro wx hSw; (try dsimp only at hSw); go_simp; try (with_reducible rfl))
              try simp only [Act.put, List.getElem_toArray, List.getElem_cons_succ, List.getElem_cons_zero, List.setIfInBounds_toArray, List.set_cons_zero, List.set_cons_succ]
              refine wpAnyH_take (i := 6) (v := ?_) rfl (by kernel_rfl) (by kernel_rfl) (by kernel_rfl) (fun _ _ _ h => h) (Or.inl ⟨by kernel_rfl, ?_⟩) (by assumption) ?_
              rotate_left
              · (intro wx hSw; (try dsimp only at hSw); go_simp; try (with_reducible rfl))
              try simp only [Act.put, List.getElem_toArray, List.getElem_cons_succ, List.getElem_cons_zero, List.setIfInBounds_toArray, List.set_cons_zero, List.set_cons_succ]
              refine wpAnyH_ready (rs := [7]) (by kernel_rfl) (by simp) ?_
              refine (AllReadyH.cons rfl (fun K hK => ?_) AllReadyH.nil)
              go_simp
              have hbx : Bl wd2 (wd2.alloc (.cells #[.slice none 0 0, .slice none 0 0, .slice none 0 0] 31)) := (Bl.refl _).alloc_ _
              have BZ := Lib.hid (Bz.new wd2)
              have WZ := Lib.hid (show w5.heap.size ≤ wd2.heap.size from I.out.size)
              have I' := Lib.hid (I.out.trans_ hbx)
              clear I hbx
              have I := I'
              clear I'
              refine hK.out _ _ (HSH.out _ I.out) (fun hHeld => ?_)
              clear hK K
              try simp only [Act.put, List.getElem_toArray, List.getElem_cons_succ, List.getElem_cons_zero, List.setIfInBounds_toArray, List.set_cons_zero, List.set_cons_succ]
              refine wpAnyH_ready (rs := [8]) (by kernel_rfl) (by simp) ?_
              refine (AllReadyH.cons rfl (fun K hK => ?_) AllReadyH.nil)
              go_simp
              have CR := Lib.hid (CutR.alloc_ J.out CC)
              refine hK.out _ _ (HSH.out _ (J.out.bl.alloc_ _)) (fun hHeld => ?_)
              clear hK K
              try simp only [Act.put, List.getElem_toArray, List.getElem_cons_succ, List.getElem_cons_zero, List.setIfInBounds_toArray, List.set_cons_zero, List.set_cons_succ]
              refine wpAnyH_take (i := 9) (v := ?_) rfl (by kernel_rfl) (by kernel_rfl) (by kernel_rfl) (fun _ _ _ h => h) (Or.inl ⟨by kernel_rfl, ?_⟩) (by assumption) ?_
              rotate_left
              · (intro wx hSw; (try dsimp only at hSw); go_simp; try (with_reducible rfl))
              try simp only [Act.put, List.getElem_toArray, List.getElem_cons_succ, List.getElem_cons_zero, List.setIfInBounds_toArray, List.set_cons_zero, List.set_cons_succ]
              refine wpAnyH_done (by kernel_rfl) ?_ _
              try (go_wp2_with fail)
              go_meet
              exact CR.out
            · go_simp
              have hbx : Bl wb (wb.alloc (.cells #[.slice none 0 0, .slice none 0 0, .slice none 0 0] 31)) := (Bl.refl _).alloc_ _
              have DX' := Lib.hid (DX.out.bl hbx)
              clear DX
              have DX := DX'
              clear DX'
              have BZ := Lib.hid (Bz.new wb)
              have WZ := Lib.hid (show w5.heap.size ≤ wb.heap.size from I.out.size)
              have I' := Lib.hid (I.out.trans_ hbx)
              clear I hbx
              have I := I'
              clear I'
              refine hK.out _ _ (HSH.out _ I.out) (fun hHeld => ?_)
              clear hK K
              try simp only [Act.put, List.getElem_toArray, List.getElem_cons_succ, List.getElem_cons_zero, List.setIfInBounds_toArray, List.set_cons_zero, List.set_cons_succ]
              refine wpAnyH_ready (rs := [3]) (by kernel_rfl) (by simp) ?_
              refine (AllReadyH.cons rfl (fun K hK => ?_) AllReadyH.nil)
              go_simp
              (go_at_call 27; refine (implDo_any KB.out o hos _ DX.out).mono ?_; rintro e wd2 ⟨vA, vB, vC, rfl, hJ⟩)
              obtain ⟨PA, PB, PC, kA, eA, kB, eB, kC, eC, ⟨rfl, rfl, rfl⟩, -⟩ := hJ.opened'
              rw [← HLA.out, ← HLB.out, ← HLC.out] at hJ
              rw [← HCC.out]
              have hbx := hJ.bl
              have SP := Lib.hid (hJ.apart BZ.out.bx.lt)
              have J := Lib.hid (hJ.low I.out)
              have BZ' := Lib.hid (BZ.out.bl hbx)
              clear BZ
              have BZ := BZ'
              clear BZ'
              have I' := Lib.hid (I.out.trans_ hbx)
              clear I
              have I := I'
              clear I'
              clear hJ DX hbx
              try (go_wp2_with fail)
              refine hK.out _ _ (HSH.out _ I.out) (fun hHeld => ?_)
              clear hK K
              try simp only [Act.put, List.getElem_toArray, List.getElem_cons_succ, List.getElem_cons_zero, List.setIfInBounds_toArray, List.set_cons_zero, List.set_cons_succ]
              refine wpAnyH_take (i := 4) (v := ?_) rfl (by kernel_rfl) (by kernel_rfl) (by kernel_rfl) (fun _ _ _ h => h) (Or.inl ⟨by kernel_rfl, ?_⟩) (by assumption) ?_
              rotate_left
              · (intro wx hSw; (try dsimp only at hSw); go_simp; try (with_reducible rfl))
              try simp only [Act.put, List.getElem_toArray, List.getElem_cons_succ, List.getElem_cons_zero, List.setIfInBounds_toArray, List.set_cons_zero, List.set_cons_succ]
              refine wpAnyH_take (i := 5) (v := ?_) rfl (by kernel_rfl) (by kernel_rfl) (by kernel_rfl) (fun _ _ _ h => h) (Or.inl ⟨by kernel_rfl, ?_⟩) (by assumption) ?_
              rotate_left
              · (intro wx hSw; (try dsimp only at hSw); go_simp; try (with_reducible rfl))
              try simp only [Act.put, List.getElem_toArray, List.getElem_cons_succ, List.getElem_cons_zero, List.setIfInBounds_toArray, List.set_cons_zero, List.set_cons_succ]
              refine wpAnyH_take (i := 6) (v := ?_) rfl (by kernel_rfl) (by kernel_rfl) (by kernel_rfl) (fun _ _ _ h => h) (Or.inl ⟨by kernel_rfl, ?_⟩) (by assumption) ?_
              rotate_left
              · (intro wx hSw; (try dsimp only at hSw); go_simp; try (with_reducible rfl))
              try simp only [Act.put, List.getElem_toArray, List.getElem_cons_succ, List.getElem_cons_zero, List.setIfInBounds_toArray, List.set_cons_zero, List.set_cons_succ]
              refine wpAnyH_ready (rs := [8]) (by kernel_rfl) (by simp) ?_
              refine (AllReadyH.cons rfl (fun K hK => ?_) AllReadyH.nil)
              obtain ⟨⟨z0, z1, z2⟩, z3⟩ := BZ.out
              go_simp
              have CR := Lib.hid (CutR.set_ J.out BZ.out WZ.out SP.out CC)
              refine hK.out _ _ (HSH.out _ (Bl.set_ (Bl.set_ (Bl.set_ J.out.bl WZ.out _) WZ.out _) WZ.out _)) (fun hHeld => ?_)
              clear hK K
              try simp only [Act.put, List.getElem_toArray, List.getElem_cons_succ, List.getElem_cons_zero, List.setIfInBounds_toArray, List.set_cons_zero, List.set_cons_succ]
              refine wpAnyH_take (i := 9) (v := ?_) rfl (by kernel_rfl) (by kernel_rfl) (by kernel_rfl) (fun _ _ _ h => h) (Or.inl ⟨by kernel_rfl, ?_⟩) (by assumption) ?_
              rotate_left
              · (intro wx hSw; (try dsimp only at hSw); go_simp; try (with_reducible rfl))
              try simp only [Act.put, List.getElem_toArray, List.getElem_cons_succ, List.getElem_cons_zero, List.setIfInBounds_toArray, List.set_cons_zero, List.set_cons_succ]
              refine wpAnyH_done (by kernel_rfl) ?_ _
              try (go_wp2_with fail)
              go_meet
              exact CR.out
          · go_simp
            have hbx : Bl wd (wd.alloc (.cells #[.slice none 0 0, .slice none 0 0, .slice none 0 0] 31)) := (Bl.refl _).alloc_ _
            have DX' := Lib.hid (DX.out.bl hbx)
            clear DX
            have DX := DX'
            clear DX'
            have BZ := Lib.hid (Bz.new wd)
            have WZ := Lib.hid (show w5.heap.size ≤ wd.heap.size from I.out.size)
            have I' := Lib.hid (I.out.trans_ hbx)
            clear I hbx
            have I := I'
            clear I'
            refine hK.out _ _ (HSH.out _ I.out) (fun hHeld => ?_)
            clear hK K
            try simp only [Act.put, List.getElem_toArray, List.getElem_cons_succ, List.getElem_cons_zero, List.setIfInBounds_toArray, List.set_cons_zero, List.set_cons_succ]
            refine wpAnyH_ready (rs := [2]) (by kernel_rfl) (by simp) ?_
            refine (AllReadyH.cons rfl (fun K hK => ?_) AllReadyH.nil)
            go_simp
            (go_at_call 26; refine (toDOp_any o _).mono ?_; rintro e wb ⟨rfl, hbx⟩)
            have BZ' := Lib.hid (BZ.out.bl hbx)
            clear BZ
            have BZ := BZ'
            clear BZ'
            have DX' := Lib.hid (DX.out.bl hbx)
            clear DX
            have DX := DX'
            clear DX'
            have I' := Lib.hid (I.out.trans_ hbx)
            clear I
            have I := I'
            clear I'
            clear hbx
            try (go_wp2_with fail)
            refine hK.out _ _ (HSH.out _ I.out) (fun hHeld => ?_)
            clear hK K
            try simp only [Act.put, List.getElem_toArray, List.getElem_cons_succ, List.getElem_cons_zero, List.setIfInBounds_toArray, List.set_cons_zero, List.set_cons_succ]
            refine wpAnyH_ready (rs := [3]) (by kernel_rfl) (by simp) ?_
            refine (AllReadyH.cons rfl (fun K hK => ?_) AllReadyH.nil)
            go_simp
            (go_at_call 27; refine (implDo_any KB.out o hos _ DX.out).mono ?_; rintro e wd2 ⟨vA, vB, vC, rfl, hJ⟩)
            obtain ⟨PA, PB, PC, kA, eA, kB, eB, kC, eC, ⟨rfl, rfl, rfl⟩, -⟩ := hJ.opened'
            rw [← HLA.out, ← HLB.out, ← HLC.out] at hJ
            rw [← HCC.out]
            have hbx := hJ.bl
            have SP := Lib.hid (hJ.apart BZ.out.bx.lt)
            have J := Lib.hid (hJ.low I.out)
            have BZ' := Lib.hid (BZ.out.bl hbx)
            clear BZ
            have BZ := BZ'
            clear BZ'
            have I' := Lib.hid (I.out.trans_ hbx)
            clear I
            have I := I'
            clear I'
            clear hJ DX hbx
            try (go_wp2_with fail)
            refine hK.out _ _ (HSH.out _ I.out) (fun hHeld => ?_)
            clear hK K
            try simp only [Act.put, List.getElem_toArray, List.getElem_cons_succ, List.getElem_cons_zero, List.setIfInBounds_toArray, List.set_cons_zero, List.set_cons_succ]
            refine wpAnyH_take (i := 4) (v := ?_) rfl (by kernel_rfl) (by kernel_rfl) (by kernel_rfl) (fun _ _ _ h => h) (Or.inl ⟨by kernel_rfl, ?_⟩) (by assumption) ?_
            rotate_left
            · (intro wx hSw; (try dsimp only at hSw); go_simp; try (with_reducible rfl))
            try simp only [Act.put, List.getElem_toArray, List.getElem_cons_succ, List.getElem_cons_zero, List.setIfInBounds_toArray, List.set_cons_zero, List.set_cons_succ]
            refine wpAnyH_take (i := 5) (v := ?_) rfl (by kernel_rfl) (by kernel_rfl) (by kernel_rfl) (fun _ _ _ h => h) (Or.inl ⟨by kernel_rfl, ?_⟩) (by assumption) ?_
            rotate_left
            · (intro wx hSw; (try dsimp only at hSw); go_simp; try (with_reducible rfl))
            try simp only [Act.put, List.getElem_toArray, List.getElem_cons_succ, List.getElem_cons_zero, List.setIfInBounds_toArray, List.set_cons_zero, List.set_cons_succ]
            refine wpAnyH_take (i := 6) (v := ?_) rfl (by kernel_rfl) (by kernel_rfl) (by kernel_rfl) (fun _ _ _ h => h) (Or.inl ⟨by kernel_rfl, ?_⟩) (by assumption) ?_
            rotate_left
            · (intro wx hSw; (try dsimp only at hSw); go_simp; try (with_reducible rfl))
            try simp only [Act.put, List.getElem_toArray, List.getElem_cons_succ, List.getElem_cons_zero, List.setIfInBounds_toArray, List.set_cons_zero, List.set_cons_succ]
            refine wpAnyH_ready (rs := [8]) (by kernel_rfl) (by simp) ?_
            refine (AllReadyH.cons rfl (fun K hK => ?_) AllReadyH.nil)
            obtain ⟨⟨z0, z1, z2⟩, z3⟩ := BZ.out
            go_simp
            have CR := Lib.hid (CutR.set_ J.out BZ.out WZ.out SP.out CC)
            refine hK.out _ _ (HSH.out _ (Bl.set_ (Bl.set_ (Bl.set_ J.out.bl WZ.out _) WZ.out _) WZ.out _)) (fun hHeld => ?_)
            clear hK K
            try simp only [Act.put, List.getElem_toArray, List.getElem_cons_succ, List.getElem_cons_zero, List.setIfInBounds_toArray, List.set_cons_zero, List.set_cons_succ]
            refine wpAnyH_take (i := 9) (v := ?_) rfl (by kernel_rfl) (by kernel_rfl) (by kernel_rfl) (fun _ _ _ h => h) (Or.inl ⟨by kernel_rfl, ?_⟩) (by assumption) ?_
            rotate_left
            · (intro wx hSw; (try dsimp only at hSw); go_simp; try (with_reducible rfl))
            try simp only [Act.put, List.getElem_toArray, List.getElem_cons_succ, List.getElem_cons_zero, List.setIfInBounds_toArray, List.set_cons_zero, List.set_cons_succ]
            refine wpAnyH_done (by kernel_rfl) ?_ _
            try (go_wp2_with fail)
            go_meet
            exact CR.out
        case rest =>
          obtain ⟨bg, f1, f2, f3, m1, e1, m2, e2, m3, e3, rfl, rfl, hbg, hT, hI6, hGA⟩ := hcut
          obtain ⟨w6, rfl⟩ : ∃ x : World, x = wc := ⟨_, rfl⟩
          obtain ⟨q1', q2', q3', r1', r1c, r2', r2c, r3', r3c, ⟨t1, t2, t3⟩, ⟨hm1', hm2', hm3'⟩, hG, hGW, hGI⟩ := hI6.opened
          injection t1 with t11 t12 t13; injection t2 with t21 t22 t23; injection t3 with t31 t32 t33
          subst t11; subst t12; subst t21; subst t22; subst t31; subst t32
          clear t13 t23 t33
          obtain rfl : m1 = k1 := hm1'.trans SK1.out.symm
          obtain rfl : m2 = k2 := hm2'.trans SK2.out.symm
          obtain rfl : m3 = k3 := hm3'.trans SK3.out.symm
          have z6 := hI6.bl.size
          have hbgl := hT.lt
          have B6 := Lib.hid (B5.out.trans_ hI6.bl)
          have E6 := Lib.hid (E5.out.trans_ hI6.bl)
          have T6 := Lib.hid hT
          have GA := Lib.hid hGA
          have P6 := Lib.hid (P5.out.bl hI6.bl)
          have Q6 := Lib.hid (Q5.out.bl hI6.bl)
          have R6 := Lib.hid (R5.out.bl hI6.bl)
          have S6 := Lib.hid (S5.out.bl hI6.bl)
          have X6 := Lib.hid (X5.out.bl hI6.bl)
          have V6 := Lib.hid (V5.out.bl hI6.bl)
          have G6 := Lib.hid hG
          have U6 := Lib.hid hGW
          have GI := Lib.hid hGI
          have hCn : (CC != CC) = false := by simp
          clear hI6 hm1' hm2' hm3' hG hGW hGI hT hGA
          obtain ⟨Pc0, Pc1, Pc2⟩ := P6.out
          obtain ⟨Qc0, Qc1, Qc2⟩ := Q6.out
          obtain ⟨Rc0, Rc1, Rc2⟩ := R6.out
          obtain ⟨Tc0, Tc1, Tc2⟩ := T6.out
          go_wp2_with fail
          refine (eqDisk_yes _ _ _ _ _ _ _ _ _ e1 e2 e3 d1 d2 d3 LA LB LC SK1.out SK2.out SK3.out _ lk1 lk2 lk3 G6.out S6.out).mono ?_
          rintro e w7 ⟨rfl, hb7⟩
          have z7 := hb7.size
          have B7 := Lib.hid (B6.out.trans_ hb7)
          have E7 := Lib.hid (E6.out.trans_ hb7)
          have P7 := Lib.hid (P6.out.bl hb7)
          have Q7 := Lib.hid (Q6.out.bl hb7)
          have R7 := Lib.hid (R6.out.bl hb7)
          have T7 := Lib.hid (T6.out.bl hb7)
          have S7 := Lib.hid (S6.out.bl hb7)
          have X7 := Lib.hid (X6.out.bl hb7)
          have V7 := Lib.hid (V6.out.bl hb7)
          have G7 := Lib.hid (G6.out.bl hb7)
          have U7 := Lib.hid (U6.out.bl hb7)
          clear Pc0 Pc1 Pc2 Qc0 Qc1 Qc2 Rc0 Rc1 Rc2 Tc0 Tc1 Tc2 hb7
          obtain ⟨Pc0, Pc1, Pc2⟩ := P7.out
          obtain ⟨Qc0, Qc1, Qc2⟩ := Q7.out
          obtain ⟨Rc0, Rc1, Rc2⟩ := R7.out
          obtain ⟨Tc0, Tc1, Tc2⟩ := T7.out
          have HSH := Lib.hid (show ∀ wx, Bl w7 wx → Bl w7 wx ∧ wx.cell? ⟨w.heap.size, 0, none⟩ = some (.slice A1 n1 c1) ∧ wx.cell? ⟨w.heap.size, 1, none⟩ = some (.slice A2 n2 c2) ∧ wx.cell? ⟨w.heap.size, 2, none⟩ = some (.slice A3 n3 c3) ∧ wx.cell? ⟨w4.heap.size, 0, none⟩ = some (.slice (some ⟨g41, 0, none⟩) n1 n1) ∧ wx.cell? ⟨w4.heap.size, 1, none⟩ = some (.slice (some ⟨g42, 0, none⟩) n2 n2) ∧ wx.cell? ⟨w4.heap.size, 2, none⟩ = some (.slice (some ⟨g43, 0, none⟩) n3 n3) from fun wx hb => ⟨hb, (P7.out.bl hb).c0, (P7.out.bl hb).c1, (P7.out.bl hb).c2, (R7.out.bl hb).c0, (R7.out.bl hb).c1, (R7.out.bl hb).c2⟩)
          go_wp2_with fail
          refine wp_region_held_drew (S := fun wx => Bl w7 wx ∧ wx.cell? ⟨w.heap.size, 0, none⟩ = some (.slice A1 n1 c1) ∧ wx.cell? ⟨w.heap.size, 1, none⟩ = some (.slice A2 n2 c2) ∧ wx.cell? ⟨w.heap.size, 2, none⟩ = some (.slice A3 n3 c3) ∧ wx.cell? ⟨w4.heap.size, 0, none⟩ = some (.slice (some ⟨g41, 0, none⟩) n1 n1) ∧ wx.cell? ⟨w4.heap.size, 1, none⟩ = some (.slice (some ⟨g42, 0, none⟩) n2 n2) ∧ wx.cell? ⟨w4.heap.size, 2, none⟩ = some (.slice (some ⟨g43, 0, none⟩) n3 n3)) (by kernel_rfl) ?_ (fun hHeld => ?_)
          · (first | exact HSH.out _ (Bl.drew_ (Bl.refl _)) | exact HSH.out _ ((Bl.drew_ (Bl.refl _)).trans_ hb8) | exact HSH.out _ (((Bl.drew_ (Bl.refl _)).trans_ hb8).trans_ hb9))
          refine wpAnyH_take (i := 0) (v := ?_) rfl (by kernel_rfl) (by kernel_rfl) (by kernel_rfl) (fun _ _ _ h => h) (Or.inl ⟨by kernel_rfl, ?_⟩) (by assumption) ?_
          rotate_left
          · (intro wx hSw; (try dsimp only at hSw); go_simp; try (with_reducible rfl))
          try simp only [Act.put, List.getElem_toArray, List.getElem_cons_succ, List.getElem_cons_zero, List.setIfInBounds_toArray, List.set_cons_zero, List.set_cons_succ]
          refine wpAnyH_take (i := 1) (v := ?_) rfl (by kernel_rfl) (by kernel_rfl) (by kernel_rfl) (fun _ _ _ h => h) (Or.inl ⟨by kernel_rfl, ?_⟩) (by assumption) ?_
          rotate_left
          · (intro wx hSw; (try dsimp only at hSw); go_simp; try (with_reducible rfl))
          try simp only [Act.put, List.getElem_toArray, List.getElem_cons_succ, List.getElem_cons_zero, List.setIfInBounds_toArray, List.set_cons_zero, List.set_cons_succ]
          refine wpAnyH_ready (rs := [2]) (by kernel_rfl) (by simp) ?_
          refine AllReadyH.cons rfl (fun K hK => ?_) AllReadyH.nil
          go_simp
          (go_at_call 15; refine (toDisk_any A1 A2 A3 n1 c1 n2 c2 n3 c3 L1 L2 O N1.out N2.out N3.out _ b1 b2 b3 (KH.out.f1.bl B7.out.drew_) (KH.out.f2.bl B7.out.drew_) (KH.out.f3.bl B7.out.drew_)).mono ?_; rintro e w8 ⟨g81, g82, g83, rfl, hd8, hb8⟩; have D8 := Lib.hid hd8; clear hd8)
          try (go_wp2_with fail)
          refine hK.out _ _ ?_ (fun hHeld => ?_)
          · (first | exact HSH.out _ (Bl.drew_ (Bl.refl _)) | exact HSH.out _ ((Bl.drew_ (Bl.refl _)).trans_ hb8) | exact HSH.out _ (((Bl.drew_ (Bl.refl _)).trans_ hb8).trans_ hb9))
          clear hK K
          try simp only [Act.put, List.getElem_toArray, List.getElem_cons_succ, List.getElem_cons_zero, List.setIfInBounds_toArray, List.set_cons_zero, List.set_cons_succ]
          refine wpAnyH_ready (rs := [3]) (by kernel_rfl) (by simp) ?_
          refine AllReadyH.cons rfl (fun K hK => ?_) AllReadyH.nil
          go_simp
          (go_at_call 17; refine (eqDisk_yes _ _ _ _ _ _ n1 n2 n3 n1 n2 n3 n1 n2 n3 L1 L2 O N1.out N2.out N3.out _ b1 b2 b3 (X7.out.bl ((Bl.drew_ (Bl.refl _)).trans_ hb8)) D8.out.at_).mono ?_; rintro e w9 ⟨rfl, hb9⟩)
          try (go_wp2_with fail)
          refine hK.out _ _ ?_ (fun hHeld => ?_)
          · (first | exact HSH.out _ (Bl.drew_ (Bl.refl _)) | exact HSH.out _ ((Bl.drew_ (Bl.refl _)).trans_ hb8) | exact HSH.out _ (((Bl.drew_ (Bl.refl _)).trans_ hb8).trans_ hb9))
          clear hK K
          try simp only [Act.put, List.getElem_toArray, List.getElem_cons_succ, List.getElem_cons_zero, List.setIfInBounds_toArray, List.set_cons_zero, List.set_cons_succ]
          refine wpAnyH_take (i := 4) (v := ?_) rfl (by kernel_rfl) (by kernel_rfl) (by kernel_rfl) (fun _ _ _ h => h) (Or.inl ⟨by kernel_rfl, ?_⟩) (by assumption) ?_
          rotate_left
          · (intro wx hSw; (try dsimp only at hSw); go_simp; try (with_reducible rfl))
          try simp only [Act.put, List.getElem_toArray, List.getElem_cons_succ, List.getElem_cons_zero, List.setIfInBounds_toArray, List.set_cons_zero, List.set_cons_succ]
          refine wpAnyH_done (by kernel_rfl) ?_ _
          have hb79 := hHeld.1
          have z9 := hb79.size
          have B9 := Lib.hid (B7.out.trans_ hb79)
          have E9 := Lib.hid (E7.out.trans_ hb79)
          have P9 := Lib.hid (P7.out.bl hb79)
          have Q9 := Lib.hid (Q7.out.bl hb79)
          have R9 := Lib.hid (R7.out.bl hb79)
          have T9 := Lib.hid (T7.out.bl hb79)
          have S9 := Lib.hid (S7.out.bl hb79)
          have V9 := Lib.hid (V7.out.bl hb79)
          have G9 := Lib.hid (G7.out.bl hb79)
          have U9 := Lib.hid (U7.out.bl hb79)
          clear Pc0 Pc1 Pc2 Qc0 Qc1 Qc2 Rc0 Rc1 Rc2 Tc0 Tc1 Tc2 hHeld hb8 hb9 hb79
          obtain ⟨Pc0, Pc1, Pc2⟩ := P9.out
          obtain ⟨Qc0, Qc1, Qc2⟩ := Q9.out
          obtain ⟨Rc0, Rc1, Rc2⟩ := R9.out
          obtain ⟨Tc0, Tc1, Tc2⟩ := T9.out
          go_wp2_with fail
          refine (markDisk_any _ _ _ n1 n2 n3 n1 n2 n3 1 _ b1 b2 b3 (by omega) (by omega) V9.out).mono ?_
          rintro e w10 ⟨rfl, -, hT10⟩
          have hn10 : ∀ g, ¬ (w3.heap.size ≤ g ∧ g < w4.heap.size) → ¬ DkS (some ⟨g41, 0, none⟩) (some ⟨g42, 0, none⟩) (some ⟨g43, 0, none⟩) n1 n2 n3 g := fun g hg hs => hg (XI.out.dks hs)
          have z10 := hT10.size
          have B10 := Lib.hid (Turn.to_bl B9.out hT10 (fun g hs => by have := XI.out.dks hs; omega))
          have O10 := Lib.hid (show w10.cell? ⟨w.heap.size + 1, 0, none⟩ = some (.int .i64 o.kind) ∧ w10.cell? ⟨w.heap.size + 1, 1, none⟩ = some (.string o.name) ∧ w10.cell? ⟨w.heap.size + 1, 2, none⟩ = some (.string o.to) ∧ w10.cell? ⟨w.heap.size + 1, 3, none⟩ = some (.string o.data) from by
            obtain ⟨u0, u1, u2, u3⟩ := OBX.out _ E9.out
            have hl := World.block_lt_of_cell? _ _ u0
            have hn := hn10 (w.heap.size + 1) (by omega)
            exact ⟨(hT10.cell hl hn 0).trans u0, (hT10.cell hl hn 1).trans u1, (hT10.cell hl hn 2).trans u2, (hT10.cell hl hn 3).trans u3⟩)
          have P10 := Lib.hid (P9.out.turn hT10 (hn10 _ (by omega)))
          have Q10 := Lib.hid (Q9.out.turn hT10 (hn10 _ (by omega)))
          have T10 := Lib.hid (T9.out.turn hT10 (hn10 _ (by omega)))
          have S10 := Lib.hid ((S9.out.turn (Nat.le_refl _) hT10 SI.out (fun g _ _ => hn10 g (by omega))).more z10)
          have G10 := Lib.hid ((G9.out.turn (Nat.le_refl _) hT10 GI.out (fun g _ _ => hn10 g (by omega))).more z10)
          have U10 := Lib.hid (U9.out.turn hT10 GI.out (fun g _ _ => hn10 g (by omega)))
          clear Pc0 Pc1 Pc2 Qc0 Qc1 Qc2 Rc0 Rc1 Rc2 Tc0 Tc1 Tc2 hT10 hn10
          obtain ⟨Pc0, Pc1, Pc2⟩ := P10.out
          obtain ⟨Qc0, Qc1, Qc2⟩ := Q10.out
          obtain ⟨Tc0, Tc1, Tc2⟩ := T10.out
          have p9 : (0 : Int) ≤ 1 + 2 * (n1 : Int) + 2 * (n2 : Int) + 4 * (n3 : Int) := by omega
          go_wp2_with fail
          refine (eqDisk_yes _ _ _ _ _ _ _ _ _ e1 e2 e3 d1 d2 d3 LA LB LC SK1.out SK2.out SK3.out _ lk1 lk2 lk3 G10.out S10.out).mono ?_
          rintro e w11 ⟨rfl, hb11⟩
          have z11 := hb11.size
          have B11 := Lib.hid (B10.out.trans_ hb11)
          have OO11 := Lib.hid hb11
          have P11 := Lib.hid (P10.out.bl hb11)
          have Q11 := Lib.hid (Q10.out.bl hb11)
          have T11 := Lib.hid (T10.out.bl hb11)
          have S11 := Lib.hid (S10.out.bl hb11)
          have G11 := Lib.hid (G10.out.bl hb11)
          have U11 := Lib.hid (U10.out.bl hb11)
          clear Pc0 Pc1 Pc2 Qc0 Qc1 Qc2 Tc0 Tc1 Tc2 hb11 p9
          obtain ⟨Pc0, Pc1, Pc2⟩ := P11.out
          obtain ⟨Qc0, Qc1, Qc2⟩ := Q11.out
          obtain ⟨Tc0, Tc1, Tc2⟩ := T11.out
          go_wp2_with fail
          refine (markDisk_any _ _ _ _ _ _ e1 e2 e3 1 _ lk1 lk2 lk3 (by omega) (by omega) U11.out).mono ?_
          rintro e w12 ⟨rfl, hM12, hT12⟩
          have hn12 : ∀ g, ¬ (w5.heap.size ≤ g ∧ g < w6.heap.size) → ¬ DkS f1 f2 f3 m1 m2 m3 g := fun g hg hs => hg (GI.out.dks hs)
          have hnb : ¬ DkS f1 f2 f3 m1 m2 m3 bg := fun hs => by
            rcases hs with e | e | e
            · exact GA.out.1 bg (by rw [ownBlock_slice]; exact rowOf_block e) rfl
            · exact GA.out.2.1 bg (by rw [ownBlock_slice]; exact rowOf_block e) rfl
            · exact GA.out.2.2 bg (by rw [ownBlock_slice]; exact rowOf_block e) rfl
          have z12 := hT12.size
          have M12 := Lib.hid hM12
          have B12 := Lib.hid (Turn.to_bl B11.out hT12 (fun g hs => by have := GI.out.dks hs; omega))
          have P12 := Lib.hid (P11.out.turn hT12 (hn12 _ (by omega)))
          have Q12 := Lib.hid (Q11.out.turn hT12 (hn12 _ (by omega)))
          have T12 := Lib.hid (T11.out.turn hT12 hnb)
          have S12 := Lib.hid ((S11.out.turn (Nat.le_refl _) hT12 SI.out (fun g _ _ => hn12 g (by omega))).more z12)
          have OB12 := Lib.hid (show ∀ wx, Bl w12 wx → wx.cell? ⟨w.heap.size + 1, 0, none⟩ = some (.int .i64 o.kind) ∧ wx.cell? ⟨w.heap.size + 1, 1, none⟩ = some (.string o.name) ∧ wx.cell? ⟨w.heap.size + 1, 2, none⟩ = some (.string o.to) ∧ wx.cell? ⟨w.heap.size + 1, 3, none⟩ = some (.string o.data) from by
            obtain ⟨u0, u1, u2, u3⟩ := O10.out
            have hl0 := World.block_lt_of_cell? _ _ u0
            have hh := (bcell OO11.out).1
            have hl := Nat.lt_of_lt_of_le hl0 z11
            have hn := hn12 (w.heap.size + 1) (by omega)
            intro wx hb
            have hh2 := (bcell hb).1
            have hl2 := Nat.lt_of_lt_of_le hl z12
            exact ⟨(hh2 _ _ hl2).trans ((hT12.cell hl hn 0).trans ((hh _ _ hl0).trans u0)), (hh2 _ _ hl2).trans ((hT12.cell hl hn 1).trans ((hh _ _ hl0).trans u1)), (hh2 _ _ hl2).trans ((hT12.cell hl hn 2).trans ((hh _ _ hl0).trans u2)), (hh2 _ _ hl2).trans ((hT12.cell hl hn 3).trans ((hh _ _ hl0).trans u3))⟩)
          clear Pc0 Pc1 Pc2 Qc0 Qc1 Qc2 Tc0 Tc1 Tc2 hT12 hn12 hM12 hnb
          obtain ⟨Pc0, Pc1, Pc2⟩ := P12.out
          obtain ⟨Qc0, Qc1, Qc2⟩ := Q12.out
          obtain ⟨Tc0, Tc1, Tc2⟩ := T12.out
          go_wp2_with fail
          refine (heldDisk_any _ _ _ _ _ _ e1 e2 e3 1 _ lk1 lk2 lk3 (by omega) (by omega) M12.out).mono ?_
          rintro e w13 ⟨rfl, hb13⟩
          have z13 := hb13.size
          have B13 := Lib.hid (B12.out.trans_ hb13)
          have OO13 := Lib.hid hb13
          have P13 := Lib.hid (P12.out.bl hb13)
          have Q13 := Lib.hid (Q12.out.bl hb13)
          have T13 := Lib.hid (T12.out.bl hb13)
          have S13 := Lib.hid (S12.out.bl hb13)
          have M13 := Lib.hid (M12.out.bl hb13)
          clear Pc0 Pc1 Pc2 Qc0 Qc1 Qc2 Tc0 Tc1 Tc2 hb13
          obtain ⟨t, ht⟩ : ∃ t : Int, t = 1 + 2 * (m1 : Int) + 2 * (m2 : Int) + 4 * (m3 : Int) := ⟨_, rfl⟩
          have p12 : (0 : Int) ≤ t := by omega
          rw [← ht]
          have HT := Lib.hid ht
          have q12 : (t != t) = false := by simp
          clear ht
          obtain ⟨Pc0, Pc1, Pc2⟩ := P13.out
          obtain ⟨o10, o11, o12, o13⟩ := OB12.out _ OO13.out
          go_upto_region 27 with fail
          go_cut [14, 15] from 84 to 91 (fun v6 v7 wc => CutR w13 wc v6 v7 LA LB LC CC)
          case first =>
            have HSH := Lib.hid (show ∀ wx, Bl w13 wx → wx.cell? ⟨w.heap.size, 0, none⟩ = some (.slice A1 n1 c1) ∧ wx.cell? ⟨w.heap.size, 1, none⟩ = some (.slice A2 n2 c2) ∧ wx.cell? ⟨w.heap.size, 2, none⟩ = some (.slice A3 n3 c3) ∧ wx.cell? ⟨w.heap.size + 1, 0, none⟩ = some (.int .i64 o.kind) ∧ wx.cell? ⟨w.heap.size + 1, 1, none⟩ = some (.string o.name) ∧ wx.cell? ⟨w.heap.size + 1, 2, none⟩ = some (.string o.to) ∧ wx.cell? ⟨w.heap.size + 1, 3, none⟩ = some (.string o.data) from fun wx hb => ⟨(P13.out.bl hb).c0, (P13.out.bl hb).c1, (P13.out.bl hb).c2, OB12.out _ (OO13.out.trans_ hb)⟩)
            have BO := Lib.hid B13.out
            refine wp_region_held_drew (S := fun wx => wx.cell? ⟨w.heap.size, 0, none⟩ = some (.slice A1 n1 c1) ∧ wx.cell? ⟨w.heap.size, 1, none⟩ = some (.slice A2 n2 c2) ∧ wx.cell? ⟨w.heap.size, 2, none⟩ = some (.slice A3 n3 c3) ∧ wx.cell? ⟨w.heap.size + 1, 0, none⟩ = some (.int .i64 o.kind) ∧ wx.cell? ⟨w.heap.size + 1, 1, none⟩ = some (.string o.name) ∧ wx.cell? ⟨w.heap.size + 1, 2, none⟩ = some (.string o.to) ∧ wx.cell? ⟨w.heap.size + 1, 3, none⟩ = some (.string o.data)) (by kernel_rfl) (HSH.out _ (Bl.drew_ (Bl.refl _))) (fun hHeld => ?_)
            generalize hwd : World.drew w13 = wd at hHeld ⊢
            have I := Lib.hid (show Bl w13 wd from by rw [← hwd]; exact Bl.drew_ (Bl.refl _))
            clear hwd
            refine wpAnyH_take (i := 0) (v := ?_) rfl (by kernel_rfl) (by kernel_rfl) (by kernel_rfl) (fun _ _ _ h => h) (Or.inl ⟨by kernel_rfl, ?_⟩) (by assumption) ?_
            rotate_left
            · (intro wx hSw; (try dsimp only at hSw); go_simp; try (with_reducible rfl))
            try simp only [Act.put, List.getElem_toArray, List.getElem_cons_succ, List.getElem_cons_zero, List.setIfInBounds_toArray, List.set_cons_zero, List.set_cons_succ]
            refine wpAnyH_take (i := 2) (v := ?_) rfl (by kernel_rfl) (by kernel_rfl) (by kernel_rfl) (fun _ _ _ h => h) (Or.inl ⟨by kernel_rfl, ?_⟩) (by assumption) ?_
            rotate_left
            · (intro wx hSw; (try dsimp only at hSw); go_simp; try (with_reducible rfl))
            try simp only [Act.put, List.getElem_toArray, List.getElem_cons_succ, List.getElem_cons_zero, List.setIfInBounds_toArray, List.set_cons_zero, List.set_cons_succ]
            refine wpAnyH_ready (rs := [1, 8]) (by kernel_rfl) (by simp) ?_
            refine (AllReadyH.cons rfl (fun K hK => ?_) (AllReadyH.cons rfl (fun K hK => ?_) AllReadyH.nil))
            · go_simp
              (go_at_call 15; refine (toDisk_any A1 A2 A3 n1 c1 n2 c2 n3 c3 L1 L2 O N1.out N2.out N3.out _ b1 b2 b3 (KH.out.f1.bl (BO.out.trans_ I.out)) (KH.out.f2.bl (BO.out.trans_ I.out)) (KH.out.f3.bl (BO.out.trans_ I.out))).mono ?_; rintro e wa ⟨gx1, gx2, gx3, rfl, hdx, hbx⟩)
              have I' := Lib.hid (I.out.trans_ hbx)
              clear I
              have I := I'
              clear I'
              have DX := Lib.hid hdx.at_
              clear hdx hbx
              try (go_wp2_with fail)
              refine hK.out _ _ (HSH.out _ I.out) (fun hHeld => ?_)
              clear hK K
              try simp only [Act.put, List.getElem_toArray, List.getElem_cons_succ, List.getElem_cons_zero, List.setIfInBounds_toArray, List.set_cons_zero, List.set_cons_succ]
              refine wpAnyH_ready (rs := [3, 8]) (by kernel_rfl) (by simp) ?_
              refine (AllReadyH.cons rfl (fun K hK => ?_) (AllReadyH.cons rfl (fun K hK => ?_) AllReadyH.nil))
              · go_simp
                (go_at_call 26; refine (toDOp_any o _).mono ?_; rintro e wb ⟨rfl, hbx⟩)
                have DX' := Lib.hid (DX.out.bl hbx)
                clear DX
                have DX := DX'
                clear DX'
                have I' := Lib.hid (I.out.trans_ hbx)
                clear I
                have I := I'
                clear I'
                clear hbx
                try (go_wp2_with fail)
                refine hK.out _ _ (HSH.out _ I.out) (fun hHeld => ?_)
                clear hK K
                try simp only [Act.put, List.getElem_toArray, List.getElem_cons_succ, List.getElem_cons_zero, List.setIfInBounds_toArray, List.set_cons_zero, List.set_cons_succ]
                refine wpAnyH_ready (rs := [4, 8]) (by kernel_rfl) (by simp) ?_
                refine (AllReadyH.cons rfl (fun K hK => ?_) (AllReadyH.cons rfl (fun K hK => ?_) AllReadyH.nil))
                · go_simp
                  (go_at_call 27; refine (implDo_any KB.out o hos _ DX.out).mono ?_; rintro e wd2 ⟨vA, vB, vC, rfl, hJ⟩)
                  obtain ⟨PA, PB, PC, kA, eA, kB, eB, kC, eC, ⟨rfl, rfl, rfl⟩, -⟩ := hJ.opened'
                  rw [← HLA.out, ← HLB.out, ← HLC.out] at hJ
                  rw [← HCC.out]
                  have hbx := hJ.bl
                  have J := Lib.hid (hJ.low I.out)
                  have I' := Lib.hid (I.out.trans_ hbx)
                  clear I
                  have I := I'
                  clear I'
                  clear hJ DX hbx
                  try (go_wp2_with fail)
                  refine hK.out _ _ (HSH.out _ I.out) (fun hHeld => ?_)
                  clear hK K
                  try simp only [Act.put, List.getElem_toArray, List.getElem_cons_succ, List.getElem_cons_zero, List.setIfInBounds_toArray, List.set_cons_zero, List.set_cons_succ]
                  refine wpAnyH_take (i := 5) (v := ?_) rfl (by kernel_rfl) (by kernel_rfl) (by kernel_rfl) (fun _ _ _ h => h) (Or.inl ⟨by kernel_rfl, ?_⟩) (by assumption) ?_
                  rotate_left
                  · (intro wx hSw; (try dsimp only at hSw); go_simp; try (with_reducible rfl))
                  try simp only [Act.put, List.getElem_toArray, List.getElem_cons_succ, List.getElem_cons_zero, List.setIfInBounds_toArray, List.set_cons_zero, List.set_cons_succ]
                  refine wpAnyH_take (i := 6) (v := ?_) rfl (by kernel_rfl) (by kernel_rfl) (by kernel_rfl) (fun _ _ _ h => h) (Or.inl ⟨by kernel_rfl, ?_⟩) (by assumption) ?_
                  rotate_left
                  · (intro wx hSw; (try dsimp only at hSw); go_simp; try (with_reducible rfl))
                  try simp only [Act.put, List.getElem_toArray, List.getElem_cons_succ, List.getElem_cons_zero, List.setIfInBounds_toArray, List.set_cons_zero, List.set_cons_succ]
                  refine wpAnyH_take (i := 7) (v := ?_) rfl (by kernel_rfl) (by kernel_rfl) (by kernel_rfl) (fun _ _ _ h => h) (Or.inl ⟨by kernel_rfl, ?_⟩) (by assumption) ?_
                  rotate_left
                  · (intro wx hSw; (try dsimp only at hSw); go_simp; try (with_reducible rfl))
                  try simp only [Act.put, List.getElem_toArray, List.getElem_cons_succ, List.getElem_cons_zero, List.setIfInBounds_toArray, List.set_cons_zero, List.set_cons_succ]
                  refine wpAnyH_ready (rs := [8]) (by kernel_rfl) (by simp) ?_
                  refine (AllReadyH.cons rfl (fun K hK => ?_) AllReadyH.nil)
                  go_simp
                  have hbx : Bl wd2 (wd2.alloc (.cells #[.slice none 0 0, .slice none 0 0, .slice none 0 0] 31)) := (Bl.refl _).alloc_ _
                  have BZ := Lib.hid (Bz.new wd2)
                  have WZ := Lib.hid (show w13.heap.size ≤ wd2.heap.size from I.out.size)
                  have I' := Lib.hid (I.out.trans_ hbx)
                  clear I hbx
                  have I := I'
                  clear I'
                  refine hK.out _ _ (HSH.out _ I.out) (fun hHeld => ?_)
                  clear hK K
                  try simp only [Act.put, List.getElem_toArray, List.getElem_cons_succ, List.getElem_cons_zero, List.setIfInBounds_toArray, List.set_cons_zero, List.set_cons_succ]
                  refine wpAnyH_ready (rs := [9]) (by kernel_rfl) (by simp) ?_
                  refine (AllReadyH.cons rfl (fun K hK => ?_) AllReadyH.nil)
                  go_simp
                  have CR := Lib.hid (CutR.alloc_ J.out CC)
                  refine hK.out _ _ (HSH.out _ (J.out.bl.alloc_ _)) (fun hHeld => ?_)
                  clear hK K
                  try simp only [Act.put, List.getElem_toArray, List.getElem_cons_succ, List.getElem_cons_zero, List.setIfInBounds_toArray, List.set_cons_zero, List.set_cons_succ]
                  refine wpAnyH_take (i := 10) (v := ?_) rfl (by kernel_rfl) (by kernel_rfl) (by kernel_rfl) (fun _ _ _ h => h) (Or.inl ⟨by kernel_rfl, ?_⟩) (by assumption) ?_
                  rotate_left
                  · (intro wx hSw; (try dsimp only at hSw); go_simp; try (with_reducible rfl))
                  try simp only [Act.put, List.getElem_toArray, List.getElem_cons_succ, List.getElem_cons_zero, List.setIfInBounds_toArray, List.set_cons_zero, List.set_cons_succ]
                  refine wpAnyH_done (by kernel_rfl) ?_ _
                  try (go_wp2_with fail)
                  go_meet
                  exact CR.out
                · go_simp
                  have hbx : Bl wb (wb.alloc (.cells #[.slice none 0 0, .slice none 0 0, .slice none 0 0] 31)) := (Bl.refl _).alloc_ _
                  have DX' := Lib.hid (DX.out.bl hbx)
                  clear DX
                  have DX := DX'
                  clear DX'
                  have BZ := Lib.hid (Bz.new wb)
                  have WZ := Lib.hid (show w13.heap.size ≤ wb.heap.size from I.out.size)
                  have I' := Lib.hid (I.out.trans_ hbx)
                  clear I hbx
                  have I := I'
                  clear I'
                  refine hK.out _ _ (HSH.out _ I.out) (fun hHeld => ?_)
                  clear hK K
                  try simp only [Act.put, List.getElem_toArray, List.getElem_cons_succ, List.getElem_cons_zero, List.setIfInBounds_toArray, List.set_cons_zero, List.set_cons_succ]
                  refine wpAnyH_ready (rs := [4]) (by kernel_rfl) (by simp) ?_
                  refine (AllReadyH.cons rfl (fun K hK => ?_) AllReadyH.nil)
                  go_simp
                  (go_at_call 27; refine (implDo_any KB.out o hos _ DX.out).mono ?_; rintro e wd2 ⟨vA, vB, vC, rfl, hJ⟩)
                  obtain ⟨PA, PB, PC, kA, eA, kB, eB, kC, eC, ⟨rfl, rfl, rfl⟩, -⟩ := hJ.opened'
                  rw [← HLA.out, ← HLB.out, ← HLC.out] at hJ
                  rw [← HCC.out]
                  have hbx := hJ.bl
                  have SP := Lib.hid (hJ.apart BZ.out.bx.lt)
                  have J := Lib.hid (hJ.low I.out)
                  have BZ' := Lib.hid (BZ.out.bl hbx)
                  clear BZ
                  have BZ := BZ'
                  clear BZ'
                  have I' := Lib.hid (I.out.trans_ hbx)
                  clear I
                  have I := I'
                  clear I'
                  clear hJ DX hbx
                  try (go_wp2_with fail)
                  refine hK.out _ _ (HSH.out _ I.out) (fun hHeld => ?_)
                  clear hK K
                  try simp only [Act.put, List.getElem_toArray, List.getElem_cons_succ, List.getElem_cons_zero, List.setIfInBounds_toArray, List.set_cons_zero, List.set_cons_succ]
                  refine wpAnyH_take (i := 5) (v := ?_) rfl (by kernel_rfl) (by kernel_rfl) (by kernel_rfl) (fun _ _ _ h => h) (Or.inl ⟨by kernel_rfl, ?_⟩) (by assumption) ?_
                  rotate_left
                  · (intro wx hSw; (try dsimp only at hSw); go_simp; try (with_reducible rfl))
                  try simp only [Act.put, List.getElem_toArray, List.getElem_cons_succ, List.getElem_cons_zero, List.setIfInBounds_toArray, List.set_cons_zero, List.set_cons_succ]
                  refine wpAnyH_take (i := 6) (v := ?_) rfl (by kernel_rfl) (by kernel_rfl) (by kernel_rfl) (fun _ _ _ h => h) (Or.inl ⟨by kernel_rfl, ?_⟩) (by assumption) ?_
                  rotate_left
                  · (intro wx hSw; (try dsimp only at hSw); go_simp; try (with_reducible rfl))
                  try simp only [Act.put, List.getElem_toArray, List.getElem_cons_succ, List.getElem_cons_zero, List.setIfInBounds_toArray, List.set_cons_zero, List.set_cons_succ]
                  refine wpAnyH_take (i := 7) (v := ?_) rfl (by kernel_rfl) (by kernel_rfl) (by kernel_rfl) (fun _ _ _ h => h) (Or.inl ⟨by kernel_rfl, ?_⟩) (by assumption) ?_
                  rotate_left
                  · (intro wx hSw; (try dsimp only at hSw); go_simp; try (with_reducible rfl))
                  try simp only [Act.put, List.getElem_toArray, List.getElem_cons_succ, List.getElem_cons_zero, List.setIfInBounds_toArray, List.set_cons_zero, List.set_cons_succ]
                  refine wpAnyH_ready (rs := [9]) (by kernel_rfl) (by simp) ?_
                  refine (AllReadyH.cons rfl (fun K hK => ?_) AllReadyH.nil)
                  obtain ⟨⟨z0, z1, z2⟩, z3⟩ := BZ.out
                  go_simp
                  have CR := Lib.hid (CutR.set_ J.out BZ.out WZ.out SP.out CC)
                  refine hK.out _ _ (HSH.out _ (Bl.set_ (Bl.set_ (Bl.set_ J.out.bl WZ.out _) WZ.out _) WZ.out _)) (fun hHeld => ?_)
                  clear hK K
                  try simp only [Act.put, List.getElem_toArray, List.getElem_cons_succ, List.getElem_cons_zero, List.setIfInBounds_toArray, List.set_cons_zero, List.set_cons_succ]
                  refine wpAnyH_take (i := 10) (v := ?_) rfl (by kernel_rfl) (by kernel_rfl) (by kernel_rfl) (fun _ _ _ h => h) (Or.inl ⟨by kernel_rfl, ?_⟩) (by assumption) ?_
                  rotate_left
                  · (intro wx hSw; (try dsimp only at hSw); go_simp; try (with_reducible rfl))
                  try simp only [Act.put, List.getElem_toArray, List.getElem_cons_succ, List.getElem_cons_zero, List.setIfInBounds_toArray, List.set_cons_zero, List.set_cons_succ]
                  refine wpAnyH_done (by kernel_rfl) ?_ _
                  try (go_wp2_with fail)
                  go_meet
                  exact CR.out
              · go_simp
                have hbx : Bl wa (wa.alloc (.cells #[.slice none 0 0, .slice none 0 0, .slice none 0 0] 31)) := (Bl.refl _).alloc_ _
                have DX' := Lib.hid (DX.out.bl hbx)
                clear DX
                have DX := DX'
                clear DX'
                have BZ := Lib.hid (Bz.new wa)
                have WZ := Lib.hid (show w13.heap.size ≤ wa.heap.size from I.out.size)
                have I' := Lib.hid (I.out.trans_ hbx)
                clear I hbx
                have I := I'
                clear I'
                refine hK.out _ _ (HSH.out _ I.out) (fun hHeld => ?_)
                clear hK K
                try simp only [Act.put, List.getElem_toArray, List.getElem_cons_succ, List.getElem_cons_zero, List.setIfInBounds_toArray, List.set_cons_zero, List.set_cons_succ]
                refine wpAnyH_ready (rs := [3]) (by kernel_rfl) (by simp) ?_
                refine (AllReadyH.cons rfl (fun K hK => ?_) AllReadyH.nil)
                go_simp
                (go_at_call 26; refine (toDOp_any o _).mono ?_; rintro e wb ⟨rfl, hbx⟩)
                have BZ' := Lib.hid (BZ.out.bl hbx)
                clear BZ
                have BZ := BZ'
                clear BZ'
                have DX' := Lib.hid (DX.out.bl hbx)
                clear DX
                have DX := DX'
                clear DX'
                have I' := Lib.hid (I.out.trans_ hbx)
                clear I
                have I := I'
                clear I'
                clear hbx
                try (go_wp2_with fail)
                refine hK.out _ _ (HSH.out _ I.out) (fun hHeld => ?_)
                clear hK K
                try simp only [Act.put, List.getElem_toArray, List.getElem_cons_succ, List.getElem_cons_zero, List.setIfInBounds_toArray, List.set_cons_zero, List.set_cons_succ]
                refine wpAnyH_ready (rs := [4]) (by kernel_rfl) (by simp) ?_
                refine (AllReadyH.cons rfl (fun K hK => ?_) AllReadyH.nil)
                go_simp
                (go_at_call 27; refine (implDo_any KB.out o hos _ DX.out).mono ?_; rintro e wd2 ⟨vA, vB, vC, rfl, hJ⟩)
                obtain ⟨PA, PB, PC, kA, eA, kB, eB, kC, eC, ⟨rfl, rfl, rfl⟩, -⟩ := hJ.opened'
                rw [← HLA.out, ← HLB.out, ← HLC.out] at hJ
                rw [← HCC.out]
                have hbx := hJ.bl
                have SP := Lib.hid (hJ.apart BZ.out.bx.lt)
                have J := Lib.hid (hJ.low I.out)
                have BZ' := Lib.hid (BZ.out.bl hbx)
                clear BZ
                have BZ := BZ'
                clear BZ'
                have I' := Lib.hid (I.out.trans_ hbx)
                clear I
                have I := I'
                clear I'
                clear hJ DX hbx
                try (go_wp2_with fail)
                refine hK.out _ _ (HSH.out _ I.out) (fun hHeld => ?_)
                clear hK K
                try simp only [Act.put, List.getElem_toArray, List.getElem_cons_succ, List.getElem_cons_zero, List.setIfInBounds_toArray, List.set_cons_zero, List.set_cons_succ]
                refine wpAnyH_take (i := 5) (v := ?_) rfl (by kernel_rfl) (by kernel_rfl) (by kernel_rfl) (fun _ _ _ h => h) (Or.inl ⟨by kernel_rfl, ?_⟩) (by assumption) ?_
                rotate_left
                · (intro wx hSw; (try dsimp only at hSw); go_simp; try (with_reducible rfl))
                try simp only [Act.put, List.getElem_toArray, List.getElem_cons_succ, List.getElem_cons_zero, List.setIfInBounds_toArray, List.set_cons_zero, List.set_cons_succ]
                refine wpAnyH_take (i := 6) (v := ?_) rfl (by kernel_rfl) (by kernel_rfl) (by kernel_rfl) (fun _ _ _ h => h) (Or.inl ⟨by kernel_rfl, ?_⟩) (by assumption) ?_
                rotate_left
                · (intro wx hSw; (try dsimp only at hSw); go_simp; try (with_reducible rfl))
                try simp only [Act.put, List.getElem_toArray, List.getElem_cons_succ, List.getElem_cons_zero, List.setIfInBounds_toArray, List.set_cons_zero, List.set_cons_succ]
                refine wpAnyH_take (i := 7) (v := ?_) rfl (by kernel_rfl) (by kernel_rfl) (by kernel_rfl) (fun _ _ _ h => h) (Or.inl ⟨by kernel_rfl, ?_⟩) (by assumption) ?_
                rotate_left
                · (intro wx hSw; (try dsimp only at hSw); go_simp; try (with_reducible rfl))
                try simp only [Act.put, List.getElem_toArray, List.getElem_cons_succ, List.getElem_cons_zero, List.setIfInBounds_toArray, List.set_cons_zero, List.set_cons_succ]
                refine wpAnyH_ready (rs := [9]) (by kernel_rfl) (by simp) ?_
                refine (AllReadyH.cons rfl (fun K hK => ?_) AllReadyH.nil)
                obtain ⟨⟨z0, z1, z2⟩, z3⟩ := BZ.out
                go_simp
                have CR := Lib.hid (CutR.set_ J.out BZ.out WZ.out SP.out CC)
                refine hK.out _ _ (HSH.out _ (Bl.set_ (Bl.set_ (Bl.set_ J.out.bl WZ.out _) WZ.out _) WZ.out _)) (fun hHeld => ?_)
                clear hK K
                try simp only [Act.put, List.getElem_toArray, List.getElem_cons_succ, List.getElem_cons_zero, List.setIfInBounds_toArray, List.set_cons_zero, List.set_cons_succ]
                refine wpAnyH_take (i := 10) (v := ?_) rfl (by kernel_rfl) (by kernel_rfl) (by kernel_rfl) (fun _ _ _ h => h) (Or.inl ⟨by kernel_rfl, ?_⟩) (by assumption) ?_
                rotate_left
                · (intro wx hSw; (try dsimp only at hSw); go_simp; try (with_reducible rfl))
                try simp only [Act.put, List.getElem_toArray, List.getElem_cons_succ, List.getElem_cons_zero, List.setIfInBounds_toArray, List.set_cons_zero, List.set_cons_succ]
                refine wpAnyH_done (by kernel_rfl) ?_ _
                try (go_wp2_with fail)
                go_meet
                exact CR.out
            · go_simp
              have hbx : Bl wd (wd.alloc (.cells #[.slice none 0 0, .slice none 0 0, .slice none 0 0] 31)) := (Bl.refl _).alloc_ _
              have BZ := Lib.hid (Bz.new wd)
              have WZ := Lib.hid (show w13.heap.size ≤ wd.heap.size from I.out.size)
              have I' := Lib.hid (I.out.trans_ hbx)
              clear I hbx
              have I := I'
              clear I'
              refine hK.out _ _ (HSH.out _ I.out) (fun hHeld => ?_)
              clear hK K
              try simp only [Act.put, List.getElem_toArray, List.getElem_cons_succ, List.getElem_cons_zero, List.setIfInBounds_toArray, List.set_cons_zero, List.set_cons_succ]
              refine wpAnyH_ready (rs := [1]) (by kernel_rfl) (by simp) ?_
              refine (AllReadyH.cons rfl (fun K hK => ?_) AllReadyH.nil)
              go_simp
              (go_at_call 15; refine (toDisk_any A1 A2 A3 n1 c1 n2 c2 n3 c3 L1 L2 O N1.out N2.out N3.out _ b1 b2 b3 (KH.out.f1.bl (BO.out.trans_ I.out)) (KH.out.f2.bl (BO.out.trans_ I.out)) (KH.out.f3.bl (BO.out.trans_ I.out))).mono ?_; rintro e wa ⟨gx1, gx2, gx3, rfl, hdx, hbx⟩)
              have BZ' := Lib.hid (BZ.out.bl hbx)
              clear BZ
              have BZ := BZ'
              clear BZ'
              have I' := Lib.hid (I.out.trans_ hbx)
              clear I
              have I := I'
              clear I'
              have DX := Lib.hid hdx.at_
              clear hdx hbx
              try (go_wp2_with fail)
              refine hK.out _ _ (HSH.out _ I.out) (fun hHeld => ?_)
              clear hK K
              try simp only [Act.put, List.getElem_toArray, List.getElem_cons_succ, List.getElem_cons_zero, List.setIfInBounds_toArray, List.set_cons_zero, List.set_cons_succ]
              refine wpAnyH_ready (rs := [3]) (by kernel_rfl) (by simp) ?_
              refine (AllReadyH.cons rfl (fun K hK => ?_) AllReadyH.nil)
              go_simp
              (go_at_call 26; refine (toDOp_any o _).mono ?_; rintro e wb ⟨rfl, hbx⟩)
              have BZ' := Lib.hid (BZ.out.bl hbx)
              clear BZ
              have BZ := BZ'
              clear BZ'
              have DX' := Lib.hid (DX.out.bl hbx)
              clear DX
              have DX := DX'
              clear DX'
              have I' := Lib.hid (I.out.trans_ hbx)
              clear I
              have I := I'
              clear I'
              clear hbx
              try (go_wp2_with fail)
              refine hK.out _ _ (HSH.out _ I.out) (fun hHeld => ?_)
              clear hK K
              try simp only [Act.put, List.getElem_toArray, List.getElem_cons_succ, List.getElem_cons_zero, List.setIfInBounds_toArray, List.set_cons_zero, List.set_cons_succ]
              refine wpAnyH_ready (rs := [4]) (by kernel_rfl) (by simp) ?_
              refine (AllReadyH.cons rfl (fun K hK => ?_) AllReadyH.nil)
              go_simp
              (go_at_call 27; refine (implDo_any KB.out o hos _ DX.out).mono ?_; rintro e wd2 ⟨vA, vB, vC, rfl, hJ⟩)
              obtain ⟨PA, PB, PC, kA, eA, kB, eB, kC, eC, ⟨rfl, rfl, rfl⟩, -⟩ := hJ.opened'
              rw [← HLA.out, ← HLB.out, ← HLC.out] at hJ
              rw [← HCC.out]
              have hbx := hJ.bl
              have SP := Lib.hid (hJ.apart BZ.out.bx.lt)
              have J := Lib.hid (hJ.low I.out)
              have BZ' := Lib.hid (BZ.out.bl hbx)
              clear BZ
              have BZ := BZ'
              clear BZ'
              have I' := Lib.hid (I.out.trans_ hbx)
              clear I
              have I := I'
              clear I'
              clear hJ DX hbx
              try (go_wp2_with fail)
              refine hK.out _ _ (HSH.out _ I.out) (fun hHeld => ?_)
              clear hK K
              try simp only [Act.put, List.getElem_toArray, List.getElem_cons_succ, List.getElem_cons_zero, List.setIfInBounds_toArray, List.set_cons_zero, List.set_cons_succ]
              refine wpAnyH_take (i := 5) (v := ?_) rfl (by kernel_rfl) (by kernel_rfl) (by kernel_rfl) (fun _ _ _ h => h) (Or.inl ⟨by kernel_rfl, ?_⟩) (by assumption) ?_
              rotate_left
              · (intro wx hSw; (try dsimp only at hSw); go_simp; try (with_reducible rfl))
              try simp only [Act.put, List.getElem_toArray, List.getElem_cons_succ, List.getElem_cons_zero, List.setIfInBounds_toArray, List.set_cons_zero, List.set_cons_succ]
              refine wpAnyH_take (i := 6) (v := ?_) rfl (by kernel_rfl) (by kernel_rfl) (by kernel_rfl) (fun _ _ _ h => h) (Or.inl ⟨by kernel_rfl, ?_⟩) (by assumption) ?_
              rotate_left
              · (intro wx hSw; (try dsimp only at hSw); go_simp; try (with_reducible rfl))
              try simp only [Act.put, List.getElem_toArray, List.getElem_cons_succ, List.getElem_cons_zero, List.setIfInBounds_toArray, List.set_cons_zero, List.set_cons_succ]
              refine wpAnyH_take (i := 7) (v := ?_) rfl (by kernel_rfl) (by kernel_rfl) (by kernel_rfl) (fun _ _ _ h => h) (Or.inl ⟨by kernel_rfl, ?_⟩) (by assumption) ?_
              rotate_left
              · (intro wx hSw; (try dsimp only at hSw); go_simp; try (with_reducible rfl))
              try simp only [Act.put, List.getElem_toArray, List.getElem_cons_succ, List.getElem_cons_zero, List.setIfInBounds_toArray, List.set_cons_zero, List.set_cons_succ]
              refine wpAnyH_ready (rs := [9]) (by kernel_rfl) (by simp) ?_
              refine (AllReadyH.cons rfl (fun K hK => ?_) AllReadyH.nil)
              obtain ⟨⟨z0, z1, z2⟩, z3⟩ := BZ.out
              go_simp
              have CR := Lib.hid (CutR.set_ J.out BZ.out WZ.out SP.out CC)
              refine hK.out _ _ (HSH.out _ (Bl.set_ (Bl.set_ (Bl.set_ J.out.bl WZ.out _) WZ.out _) WZ.out _)) (fun hHeld => ?_)
              clear hK K
              try simp only [Act.put, List.getElem_toArray, List.getElem_cons_succ, List.getElem_cons_zero, List.setIfInBounds_toArray, List.set_cons_zero, List.set_cons_succ]
              refine wpAnyH_take (i := 10) (v := ?_) rfl (by kernel_rfl) (by kernel_rfl) (by kernel_rfl) (fun _ _ _ h => h) (Or.inl ⟨by kernel_rfl, ?_⟩) (by assumption) ?_
              rotate_left
              · (intro wx hSw; (try dsimp only at hSw); go_simp; try (with_reducible rfl))
              try simp only [Act.put, List.getElem_toArray, List.getElem_cons_succ, List.getElem_cons_zero, List.setIfInBounds_toArray, List.set_cons_zero, List.set_cons_succ]
              refine wpAnyH_done (by kernel_rfl) ?_ _
              try (go_wp2_with fail)
              go_meet
              exact CR.out
          case rest =>
            obtain ⟨bh, h1, h2, h3, l1, j1, l2, j2, l3, j3, rfl, rfl, hbh, hH0, hI14, -⟩ := hcut
            obtain ⟨w14, rfl⟩ : ∃ x : World, x = wc := ⟨_, rfl⟩
            obtain ⟨q1', q2', q3', r1', r1c, r2', r2c, r3', r3c, ⟨t1, t2, t3⟩, ⟨hl1, hl2, hl3⟩, hH, -, -⟩ := hI14.opened
            injection t1 with t11 t12 t13; injection t2 with t21 t22 t23; injection t3 with t31 t32 t33
            subst t11; subst t12; subst t21; subst t22; subst t31; subst t32
            clear t13 t23 t33
            obtain rfl : l1 = m1 := hl1.trans SK1.out.symm
            obtain rfl : l2 = m2 := hl2.trans SK2.out.symm
            obtain rfl : l3 = m3 := hl3.trans SK3.out.symm
            have B14 := Lib.hid (B13.out.trans_ hI14.bl)
            have Q14 := Lib.hid (Q13.out.bl hI14.bl)
            have T14 := Lib.hid (T13.out.bl hI14.bl)
            have S14 := Lib.hid (S13.out.bl hI14.bl)
            have M14 := Lib.hid (M13.out.bl hI14.bl)
            have H14 := Lib.hid hH
            have Z14 := Lib.hid hH0
            clear Pc0 Pc1 Pc2 o10 o11 o12 o13 hI14 hl1 hl2 hl3 hH hH0
            obtain ⟨Qc0, Qc1, Qc2⟩ := Q14.out
            obtain ⟨Tc0, Tc1, Tc2⟩ := T14.out
            obtain ⟨Zc0, Zc1, Zc2⟩ := Z14.out
            go_wp2_with fail
            refine (eqDisk_yes _ _ _ _ _ _ _ _ _ j1 j2 j3 d1 d2 d3 LA LB LC SK1.out SK2.out SK3.out _ lk1 lk2 lk3 H14.out S14.out).mono ?_
            rintro e w15 ⟨rfl, hb15⟩
            have B15 := Lib.hid (B14.out.trans_ hb15)
            have T15 := Lib.hid (T14.out.bl hb15)
            have M15 := Lib.hid (M14.out.bl hb15)
            clear Qc0 Qc1 Qc2 Tc0 Tc1 Tc2 Zc0 Zc1 Zc2 hb15
            obtain ⟨Tc0, Tc1, Tc2⟩ := T15.out
            go_wp2_with fail
            refine (heldDisk_any _ _ _ _ _ _ e1 e2 e3 1 _ lk1 lk2 lk3 (by omega) (by omega) M15.out).mono ?_
            rintro e w16 ⟨rfl, hb16⟩
            rw [← HT.out]
            have B16 := Lib.hid (B15.out.trans_ hb16)
            clear Tc0 Tc1 Tc2 hb16
            go_wp2
            go_ret
            exact ⟨rfl, B16.out⟩

end Go.Proofs.Ytipmjgciaalmbaa
