/-
  What is proved here: the walk of the exact law on ReadFile: at every disk that can be read it returns true and leaves what was there as it was. No conditions beyond those that each theorem states.
-/
import Derived.Test.YtipmjgciaalmbaaDKR
set_option linter.unusedSimpArgs false
set_option linter.unusedVariables false
namespace Go.Proofs.Ytipmjgciaalmbaa
open Go.RowKit

set_option maxRecDepth 100000 in
set_option maxHeartbeats 4000000 in
theorem lawReadFile_any (A1 A2 A3 : Option Addr) (n1 c1 n2 c2 n3 c3 : Nat) (L1 L2 : List Fl) (O : List Dp) (hn1 : n1 = L1.length) (hn2 : n2 = L2.length) (hn3 : n3 = O.length) (nm : ByteArray) (w : World)
    (hm1 : n1 ≤ 9223372036854775807) (hm2 : n2 ≤ 9223372036854775807) (hm3 : n3 ≤ 9223372036854775807)
    (hz1 : ∀ f ∈ L1, f.1.size ≤ 9223372036854775807 ∧ f.2.size ≤ 9223372036854775807) (hz2 : ∀ f ∈ L2, f.1.size ≤ 9223372036854775807 ∧ f.2.size ≤ 9223372036854775807)
    (hz3 : ∀ o ∈ O, o.name.size ≤ 9223372036854775807 ∧ o.to.size ≤ 9223372036854775807 ∧ o.data.size ≤ 9223372036854775807)
    (H1 : FilesAt w w.heap.size A1 L1) (H2 : FilesAt w w.heap.size A2 L2) (H3 : OpsAt w w.heap.size A3 O) :
    Calls Try.prog 4 #[.agg #[.slice A1 n1 c1, .slice A2 n2 c2, .slice A3 n3 c3], .string nm] w fun e w' => e = .returned (.bool true) ∧ Bl w w' := by
  by_cases hbig : (1048576 : Int) < (nm.size : Int)
  · go_enter Try.func4, Try.ntmps4
    go_wp2
    go_ret
    exact ⟨rfl, (by repeat' (first | exact Bl.refl _ | with_reducible assumption | with_reducible refine Bl.drew_ ?_ | with_reducible refine Bl.drewN_ ?_ _ | with_reducible refine Bl.alloc_ ?_ _ | with_reducible refine Bl.trans_ ?_ (by assumption) | with_reducible refine Bl.trans_ ?_ (And.left (by assumption))))⟩
  · have hbig' : ¬ (1048576 : Int) < (nm.size : Int) := hbig
    have KH := Lib.hid (show DiskAt w w.heap.size A1 A2 A3 L1 L2 O from ⟨H1, H2, H3⟩)
    have N1 := Lib.hid hn1
    have N2 := Lib.hid hn2
    have N3 := Lib.hid hn3
    have Z1 := Lib.hid hz1
    have Z2 := Lib.hid hz2
    have Z3 := Lib.hid hz3
    obtain ⟨r, hr⟩ : ∃ r, r = leftI 1048576 (dkSz L1 L2 O) := ⟨_, rfl⟩
    have HR := Lib.hid hr
    clear H1 H2 H3 hn1 hn2 hn3 hz1 hz2 hz3 hr
    by_cases hneg : r < 0
    · go_enter Try.func4, Try.ntmps4
      go_wp2_with fail
      refine (szDisk_any A1 A2 A3 n1 c1 n2 c2 n3 c3 L1 L2 O N1.out N2.out N3.out _ hm1 hm2 hm3 Z1.out Z2.out Z3.out (KH.out.f1.bl (by repeat' (first | exact Bl.refl _ | with_reducible assumption | with_reducible refine Bl.drew_ ?_ | with_reducible refine Bl.drewN_ ?_ _ | with_reducible refine Bl.alloc_ ?_ _ | with_reducible refine Bl.trans_ ?_ (by assumption) | with_reducible refine Bl.trans_ ?_ (And.left (by assumption))))) (KH.out.f2.bl (by repeat' (first | exact Bl.refl _ | with_reducible assumption | with_reducible refine Bl.drew_ ?_ | with_reducible refine Bl.drewN_ ?_ _ | with_reducible refine Bl.alloc_ ?_ _ | with_reducible refine Bl.trans_ ?_ (by assumption) | with_reducible refine Bl.trans_ ?_ (And.left (by assumption))))) (KH.out.f3.bl (by repeat' (first | exact Bl.refl _ | with_reducible assumption | with_reducible refine Bl.drew_ ?_ | with_reducible refine Bl.drewN_ ?_ _ | with_reducible refine Bl.alloc_ ?_ _ | with_reducible refine Bl.trans_ ?_ (by assumption) | with_reducible refine Bl.trans_ ?_ (And.left (by assumption)))))).mono ?_
      rintro e w1 ⟨rfl, hb1⟩
      rw [← HR.out]
      have B1 := Lib.hid ((Bl.alloc_ (Bl.refl w) _).trans_ hb1)
      clear hb1
      go_wp2
      go_ret
      exact ⟨rfl, B1.out⟩
    · have KB := Lib.hid (DkB.of N1.out N2.out N3.out (DkB.sz (n1 := n1) (n2 := n2) (n3 := n3) (by rw [← HR.out]; exact hneg)))
      have b1 := KB.out.m1
      have b2 := KB.out.m2
      have b3 := KB.out.m3
      clear hm1 hm2 hm3
      have hm1 : n1 ≤ 9223372036854775807 := by omega
      have hm2 : n2 ≤ 9223372036854775807 := by omega
      have hm3 : n3 ≤ 9223372036854775807 := by omega
      go_enter Try.func4, Try.ntmps4
      go_wp2_with fail
      refine (szDisk_any A1 A2 A3 n1 c1 n2 c2 n3 c3 L1 L2 O N1.out N2.out N3.out _ hm1 hm2 hm3 Z1.out Z2.out Z3.out (KH.out.f1.bl (by repeat' (first | exact Bl.refl _ | with_reducible assumption | with_reducible refine Bl.drew_ ?_ | with_reducible refine Bl.drewN_ ?_ _ | with_reducible refine Bl.alloc_ ?_ _ | with_reducible refine Bl.trans_ ?_ (by assumption) | with_reducible refine Bl.trans_ ?_ (And.left (by assumption))))) (KH.out.f2.bl (by repeat' (first | exact Bl.refl _ | with_reducible assumption | with_reducible refine Bl.drew_ ?_ | with_reducible refine Bl.drewN_ ?_ _ | with_reducible refine Bl.alloc_ ?_ _ | with_reducible refine Bl.trans_ ?_ (by assumption) | with_reducible refine Bl.trans_ ?_ (And.left (by assumption))))) (KH.out.f3.bl (by repeat' (first | exact Bl.refl _ | with_reducible assumption | with_reducible refine Bl.drew_ ?_ | with_reducible refine Bl.drewN_ ?_ _ | with_reducible refine Bl.alloc_ ?_ _ | with_reducible refine Bl.trans_ ?_ (by assumption) | with_reducible refine Bl.trans_ ?_ (And.left (by assumption)))))).mono ?_
      rintro e w1 ⟨rfl, hb1⟩
      rw [← HR.out]
      obtain ⟨q0, q1, q2⟩ := box3 hb1
      have X1 := Lib.hid hb1
      have B1 := Lib.hid ((Bl.alloc_ (Bl.refl w) _).trans_ hb1)
      clear hb1
      go_wp2_with fail
      refine (toDisk_any A1 A2 A3 n1 c1 n2 c2 n3 c3 L1 L2 O N1.out N2.out N3.out _ b1 b2 b3 (KH.out.f1.bl B1.out) (KH.out.f2.bl B1.out) (KH.out.f3.bl B1.out)).mono ?_
      rintro e w2 ⟨g21, g22, g23, rfl, hd2, hb2⟩
      have D2 := Lib.hid hd2
      have X2 := Lib.hid (X1.out.trans_ hb2)
      have B2 := Lib.hid (B1.out.trans_ hb2)
      clear q0 q1 q2 hd2
      obtain ⟨q0, q1, q2⟩ := box3 X2.out
      clear hb2
      go_wp2_with fail
      refine (specRead_any KB.out nm _ D2.out.at_).mono ?_
      rintro e w3 ⟨rfl, hb3⟩
      have X3 := Lib.hid (X2.out.trans_ hb3)
      have B3 := Lib.hid (B2.out.trans_ hb3)
      clear q0 q1 q2 hb3
      obtain ⟨q0, q1, q2⟩ := box3 X3.out
      obtain ⟨t, ht⟩ : ∃ t, t = (readD (L1, L2, O) nm).1 := ⟨_, rfl⟩
      obtain ⟨u, hu⟩ : ∃ u, u = (readD (L1, L2, O) nm).2 := ⟨_, rfl⟩
      rw [← ht, ← hu]
      have HT := Lib.hid ht
      have HU := Lib.hid hu
      clear ht hu
      go_wp2_with fail
      refine (toDisk_any A1 A2 A3 n1 c1 n2 c2 n3 c3 L1 L2 O N1.out N2.out N3.out _ b1 b2 b3 (KH.out.f1.bl B3.out) (KH.out.f2.bl B3.out) (KH.out.f3.bl B3.out)).mono ?_
      rintro e w4 ⟨g41, g42, g43, rfl, hd4, hb4⟩
      have D4 := Lib.hid hd4
      have X4 := Lib.hid (X3.out.trans_ hb4)
      have B4 := Lib.hid (B3.out.trans_ hb4)
      clear q0 q1 q2 hd4
      obtain ⟨q0, q1, q2⟩ := box3 X4.out
      clear hb4
      go_wp2_with fail
      refine (implRead_any KB.out nm _ (D4.out.at_.bl (Bl.alloc_ (Bl.refl _) _))).mono ?_
      rintro e w5 ⟨rfl, hb5⟩
      have Y5 := Lib.hid hb5
      have E5 := Lib.hid ((Bl.alloc_ (Bl.refl w4) _).trans_ hb5)
      have X5 := Lib.hid (X4.out.trans_ E5.out)
      have B5 := Lib.hid (B4.out.trans_ E5.out)
      clear q0 q1 q2 hb5
      obtain ⟨q0, q1, q2⟩ := box3 X5.out
      obtain ⟨z0, z1, z2⟩ := box3 Y5.out
      rw [← HT.out, ← HU.out]
      have htt := str_self t
      have huu : (u != u) = false := by simp
      have HSH := Lib.hid (show ∀ wx, Bl w5 wx → Bl w5 wx ∧ wx.cell? ⟨w.heap.size, 0, none⟩ = some (.slice A1 n1 c1) ∧ wx.cell? ⟨w.heap.size, 1, none⟩ = some (.slice A2 n2 c2) ∧ wx.cell? ⟨w.heap.size, 2, none⟩ = some (.slice A3 n3 c3) ∧ wx.cell? ⟨w4.heap.size, 0, none⟩ = some (.slice (some ⟨g41, 0, none⟩) n1 n1) ∧ wx.cell? ⟨w4.heap.size, 1, none⟩ = some (.slice (some ⟨g42, 0, none⟩) n2 n2) ∧ wx.cell? ⟨w4.heap.size, 2, none⟩ = some (.slice (some ⟨g43, 0, none⟩) n3 n3) from fun wx hb => ⟨hb, (box3 (X5.out.trans_ hb)).1, (box3 (X5.out.trans_ hb)).2.1, (box3 (X5.out.trans_ hb)).2.2, (box3 (Y5.out.trans_ hb)).1, (box3 (Y5.out.trans_ hb)).2.1, (box3 (Y5.out.trans_ hb)).2.2⟩)
      go_wp2_with fail
      refine wp_region_held_drew (S := fun wx => Bl w5 wx ∧ wx.cell? ⟨w.heap.size, 0, none⟩ = some (.slice A1 n1 c1) ∧ wx.cell? ⟨w.heap.size, 1, none⟩ = some (.slice A2 n2 c2) ∧ wx.cell? ⟨w.heap.size, 2, none⟩ = some (.slice A3 n3 c3) ∧ wx.cell? ⟨w4.heap.size, 0, none⟩ = some (.slice (some ⟨g41, 0, none⟩) n1 n1) ∧ wx.cell? ⟨w4.heap.size, 1, none⟩ = some (.slice (some ⟨g42, 0, none⟩) n2 n2) ∧ wx.cell? ⟨w4.heap.size, 2, none⟩ = some (.slice (some ⟨g43, 0, none⟩) n3 n3)) (by kernel_rfl) ?_ (fun hHeld => ?_)
      · (first | exact HSH.out _ (Bl.drew_ (Bl.refl _)) | exact HSH.out _ ((Bl.drew_ (Bl.refl _)).trans_ hb6) | exact HSH.out _ (((Bl.drew_ (Bl.refl _)).trans_ hb6).trans_ hb7))
      refine wpAnyH_take (i := 0) (v := ?_) rfl (by kernel_rfl) (by kernel_rfl) (by kernel_rfl) (fun _ _ _ h => h) (Or.inl ⟨by kernel_rfl, ?_⟩) (by assumption) ?_
      rotate_left
      · (intro wx hSw; (try dsimp only at hSw); go_simp; try (with_reducible rfl))
      try simp only [Act.put, List.getElem_toArray, List.getElem_cons_succ, List.getElem_cons_zero, List.setIfInBounds_toArray, List.set_cons_zero, List.set_cons_succ]
      refine wpAnyH_take (i := 1) (v := ?_) rfl (by kernel_rfl) (by kernel_rfl) (by kernel_rfl) (fun _ _ _ h => h) (Or.inl ⟨by kernel_rfl, ?_⟩) (by assumption) ?_
      rotate_left
      · (intro wx hSw; (try dsimp only at hSw); go_simp; try (with_reducible rfl))
      try simp only [Act.put, List.getElem_toArray, List.getElem_cons_succ, List.getElem_cons_zero, List.setIfInBounds_toArray, List.set_cons_zero, List.set_cons_succ]
      refine wpAnyH_ready (rs := [2]) (by kernel_rfl) (by simp) ?_
      refine AllReadyH.cons rfl (fun K hK => ?_) AllReadyH.nil
      go_simp
      (go_at_call 15; refine (toDisk_any A1 A2 A3 n1 c1 n2 c2 n3 c3 L1 L2 O N1.out N2.out N3.out _ b1 b2 b3 (KH.out.f1.bl B5.out.drew_) (KH.out.f2.bl B5.out.drew_) (KH.out.f3.bl B5.out.drew_)).mono ?_; rintro e w6 ⟨g61, g62, g63, rfl, hd6, hb6⟩; have D6 := Lib.hid hd6; clear hd6)
      try (go_wp2_with fail)
      refine hK.out _ _ ?_ (fun hHeld => ?_)
      · (first | exact HSH.out _ (Bl.drew_ (Bl.refl _)) | exact HSH.out _ ((Bl.drew_ (Bl.refl _)).trans_ hb6) | exact HSH.out _ (((Bl.drew_ (Bl.refl _)).trans_ hb6).trans_ hb7))
      clear hK K
      try simp only [Act.put, List.getElem_toArray, List.getElem_cons_succ, List.getElem_cons_zero, List.setIfInBounds_toArray, List.set_cons_zero, List.set_cons_succ]
      refine wpAnyH_ready (rs := [3]) (by kernel_rfl) (by simp) ?_
      refine AllReadyH.cons rfl (fun K hK => ?_) AllReadyH.nil
      go_simp
      (go_at_call 17; refine (eqDisk_yes _ _ _ _ _ _ n1 n2 n3 n1 n2 n3 n1 n2 n3 L1 L2 O N1.out N2.out N3.out _ b1 b2 b3 (D4.out.at_.bl (E5.out.trans_ ((Bl.drew_ (Bl.refl _)).trans_ hb6))) D6.out.at_).mono ?_; rintro e w7 ⟨rfl, hb7⟩)
      try (go_wp2_with fail)
      refine hK.out _ _ ?_ (fun hHeld => ?_)
      · (first | exact HSH.out _ (Bl.drew_ (Bl.refl _)) | exact HSH.out _ ((Bl.drew_ (Bl.refl _)).trans_ hb6) | exact HSH.out _ (((Bl.drew_ (Bl.refl _)).trans_ hb6).trans_ hb7))
      clear hK K
      try simp only [Act.put, List.getElem_toArray, List.getElem_cons_succ, List.getElem_cons_zero, List.setIfInBounds_toArray, List.set_cons_zero, List.set_cons_succ]
      refine wpAnyH_take (i := 4) (v := ?_) rfl (by kernel_rfl) (by kernel_rfl) (by kernel_rfl) (fun _ _ _ h => h) (Or.inl ⟨by kernel_rfl, ?_⟩) (by assumption) ?_
      rotate_left
      · (intro wx hSw; (try dsimp only at hSw); go_simp; try (with_reducible rfl))
      try simp only [Act.put, List.getElem_toArray, List.getElem_cons_succ, List.getElem_cons_zero, List.setIfInBounds_toArray, List.set_cons_zero, List.set_cons_succ]
      refine wpAnyH_done (by kernel_rfl) ?_ _
      go_wp2
      go_ret
      exact ⟨rfl, B5.out.trans_ hHeld.1⟩

end Go.Proofs.Ytipmjgciaalmbaa
