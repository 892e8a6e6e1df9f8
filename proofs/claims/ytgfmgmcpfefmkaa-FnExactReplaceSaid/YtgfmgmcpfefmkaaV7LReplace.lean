/-
  What is proved here: the walk of the exact law on Replace: at every disk that can be read it returns true and leaves what was there as it was. No conditions beyond those that each theorem states.
-/
import Derived.Test.YtgfmgmcpfefmkaaV7G14
import Derived.Test.YtgfmgmcpfefmkaaV7DKRJ
import Derived.Test.YtgfmgmcpfefmkaaV7G12
import Derived.Test.YtgfmgmcpfefmkaaV7G05
set_option linter.unusedSimpArgs false
set_option linter.unusedVariables false
namespace Go.Proofs.Ytgfmgmcpfefmkaa
open Go.RowKit

set_option maxRecDepth 100000 in
set_option maxHeartbeats 16000000 in
theorem lawReplace_any (A1 A2 A3 : Option Addr) (n1 c1 n2 c2 n3 c3 : Nat) (L1 L2 : List Fl) (O : List Dp) (hn1 : n1 = L1.length) (hn2 : n2 = L2.length) (hn3 : n3 = O.length) (w : World)
    (hm1 : n1 ≤ 9223372036854775807) (hm2 : n2 ≤ 9223372036854775807) (hm3 : n3 ≤ 9223372036854775807)
    (hz1 : ∀ f ∈ L1, f.1.size ≤ 9223372036854775807 ∧ f.2.size ≤ 9223372036854775807) (hz2 : ∀ f ∈ L2, f.1.size ≤ 9223372036854775807 ∧ f.2.size ≤ 9223372036854775807)
    (hz3 : ∀ o ∈ O, o.name.size ≤ 9223372036854775807 ∧ o.to.size ≤ 9223372036854775807 ∧ o.data.size ≤ 9223372036854775807)
    (H1 : FilesAt w w.heap.size A1 L1) (H2 : FilesAt w w.heap.size A2 L2) (H3 : OpsAt w w.heap.size A3 O) (nm dt : ByteArray) :
    Calls Try.prog 4 #[.agg #[.slice A1 n1 c1, .slice A2 n2 c2, .slice A3 n3 c3], .string nm, .string dt] w fun e w' => e = .returned (.bool true) ∧ Bl w w' := by
  by_cases hx1 : (1048576 : Int) < (nm.size : Int)
  · go_enter Try.func4, Try.ntmps4
    go_wp2
    go_ret
    exact ⟨rfl, (by repeat' (first | exact Bl.refl _ | with_reducible assumption | with_reducible refine Bl.drew_ ?_ | with_reducible refine Bl.drewN_ ?_ _ | with_reducible refine Bl.alloc_ ?_ _ | with_reducible refine Bl.trans_ ?_ (by assumption) | with_reducible refine Bl.trans_ ?_ (And.left (by assumption))))⟩
  by_cases hx2 : (1048576 : Int) < (dt.size : Int)
  · have hx1' : ¬ (1048576 : Int) < (nm.size : Int) := hx1
    clear hx1
    go_enter Try.func4, Try.ntmps4
    go_wp2
    go_ret
    exact ⟨rfl, (by repeat' (first | exact Bl.refl _ | with_reducible assumption | with_reducible refine Bl.drew_ ?_ | with_reducible refine Bl.drewN_ ?_ _ | with_reducible refine Bl.alloc_ ?_ _ | with_reducible refine Bl.trans_ ?_ (by assumption) | with_reducible refine Bl.trans_ ?_ (And.left (by assumption))))⟩
  have hx1' : ¬ (1048576 : Int) < (nm.size : Int) := hx1
  have hx2' : ¬ (1048576 : Int) < (dt.size : Int) := hx2
  have XN := Lib.hid (show nm.size ≤ 1048576 from by omega)
  have XD := Lib.hid (show dt.size ≤ 1048576 from by omega)
  clear hx1 hx2
  have KH := Lib.hid (show DiskAt w w.heap.size A1 A2 A3 L1 L2 O from ⟨H1, H2, H3⟩)
  have N1 := Lib.hid hn1
  have N2 := Lib.hid hn2
  have N3 := Lib.hid hn3
  have Z1 := Lib.hid hz1
  have Z2 := Lib.hid hz2
  have Z3 := Lib.hid hz3
  obtain ⟨r, hr⟩ : ∃ r, r = leftI 1048576 (dkSz L1 L2 O) := ⟨_, rfl⟩
  have HR := Lib.hid hr
  clear H1 H2 H3 hn1 hn2 hn3 hz1 hz2 hz3 hr
  by_cases hneg : r < 0
  · go_enter Try.func4, Try.ntmps4
    go_wp2_with fail
    refine (szDisk_any A1 A2 A3 n1 c1 n2 c2 n3 c3 L1 L2 O N1.out N2.out N3.out _ hm1 hm2 hm3 Z1.out Z2.out Z3.out (KH.out.f1.bl (by repeat' (first | exact Bl.refl _ | with_reducible assumption | with_reducible refine Bl.drew_ ?_ | with_reducible refine Bl.drewN_ ?_ _ | with_reducible refine Bl.alloc_ ?_ _ | with_reducible refine Bl.trans_ ?_ (by assumption) | with_reducible refine Bl.trans_ ?_ (And.left (by assumption))))) (KH.out.f2.bl (by repeat' (first | exact Bl.refl _ | with_reducible assumption | with_reducible refine Bl.drew_ ?_ | with_reducible refine Bl.drewN_ ?_ _ | with_reducible refine Bl.alloc_ ?_ _ | with_reducible refine Bl.trans_ ?_ (by assumption) | with_reducible refine Bl.trans_ ?_ (And.left (by assumption))))) (KH.out.f3.bl (by repeat' (first | exact Bl.refl _ | with_reducible assumption | with_reducible refine Bl.drew_ ?_ | with_reducible refine Bl.drewN_ ?_ _ | with_reducible refine Bl.alloc_ ?_ _ | with_reducible refine Bl.trans_ ?_ (by assumption) | with_reducible refine Bl.trans_ ?_ (And.left (by assumption)))))).mono ?_
    rintro e w1 ⟨rfl, hb1⟩
    rw [← HR.out]
    have B1 := Lib.hid ((Bl.alloc_ (Bl.refl w) _).trans_ hb1)
    clear hb1
    go_wp2
    go_ret
    exact ⟨rfl, B1.out⟩
  · have KB := Lib.hid (DkB.of N1.out N2.out N3.out (DkB.sz (n1 := n1) (n2 := n2) (n3 := n3) (by rw [← HR.out]; exact hneg)))
    have b1 := KB.out.m1
    have b2 := KB.out.m2
    have b3 := KB.out.m3
    clear hm1 hm2 hm3
    have hm1 : n1 ≤ 9223372036854775807 := by omega
    have hm2 : n2 ≤ 9223372036854775807 := by omega
    have hm3 : n3 ≤ 9223372036854775807 := by omega
    go_enter Try.func4, Try.ntmps4
    go_wp2_with fail
    refine (szDisk_any A1 A2 A3 n1 c1 n2 c2 n3 c3 L1 L2 O N1.out N2.out N3.out _ hm1 hm2 hm3 Z1.out Z2.out Z3.out (KH.out.f1.bl (by repeat' (first | exact Bl.refl _ | with_reducible assumption | with_reducible refine Bl.drew_ ?_ | with_reducible refine Bl.drewN_ ?_ _ | with_reducible refine Bl.alloc_ ?_ _ | with_reducible refine Bl.trans_ ?_ (by assumption) | with_reducible refine Bl.trans_ ?_ (And.left (by assumption))))) (KH.out.f2.bl (by repeat' (first | exact Bl.refl _ | with_reducible assumption | with_reducible refine Bl.drew_ ?_ | with_reducible refine Bl.drewN_ ?_ _ | with_reducible refine Bl.alloc_ ?_ _ | with_reducible refine Bl.trans_ ?_ (by assumption) | with_reducible refine Bl.trans_ ?_ (And.left (by assumption))))) (KH.out.f3.bl (by repeat' (first | exact Bl.refl _ | with_reducible assumption | with_reducible refine Bl.drew_ ?_ | with_reducible refine Bl.drewN_ ?_ _ | with_reducible refine Bl.alloc_ ?_ _ | with_reducible refine Bl.trans_ ?_ (by assumption) | with_reducible refine Bl.trans_ ?_ (And.left (by assumption)))))).mono ?_
    rintro e w1 ⟨rfl, hb1⟩
    rw [← HR.out]
    obtain ⟨q0, q1, q2⟩ := box3 hb1
    have X1 := Lib.hid hb1
    have B1 := Lib.hid ((Bl.alloc_ (Bl.refl w) _).trans_ hb1)
    clear hb1
    clear q0 q1 q2
    have P1 := Lib.hid (Bx.new' X1.out)
    have z1 := X1.out.size
    simp only [World.size_alloc] at z1
    obtain ⟨Pc0, Pc1, Pc2⟩ := P1.out
    obtain ⟨CC, hCC⟩ : ∃ c, c = (replD (L1, L2, O) nm dt).2 := ⟨_, rfl⟩
    have HCC := Lib.hid hCC
    have hCn : (CC != CC) = false := by simp
    obtain ⟨hl1, hl2, hl3⟩ := replD_len (L1, L2, O) nm dt ⟨by have := N1.out; show L1.length ≤ 1048576; omega, by have := N2.out; show L2.length ≤ 1048576; omega, by have := N3.out; show O.length ≤ 1048576; omega⟩
    obtain ⟨LA, hLA⟩ : ∃ l, l = (replD (L1, L2, O) nm dt).1.1 := ⟨_, rfl⟩
    obtain ⟨LB, hLB⟩ : ∃ l, l = (replD (L1, L2, O) nm dt).1.2.1 := ⟨_, rfl⟩
    obtain ⟨LC, hLC⟩ : ∃ l, l = (replD (L1, L2, O) nm dt).1.2.2 := ⟨_, rfl⟩
    rw [← hLA] at hl1
    rw [← hLB] at hl2
    rw [← hLC] at hl3
    have hlA := hl1
    have hlB := hl2
    have hlC := hl3
    have HLA := Lib.hid hLA
    have HLB := Lib.hid hLB
    have HLC := Lib.hid hLC
    clear hCC hLA hLB hLC hl1 hl2 hl3
    go_wp2_with fail
    refine (toDisk_any A1 A2 A3 n1 c1 n2 c2 n3 c3 L1 L2 O N1.out N2.out N3.out _ b1 b2 b3 (KH.out.f1.bl B1.out) (KH.out.f2.bl B1.out) (KH.out.f3.bl B1.out)).mono ?_
    rintro e w2 ⟨g21, g22, g23, rfl, hd2, hb2⟩
    have D2 := Lib.hid hd2
    have z2 := hb2.size
    have B2 := Lib.hid (B1.out.trans_ hb2)
    have P2 := Lib.hid (P1.out.bl hb2)
    clear Pc0 Pc1 Pc2 hd2 hb2
    obtain ⟨Pc0, Pc1, Pc2⟩ := P2.out
    go_wp2_with fail
    refine (specReplace_any KB.out nm dt XN.out XD.out _ D2.out.at_).mono ?_
    rintro e w3 ⟨sA, sB, sC, rfl, hI3⟩
    rw [← HLA.out, ← HLB.out, ← HLC.out] at hI3
    rw [← HCC.out]
    have z3 := hI3.bl.size
    have B3 := Lib.hid (B2.out.trans_ hI3.bl)
    have P3 := Lib.hid (P2.out.bl hI3.bl)
    obtain ⟨a1, a2, a3, k1, d1, k2, d2, k3, d3, ⟨rfl, rfl, rfl⟩, ⟨hk1, hk2, hk3⟩, hS, -, hSI⟩ := hI3.opened
    have lk1 : k1 ≤ 1048576 := by omega
    have lk2 : k2 ≤ 1048576 := by omega
    have lk3 : k3 ≤ 1048576 := by omega
    have SK1 := Lib.hid hk1
    have SK2 := Lib.hid hk2
    have SK3 := Lib.hid hk3
    have S3 := Lib.hid hS
    have SI := Lib.hid hSI
    clear Pc0 Pc1 Pc2 hI3 hk1 hk2 hk3 hS hSI
    obtain ⟨Pc0, Pc1, Pc2⟩ := P3.out
    have ap := P3.out.bl ((Bl.refl w3).alloc_ (.cells #[.slice a1 k1 d1, .slice a2 k2 d2, .slice a3 k3 d3] 31))
    obtain ⟨ap0, ap1, ap2⟩ := ap
    go_wp2_with fail
    refine (toDisk_any A1 A2 A3 n1 c1 n2 c2 n3 c3 L1 L2 O N1.out N2.out N3.out _ b1 b2 b3 (KH.out.f1.bl (B3.out.alloc_ _)) (KH.out.f2.bl (B3.out.alloc_ _)) (KH.out.f3.bl (B3.out.alloc_ _))).mono ?_
    rintro e w4 ⟨g41, g42, g43, rfl, hd4, hb4⟩
    have Q4 := Lib.hid (Bx.new' hb4)
    have z4 := hb4.size
    simp only [World.size_alloc] at z4
    have hb4' := ((Bl.refl w3).alloc_ _).trans_ hb4
    have B4 := Lib.hid (B3.out.trans_ hb4')
    have P4 := Lib.hid (P3.out.bl hb4')
    have S4 := Lib.hid (S3.out.bl hb4')
    obtain ⟨-, -, hX, hXW, hXI⟩ := hd4.opened hb4 N1.out N2.out N3.out
    simp only [World.size_alloc] at hXI
    have X4 := Lib.hid hX
    have V4 := Lib.hid hXW
    have XI := Lib.hid hXI
    clear Pc0 Pc1 Pc2 ap0 ap1 ap2 hd4 hb4 hb4' hX hXW hXI
    obtain ⟨Pc0, Pc1, Pc2⟩ := P4.out
    obtain ⟨Qc0, Qc1, Qc2⟩ := Q4.out
    go_wp2_with fail
    refine (implReplace_any KB.out nm dt XN.out XD.out _ (X4.out.bl (Bl.alloc_ (Bl.refl _) _))).mono ?_
    rintro e w5 ⟨iA, iB, iC, rfl, hI5⟩
    rw [← HLA.out, ← HLB.out, ← HLC.out] at hI5
    rw [← HCC.out]
    have R5 := Lib.hid (Bx.new' hI5.bl)
    have z5 := hI5.bl.size
    simp only [World.size_alloc] at z5
    have hb5 := ((Bl.refl w4).alloc_ _).trans_ hI5.bl
    have B5 := Lib.hid (B4.out.trans_ hb5)
    have P5 := Lib.hid (P4.out.bl hb5)
    have Q5 := Lib.hid (Q4.out.bl hb5)
    have S5 := Lib.hid (S4.out.bl hb5)
    have X5 := Lib.hid (X4.out.bl hb5)
    have V5 := Lib.hid (V4.out.bl hb5)
    obtain ⟨f1, f2, f3, m1, e1, m2, e2, m3, e3, ⟨rfl, rfl, rfl⟩, ⟨hm1', hm2', hm3'⟩, hG, hGW, hGI⟩ := hI5.opened
    obtain rfl : m1 = k1 := hm1'.trans SK1.out.symm
    obtain rfl : m2 = k2 := hm2'.trans SK2.out.symm
    obtain rfl : m3 = k3 := hm3'.trans SK3.out.symm
    simp only [World.size_alloc] at hGI
    have G5 := Lib.hid hG
    have U5 := Lib.hid hGW
    have GI := Lib.hid hGI
    clear Pc0 Pc1 Pc2 Qc0 Qc1 Qc2 hI5 hb5 hm1' hm2' hm3' hG hGW hGI
    obtain ⟨Pc0, Pc1, Pc2⟩ := P5.out
    obtain ⟨Qc0, Qc1, Qc2⟩ := Q5.out
    obtain ⟨Rc0, Rc1, Rc2⟩ := R5.out
    have aq := Q5.out.bl ((Bl.refl w5).alloc_ (.cells #[.slice f1 m1 e1, .slice f2 m2 e2, .slice f3 m3 e3] 31))
    obtain ⟨aq0, aq1, aq2⟩ := aq
    go_wp2_with fail
    refine (eqDisk_yes _ _ _ _ _ _ _ _ _ e1 e2 e3 d1 d2 d3 LA LB LC SK1.out SK2.out SK3.out _ lk1 lk2 lk3 (G5.out.bl (Bl.alloc_ (Bl.refl _) _)) (S5.out.bl (Bl.alloc_ (Bl.refl _) _))).mono ?_
    rintro e w6 ⟨rfl, hb6⟩
    have T6 := Lib.hid (Bx.new' hb6)
    have z6 := hb6.size
    simp only [World.size_alloc] at z6
    have hb6' := ((Bl.refl w5).alloc_ _).trans_ hb6
    have B6 := Lib.hid (B5.out.trans_ hb6')
    have P6 := Lib.hid (P5.out.bl hb6')
    have Q6 := Lib.hid (Q5.out.bl hb6')
    have R6 := Lib.hid (R5.out.bl hb6')
    have S6 := Lib.hid (S5.out.bl hb6')
    have X6 := Lib.hid (X5.out.bl hb6')
    have V6 := Lib.hid (V5.out.bl hb6')
    have G6 := Lib.hid (G5.out.bl hb6')
    have U6 := Lib.hid (U5.out.bl hb6')
    clear Pc0 Pc1 Pc2 Qc0 Qc1 Qc2 Rc0 Rc1 Rc2 aq0 aq1 aq2 hb6 hb6'
    obtain ⟨Pc0, Pc1, Pc2⟩ := P6.out
    obtain ⟨Qc0, Qc1, Qc2⟩ := Q6.out
    obtain ⟨Rc0, Rc1, Rc2⟩ := R6.out
    obtain ⟨Tc0, Tc1, Tc2⟩ := T6.out
    have HSH := Lib.hid (show ∀ wx, Bl w6 wx → Bl w6 wx ∧ wx.cell? ⟨w.heap.size, 0, none⟩ = some (.slice A1 n1 c1) ∧ wx.cell? ⟨w.heap.size, 1, none⟩ = some (.slice A2 n2 c2) ∧ wx.cell? ⟨w.heap.size, 2, none⟩ = some (.slice A3 n3 c3) ∧ wx.cell? ⟨w4.heap.size, 0, none⟩ = some (.slice (some ⟨g41, 0, none⟩) n1 n1) ∧ wx.cell? ⟨w4.heap.size, 1, none⟩ = some (.slice (some ⟨g42, 0, none⟩) n2 n2) ∧ wx.cell? ⟨w4.heap.size, 2, none⟩ = some (.slice (some ⟨g43, 0, none⟩) n3 n3) from fun wx hb => ⟨hb, (P6.out.bl hb).c0, (P6.out.bl hb).c1, (P6.out.bl hb).c2, (R6.out.bl hb).c0, (R6.out.bl hb).c1, (R6.out.bl hb).c2⟩)
    go_wp2_with fail
    refine wp_region_held_drew (S := fun wx => Bl w6 wx ∧ wx.cell? ⟨w.heap.size, 0, none⟩ = some (.slice A1 n1 c1) ∧ wx.cell? ⟨w.heap.size, 1, none⟩ = some (.slice A2 n2 c2) ∧ wx.cell? ⟨w.heap.size, 2, none⟩ = some (.slice A3 n3 c3) ∧ wx.cell? ⟨w4.heap.size, 0, none⟩ = some (.slice (some ⟨g41, 0, none⟩) n1 n1) ∧ wx.cell? ⟨w4.heap.size, 1, none⟩ = some (.slice (some ⟨g42, 0, none⟩) n2 n2) ∧ wx.cell? ⟨w4.heap.size, 2, none⟩ = some (.slice (some ⟨g43, 0, none⟩) n3 n3)) (by kernel_rfl) ?_ (fun hHeld => ?_)
    · (first | exact HSH.out _ (Bl.drew_ (Bl.refl _)) | exact HSH.out _ ((Bl.drew_ (Bl.refl _)).trans_ hb7) | exact HSH.out _ (((Bl.drew_ (Bl.refl _)).trans_ hb7).trans_ hb8))
    refine wpAnyH_take (i := 0) (v := ?_) rfl (by kernel_rfl) (by kernel_rfl) (by kernel_rfl) (fun _ _ _ h => h) (Or.inl ⟨by kernel_rfl, ?_⟩) (by assumption) ?_
    rotate_left
    · (intro wx hSw; (try dsimp only at hSw); go_simp; try (with_reducible rfl))
    try simp only [Act.put, List.getElem_toArray, List.getElem_cons_succ, List.getElem_cons_zero, List.setIfInBounds_toArray, List.set_cons_zero, List.set_cons_succ]
    refine wpAnyH_take (i := 1) (v := ?_) rfl (by kernel_rfl) (by kernel_rfl) (by kernel_rfl) (fun _ _ _ h => h) (Or.inl ⟨by kernel_rfl, ?_⟩) (by assumption) ?_
    rotate_left
    · (intro wx hSw; (try dsimp only at hSw); go_simp; try (with_reducible rfl))
    try simp only [Act.put, List.getElem_toArray, List.getElem_cons_succ, List.getElem_cons_zero, List.setIfInBounds_toArray, List.set_cons_zero, List.set_cons_succ]
    refine wpAnyH_ready (rs := [2]) (by kernel_rfl) (by simp) ?_
    refine AllReadyH.cons rfl (fun K hK => ?_) AllReadyH.nil
    go_simp
    (go_at_call 10; refine (toDisk_any A1 A2 A3 n1 c1 n2 c2 n3 c3 L1 L2 O N1.out N2.out N3.out _ b1 b2 b3 (KH.out.f1.bl B6.out.drew_) (KH.out.f2.bl B6.out.drew_) (KH.out.f3.bl B6.out.drew_)).mono ?_; rintro e w7 ⟨g71, g72, g73, rfl, hd7, hb7⟩; have D7 := Lib.hid hd7; clear hd7)
    try (go_wp2_with fail)
    refine hK.out _ _ ?_ (fun hHeld => ?_)
    · (first | exact HSH.out _ (Bl.drew_ (Bl.refl _)) | exact HSH.out _ ((Bl.drew_ (Bl.refl _)).trans_ hb7) | exact HSH.out _ (((Bl.drew_ (Bl.refl _)).trans_ hb7).trans_ hb8))
    clear hK K
    try simp only [Act.put, List.getElem_toArray, List.getElem_cons_succ, List.getElem_cons_zero, List.setIfInBounds_toArray, List.set_cons_zero, List.set_cons_succ]
    refine wpAnyH_ready (rs := [3]) (by kernel_rfl) (by simp) ?_
    refine AllReadyH.cons rfl (fun K hK => ?_) AllReadyH.nil
    go_simp
    (go_at_call 13; refine (eqDisk_yes _ _ _ _ _ _ n1 n2 n3 n1 n2 n3 n1 n2 n3 L1 L2 O N1.out N2.out N3.out _ b1 b2 b3 (X6.out.bl ((Bl.drew_ (Bl.refl _)).trans_ hb7)) D7.out.at_).mono ?_; rintro e w8 ⟨rfl, hb8⟩)
    try (go_wp2_with fail)
    refine hK.out _ _ ?_ (fun hHeld => ?_)
    · (first | exact HSH.out _ (Bl.drew_ (Bl.refl _)) | exact HSH.out _ ((Bl.drew_ (Bl.refl _)).trans_ hb7) | exact HSH.out _ (((Bl.drew_ (Bl.refl _)).trans_ hb7).trans_ hb8))
    clear hK K
    try simp only [Act.put, List.getElem_toArray, List.getElem_cons_succ, List.getElem_cons_zero, List.setIfInBounds_toArray, List.set_cons_zero, List.set_cons_succ]
    refine wpAnyH_take (i := 4) (v := ?_) rfl (by kernel_rfl) (by kernel_rfl) (by kernel_rfl) (fun _ _ _ h => h) (Or.inl ⟨by kernel_rfl, ?_⟩) (by assumption) ?_
    rotate_left
    · (intro wx hSw; (try dsimp only at hSw); go_simp; try (with_reducible rfl))
    try simp only [Act.put, List.getElem_toArray, List.getElem_cons_succ, List.getElem_cons_zero, List.setIfInBounds_toArray, List.set_cons_zero, List.set_cons_succ]
    refine wpAnyH_done (by kernel_rfl) ?_ _
    have hb68 := hHeld.1
    have z8 := hb68.size
    have B8 := Lib.hid (B6.out.trans_ hb68)
    have P8 := Lib.hid (P6.out.bl hb68)
    have Q8 := Lib.hid (Q6.out.bl hb68)
    have R8 := Lib.hid (R6.out.bl hb68)
    have T8 := Lib.hid (T6.out.bl hb68)
    have S8 := Lib.hid (S6.out.bl hb68)
    have X8 := Lib.hid (X6.out.bl hb68)
    have V8 := Lib.hid (V6.out.bl hb68)
    have G8 := Lib.hid (G6.out.bl hb68)
    have U8 := Lib.hid (U6.out.bl hb68)
    clear Pc0 Pc1 Pc2 Qc0 Qc1 Qc2 Rc0 Rc1 Rc2 Tc0 Tc1 Tc2 hHeld hb7 hb8 hb68
    obtain ⟨Pc0, Pc1, Pc2⟩ := P8.out
    obtain ⟨Qc0, Qc1, Qc2⟩ := Q8.out
    obtain ⟨Rc0, Rc1, Rc2⟩ := R8.out
    obtain ⟨Tc0, Tc1, Tc2⟩ := T8.out
    go_wp2_with fail
    refine (markDisk_any _ _ _ n1 n2 n3 n1 n2 n3 1 _ b1 b2 b3 (by omega) (by omega) V8.out).mono ?_
    rintro e w9 ⟨rfl, -, hT9⟩
    have hn9 : ∀ g, ¬ (w3.heap.size + 1 ≤ g ∧ g < w4.heap.size) → ¬ DkS (some ⟨g41, 0, none⟩) (some ⟨g42, 0, none⟩) (some ⟨g43, 0, none⟩) n1 n2 n3 g := fun g hg hs => hg (XI.out.dks hs)
    have z9 := hT9.size
    have B9 := Lib.hid (Turn.to_bl B8.out hT9 (fun g hs => by have := XI.out.dks hs; omega))
    have P9 := Lib.hid (P8.out.turn hT9 (hn9 _ (by omega)))
    have Q9 := Lib.hid (Q8.out.turn hT9 (hn9 _ (by omega)))
    have R9 := Lib.hid (R8.out.turn hT9 (hn9 _ (by omega)))
    have T9 := Lib.hid (T8.out.turn hT9 (hn9 _ (by omega)))
    have S9 := Lib.hid ((S8.out.turn (Nat.le_refl _) hT9 SI.out (fun g _ _ => hn9 g (by omega))).more z9)
    have G9 := Lib.hid ((G8.out.turn (Nat.le_refl _) hT9 GI.out (fun g _ _ => hn9 g (by omega))).more z9)
    have U9 := Lib.hid (U8.out.turn hT9 GI.out (fun g _ _ => hn9 g (by omega)))
    clear Pc0 Pc1 Pc2 Qc0 Qc1 Qc2 Rc0 Rc1 Rc2 Tc0 Tc1 Tc2 hT9 hn9
    obtain ⟨Pc0, Pc1, Pc2⟩ := P9.out
    obtain ⟨Qc0, Qc1, Qc2⟩ := Q9.out
    obtain ⟨Rc0, Rc1, Rc2⟩ := R9.out
    obtain ⟨Tc0, Tc1, Tc2⟩ := T9.out
    have p9 : (0 : Int) ≤ 1 + 2 * (n1 : Int) + 2 * (n2 : Int) + 4 * (n3 : Int) := by omega
    go_wp2_with fail
    refine (eqDisk_yes _ _ _ _ _ _ _ _ _ e1 e2 e3 d1 d2 d3 LA LB LC SK1.out SK2.out SK3.out _ lk1 lk2 lk3 G9.out S9.out).mono ?_
    rintro e w10 ⟨rfl, hb10⟩
    have z10 := hb10.size
    have B10 := Lib.hid (B9.out.trans_ hb10)
    have P10 := Lib.hid (P9.out.bl hb10)
    have Q10 := Lib.hid (Q9.out.bl hb10)
    have R10 := Lib.hid (R9.out.bl hb10)
    have T10 := Lib.hid (T9.out.bl hb10)
    have S10 := Lib.hid (S9.out.bl hb10)
    have G10 := Lib.hid (G9.out.bl hb10)
    have U10 := Lib.hid (U9.out.bl hb10)
    clear Pc0 Pc1 Pc2 Qc0 Qc1 Qc2 Rc0 Rc1 Rc2 Tc0 Tc1 Tc2 hb10 p9
    obtain ⟨Pc0, Pc1, Pc2⟩ := P10.out
    obtain ⟨Qc0, Qc1, Qc2⟩ := Q10.out
    obtain ⟨Tc0, Tc1, Tc2⟩ := T10.out
    go_wp2_with fail
    refine (markDisk_any _ _ _ _ _ _ e1 e2 e3 1 _ lk1 lk2 lk3 (by omega) (by omega) U10.out).mono ?_
    rintro e w11 ⟨rfl, hM11, hT11⟩
    have hn11 : ∀ g, ¬ (w4.heap.size + 1 ≤ g ∧ g < w5.heap.size) → ¬ DkS f1 f2 f3 m1 m2 m3 g := fun g hg hs => hg (GI.out.dks hs)
    have z11 := hT11.size
    have M11 := Lib.hid hM11
    have B11 := Lib.hid (Turn.to_bl B10.out hT11 (fun g hs => by have := GI.out.dks hs; omega))
    have P11 := Lib.hid (P10.out.turn hT11 (hn11 _ (by omega)))
    have Q11 := Lib.hid (Q10.out.turn hT11 (hn11 _ (by omega)))
    have T11 := Lib.hid (T10.out.turn hT11 (hn11 _ (by omega)))
    have S11 := Lib.hid ((S10.out.turn (Nat.le_refl _) hT11 SI.out (fun g _ _ => hn11 g (by omega))).more z11)
    clear Pc0 Pc1 Pc2 Qc0 Qc1 Qc2 Tc0 Tc1 Tc2 hT11 hn11 hM11
    obtain ⟨Pc0, Pc1, Pc2⟩ := P11.out
    obtain ⟨Qc0, Qc1, Qc2⟩ := Q11.out
    obtain ⟨Tc0, Tc1, Tc2⟩ := T11.out
    go_wp2_with fail
    refine (heldDisk_any _ _ _ _ _ _ e1 e2 e3 1 _ lk1 lk2 lk3 (by omega) (by omega) M11.out).mono ?_
    rintro e w12 ⟨rfl, hb12⟩
    have z12 := hb12.size
    have B12 := Lib.hid (B11.out.trans_ hb12)
    have P12 := Lib.hid (P11.out.bl hb12)
    have Q12 := Lib.hid (Q11.out.bl hb12)
    have T12 := Lib.hid (T11.out.bl hb12)
    have S12 := Lib.hid (S11.out.bl hb12)
    have M12 := Lib.hid (M11.out.bl hb12)
    clear Pc0 Pc1 Pc2 Qc0 Qc1 Qc2 Tc0 Tc1 Tc2 hb12
    obtain ⟨t, ht⟩ : ∃ t : Int, t = 1 + 2 * (m1 : Int) + 2 * (m2 : Int) + 4 * (m3 : Int) := ⟨_, rfl⟩
    have p12 : (0 : Int) ≤ t := by omega
    rw [← ht]
    have HT := Lib.hid ht
    have q12 : (t != t) = false := by simp
    clear ht
    obtain ⟨Pc0, Pc1, Pc2⟩ := P12.out
    obtain ⟨Qc0, Qc1, Qc2⟩ := Q12.out
    obtain ⟨Tc0, Tc1, Tc2⟩ := T12.out
    go_wp2_with fail
    refine (toDisk_any A1 A2 A3 n1 c1 n2 c2 n3 c3 L1 L2 O N1.out N2.out N3.out _ b1 b2 b3 (KH.out.f1.bl B12.out) (KH.out.f2.bl B12.out) (KH.out.f3.bl B12.out)).mono ?_
    rintro e w13 ⟨g81, g82, g83, rfl, hd13, hb13⟩
    have D13 := Lib.hid hd13
    have B13 := Lib.hid (B12.out.trans_ hb13)
    have Q13 := Lib.hid (Q12.out.bl hb13)
    have T13 := Lib.hid (T12.out.bl hb13)
    have S13 := Lib.hid (S12.out.bl hb13)
    have M13 := Lib.hid (M12.out.bl hb13)
    clear Pc0 Pc1 Pc2 Qc0 Qc1 Qc2 Tc0 Tc1 Tc2 hd13 hb13
    obtain ⟨Qc0, Qc1, Qc2⟩ := Q13.out
    obtain ⟨Tc0, Tc1, Tc2⟩ := T13.out
    go_wp2_with fail
    refine (implReplace_any KB.out nm dt XN.out XD.out _ D13.out.at_).mono ?_
    rintro e w14 ⟨hA, hB, hC, rfl, hI14⟩
    rw [← HLA.out, ← HLB.out, ← HLC.out] at hI14
    rw [← HCC.out]
    have B14 := Lib.hid (B13.out.trans_ hI14.bl)
    have Q14 := Lib.hid (Q13.out.bl hI14.bl)
    have T14 := Lib.hid (T13.out.bl hI14.bl)
    have S14 := Lib.hid (S13.out.bl hI14.bl)
    have M14 := Lib.hid (M13.out.bl hI14.bl)
    obtain ⟨h1, h2, h3, l1, j1, l2, j2, l3, j3, ⟨rfl, rfl, rfl⟩, ⟨hl1, hl2, hl3⟩, hH, -, -⟩ := hI14.opened
    obtain rfl : l1 = m1 := hl1.trans SK1.out.symm
    obtain rfl : l2 = m2 := hl2.trans SK2.out.symm
    obtain rfl : l3 = m3 := hl3.trans SK3.out.symm
    have H14 := Lib.hid hH
    clear Qc0 Qc1 Qc2 Tc0 Tc1 Tc2 hI14 hl1 hl2 hl3 hH
    obtain ⟨Qc0, Qc1, Qc2⟩ := Q14.out
    obtain ⟨Tc0, Tc1, Tc2⟩ := T14.out
    have ah := Q14.out.bl ((Bl.refl w14).alloc_ (.cells #[.slice h1 l1 j1, .slice h2 l2 j2, .slice h3 l3 j3] 31))
    obtain ⟨ah0, ah1, ah2⟩ := ah
    go_wp2_with fail
    refine (eqDisk_yes _ _ _ _ _ _ _ _ _ j1 j2 j3 d1 d2 d3 LA LB LC SK1.out SK2.out SK3.out _ lk1 lk2 lk3 (H14.out.bl (Bl.alloc_ (Bl.refl _) _)) (S14.out.bl (Bl.alloc_ (Bl.refl _) _))).mono ?_
    rintro e w15 ⟨rfl, hb15⟩
    have hb15' := ((Bl.refl w14).alloc_ _).trans_ hb15
    have B15 := Lib.hid (B14.out.trans_ hb15')
    have T15 := Lib.hid (T14.out.bl hb15')
    have M15 := Lib.hid (M14.out.bl hb15')
    clear Qc0 Qc1 Qc2 Tc0 Tc1 Tc2 ah0 ah1 ah2 hb15 hb15'
    obtain ⟨Tc0, Tc1, Tc2⟩ := T15.out
    go_wp2_with fail
    refine (heldDisk_any _ _ _ _ _ _ e1 e2 e3 1 _ lk1 lk2 lk3 (by omega) (by omega) M15.out).mono ?_
    rintro e w16 ⟨rfl, hb16⟩
    rw [← HT.out]
    have B16 := Lib.hid (B15.out.trans_ hb16)
    clear Tc0 Tc1 Tc2 hb16
    go_wp2
    go_ret
    exact ⟨rfl, B16.out⟩

end Go.Proofs.Ytgfmgmcpfefmkaa
