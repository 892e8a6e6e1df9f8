/-
  What is proved here: the walk of the exact law on Matrix: at every graph and all numbers that can be read it returns true and leaves what was there as it was. No conditions beyond those that each theorem states.
-/
import Derived.Test.YtlddileiecnkjaaMG13
import Derived.Test.YtlddileiecnkjaaME3b
import Derived.Test.YtlddileiecnkjaaMG04
set_option linter.unusedSimpArgs false
set_option linter.unusedVariables false
namespace Go.Proofs.Ytlddileiecnkjaa
open Go.RowKit

set_option maxRecDepth 100000 in
set_option maxHeartbeats 8000000 in
theorem lawMatrix_any (N : Int) (A : Option Addr) (n c : Nat) (L : List Arc3) (hn : n = L.length) (AF : Option Addr) (kF cF : Nat) (F : List Int) (hF : kF = F.length) (AT : Option Addr) (kT cT : Nat) (T : List Int) (hT : kT = T.length) (w : World) (hm : n ≤ 9223372036854775807) (hkF : kF ≤ 9223372036854775807) (hkT : kT ≤ 9223372036854775807) (H1 : ArcsAt w w.heap.size A L) (H2 : IntsAt w w.heap.size AF F) (H3 : IntsAt w w.heap.size AT T) :
    Calls Try.prog 4 #[.agg #[.int .i64 N, .slice A n c], .slice AF kF cF, .slice AT kT cT] w fun e w' => e = .returned (.bool true) ∧ Bl w w' := by
  have K1 := Lib.hid H1
  have K2 := Lib.hid H2
  have K3 := Lib.hid H3
  have HN := Lib.hid hn
  have HF := Lib.hid hF
  have HT := Lib.hid hT
  clear H1 H2 H3 hn hF hT
  by_cases hk1 : (1048576 : Int) < (kF : Int)
  · have b1 : decide ((1048576 : Int) < (kF : Int)) = true := by simpa using hk1
    go_enter Try.func4, Try.ntmps4
    go_wp2
    go_ret
    exact ⟨rfl, (by repeat' (first | exact Bl.refl _ | with_reducible assumption | with_reducible refine Bl.drew_ ?_ | with_reducible refine Bl.drewN_ ?_ _ | with_reducible refine Bl.alloc_ ?_ _ | with_reducible refine Bl.trans_ ?_ (by assumption) | with_reducible refine Bl.trans_ ?_ (And.left (by assumption))))⟩
  · have b1 : decide ((1048576 : Int) < (kF : Int)) = false := by simpa using hk1
    have hF' : kF ≤ 1048576 := by omega
    clear hk1
    by_cases hk2 : (1048576 : Int) < (kT : Int)
    · have b2 : decide ((1048576 : Int) < (kT : Int)) = true := by simpa using hk2
      go_enter Try.func4, Try.ntmps4
      go_wp2
      go_ret
      exact ⟨rfl, (by repeat' (first | exact Bl.refl _ | with_reducible assumption | with_reducible refine Bl.drew_ ?_ | with_reducible refine Bl.drewN_ ?_ _ | with_reducible refine Bl.alloc_ ?_ _ | with_reducible refine Bl.trans_ ?_ (by assumption) | with_reducible refine Bl.trans_ ?_ (And.left (by assumption))))⟩
    · have b2 : decide ((1048576 : Int) < (kT : Int)) = false := by simpa using hk2
      have hT' : kT ≤ 1048576 := by omega
      clear hk2
      by_cases hbig : (1048576 : Int) - n < 0
      · go_enter Try.func4, Try.ntmps4
        go_wp2_with (go_at_call 25; refine (szGraph_any _ _ _ _ _ _ hm (by omega) (by omega)).mono ?_; rintro e w' ⟨rfl, hb⟩; obtain ⟨hc, hf⟩ := bcell hb)
        go_ret
        exact ⟨rfl, (by repeat' (first | exact Bl.refl _ | with_reducible assumption | with_reducible refine Bl.drew_ ?_ | with_reducible refine Bl.drewN_ ?_ _ | with_reducible refine Bl.alloc_ ?_ _ | with_reducible refine Bl.trans_ ?_ (by assumption) | with_reducible refine Bl.trans_ ?_ (And.left (by assumption))))⟩
      · have hm' : n ≤ 1048576 := by omega
        clear hbig
        go_enter Try.func4, Try.ntmps4
        go_wp2_with fail
        refine (szGraph_small N A n c _ hm').mono ?_
        rintro e w1 ⟨rfl, hb1⟩
        obtain ⟨q0, q1⟩ := box2 hb1
        have p1 : (0 : Int) ≤ 1048576 - (n : Int) := by omega
        go_wp2_with fail
        refine (toGraph_any N A n c L HN.out _ hm' (K1.out.bl (by repeat' (first | exact Bl.refl _ | with_reducible assumption | with_reducible refine Bl.drew_ ?_ | with_reducible refine Bl.drewN_ ?_ _ | with_reducible refine Bl.alloc_ ?_ _ | with_reducible refine Bl.trans_ ?_ (by assumption) | with_reducible refine Bl.trans_ ?_ (And.left (by assumption)))))).mono ?_
        rintro e w2 ⟨g2, rfl, ha2, hg2, hb2⟩
        have hb2 := hb1.trans_ hb2
        obtain ⟨q0, q1⟩ := box2 hb2
        have HA2 := Lib.hid ha2
        clear ha2
        go_wp2_with fail
        refine (toInt64S_any AF kF cF F HF.out _ hF' (K2.out.bl ((Bl.alloc_ (Bl.refl w) _).trans_ hb2))).mono ?_
        rintro e w3 ⟨rfl, hi3, hb3⟩
        have HI3 := Lib.hid hi3
        have HA3 := Lib.hid (HA2.out.bl hb3)
        have hb3 := hb2.trans_ hb3
        obtain ⟨q0, q1⟩ := box2 hb3
        clear hi3
        go_wp2_with fail
        refine (toInt64S_any AT kT cT T HT.out _ hT' (K3.out.bl ((Bl.alloc_ (Bl.refl w) _).trans_ hb3))).mono ?_
        rintro e w4 ⟨rfl, hi4, hb4⟩
        have HI4 := Lib.hid hi4
        have HA4 := Lib.hid (HA3.out.bl hb4)
        have HF4 := Lib.hid (HI3.out.bl hb4)
        have hb4 := hb3.trans_ hb4
        obtain ⟨q0, q1⟩ := box2 hb4
        clear hi4
        obtain ⟨R, hR⟩ : ∃ R, R = matL N L F T := ⟨_, rfl⟩
        have HRR := Lib.hid hR
        have HRL := Lib.hid (show ∀ r ∈ R, r.length ≤ 9223372036854775807 from fun r hr => by have := (matL_small N L F T).2.1 r (by rw [← hR]; exact hr); omega)
        have HSM := Lib.hid (show sumL R ≤ 1048576 from by rw [hR]; exact (matL_small N L F T).2.2)
        have HRN := Lib.hid (show R.length ≤ 1048576 from by rw [hR]; have := (matL_small N L F T).1; omega)
        go_wp2_with fail
        refine (specMatrix_any N _ n n L HN.out _ kF kF F HF.out _ kT kT T HT.out _ hm' hF' hT' HA4.out HF4.out HI4.out).mono ?_
        rintro e w5 ⟨v0, G0, rfl, hv0, hb5⟩
        have hb5 := hb4.trans_ hb5
        obtain ⟨q0, q1⟩ := box2 hb5
        obtain ⟨A0, c0, rfl⟩ := hv0.slice
        have V0 := Lib.hid hv0.rowsAt
        rw [← HRR.out] at V0 ⊢
        clear hv0 hR
        obtain ⟨l, hl⟩ : ∃ l, l = R.length := ⟨_, rfl⟩
        have hln : l ≤ 1048576 := by rw [hl]; exact HRN.out
        rw [← hl]
        have HL := Lib.hid hl
        clear hl
        have BW5 := Lib.hid (show Bl w w5 from (Bl.alloc_ (Bl.refl w) _).trans_ hb5)
        have sw5 : w.heap.size < w5.heap.size := by have := hb5.size; simp at this; omega
        go_wp2_with fail
        refine (toGraph_row N A n c L HN.out _ hm' (K1.out.bl BW5.out)).mono ?_
        rintro e w6 ⟨g6, rfl, ha6, hg6, hb6, hr6, hlt6⟩
        have BX6 := Lib.hid (Bl.alloc_ (Bl.refl w6) (.cells #[.int .i64 N, .slice (some ⟨g6, 0, none⟩) n n] 33))
        have HA6 := Lib.hid (ha6.bl BX6.out)
        have HR6 := Lib.hid (hr6.bl BX6.out)
        have B56 := Lib.hid hb6
        have BW6 := Lib.hid (BW5.out.trans_ (hb6.trans_ BX6.out))
        have s56 := hb6.size
        have hB6 := hb5.trans_ (hb6.trans_ BX6.out)
        clear ha6 hr6 q0 q1
        go_wp2_with fail
        refine (toInt64S_row AF kF cF F HF.out _ hF' (K2.out.bl BW6.out)).mono ?_
        rintro e w7 ⟨rfl, hi7, hb7, hr7, hl7⟩
        simp only [World.size_alloc] at hl7
        have HI7 := Lib.hid (show IntsAt w7 w7.heap.size (some ⟨w6.heap.size + 1, 0, none⟩) F from by simpa only [World.size_alloc] using hi7)
        have HW7 := Lib.hid (show RowsW 2 1 w7 (some ⟨w6.heap.size + 1, 0, none⟩) kF from by simpa only [World.size_alloc] using hr7)
        have HA7 := Lib.hid (HA6.out.bl hb7)
        have HG7 := Lib.hid (HR6.out.bl hb7)
        have hX7 := hb7
        have hB7 := hB6.trans_ hb7
        have BW7 := Lib.hid (BW6.out.trans_ hb7)
        have s7 := hb7.size
        simp only [World.size_alloc] at s7
        clear hi7 hr7
        go_wp2_with fail
        refine (toInt64S_row AT kT cT T HT.out _ hT' (K3.out.bl BW7.out)).mono ?_
        rintro e w8 ⟨rfl, hi8, hb8, hr8, hl8⟩
        have HI8 := Lib.hid (HI7.out.bl hb8)
        have HW8 := Lib.hid (HW7.out.bl hb8)
        have HJ8 := Lib.hid hi8
        have HV8 := Lib.hid hr8
        have HA8 := Lib.hid (HA7.out.bl hb8)
        have HG8 := Lib.hid (HG7.out.bl hb8)
        have hX8 := hX7.trans_ hb8
        have hB8 := hB7.trans_ hb8
        have s8 := hb8.size
        obtain ⟨x0, x1⟩ := box2 hX8
        clear hi8 hr8
        go_wp2_with fail
        refine (implMatrix_any N _ n n L HN.out (Nat.le_refl _) _ kF kF F HF.out _ kT kT T HT.out _ hm' hF' hT' HA8.out HI8.out HJ8.out).mono ?_
        rintro e w9 ⟨v1, G1, rfl, hv1, hb9⟩
        obtain ⟨A1, c1, rfl⟩ := hv1.slice
        rw [← HRR.out] at hv1 ⊢
        rw [← HL.out] at hv1 ⊢
        have V1 := Lib.hid hv1
        clear hv1
        have HGL := Lib.hid (show l = G1.length from by rw [HL.out, V1.out.len])
        have B1' := Lib.hid (show ∀ g, inG G1 g → w8.heap.size ≤ g from fun g ⟨j, hj, e⟩ => (V1.out.lt hj e).1)
        have HI9 := Lib.hid (HI8.out.bl hb9)
        have HW9 := Lib.hid (HW8.out.bl hb9)
        have HJ9 := Lib.hid (HJ8.out.bl hb9)
        have HV9 := Lib.hid (HV8.out.bl hb9)
        have HA9 := Lib.hid (HA8.out.bl hb9)
        have HG9 := Lib.hid (HG8.out.bl hb9)
        have hX9 := hX8.trans_ hb9
        have hB9 := hB8.trans_ hb9
        have s9 := hb9.size
        have V09 := Lib.hid (V0.out.bl ((B56.out.trans_ BX6.out).trans_ hX9))
        have hbw : Bl w w9 := (Bl.alloc_ (Bl.refl w) _).trans_ hB9
        have HSH := Lib.hid (show ∀ wx, Bl w9 wx → Bl w9 wx ∧ wx.cell? ⟨w.heap.size, 0, none⟩ = some (.int .i64 N) ∧ wx.cell? ⟨w.heap.size, 1, none⟩ = some (.slice A n c) ∧ wx.cell? ⟨w6.heap.size, 0, none⟩ = some (.int .i64 N) ∧ wx.cell? ⟨w6.heap.size, 1, none⟩ = some (.slice (some ⟨g6, 0, none⟩) n n) from fun wx hb =>
          ⟨hb, (box2 (hB9.trans_ hb)).1, (box2 (hB9.trans_ hb)).2, (box2 (hX9.trans_ hb)).1, (box2 (hX9.trans_ hb)).2⟩)
        clear x0 x1
        go_wp2_with fail
        refine (eqRowS_yes A1 A0 c1 c0 _ _ R l HL.out _ (by omega) HRL.out V1.out.rowsAt V09.out).mono ?_
        rintro e w10 ⟨rfl, hb10⟩
        have P10 := hb10
        go_wp2_with fail
        refine wp_region_held_drew (S := fun wx => Bl w9 wx ∧ wx.cell? ⟨w.heap.size, 0, none⟩ = some (.int .i64 N) ∧ wx.cell? ⟨w.heap.size, 1, none⟩ = some (.slice A n c) ∧ wx.cell? ⟨w6.heap.size, 0, none⟩ = some (.int .i64 N) ∧ wx.cell? ⟨w6.heap.size, 1, none⟩ = some (.slice (some ⟨g6, 0, none⟩) n n)) (by kernel_rfl) ?_ (fun hHeld => ?_)
        · (exact HSH.out _ (by repeat' (first | exact Bl.refl _ | with_reducible assumption | with_reducible refine Bl.drew_ ?_ | with_reducible refine Bl.drewN_ ?_ _ | with_reducible refine Bl.alloc_ ?_ _ | with_reducible refine Bl.trans_ ?_ (by assumption) | with_reducible refine Bl.trans_ ?_ (And.left (by assumption)))))
        refine wpAnyH_take (i := 0) (v := ?_) rfl (by kernel_rfl) (by kernel_rfl) (by kernel_rfl) (fun _ _ _ h => h) (Or.inl ⟨by kernel_rfl, ?_⟩) (by assumption) ?_
        rotate_left
        · (intro wx hSw; (try dsimp only at hSw); go_simp; try (with_reducible rfl))
        try simp only [Act.put, List.getElem_toArray, List.getElem_cons_succ, List.getElem_cons_zero, List.setIfInBounds_toArray, List.set_cons_zero, List.set_cons_succ]
        refine wpAnyH_take (i := 1) (v := ?_) rfl (by kernel_rfl) (by kernel_rfl) (by kernel_rfl) (fun _ _ _ h => h) (Or.inl ⟨by kernel_rfl, ?_⟩) (by assumption) ?_
        rotate_left
        · (intro wx hSw; (try dsimp only at hSw); go_simp; try (with_reducible rfl))
        try simp only [Act.put, List.getElem_toArray, List.getElem_cons_succ, List.getElem_cons_zero, List.setIfInBounds_toArray, List.set_cons_zero, List.set_cons_succ]
        refine wpAnyH_ready (rs := [2]) (by kernel_rfl) (by simp) ?_
        refine AllReadyH.cons rfl (fun K hK => ?_) AllReadyH.nil
        go_simp
        (go_at_call 27; refine (toGraph_any N A n c L HN.out _ hm' (K1.out.bl (hbw.trans_ (by repeat' (first | exact Bl.refl _ | with_reducible assumption | with_reducible refine Bl.drew_ ?_ | with_reducible refine Bl.drewN_ ?_ _ | with_reducible refine Bl.alloc_ ?_ _ | with_reducible refine Bl.trans_ ?_ (by assumption) | with_reducible refine Bl.trans_ ?_ (And.left (by assumption))))))).mono ?_; rintro e w11 ⟨g11, rfl, ha11, hg11, hb11⟩; have HA11 := Lib.hid ha11; clear ha11)
        try (go_wp2_with fail)
        refine hK.out _ _ ?_ (fun hHeld => ?_)
        · (exact HSH.out _ (by repeat' (first | exact Bl.refl _ | with_reducible assumption | with_reducible refine Bl.drew_ ?_ | with_reducible refine Bl.drewN_ ?_ _ | with_reducible refine Bl.alloc_ ?_ _ | with_reducible refine Bl.trans_ ?_ (by assumption) | with_reducible refine Bl.trans_ ?_ (And.left (by assumption)))))
        clear hK K
        try simp only [Act.put, List.getElem_toArray, List.getElem_cons_succ, List.getElem_cons_zero, List.setIfInBounds_toArray, List.set_cons_zero, List.set_cons_succ]
        refine wpAnyH_ready (rs := [3]) (by kernel_rfl) (by simp) ?_
        refine AllReadyH.cons rfl (fun K hK => ?_) AllReadyH.nil
        go_simp
        (go_at_call 31; refine (eqGraph_yes N _ _ n n L n HN.out _ hm (HA9.out.bl (by repeat' (first | exact Bl.refl _ | with_reducible assumption | with_reducible refine Bl.drew_ ?_ | with_reducible refine Bl.drewN_ ?_ _ | with_reducible refine Bl.alloc_ ?_ _ | with_reducible refine Bl.trans_ ?_ (by assumption) | with_reducible refine Bl.trans_ ?_ (And.left (by assumption))))) HA11.out).mono ?_; rintro e w12 ⟨rfl, hb12⟩)
        try (go_wp2_with fail)
        refine hK.out _ _ ?_ (fun hHeld => ?_)
        · (exact HSH.out _ (by repeat' (first | exact Bl.refl _ | with_reducible assumption | with_reducible refine Bl.drew_ ?_ | with_reducible refine Bl.drewN_ ?_ _ | with_reducible refine Bl.alloc_ ?_ _ | with_reducible refine Bl.trans_ ?_ (by assumption) | with_reducible refine Bl.trans_ ?_ (And.left (by assumption)))))
        clear hK K
        try simp only [Act.put, List.getElem_toArray, List.getElem_cons_succ, List.getElem_cons_zero, List.setIfInBounds_toArray, List.set_cons_zero, List.set_cons_succ]
        refine wpAnyH_take (i := 4) (v := ?_) rfl (by kernel_rfl) (by kernel_rfl) (by kernel_rfl) (fun _ _ _ h => h) (Or.inl ⟨by kernel_rfl, ?_⟩) (by assumption) ?_
        rotate_left
        · (intro wx hSw; (try dsimp only at hSw); go_simp; try (with_reducible rfl))
        try simp only [Act.put, List.getElem_toArray, List.getElem_cons_succ, List.getElem_cons_zero, List.setIfInBounds_toArray, List.set_cons_zero, List.set_cons_succ]
        refine wpAnyH_done (by kernel_rfl) ?_ _
        have P12 : Bl w9 w12 := (by repeat' (first | exact Bl.refl _ | with_reducible assumption | with_reducible refine Bl.drew_ ?_ | with_reducible refine Bl.drewN_ ?_ _ | with_reducible refine Bl.alloc_ ?_ _ | with_reducible refine Bl.trans_ ?_ (by assumption) | with_reducible refine Bl.trans_ ?_ (And.left (by assumption))))
        go_wp2_with fail
        refine (toInt64S_any AF kF cF F HF.out _ hF' (K2.out.bl (hbw.trans_ P12))).mono ?_
        rintro e w13 ⟨rfl, hi13, hb13⟩
        have HI13 := Lib.hid hi13
        clear hi13
        go_wp2_with fail
        refine (eqInt64S_yes _ _ kF kF F kF HF.out _ (by omega) (HI9.out.bl (P12.trans_ hb13)) HI13.out).mono ?_
        rintro e w14 ⟨rfl, hb14⟩
        have P14 := (P12.trans_ (hb13.trans_ hb14))
        go_wp2_with fail
        refine (toInt64S_any AT kT cT T HT.out _ hT' (K3.out.bl (hbw.trans_ P14))).mono ?_
        rintro e w15 ⟨rfl, hi15, hb15⟩
        have HI15 := Lib.hid hi15
        clear hi15
        go_wp2_with fail
        refine (eqInt64S_yes _ _ kT kT T kT HT.out _ (by omega) (HJ9.out.bl (P14.trans_ hb15)) HI15.out).mono ?_
        rintro e w16 ⟨rfl, hb16⟩
        have P16 := Lib.hid (P14.trans_ (hb15.trans_ hb16))
        have s16 := P16.out.size
        obtain ⟨-, q0, q1, x0, x1⟩ := HSH.out _ P16.out
        have V016 := Lib.hid (show RowsAt w16 0 w5.heap.size A0 R from (V0.out.low (Nat.zero_le _)).bl' (Nat.le_refl _) (((B56.out.trans_ BX6.out).trans_ hX9).trans_ P16.out))
        have V116 := Lib.hid (V1.out.bl P16.out)
        have W16 := Lib.hid (HW9.out.bl P16.out)
        have U16 := Lib.hid (HV9.out.bl P16.out)
        have M16 := Lib.hid (HG9.out.bl P16.out)
        have C0 := Lib.hid q0
        have C1 := Lib.hid q1
        clear hb1 hb2 hb3 hb4 hb5 hb6 hb7 hb8 hb9 hb10 hb11 hb12 hb13 hb14 hb15 hb16 P10 P12 P14 hB6 hB7 hB8 hB9 hX7 hX8 hX9 q0 q1
        go_wp2_with fail
        refine (markGraph_any N _ n n 1 _ hm' (by omega) (by omega) M16.out).mono ?_
        rintro e w17 ⟨rfl, hm17, hg17, hr17⟩
        have G17 := Lib.hid hg17
        clear hm17 hg17 hr17 x0 x1
        have s17 := G17.out.size
        have T17 := Lib.hid (show Turn (fun i => i = g6) w16 w17 from Turn.of_grown G17.out (fun g hg => by simpa [blockOf] using hg.symm))
        have Q17 := Lib.hid (show Bl w w17 from Turn.to_bl (hbw.trans_ P16.out) T17.out (fun g hg => by omega))
        have V017 := Lib.hid (V016.out.turn (by omega) T17.out (fun g _ hlt e => by omega))
        have V117 := Lib.hid (V116.out.turn T17.out (fun g hg _ e => by omega))
        have W17 := Lib.hid (RowsW.grown_ W16.out G17.out (fun g hg => by
          obtain rfl : w6.heap.size + 1 = g := by simpa [blockOf] using hg
          simp [blockOf]; omega))
        have U17 := Lib.hid (RowsW.grown_ U16.out G17.out (fun g hg => by
          obtain rfl : w7.heap.size = g := by simpa [blockOf] using hg
          simp [blockOf]; omega))
        have D0 := Lib.hid (G17.out.cell C0.out (by simp [blockOf]; omega))
        have D1 := Lib.hid (G17.out.cell C1.out (by simp [blockOf]; omega))
        have p2 : (0 : Int) ≤ 1 + 3 * (n : Int) := by omega
        go_wp2_with fail
        refine (markN_any _ kF kF (1 + 3 * (n : Int)) _ hF' (by omega) (by omega) W17.out).mono ?_
        rintro e w18 ⟨rfl, hm18, hg18, hr18⟩
        have G18 := Lib.hid hg18
        clear hm18 hg18 hr18
        have s18 := G18.out.size
        have T18 := Lib.hid (show Turn (fun i => i = w6.heap.size + 1) w17 w18 from Turn.of_grown G18.out (fun g hg => by simpa [blockOf] using hg.symm))
        have Q18 := Lib.hid (show Bl w w18 from Turn.to_bl Q17.out T18.out (fun g hg => by omega))
        have V018 := Lib.hid (V017.out.turn (by omega) T18.out (fun g _ hlt e => by omega))
        have V118 := Lib.hid (V117.out.turn T18.out (fun g hg _ e => by omega))
        have U18 := Lib.hid (RowsW.grown_ U17.out G18.out (fun g hg => by
          obtain rfl : w7.heap.size = g := by simpa [blockOf] using hg
          simp [blockOf]; omega))
        have E0 := Lib.hid (G18.out.cell D0.out (by simp [blockOf]; omega))
        have E1 := Lib.hid (G18.out.cell D1.out (by simp [blockOf]; omega))
        have p3 : (0 : Int) ≤ 1 + 3 * (n : Int) + (kF : Int) := by omega
        go_wp2_with fail
        refine (markN_any _ kT kT (1 + 3 * (n : Int) + (kF : Int)) _ hT' (by omega) (by omega) U18.out).mono ?_
        rintro e w19 ⟨rfl, hm19, hg19, hr19⟩
        have G19 := Lib.hid hg19
        clear hm19 hg19 hr19
        have s19 := G19.out.size
        have T19 := Lib.hid (show Turn (fun i => i = w7.heap.size) w18 w19 from Turn.of_grown G19.out (fun g hg => by simpa [blockOf] using hg.symm))
        have Q19 := Lib.hid (show Bl w w19 from Turn.to_bl Q18.out T19.out (fun g hg => by omega))
        have V019 := Lib.hid (V018.out.turn (by omega) T19.out (fun g _ hlt e => by omega))
        have V119 := Lib.hid (V118.out.turn T19.out (fun g hg _ e => by omega))
        have F0 := Lib.hid (G19.out.cell E0.out (by simp [blockOf]; omega))
        have F1 := Lib.hid (G19.out.cell E1.out (by simp [blockOf]; omega))
        have p3' : (0 : Int) ≤ 1 + 3 * (n : Int) + (kF : Int) + (kT : Int) := by omega
        go_wp2_with fail
        refine (eqRowS_yes A1 A0 c1 c0 _ _ R l HL.out _ (by omega) HRL.out V119.out.rowsAt (V019.out.more (by omega))).mono ?_
        rintro e w20 ⟨rfl, hb20⟩
        have s20 := hb20.size
        have X0 := Lib.hid (((bcell hb20).1 _ _ (by omega)).trans F0.out)
        have X1 := Lib.hid (((bcell hb20).1 _ _ (by omega)).trans F1.out)
        go_wp2_with fail
        refine (markRowS_any A1 l c1 1 HGL.out (by omega) HSM.out (by omega) (by omega) (V119.out.bl hb20)).mono ?_
        rintro e w21 ⟨rfl, hm21, ht21⟩
        have M21 := Lib.hid hm21
        have T21 := Lib.hid ht21
        clear hm21 ht21
        have s21 := T21.out.size
        have Q21 := Lib.hid (show Bl w w21 from Turn.to_bl (Q19.out.trans_ hb20) T21.out (fun g hg => by have := B1'.out g hg; omega))
        have V021 := Lib.hid ((V019.out.bl' (by omega) hb20).turn (by omega) T21.out (fun g _ hlt e => by have := B1'.out g e; omega))
        have q0 := (T21.out.cell (by omega) (fun e => by have := B1'.out _ e; omega) 0).trans X0.out
        have q1 := (T21.out.cell (by omega) (fun e => by have := B1'.out _ e; omega) 1).trans X1.out
        go_wp2_with fail
        refine (heldRowS_any A1 l c1 1 HGL.out (by omega) HSM.out (by omega) (by omega) M21.out).mono ?_
        rintro e w22 ⟨rfl, rfl⟩
        obtain ⟨tt, htt⟩ : ∃ tt : Int, tt = 1 + ((sumL R : Nat) : Int) := ⟨_, rfl⟩
        rw [← htt]
        have HTT := Lib.hid htt
        have p4 : (0 : Int) ≤ tt := by omega
        have p5 : (tt != tt) = false := by simp
        clear htt
        go_wp2_with fail
        refine (toGraph_any N A n c L HN.out _ hm' (K1.out.bl Q21.out)).mono ?_
        rintro e w22 ⟨g22, rfl, ha22, hg22, hb22⟩
        have HA22 := Lib.hid ha22
        clear ha22
        go_wp2_with fail
        refine (toInt64S_any AF kF cF F HF.out _ hF' (K2.out.bl (Q21.out.trans_ hb22))).mono ?_
        rintro e w23 ⟨rfl, hi23, hb23⟩
        have HI23 := Lib.hid hi23
        clear hi23
        go_wp2_with fail
        refine (toInt64S_any AT kT cT T HT.out _ hT' (K3.out.bl (Q21.out.trans_ (hb22.trans_ hb23)))).mono ?_
        rintro e w24 ⟨rfl, hi24, hb24⟩
        have HI24 := Lib.hid hi24
        clear hi24
        go_wp2_with fail
        refine (implMatrix_any N _ n n L HN.out (Nat.le_refl _) _ kF kF F HF.out _ kT kT T HT.out _ hm' hF' hT' (HA22.out.bl (hb23.trans_ hb24)) (HI23.out.bl hb24) HI24.out).mono ?_
        rintro e w25 ⟨v2, G2, rfl, hv2, hb25⟩
        obtain ⟨A2, c2, rfl⟩ := hv2.slice
        rw [← HRR.out] at hv2 ⊢
        rw [← HL.out] at hv2 ⊢
        have V2 := Lib.hid hv2
        clear hv2
        have b25 := Lib.hid ((hb22.trans_ (hb23.trans_ hb24)).trans_ hb25)
        have s25 := b25.out.size
        go_wp2_with fail
        refine (eqRowS_yes A2 A0 c2 c0 _ _ R l HL.out _ (by omega) HRL.out V2.out.rowsAt ((V021.out.bl' (by omega) b25.out).more (by omega))).mono ?_
        rintro e w26 ⟨rfl, hb26⟩
        go_wp2_with fail
        refine (heldRowS_any A1 l c1 1 HGL.out (by omega) HSM.out (by omega) (by omega) (M21.out.bl (b25.out.trans_ hb26))).mono ?_
        rintro e w27 ⟨rfl, rfl⟩
        rw [← HTT.out]
        go_wp2
        go_ret
        exact ⟨rfl, Q21.out.trans_ (b25.out.trans_ hb26)⟩

end Go.Proofs.Ytlddileiecnkjaa
