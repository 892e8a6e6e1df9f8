/-
  What is proved here: the walk of the exact law on Nearest: at every graph and all numbers that can be read it returns true and leaves what was there as it was. No conditions beyond those that each theorem states.
-/
import Derived.Test.YtlddileiecnkjaaV6G12
import Derived.Test.YtlddileiecnkjaaV6G15
import Derived.Test.YtlddileiecnkjaaV6G05
import Derived.Test.YtlddileiecnkjaaV6G03
set_option linter.unusedSimpArgs false
set_option linter.unusedVariables false
namespace Go.Proofs.Ytlddileiecnkjaa
open Go.RowKit

set_option maxRecDepth 100000 in
set_option maxHeartbeats 4000000 in
theorem lawNearest_any (N : Int) (A : Option Addr) (n c : Nat) (L : List Arc3) (hn : n = L.length) (A2 : Option Addr) (k c2 : Nat) (P : List Int) (hk : k = P.length) (s t : Int) (w : World) (hm : n ≤ 9223372036854775807) (hkm : k ≤ 9223372036854775807) (H1 : ArcsAt w w.heap.size A L) (H2 : IntsAt w w.heap.size A2 P) :
    Calls Try.prog 7 #[.agg #[.int .i64 N, .slice A n c], .int .i64 s, .slice A2 k c2, .int .i64 t] w fun e w' => e = .returned (.bool true) ∧ Bl w w' := by
  have K1 := Lib.hid H1
  have K2 := Lib.hid H2
  have HN := Lib.hid hn
  have HK := Lib.hid hk
  clear H1 H2 hn hk
  by_cases hk1 : (1048576 : Int) < (k : Int)
  · have b1 : decide ((1048576 : Int) < (k : Int)) = true := by simpa using hk1
    go_enter Try.func7, Try.ntmps7
    go_wp2
    go_ret
    exact ⟨rfl, (by repeat' (first | exact Bl.refl _ | with_reducible assumption | with_reducible refine Bl.drew_ ?_ | with_reducible refine Bl.drewN_ ?_ _ | with_reducible refine Bl.alloc_ ?_ _ | with_reducible refine Bl.trans_ ?_ (by assumption) | with_reducible refine Bl.trans_ ?_ (And.left (by assumption))))⟩
  · have b1 : decide ((1048576 : Int) < (k : Int)) = false := by simpa using hk1
    have hk' : k ≤ 1048576 := by omega
    clear hk1
    by_cases hbig : (1048576 : Int) - n < 0
    · go_enter Try.func7, Try.ntmps7
      go_wp2_with (go_at_call 25; refine (szGraph_any _ _ _ _ _ _ hm (by omega) (by omega)).mono ?_; rintro e w' ⟨rfl, hb⟩; obtain ⟨hc, hf⟩ := bcell hb)
      go_ret
      exact ⟨rfl, (by repeat' (first | exact Bl.refl _ | with_reducible assumption | with_reducible refine Bl.drew_ ?_ | with_reducible refine Bl.drewN_ ?_ _ | with_reducible refine Bl.alloc_ ?_ _ | with_reducible refine Bl.trans_ ?_ (by assumption) | with_reducible refine Bl.trans_ ?_ (And.left (by assumption))))⟩
    · have hm' : n ≤ 1048576 := by omega
      clear hbig
      go_enter Try.func7, Try.ntmps7
      go_wp2_with fail
      refine (szGraph_small N A n c _ hm').mono ?_
      rintro e w1 ⟨rfl, hb1⟩
      obtain ⟨q0, q1⟩ := box2 hb1
      have p1 : (0 : Int) ≤ 1048576 - (n : Int) := by omega
      go_wp2_with fail
      refine (toGraph_any N A n c L HN.out _ hm' (K1.out.bl (by repeat' (first | exact Bl.refl _ | with_reducible assumption | with_reducible refine Bl.drew_ ?_ | with_reducible refine Bl.drewN_ ?_ _ | with_reducible refine Bl.alloc_ ?_ _ | with_reducible refine Bl.trans_ ?_ (by assumption) | with_reducible refine Bl.trans_ ?_ (And.left (by assumption)))))).mono ?_
      rintro e w2 ⟨g2, rfl, ha2, hg2, hb2⟩
      have hb2 := hb1.trans_ hb2
      obtain ⟨q0, q1⟩ := box2 hb2
      have HA2 := Lib.hid ha2
      clear ha2
      go_wp2_with fail
      refine (toInt64S_any A2 k c2 P HK.out _ hk' (K2.out.bl ((Bl.alloc_ (Bl.refl w) _).trans_ hb2))).mono ?_
      rintro e w3 ⟨rfl, hi3, hb3⟩
      have HI3 := Lib.hid hi3
      have HA3 := Lib.hid (HA2.out.bl hb3)
      have hb3 := hb2.trans_ hb3
      obtain ⟨q0, q1⟩ := box2 hb3
      clear hi3
      go_wp2_with fail
      refine (specNearest_any N s _ n n L HN.out _ k k P HK.out (Nat.le_refl _) t _ hm' hk' HA3.out HI3.out).mono ?_
      rintro e w4 ⟨v0, rfl, hv0, hb4⟩
      have hb4 := hb3.trans_ hb4
      obtain ⟨q0, q1⟩ := box2 hb4
      obtain ⟨A0, c0, rfl, -, hA0, -, -⟩ := Owns.shape (show Owns _ _ _ _ _ _ _ from hv0)
      have V0 := Lib.hid (show ItemsAt w4 w4.heap.size A0 (nrL N L s P t) from hA0)
      clear hv0 hA0
      obtain ⟨l, hl⟩ : ∃ l, l = (nrL N L s P t).length := ⟨_, rfl⟩
      have hln : l ≤ 1048576 := by rw [hl]; have h1 := nrL_len N L s P t; have h2 := HK.out; omega
      rw [← hl]
      have HL := Lib.hid hl
      clear hl
      have BW4 := Lib.hid (show Bl w w4 from (Bl.alloc_ (Bl.refl w) _).trans_ hb4)
      have sw4 : w.heap.size < w4.heap.size := by have := hb4.size; simp at this; omega
      go_wp2_with fail
      refine (toGraph_row N A n c L HN.out _ hm' (K1.out.bl BW4.out)).mono ?_
      rintro e w5 ⟨g5, rfl, ha5, hg5, hb5, hr5, hlt5⟩
      have BX5 := Lib.hid (Bl.alloc_ (Bl.refl w5) (.cells #[.int .i64 N, .slice (some ⟨g5, 0, none⟩) n n] 33))
      have HA5 := Lib.hid (ha5.bl BX5.out)
      have HR5 := Lib.hid (hr5.bl BX5.out)
      have B45 := Lib.hid hb5
      have BW5 := Lib.hid (BW4.out.trans_ (hb5.trans_ BX5.out))
      have s45 := hb5.size
      have hB5 := hb4.trans_ (hb5.trans_ BX5.out)
      clear ha5 hr5 q0 q1
      go_wp2_with fail
      refine (toInt64S_row A2 k c2 P HK.out _ hk' (K2.out.bl BW5.out)).mono ?_
      rintro e w6 ⟨rfl, hi6, hb6, hr6, hl6⟩
      simp only [World.size_alloc] at hl6
      have HI6 := Lib.hid (show IntsAt w6 w6.heap.size (some ⟨w5.heap.size + 1, 0, none⟩) P from by simpa only [World.size_alloc] using hi6)
      have HR6 := Lib.hid (show RowsW 2 1 w6 (some ⟨w5.heap.size + 1, 0, none⟩) k from by simpa only [World.size_alloc] using hr6)
      have HA6 := Lib.hid (HA5.out.bl hb6)
      have HG6 := Lib.hid (HR5.out.bl hb6)
      obtain ⟨x0, x1⟩ := box2 hb6
      have hX6 := hb6
      have hB6 := hB5.trans_ hb6
      have s6 := hb6.size
      simp only [World.size_alloc] at s6
      clear hi6 hr6
      go_wp2_with fail
      refine (implNearest_any N s _ n n L HN.out (Nat.le_refl _) _ k k P HK.out t _ hm' hk' HA6.out HI6.out (fun _ _ g e e2 => by have h1 : g5 = g := (by simpa [blockOf] using e); have h2 : w5.heap.size + 1 = g := (by simpa [blockOf] using e2); omega)).mono ?_
      rintro e w7 ⟨v1, rfl, hv1, hb7⟩
      obtain ⟨A1, c1, rfl, -, hA1, hR1, -⟩ := Owns.shape (show Owns _ _ _ _ _ _ _ from hv1)
      have hl1 := Owns.lt_ (show Owns _ _ _ _ _ _ _ from hv1)
      rw [← HL.out] at hR1
      rw [← HL.out]
      have V1 := Lib.hid (show ItemsAt w7 w7.heap.size A1 (nrL N L s P t) from hA1)
      have W1 := Lib.hid hR1
      have L1 := Lib.hid (show ∀ g, blockOf A1 = some g → w6.heap.size ≤ g ∧ g < w7.heap.size from fun g hg => hl1 g hg)
      clear hv1 hA1 hR1 hl1
      have HI7 := Lib.hid (HI6.out.bl hb7)
      have HR7 := Lib.hid (HR6.out.bl hb7)
      have HA7 := Lib.hid (HA6.out.bl hb7)
      have HG7 := Lib.hid (HG6.out.bl hb7)
      have hX7 := hb6.trans_ hb7
      have hB7 := hB6.trans_ hb7
      have s7 := hb7.size
      have V07 := Lib.hid (V0.out.bl ((B45.out.trans_ BX5.out).trans_ hX7))
      have hbw : Bl w w7 := (Bl.alloc_ (Bl.refl w) _).trans_ hB7
      have HSH := Lib.hid (show ∀ wx, Bl w7 wx → Bl w7 wx ∧ wx.cell? ⟨w.heap.size, 0, none⟩ = some (.int .i64 N) ∧ wx.cell? ⟨w.heap.size, 1, none⟩ = some (.slice A n c) ∧ wx.cell? ⟨w5.heap.size, 0, none⟩ = some (.int .i64 N) ∧ wx.cell? ⟨w5.heap.size, 1, none⟩ = some (.slice (some ⟨g5, 0, none⟩) n n) from fun wx hb =>
        ⟨hb, (box2 (hB7.trans_ hb)).1, (box2 (hB7.trans_ hb)).2, (box2 (hX7.trans_ hb)).1, (box2 (hX7.trans_ hb)).2⟩)
      clear x0 x1
      go_wp2_with fail
      refine (eqItemS_yes A1 A0 c1 c0 (nrL N L s P t) l HL.out _ (by omega) V1.out V07.out).mono ?_
      rintro e w8 ⟨rfl, hb8⟩
      have P8 := hb8
      go_wp2_with fail
      refine wp_region_held_drew (S := fun wx => Bl w7 wx ∧ wx.cell? ⟨w.heap.size, 0, none⟩ = some (.int .i64 N) ∧ wx.cell? ⟨w.heap.size, 1, none⟩ = some (.slice A n c) ∧ wx.cell? ⟨w5.heap.size, 0, none⟩ = some (.int .i64 N) ∧ wx.cell? ⟨w5.heap.size, 1, none⟩ = some (.slice (some ⟨g5, 0, none⟩) n n)) (by kernel_rfl) ?_ (fun hHeld => ?_)
      · (exact HSH.out _ (by repeat' (first | exact Bl.refl _ | with_reducible assumption | with_reducible refine Bl.drew_ ?_ | with_reducible refine Bl.drewN_ ?_ _ | with_reducible refine Bl.alloc_ ?_ _ | with_reducible refine Bl.trans_ ?_ (by assumption) | with_reducible refine Bl.trans_ ?_ (And.left (by assumption)))))
      refine wpAnyH_take (i := 0) (v := ?_) rfl (by kernel_rfl) (by kernel_rfl) (by kernel_rfl) (fun _ _ _ h => h) (Or.inl ⟨by kernel_rfl, ?_⟩) (by assumption) ?_
      rotate_left
      · (intro wx hSw; (try dsimp only at hSw); go_simp; try (with_reducible rfl))
      try simp only [Act.put, List.getElem_toArray, List.getElem_cons_succ, List.getElem_cons_zero, List.setIfInBounds_toArray, List.set_cons_zero, List.set_cons_succ]
      refine wpAnyH_take (i := 1) (v := ?_) rfl (by kernel_rfl) (by kernel_rfl) (by kernel_rfl) (fun _ _ _ h => h) (Or.inl ⟨by kernel_rfl, ?_⟩) (by assumption) ?_
      rotate_left
      · (intro wx hSw; (try dsimp only at hSw); go_simp; try (with_reducible rfl))
      try simp only [Act.put, List.getElem_toArray, List.getElem_cons_succ, List.getElem_cons_zero, List.setIfInBounds_toArray, List.set_cons_zero, List.set_cons_succ]
      refine wpAnyH_ready (rs := [2]) (by kernel_rfl) (by simp) ?_
      refine AllReadyH.cons rfl (fun K hK => ?_) AllReadyH.nil
      go_simp
      (go_at_call 27; refine (toGraph_any N A n c L HN.out _ hm' (K1.out.bl (hbw.trans_ (by repeat' (first | exact Bl.refl _ | with_reducible assumption | with_reducible refine Bl.drew_ ?_ | with_reducible refine Bl.drewN_ ?_ _ | with_reducible refine Bl.alloc_ ?_ _ | with_reducible refine Bl.trans_ ?_ (by assumption) | with_reducible refine Bl.trans_ ?_ (And.left (by assumption))))))).mono ?_; rintro e w9 ⟨g9, rfl, ha9, hg9, hb9⟩; have HA9 := Lib.hid ha9; clear ha9)
      try (go_wp2_with fail)
      refine hK.out _ _ ?_ (fun hHeld => ?_)
      · (exact HSH.out _ (by repeat' (first | exact Bl.refl _ | with_reducible assumption | with_reducible refine Bl.drew_ ?_ | with_reducible refine Bl.drewN_ ?_ _ | with_reducible refine Bl.alloc_ ?_ _ | with_reducible refine Bl.trans_ ?_ (by assumption) | with_reducible refine Bl.trans_ ?_ (And.left (by assumption)))))
      clear hK K
      try simp only [Act.put, List.getElem_toArray, List.getElem_cons_succ, List.getElem_cons_zero, List.setIfInBounds_toArray, List.set_cons_zero, List.set_cons_succ]
      refine wpAnyH_ready (rs := [3]) (by kernel_rfl) (by simp) ?_
      refine AllReadyH.cons rfl (fun K hK => ?_) AllReadyH.nil
      go_simp
      (go_at_call 31; refine (eqGraph_yes N _ _ n n L n HN.out _ hm (HA7.out.bl (by repeat' (first | exact Bl.refl _ | with_reducible assumption | with_reducible refine Bl.drew_ ?_ | with_reducible refine Bl.drewN_ ?_ _ | with_reducible refine Bl.alloc_ ?_ _ | with_reducible refine Bl.trans_ ?_ (by assumption) | with_reducible refine Bl.trans_ ?_ (And.left (by assumption))))) HA9.out).mono ?_; rintro e w10 ⟨rfl, hb10⟩)
      try (go_wp2_with fail)
      refine hK.out _ _ ?_ (fun hHeld => ?_)
      · (exact HSH.out _ (by repeat' (first | exact Bl.refl _ | with_reducible assumption | with_reducible refine Bl.drew_ ?_ | with_reducible refine Bl.drewN_ ?_ _ | with_reducible refine Bl.alloc_ ?_ _ | with_reducible refine Bl.trans_ ?_ (by assumption) | with_reducible refine Bl.trans_ ?_ (And.left (by assumption)))))
      clear hK K
      try simp only [Act.put, List.getElem_toArray, List.getElem_cons_succ, List.getElem_cons_zero, List.setIfInBounds_toArray, List.set_cons_zero, List.set_cons_succ]
      refine wpAnyH_take (i := 4) (v := ?_) rfl (by kernel_rfl) (by kernel_rfl) (by kernel_rfl) (fun _ _ _ h => h) (Or.inl ⟨by kernel_rfl, ?_⟩) (by assumption) ?_
      rotate_left
      · (intro wx hSw; (try dsimp only at hSw); go_simp; try (with_reducible rfl))
      try simp only [Act.put, List.getElem_toArray, List.getElem_cons_succ, List.getElem_cons_zero, List.setIfInBounds_toArray, List.set_cons_zero, List.set_cons_succ]
      refine wpAnyH_done (by kernel_rfl) ?_ _
      have P10 : Bl w7 w10 := (by repeat' (first | exact Bl.refl _ | with_reducible assumption | with_reducible refine Bl.drew_ ?_ | with_reducible refine Bl.drewN_ ?_ _ | with_reducible refine Bl.alloc_ ?_ _ | with_reducible refine Bl.trans_ ?_ (by assumption) | with_reducible refine Bl.trans_ ?_ (And.left (by assumption))))
      go_wp2_with fail
      refine (toInt64S_any A2 k c2 P HK.out _ hk' (K2.out.bl (hbw.trans_ P10))).mono ?_
      rintro e w11 ⟨rfl, hi11, hb11⟩
      have HI11 := Lib.hid hi11
      clear hi11
      go_wp2_with fail
      refine (eqInt64S_yes _ _ k k P k HK.out _ (by omega) (HI7.out.bl (P10.trans_ hb11)) HI11.out).mono ?_
      rintro e w12 ⟨rfl, hb12⟩
      have P12 := Lib.hid (P10.trans_ (hb11.trans_ hb12))
      have s12 := P12.out.size
      obtain ⟨-, q0, q1, x0, x1⟩ := HSH.out _ P12.out
      have V012 := Lib.hid (V07.out.bl P12.out)
      have V112 := Lib.hid (V1.out.bl P12.out)
      have W12 := Lib.hid (RowsW.bl W1.out P12.out)
      have R12 := Lib.hid (RowsW.bl HR7.out P12.out)
      have M12 := Lib.hid (RowW.bl HG7.out P12.out)
      have V0L := Lib.hid (show ItemsAt w12 w4.heap.size A0 (nrL N L s P t) from V0.out.bl' (Nat.le_refl _) (((B45.out.trans_ BX5.out).trans_ hX7).trans_ P12.out))
      have C0 := Lib.hid q0
      have C1 := Lib.hid q1
      clear hb1 hb2 hb3 hb4 hb5 hb6 hb7 hb8 hb9 hb10 hb11 hb12 P8 P10 hB5 hB6 hB7 hX6 hX7 q0 q1
      go_wp2_with fail
      refine (markGraph_any N _ n n 1 _ hm' (by omega) (by omega) M12.out).mono ?_
      rintro e w13 ⟨rfl, hm13, hg13, hr13⟩
      have G13 := Lib.hid hg13
      clear hm13 hg13 hr13 x0 x1
      have s13 := G13.out.size
      have Q13 := Lib.hid (show Bl w w13 from (hbw.trans_ P12.out).grown_ G13.out (fun g hg => by
        obtain rfl : g5 = g := by simpa [blockOf] using hg
        omega))
      have V013 := Lib.hid (V0L.out.grown_ (by omega) G13.out (fun g _ hlt => by simp [blockOf]; omega))
      have V113 := Lib.hid (V112.out.grown_ (Nat.le_refl _) G13.out (fun g hg _ => by have := L1.out g hg; simp [blockOf]; omega))
      have W13 := Lib.hid (RowsW.grown_ W12.out G13.out (fun g hg => by have := L1.out g hg; simp [blockOf]; omega))
      have R13 := Lib.hid (RowsW.grown_ R12.out G13.out (fun g hg => by
        obtain rfl : w5.heap.size + 1 = g := by simpa [blockOf] using hg
        simp [blockOf]; omega))
      have D0 := Lib.hid (G13.out.cell C0.out (by simp [blockOf]; omega))
      have D1 := Lib.hid (G13.out.cell C1.out (by simp [blockOf]; omega))
      have p2 : (0 : Int) ≤ 1 + 3 * (n : Int) := by omega
      go_wp2_with fail
      refine (markN_any _ k k (1 + 3 * (n : Int)) _ hk' (by omega) (by omega) R13.out).mono ?_
      rintro e w14 ⟨rfl, hm14, hg14, hr14⟩
      have G14 := Lib.hid hg14
      clear hm14 hg14 hr14
      have s14 := G14.out.size
      have Q14 := Lib.hid (show Bl w w14 from Q13.out.grown_ G14.out (fun g hg => by
        obtain rfl : w5.heap.size + 1 = g := by simpa [blockOf] using hg
        omega))
      have V014 := Lib.hid (V013.out.grown_ (by omega) G14.out (fun g _ hlt => by simp [blockOf]; omega))
      have V114 := Lib.hid (V113.out.grown_ (by omega) G14.out (fun g hg _ e => by
        have := L1.out g hg
        obtain rfl : g = w5.heap.size + 1 := by simpa [blockOf] using e
        omega))
      have W14 := Lib.hid (RowsW.grown_ W13.out G14.out (fun g hg e => by
        have := L1.out g hg
        obtain rfl : g = w5.heap.size + 1 := by simpa [blockOf] using e
        omega))
      have E0 := Lib.hid (G14.out.cell D0.out (by simp [blockOf]; omega))
      have E1 := Lib.hid (G14.out.cell D1.out (by simp [blockOf]; omega))
      have p3 : (0 : Int) ≤ 1 + 3 * (n : Int) + (k : Int) := by omega
      go_wp2_with fail
      refine (eqItemS_yes A1 A0 c1 c0 (nrL N L s P t) l HL.out _ (by omega) (V114.out.more (by omega)) (V014.out.more (by omega))).mono ?_
      rintro e w15 ⟨rfl, hb15⟩
      have s15 := hb15.size
      have F0 := Lib.hid (((bcell hb15).1 _ _ (by omega)).trans E0.out)
      have F1 := Lib.hid (((bcell hb15).1 _ _ (by omega)).trans E1.out)
      go_wp2_with fail
      refine (markItemS_any A1 l c1 1 _ (by omega) (by omega) (by omega) (RowsW.bl W14.out hb15)).mono ?_
      rintro e w16 ⟨rfl, hm16, hg16, hr16⟩
      obtain ⟨tt, htt⟩ : ∃ tt : Int, tt = 1 + ((l * 2 : Nat) : Int) := ⟨_, rfl⟩
      rw [← htt]
      have HTT := Lib.hid htt
      have p4 : (0 : Int) ≤ tt := by omega
      have p5 : (tt != tt) = false := by simp
      clear htt
      have G16 := Lib.hid hg16
      have M16 := Lib.hid hm16
      clear hm16 hg16 hr16
      have s16 := G16.out.size
      have ne1 : ∀ g, g < w6.heap.size → some g ≠ blockOf A1 := fun g hg h => by have := L1.out g h.symm; omega
      have Q16 := Lib.hid (show Bl w w16 from (Q14.out.trans_ hb15).grown_ G16.out (fun g hg => by have := L1.out g hg; omega))
      have V016 := Lib.hid ((V014.out.bl' (by omega) hb15).grown_ (by omega) G16.out (fun g _ hlt => ne1 g (by omega)))
      have q0 := G16.out.cell F0.out (ne1 _ (by show w.heap.size < _; omega))
      have q1 := G16.out.cell F1.out (ne1 _ (by show w.heap.size < _; omega))
      clear ne1
      go_wp2_with fail
      refine (heldItemS_any A1 l c1 1 _ (by omega) (by omega) (by omega) M16.out).mono ?_
      rintro e w17 ⟨rfl, rfl⟩
      rw [← HTT.out]
      go_wp2_with fail
      refine (toGraph_any N A n c L HN.out _ hm' (K1.out.bl Q16.out)).mono ?_
      rintro e w17 ⟨g17, rfl, ha17, hg17, hb17⟩
      have HA17 := Lib.hid ha17
      clear ha17
      go_wp2_with fail
      refine (toInt64S_any A2 k c2 P HK.out _ hk' (K2.out.bl (Q16.out.trans_ hb17))).mono ?_
      rintro e w18 ⟨rfl, hi18, hb18⟩
      have HI18 := Lib.hid hi18
      clear hi18
      go_wp2_with fail
      refine (implNearest_any N s _ n n L HN.out (Nat.le_refl _) _ k k P HK.out t _ hm' hk' (HA17.out.bl hb18) HI18.out (fun h0 _ g e e2 => by have h1 : g17 = g := (by simpa [blockOf] using e); have h2 : w17.heap.size = g := (by simpa [blockOf] using e2); obtain ⟨g', o', e3, h3, -⟩ := HA17.out h0; have h4 : g17 = g' := (by simpa [blockOf] using congrArg blockOf e3); omega)).mono ?_
      rintro e w19 ⟨v2, rfl, hv2, hb19⟩
      obtain ⟨A3, c3, rfl, -, hA3, -, -⟩ := Owns.shape (show Owns _ _ _ _ _ _ _ from hv2)
      have V3 := Lib.hid (show ItemsAt w19 w19.heap.size A3 (nrL N L s P t) from hA3)
      clear hv2 hA3
      rw [← HL.out]
      have B19 := Lib.hid (hb17.trans_ (hb18.trans_ hb19))
      have s19 := B19.out.size
      go_wp2_with fail
      refine (eqItemS_yes A3 A0 c3 c0 (nrL N L s P t) l HL.out _ (by omega) V3.out ((V016.out.bl' (by omega) B19.out).more (by omega))).mono ?_
      rintro e w20 ⟨rfl, hb20⟩
      go_wp2_with fail
      refine (heldItemS_any A1 l c1 1 _ (by omega) (by omega) (by omega) (Marks.bl M16.out (B19.out.trans_ hb20))).mono ?_
      rintro e w21 ⟨rfl, rfl⟩
      rw [← HTT.out]
      go_wp2
      go_ret
      exact ⟨rfl, Q16.out.trans_ (B19.out.trans_ hb20)⟩

end Go.Proofs.Ytlddileiecnkjaa
