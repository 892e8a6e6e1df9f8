/-
  What is proved here: the walk of the exact law on Under: at every tree and all numbers that can be read it returns true and leaves what was there as it was. No conditions beyond those that each theorem states.
-/
import Derived.Test.YtffjpfanmnkmgaaZV
set_option linter.unusedSimpArgs false
set_option linter.unusedVariables false
namespace Go.Proofs.Ytffjpfanmnkmgaa
open Go.RowKit

set_option maxHeartbeats 2000000 in
theorem lawUnder_any (R v : Int) (A : Option Addr) (n c : Nat) (U : List Int) (hn : n = U.length) (w : World) (hm : n ≤ 9223372036854775807) (H1 : IntsAt w w.heap.size A U) :
    Calls Try.prog 4 #[.agg #[.int .i64 R, .slice A n c], .int .i64 v] w fun e w' => e = .returned (.bool true) ∧ Bl w w' := by
  have K1 := Lib.hid H1
  have HN := Lib.hid hn
  clear H1 hn
  by_cases hbig : (1048576 : Int) - n < 0
  · go_enter Try.func4, Try.ntmps4
    go_wp2_with (go_at_call 13; refine (szTree_any _ _ _ _ _ _ hm (by omega) (by omega)).mono ?_; rintro e w' ⟨rfl, hb⟩; obtain ⟨hc, hf⟩ := bcell hb)
    go_ret
    exact ⟨rfl, (by repeat' (first | exact Bl.refl _ | with_reducible assumption | with_reducible refine Bl.drew_ ?_ | with_reducible refine Bl.drewN_ ?_ _ | with_reducible refine Bl.alloc_ ?_ _ | with_reducible refine Bl.trans_ ?_ (by assumption) | with_reducible refine Bl.trans_ ?_ (And.left (by assumption))))⟩
  · have hm' : n ≤ 1048576 := by omega
    clear hbig
    go_enter Try.func4, Try.ntmps4
    go_wp2_with fail
    refine (szTree_small R A n c _ hm').mono ?_
    rintro e w1 ⟨rfl, hb1⟩
    obtain ⟨q0, q1⟩ := box2 hb1
    have p1 : (0 : Int) ≤ 1048576 - (n : Int) := by omega
    go_wp2_with fail
    refine (toTree_any R A n c U HN.out _ hm' (K1.out.bl (by repeat' (first | exact Bl.refl _ | with_reducible assumption | with_reducible refine Bl.drew_ ?_ | with_reducible refine Bl.drewN_ ?_ _ | with_reducible refine Bl.alloc_ ?_ _ | with_reducible refine Bl.trans_ ?_ (by assumption) | with_reducible refine Bl.trans_ ?_ (And.left (by assumption)))))).mono ?_
    rintro e w2 ⟨g2, rfl, ha2, hg2, hb2⟩
    have hb2 := hb1.trans_ hb2
    obtain ⟨q0, q1⟩ := box2 hb2
    have HA2 := Lib.hid ha2
    clear ha2
    go_wp2_with fail
    refine (specUnder_any R v _ n n U HN.out _ hm' HA2.out).mono ?_
    rintro e w3 ⟨v0, rfl, hv0, hb3⟩
    have hb3 := hb2.trans_ hb3
    obtain ⟨q0, q1⟩ := box2 hb3
    obtain ⟨A0, c0, rfl, -, hA0, -, -⟩ := OwnN.shape hv0
    have V0 := Lib.hid hA0
    clear hv0 hA0
    obtain ⟨l, hl⟩ : ∃ l, l = (underU U R v).length := ⟨_, rfl⟩
    have hln : l ≤ 1048576 := by rw [hl]; exact underU_len U R v
    rw [← hl]
    have HL := Lib.hid hl
    clear hl
    go_wp2_with fail
    refine (toTree_row R A n c U HN.out _ hm' (K1.out.bl (by repeat' (first | exact Bl.refl _ | with_reducible assumption | with_reducible refine Bl.drew_ ?_ | with_reducible refine Bl.drewN_ ?_ _ | with_reducible refine Bl.alloc_ ?_ _ | with_reducible refine Bl.trans_ ?_ (by assumption) | with_reducible refine Bl.trans_ ?_ (And.left (by assumption)))))).mono ?_
    rintro e w4 ⟨g4, rfl, ha4, hg4, hb4, hr4, hlt4⟩
    have hb34 := hb4
    have hb4 := hb3.trans_ hb4
    obtain ⟨q0, q1⟩ := box2 hb4
    have HA4 := Lib.hid ha4
    have HR4 := Lib.hid hr4
    clear ha4 hr4
    go_wp2_with fail
    refine (implUnder_any R v _ n n U HN.out _ hm' (HA4.out.bl (by repeat' (first | exact Bl.refl _ | with_reducible assumption | with_reducible refine Bl.drew_ ?_ | with_reducible refine Bl.drewN_ ?_ _ | with_reducible refine Bl.alloc_ ?_ _ | with_reducible refine Bl.trans_ ?_ (by assumption) | with_reducible refine Bl.trans_ ?_ (And.left (by assumption)))))).mono ?_
    rintro e w5 ⟨v1, rfl, hv1, hb5⟩
    obtain ⟨x0, x1⟩ := box2 hb5
    have hb5a := (Bl.alloc_ (Bl.refl w4) _).trans_ hb5
    have HA5 := Lib.hid (IntsAt.bl HA4.out hb5a)
    have HR5 := Lib.hid (RowsW.bl HR4.out hb5a)
    have hB5 := hb4.trans_ hb5a
    obtain ⟨q0, q1⟩ := box2 hB5
    obtain ⟨A1, c1, rfl, -, hA1, hR1, hl1⟩ := OwnN.shape hv1
    have V1 := Lib.hid hA1
    have L1 := Lib.hid hl1
    have W1 := Lib.hid hR1
    rw [← HL.out] at W1
    clear hv1 hA1 hR1 hl1
    rw [← HL.out]
    have B1 := Lib.hid (show ∀ g, blockOf A1 = some g → w4.heap.size < g ∧ g < w5.heap.size from fun g hg => by have := L1.out g hg; rw [World.size_alloc] at this; omega)
    clear L1
    have s3 := hb34.size
    have s5 := hb5a.size
    go_wp2_with fail
    refine (eqInt64S_yes A1 A0 c1 c0 (underU U R v) l HL.out _ (by omega) V1.out (V0.out.bl (hb34.trans_ hb5a))).mono ?_
    rintro e w6 ⟨rfl, hb6⟩
    have P6 := hb6
    have HSH := Lib.hid (show ∀ wx, Bl w5 wx → Bl w5 wx ∧ wx.cell? ⟨w.heap.size, 0, none⟩ = some (.int .i64 R) ∧ wx.cell? ⟨w.heap.size, 1, none⟩ = some (.slice A n c) ∧ wx.cell? ⟨w4.heap.size, 0, none⟩ = some (.int .i64 R) ∧ wx.cell? ⟨w4.heap.size, 1, none⟩ = some (.slice (some ⟨g4, 0, none⟩) n n) from fun wx hb =>
      ⟨hb, (box2 (hB5.trans_ hb)).1, (box2 (hB5.trans_ hb)).2, (box2 (hb5.trans_ hb)).1, (box2 (hb5.trans_ hb)).2⟩)
    go_wp2_with fail
    refine wp_region_held_drew (S := fun wx => Bl w5 wx ∧ wx.cell? ⟨w.heap.size, 0, none⟩ = some (.int .i64 R) ∧ wx.cell? ⟨w.heap.size, 1, none⟩ = some (.slice A n c) ∧ wx.cell? ⟨w4.heap.size, 0, none⟩ = some (.int .i64 R) ∧ wx.cell? ⟨w4.heap.size, 1, none⟩ = some (.slice (some ⟨g4, 0, none⟩) n n)) (by kernel_rfl) ?_ (fun hHeld => ?_)
    · (exact HSH.out _ (by repeat' (first | exact Bl.refl _ | with_reducible assumption | with_reducible refine Bl.drew_ ?_ | with_reducible refine Bl.drewN_ ?_ _ | with_reducible refine Bl.alloc_ ?_ _ | with_reducible refine Bl.trans_ ?_ (by assumption) | with_reducible refine Bl.trans_ ?_ (And.left (by assumption)))))
    refine wpAnyH_take (i := 0) (v := ?_) rfl (by kernel_rfl) (by kernel_rfl) (by kernel_rfl) (fun _ _ _ h => h) (Or.inl ⟨by kernel_rfl, ?_⟩) (by assumption) ?_
    rotate_left
    · (intro wx hSw; (try dsimp only at hSw); go_simp; try (with_reducible rfl))
    try simp only [Act.put, List.getElem_toArray, List.getElem_cons_succ, List.getElem_cons_zero, List.setIfInBounds_toArray, List.set_cons_zero, List.set_cons_succ]
    refine wpAnyH_take (i := 1) (v := ?_) rfl (by kernel_rfl) (by kernel_rfl) (by kernel_rfl) (fun _ _ _ h => h) (Or.inl ⟨by kernel_rfl, ?_⟩) (by assumption) ?_
    rotate_left
    · (intro wx hSw; (try dsimp only at hSw); go_simp; try (with_reducible rfl))
    try simp only [Act.put, List.getElem_toArray, List.getElem_cons_succ, List.getElem_cons_zero, List.setIfInBounds_toArray, List.set_cons_zero, List.set_cons_succ]
    refine wpAnyH_ready (rs := [2]) (by kernel_rfl) (by simp) ?_
    refine AllReadyH.cons rfl (fun K hK => ?_) AllReadyH.nil
    go_simp
    (go_at_call 15; refine (toTree_any R A n c U HN.out _ hm' (K1.out.bl (by repeat' (first | exact Bl.refl _ | with_reducible assumption | with_reducible refine Bl.drew_ ?_ | with_reducible refine Bl.drewN_ ?_ _ | with_reducible refine Bl.alloc_ ?_ _ | with_reducible refine Bl.trans_ ?_ (by assumption) | with_reducible refine Bl.trans_ ?_ (And.left (by assumption)))))).mono ?_; rintro e w7 ⟨g7, rfl, ha7, hg7, hb7⟩; have HA7 := Lib.hid ha7; clear ha7)
    try (go_wp2_with fail)
    refine hK.out _ _ ?_ (fun hHeld => ?_)
    · (exact HSH.out _ (by repeat' (first | exact Bl.refl _ | with_reducible assumption | with_reducible refine Bl.drew_ ?_ | with_reducible refine Bl.drewN_ ?_ _ | with_reducible refine Bl.alloc_ ?_ _ | with_reducible refine Bl.trans_ ?_ (by assumption) | with_reducible refine Bl.trans_ ?_ (And.left (by assumption)))))
    clear hK K
    try simp only [Act.put, List.getElem_toArray, List.getElem_cons_succ, List.getElem_cons_zero, List.setIfInBounds_toArray, List.set_cons_zero, List.set_cons_succ]
    refine wpAnyH_ready (rs := [3]) (by kernel_rfl) (by simp) ?_
    refine AllReadyH.cons rfl (fun K hK => ?_) AllReadyH.nil
    go_simp
    (go_at_call 18; refine (eqTree_yes R _ _ n n U n HN.out _ hm (HA5.out.bl (by repeat' (first | exact Bl.refl _ | with_reducible assumption | with_reducible refine Bl.drew_ ?_ | with_reducible refine Bl.drewN_ ?_ _ | with_reducible refine Bl.alloc_ ?_ _ | with_reducible refine Bl.trans_ ?_ (by assumption) | with_reducible refine Bl.trans_ ?_ (And.left (by assumption))))) HA7.out).mono ?_; rintro e w8 ⟨rfl, hb8⟩)
    try (go_wp2_with fail)
    refine hK.out _ _ ?_ (fun hHeld => ?_)
    · (exact HSH.out _ (by repeat' (first | exact Bl.refl _ | with_reducible assumption | with_reducible refine Bl.drew_ ?_ | with_reducible refine Bl.drewN_ ?_ _ | with_reducible refine Bl.alloc_ ?_ _ | with_reducible refine Bl.trans_ ?_ (by assumption) | with_reducible refine Bl.trans_ ?_ (And.left (by assumption)))))
    clear hK K
    try simp only [Act.put, List.getElem_toArray, List.getElem_cons_succ, List.getElem_cons_zero, List.setIfInBounds_toArray, List.set_cons_zero, List.set_cons_succ]
    refine wpAnyH_take (i := 4) (v := ?_) rfl (by kernel_rfl) (by kernel_rfl) (by kernel_rfl) (fun _ _ _ h => h) (Or.inl ⟨by kernel_rfl, ?_⟩) (by assumption) ?_
    rotate_left
    · (intro wx hSw; (try dsimp only at hSw); go_simp; try (with_reducible rfl))
    try simp only [Act.put, List.getElem_toArray, List.getElem_cons_succ, List.getElem_cons_zero, List.setIfInBounds_toArray, List.set_cons_zero, List.set_cons_succ]
    refine wpAnyH_done (by kernel_rfl) ?_ _
    have P8 : Bl w5 w8 := (by repeat' (first | exact Bl.refl _ | with_reducible assumption | with_reducible refine Bl.drew_ ?_ | with_reducible refine Bl.drewN_ ?_ _ | with_reducible refine Bl.alloc_ ?_ _ | with_reducible refine Bl.trans_ ?_ (by assumption) | with_reducible refine Bl.trans_ ?_ (And.left (by assumption))))
    obtain ⟨x0, x1⟩ := box2 (hb5.trans_ P8)
    go_wp2_with fail
    refine (markTree_any R _ n n 1 _ hm' (by omega) (by omega) (HR5.out.bl P8)).mono ?_
    rintro e w9 ⟨rfl, hm9, hg9, hr9⟩
    have G9 := Lib.hid hg9
    clear hm9 hg9 hr9
    have s8 := P8.size
    have s9 := G9.out.size
    have Q9 : Bl w w9 := (show Bl w w8 from (by repeat' (first | exact Bl.refl _ | with_reducible assumption | with_reducible refine Bl.drew_ ?_ | with_reducible refine Bl.drewN_ ?_ _ | with_reducible refine Bl.alloc_ ?_ _ | with_reducible refine Bl.trans_ ?_ (by assumption) | with_reducible refine Bl.trans_ ?_ (And.left (by assumption))))).grown_ G9.out (fun g hg => by
      obtain rfl : g4 = g := by simpa [blockOf] using hg
      have := hb3.size; simp at this; omega)
    have V09 := Lib.hid (((V0.out).bl' (Nat.le_refl _) ((hb34.trans_ hb5a).trans_ P8)).grown_ (by omega) G9.out (fun g _ hlt => by simp [blockOf]; omega))
    have V19 := Lib.hid ((V1.out.bl' (Nat.le_refl _) P8).grown_ (by omega) G9.out (fun g hg _ => by have := B1.out g hg; simp [blockOf]; omega))
    have W19 := Lib.hid (RowsW.grown_ (RowsW.bl W1.out P8) G9.out (fun g hg => by have := B1.out g hg; simp [blockOf]; omega))
    have p2 : (0 : Int) ≤ 1 + (n : Int) := by omega
    have s45 : w3.heap.size ≤ w4.heap.size := s3
    have sw : w.heap.size < w3.heap.size := by have := hb3.size; simp at this; omega
    obtain ⟨q0, q1⟩ := box2 (hB5.trans_ P8)
    have C0 := Lib.hid (G9.out.cell q0 (by simp [blockOf]; omega))
    have C1 := Lib.hid (G9.out.cell q1 (by simp [blockOf]; omega))
    go_wp2_with fail
    refine (eqInt64S_yes A1 A0 c1 c0 (underU U R v) l HL.out _ (by omega) (V19.out.more (by omega)) (V09.out.more (by omega))).mono ?_
    rintro e w10 ⟨rfl, hb10⟩
    have s10 := hb10.size
    have D0 := Lib.hid (((bcell hb10).1 _ _ (by omega)).trans C0.out)
    have D1 := Lib.hid (((bcell hb10).1 _ _ (by omega)).trans C1.out)
    go_wp2_with fail
    refine (markN_any A1 l c1 1 _ (by omega) (by omega) (by omega) (RowsW.bl W19.out hb10)).mono ?_
    rintro e w11 ⟨rfl, hm11, hg11, hr11⟩
    have G11 := Lib.hid hg11
    have M11 := Lib.hid hm11
    clear hm11 hg11 hr11
    have s11 := G11.out.size
    have ne1 : ∀ g, g ≤ w4.heap.size → some g ≠ blockOf A1 := fun g hg h => by have := B1.out g h.symm; omega
    have Q11 : Bl w w11 := (Q9.trans_ hb10).grown_ G11.out (fun g hg => by have := B1.out g hg; omega)
    have V011 := Lib.hid ((V09.out.bl' (by omega) hb10).grown_ (by omega) G11.out (fun g _ hlt => ne1 g (by omega)))
    have q0 := G11.out.cell D0.out (ne1 _ (by show w.heap.size ≤ _; omega))
    have q1 := G11.out.cell D1.out (ne1 _ (by show w.heap.size ≤ _; omega))
    clear ne1
    go_wp2_with fail
    refine (heldInt64S_any A1 l c1 1 _ (by omega) (by omega) (by omega) M11.out).mono ?_
    rintro e w12 ⟨rfl, rfl⟩
    have p3 : (0 : Int) ≤ 1 + (l : Int) := by omega
    have p4 : ((1 : Int) + (l : Int) != 1 + (l : Int)) = false := by simp
    go_wp2_with fail
    refine (toTree_any R A n c U HN.out _ hm' (K1.out.bl Q11)).mono ?_
    rintro e w12 ⟨g12, rfl, ha12, hg12, hb12⟩
    have HA12 := Lib.hid ha12
    clear ha12
    go_wp2_with fail
    refine (implUnder_any R v _ n n U HN.out _ hm' HA12.out).mono ?_
    rintro e w13 ⟨v2, rfl, hv2, hb13⟩
    obtain ⟨A2, c2, rfl, -, hA2, -, -⟩ := OwnN.shape hv2
    have V2 := Lib.hid hA2
    clear hv2 hA2
    rw [← HL.out]
    have b1213 := hb12.trans_ hb13
    have s13 := b1213.size
    go_wp2_with fail
    refine (eqInt64S_yes A2 A0 c2 c0 (underU U R v) l HL.out _ (by omega) V2.out ((V011.out.bl' (by omega) b1213).more (by omega))).mono ?_
    rintro e w14 ⟨rfl, hb14⟩
    go_wp2_with fail
    refine (heldInt64S_any A1 l c1 1 _ (by omega) (by omega) (by omega) (Marks.bl M11.out (b1213.trans_ hb14))).mono ?_
    rintro e w15 ⟨rfl, rfl⟩
    go_wp2
    go_ret
    exact ⟨rfl, Q11.trans_ (b1213.trans_ hb14)⟩


end Go.Proofs.Ytffjpfanmnkmgaa
