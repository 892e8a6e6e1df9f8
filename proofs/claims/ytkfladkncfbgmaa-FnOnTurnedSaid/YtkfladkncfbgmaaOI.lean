/-
  What is proved here: impl.within, impl.OnShortest and impl.Between tell the nodes by way of which it is at most so far. No conditions beyond those that each theorem states.
-/
import Derived.Test.YtkfladkncfbgmaaNF4
import Derived.Test.YtkfladkncfbgmaaRI
import Derived.Test.YtkfladkncfbgmaaNS1
import Derived.Test.YtkfladkncfbgmaaPT
import Derived.Test.YtkfladkncfbgmaaPB
set_option linter.unusedSimpArgs false
set_option linter.unusedVariables false
namespace Go.Proofs.Ytkfladkncfbgmaa
open Go.RowKit

theorem OwnA.cap' {w : World} {B : Nat} {v : Value} {L : List Arc3} (h : OwnA w B v L) : ∀ A l c, v = .slice A l c → L.length ≤ c := fun A l c ev => by
  subst ev
  have h' : w.ownsRow B 40 3 (.slice A l c) L.length (cs3 L) := h
  rcases h'.2 with ⟨e, h0⟩ | ⟨g, cap, cur, e, hB, hg, hnc, -⟩
  · injection e with e1 e2 e3
    omega
  · injection e with e1 e2 e3
    omega
theorem NumsAt.there_ {w : World} {b : Nat} {E : List Int} (h : NumsAt w b E) : w.there b 0 24 :=
  there_of_cells fun i hi => ⟨by rw [h.cell i (by rw [h.len]; exact hi)]; rfl, h.free i hi⟩
theorem nums_new (w : World) (t : TypeId) : NumsAt (w.alloc (.cells #[.int .i64 0, .int .i64 0, .int .i64 0, .int .i64 0, .int .i64 0, .int .i64 0, .int .i64 0, .int .i64 0, .int .i64 0, .int .i64 0, .int .i64 0, .int .i64 0, .int .i64 0, .int .i64 0, .int .i64 0, .int .i64 0, .int .i64 0, .int .i64 0, .int .i64 0, .int .i64 0, .int .i64 0, .int .i64 0, .int .i64 0, .int .i64 0] t)) w.heap.size (List.replicate 24 0) := by
  refine ⟨by simp, by simp, fun i hi => ?_, fun i hi => ?_⟩
  · have hi' : i < 24 := by simpa using hi
    rw [List.getElem_replicate]
    match i, hi' with
    | 0, _ => simp [go_sem]
    | 1, _ => simp [go_sem]
    | 2, _ => simp [go_sem]
    | 3, _ => simp [go_sem]
    | 4, _ => simp [go_sem]
    | 5, _ => simp [go_sem]
    | 6, _ => simp [go_sem]
    | 7, _ => simp [go_sem]
    | 8, _ => simp [go_sem]
    | 9, _ => simp [go_sem]
    | 10, _ => simp [go_sem]
    | 11, _ => simp [go_sem]
    | 12, _ => simp [go_sem]
    | 13, _ => simp [go_sem]
    | 14, _ => simp [go_sem]
    | 15, _ => simp [go_sem]
    | 16, _ => simp [go_sem]
    | 17, _ => simp [go_sem]
    | 18, _ => simp [go_sem]
    | 19, _ => simp [go_sem]
    | 20, _ => simp [go_sem]
    | 21, _ => simp [go_sem]
    | 22, _ => simp [go_sem]
    | 23, _ => simp [go_sem]
    | (j + 24), h => exact absurd h (by omega)
  · have := (there_new w t i hi).2
    rwa [Nat.zero_add] at this

theorem cell_new_drewN' (w : World) (n : Nat) (v : Value) (t : TypeId) : ((w.drewN n).alloc (.cells #[v] t)).cell? ⟨w.heap.size, 0, none⟩ = some v := by
  have h : ∀ wz : World, (wz.alloc (.cells #[v] t)).cell? ⟨wz.heap.size, 0, none⟩ = some v := fun wz => by simp [go_sem]
  exact h (w.drewN n)
theorem byB_at' {D E : List Int} {m : Int} {k : Nat} (h : k < D.length) (h' : k < E.length) : byB D E m (k : Int) = decide (0 ≤ D[k] ∧ 0 ≤ E[k] ∧ D[k] + E[k] ≤ m) := by
  unfold byB
  rw [dAt_at h, dAt_at h']

set_option maxRecDepth 100000 in
set_option maxHeartbeats 40000000 in
theorem within_any (k : Nat) (s t m : Int) (A : Option Addr) (n c : Nat) (L : List Arc3) (hn : n = L.length) (hc : n ≤ c) (ho : okB k L = true) (hs : 0 ≤ s ∧ s < k) (ht : 0 ≤ t ∧ t < k) (w : World) (hm : n ≤ 1048576) (H1 : ArcsAt w w.heap.size A L) :
    Calls Try.prog 75 #[.agg #[.int .i64 k, .slice A n c], .int .i64 s, .int .i64 t, .int .i64 m] w (NumsMade (withinL k L s t m) w) := by
  obtain ⟨i0, hi, hz0, hz1, hz2⟩ := info_parts infoInt
  have I0 := Lib.hid hi
  have I1 := Lib.hid hz0
  have I2 := Lib.hid hz1
  have I3 := Lib.hid hz2
  have K1 := Lib.hid H1
  have HN := Lib.hid hn
  have HO := Lib.hid ho
  have HRO := Lib.hid (revL_ok ho)
  have hN24 := (okB_elim ho).2.1
  clear H1 hn hi hz0 hz1 hz2
  go_enter Try.func75, Try.ntmps75
  go_upto_region 1 with fail
  obtain ⟨W, hW⟩ : ∃ W, W = w.alloc (.cells #[.int .i64 k, .slice A n c] 26) := ⟨_, rfl⟩
  have HBW := Lib.hid (show Bl w W from by rw [hW]; exact Bl.alloc_ (Bl.refl w) _)
  have HSH := Lib.hid (show ∀ wx, Bl W wx → wx.cell? ⟨w.heap.size, 0, none⟩ = some (.int .i64 k) ∧ wx.cell? ⟨w.heap.size, 1, none⟩ = some (.slice A n c) from fun wx hb => by rw [hW] at hb; exact box2 hb)
  rw [← hW]
  clear hW ho
  go_cut [9, 10] from 13 (fun x9 x10 wc => ∃ b9 b10 E F, x9 = .pointer (some ⟨b9, 0, none⟩) ∧ x10 = .pointer (some ⟨b10, 0, none⟩) ∧ NumsAt wc b9 E ∧ NumsAt wc b10 F ∧ E.take (k : Int).toNat = distL k L s ∧ F.take (k : Int).toNat = distL k (revL L) t ∧ Bl W wc)
  case first =>
    refine wp_region_held_drew (S := fun wx => wx.cell? ⟨w.heap.size, 0, none⟩ = some (.int .i64 k) ∧ wx.cell? ⟨w.heap.size, 1, none⟩ = some (.slice A n c)) (by kernel_rfl) ?_ (fun hHeld => ?_)
    · exact HSH.out _ (Bl.drew_ (Bl.refl W))
    refine wpAnyH_take (i := 0) (v := ?_) rfl (by kernel_rfl) (by kernel_rfl) (by kernel_rfl) (fun _ _ _ h => h) (Or.inl ⟨by kernel_rfl, ?_⟩) (by assumption) ?_
    rotate_left
    · (intro wx hSw; (try dsimp only at hSw); go_simp; try (with_reducible rfl))
    try simp only [Act.put, List.getElem_toArray, List.getElem_cons_succ, List.getElem_cons_zero, List.setIfInBounds_toArray, List.set_cons_zero, List.set_cons_succ]
    refine wpAnyH_take (i := 1) (v := ?_) rfl (by kernel_rfl) (by kernel_rfl) (by kernel_rfl) (fun _ _ _ h => h) (Or.inl ⟨by kernel_rfl, ?_⟩) (by assumption) ?_
    rotate_left
    · (intro wx hSw; (try dsimp only at hSw); go_simp; try (with_reducible rfl))
    try simp only [Act.put, List.getElem_toArray, List.getElem_cons_succ, List.getElem_cons_zero, List.setIfInBounds_toArray, List.set_cons_zero, List.set_cons_succ]
    refine wpAnyH_take (i := 3) (v := ?_) rfl (by kernel_rfl) (by kernel_rfl) (by kernel_rfl) (fun _ _ _ h => h) (Or.inl ⟨by kernel_rfl, ?_⟩) (by assumption) ?_
    rotate_left
    · (intro wx hSw; (try dsimp only at hSw); go_simp; try (with_reducible rfl))
    try simp only [Act.put, List.getElem_toArray, List.getElem_cons_succ, List.getElem_cons_zero, List.setIfInBounds_toArray, List.set_cons_zero, List.set_cons_succ]
    refine wpAnyH_take (i := 5) (v := ?_) rfl (by kernel_rfl) (by kernel_rfl) (by kernel_rfl) (fun _ _ _ h => h) (Or.inl ⟨by kernel_rfl, ?_⟩) (by assumption) ?_
    rotate_left
    · (intro wx hSw; (try dsimp only at hSw); go_simp; try (with_reducible rfl))
    try simp only [Act.put, List.getElem_toArray, List.getElem_cons_succ, List.getElem_cons_zero, List.setIfInBounds_toArray, List.set_cons_zero, List.set_cons_succ]
    clear hHeld
    refine wpAnyH_ready (rs := [2, 7, 8]) (by kernel_rfl) (by simp) ?_
    refine AllReadyH.cons rfl (fun K hK => ?_) (AllReadyH.cons rfl (fun K hK => ?_) (AllReadyH.cons rfl (fun K hK => ?_) AllReadyH.nil))
    · go_simp
      refine (distances_any k s A n c L HN.out hc HO.out hs.1 hs.2 _ (K1.out.bl (HBW.out.trans_ (Bl.drew_ (Bl.refl W))))).mono ?_
      rintro e w_1 ⟨E, rfl, hE, hEd, hb⟩
      have EL := Lib.hid hE
      have ED := Lib.hid hEd
      clear hE hEd
      have B_1 := Lib.hid ((Bl.drew_ (Bl.refl W)).trans_ hb)
      clear hb
      try (go_wp2_with fail)
      refine hK.out _ _ ?_ (fun hHeld => ?_)
      · exact HSH.out _ B_1.out
      clear hK K hHeld
      try simp only [Act.put, List.getElem_toArray, List.getElem_cons_succ, List.getElem_cons_zero, List.setIfInBounds_toArray, List.set_cons_zero, List.set_cons_succ]
      refine wpAnyH_ready (rs := [4, 7, 8]) (by kernel_rfl) (by simp) ?_
      refine AllReadyH.cons rfl (fun K hK => ?_) (AllReadyH.cons rfl (fun K hK => ?_) (AllReadyH.cons rfl (fun K hK => ?_) AllReadyH.nil))
      · go_simp
        refine (implReversed_any k A n c L HN.out _ hm (K1.out.bl (HBW.out.trans_ B_1.out))).mono ?_
        rintro e w_2 ⟨v6, rfl, hv6, hb⟩
        rw [show revN (k : Int) L = (k : Int) from if_pos HO.out]
        rw [show revG (k : Int) L = revL L from if_pos HO.out] at hv6
        have hcap := OwnA.cap' hv6
        obtain ⟨A6, c6, rfl, ha6, -⟩ := hv6.shape
        have V_2 := Lib.hid ha6
        have HC6 := Lib.hid (hcap _ _ _ rfl)
        clear hv6 hcap ha6
        have B_2 := Lib.hid (B_1.out.trans_ hb)
        clear hb
        try (go_wp2_with fail)
        refine hK.out _ _ ?_ (fun hHeld => ?_)
        · exact HSH.out _ B_2.out
        clear hK K hHeld
        try simp only [Act.put, List.getElem_toArray, List.getElem_cons_succ, List.getElem_cons_zero, List.setIfInBounds_toArray, List.set_cons_zero, List.set_cons_succ]
        refine wpAnyH_ready (rs := [6, 7, 8]) (by kernel_rfl) (by simp) ?_
        refine AllReadyH.cons rfl (fun K hK => ?_) (AllReadyH.cons rfl (fun K hK => ?_) (AllReadyH.cons rfl (fun K hK => ?_) AllReadyH.nil))
        · go_simp
          refine (distances_any k t A6 (revL L).length c6 (revL L) rfl HC6.out HRO.out ht.1 ht.2 _ V_2.out).mono ?_
          rintro e w_3 ⟨F, rfl, hF, hFd, hb⟩
          have FL := Lib.hid hF
          have FD := Lib.hid hFd
          clear hF hFd
          have B_3 := Lib.hid (B_2.out.trans_ hb)
          have V_3 := Lib.hid (V_2.out.bl hb)
          clear hb
          try (go_wp2_with fail)
          refine hK.out _ _ ?_ (fun hHeld => ?_)
          · exact HSH.out _ B_3.out
          clear hK K hHeld
          try simp only [Act.put, List.getElem_toArray, List.getElem_cons_succ, List.getElem_cons_zero, List.setIfInBounds_toArray, List.set_cons_zero, List.set_cons_succ]
          refine wpAnyH_ready (rs := [7, 8]) (by kernel_rfl) (by simp) ?_
          refine AllReadyH.cons rfl (fun K hK => ?_) (AllReadyH.cons rfl (fun K hK => ?_) AllReadyH.nil)
          · go_simp
            refine hK.out _ _ ?_ (fun hHeld => ?_)
            · exact HSH.out _ (Bl.alloc_ B_3.out _)
            clear hK K hHeld
            try simp only [Act.put, List.getElem_toArray, List.getElem_cons_succ, List.getElem_cons_zero, List.setIfInBounds_toArray, List.set_cons_zero, List.set_cons_succ]
            generalize hw : World.alloc _ _ = w_4
            have B_4 := Lib.hid (show Bl W w_4 from by rw [← hw]; exact Bl.alloc_ B_3.out _)
            have hb : Bl w_3 w_4 := by rw [← hw]; exact Bl.alloc_ (Bl.refl _) _
            have Z9_4 := Lib.hid (show NumsAt w_4 (w_3.heap.size) (List.replicate 24 0) from by rw [← hw]; exact nums_new _ _)
            have LO9 := Lib.hid (show W.heap.size ≤ w_3.heap.size from (B_3.out : Bl W _).size)
            have V_4 := Lib.hid (V_3.out.bl hb)
            clear hw hb
            refine wpAnyH_ready (rs := [8]) (by kernel_rfl) (by simp) ?_
            refine AllReadyH.cons rfl (fun K hK => ?_) AllReadyH.nil
            · go_simp
              refine hK.out _ _ ?_ (fun hHeld => ?_)
              · exact HSH.out _ (Bl.alloc_ B_4.out _)
              clear hK K hHeld
              try simp only [Act.put, List.getElem_toArray, List.getElem_cons_succ, List.getElem_cons_zero, List.setIfInBounds_toArray, List.set_cons_zero, List.set_cons_succ]
              generalize hw : World.alloc _ _ = w_5
              have B_5 := Lib.hid (show Bl W w_5 from by rw [← hw]; exact Bl.alloc_ B_4.out _)
              have hb : Bl w_4 w_5 := by rw [← hw]; exact Bl.alloc_ (Bl.refl _) _
              have Z10_5 := Lib.hid (show NumsAt w_5 (w_4.heap.size) (List.replicate 24 0) from by rw [← hw]; exact nums_new _ _)
              have LO10 := Lib.hid (show W.heap.size ≤ w_4.heap.size from (B_4.out : Bl W _).size)
              have NE := Lib.hid (show w_3.heap.size ≠ w_4.heap.size from Nat.ne_of_lt Z9_4.out.lt)
              have Z9_5 := Lib.hid (Z9_4.out.bl hb)
              have V_5 := Lib.hid (V_4.out.bl hb)
              clear hw hb
              refine wpAnyH_ready (rs := [9]) (by kernel_rfl) (by simp) ?_
              refine AllReadyH.cons rfl (fun K hK => ?_) AllReadyH.nil
              rw [if_pos (by rfl)]
              refine wp_store_mid _ _ _ rfl (w_3.heap.size) 0 (csI E).toArray rfl rfl (by simpa [csI_len, EL.out] using Z9_5.out.there_) (by simpa [csI_len, EL.out] using size24) (csI_one _) ?_
              simp only [Act.put, List.setIfInBounds_toArray, List.set_cons_zero, List.set_cons_succ, List.toList_toArray]
              refine hK.out _ _ ?_ (fun hHeld => ?_)
              · exact HSH.out _ (Bl.setCells_ (w_3.heap.size) LO9.out _ _ _ B_5.out)
              clear hK K hHeld
              try simp only [Act.put, List.getElem_toArray, List.getElem_cons_succ, List.getElem_cons_zero, List.setIfInBounds_toArray, List.set_cons_zero, List.set_cons_succ]
              generalize hw : World.setCells _ _ _ _ = w_6_9
              have B_6_9 := Lib.hid (show Bl W w_6_9 from by rw [← hw]; exact Bl.setCells_ (w_3.heap.size) LO9.out _ _ _ B_5.out)
              have Y9 := Lib.hid (show NumsAt w_6_9 (w_3.heap.size) E from by rw [← hw]; exact NumsAt.stored EL.out Z9_5.out.lt Z9_5.out.there_)
              have Z10_6 := Lib.hid (show NumsAt w_6_9 (w_4.heap.size) (List.replicate 24 0) from by rw [← hw]; exact Z10_5.out.turn (Turn.setCells_ (S := fun i => i = w_3.heap.size) (w_3.heap.size) rfl _ _ _ (Turn.refl _ _)) NE.out.symm)
              clear hw
              refine wpAnyH_ready (rs := [10]) (by kernel_rfl) (by simp) ?_
              refine AllReadyH.cons rfl (fun K hK => ?_) AllReadyH.nil
              rw [if_pos (by rfl)]
              refine wp_store_mid _ _ _ rfl (w_4.heap.size) 0 (csI F).toArray rfl rfl (by simpa [csI_len, FL.out] using Z10_6.out.there_) (by simpa [csI_len, FL.out] using size24) (csI_one _) ?_
              simp only [Act.put, List.setIfInBounds_toArray, List.set_cons_zero, List.set_cons_succ, List.toList_toArray]
              refine hK.out _ _ ?_ (fun hHeld => ?_)
              · exact HSH.out _ (Bl.setCells_ (w_4.heap.size) LO10.out _ _ _ B_6_9.out)
              clear hK K hHeld
              try simp only [Act.put, List.getElem_toArray, List.getElem_cons_succ, List.getElem_cons_zero, List.setIfInBounds_toArray, List.set_cons_zero, List.set_cons_succ]
              generalize hw : World.setCells _ _ _ _ = w_6_10
              have B_6_10 := Lib.hid (show Bl W w_6_10 from by rw [← hw]; exact Bl.setCells_ (w_4.heap.size) LO10.out _ _ _ B_6_9.out)
              have Y10 := Lib.hid (show NumsAt w_6_10 (w_4.heap.size) F from by rw [← hw]; exact NumsAt.stored FL.out Z10_6.out.lt Z10_6.out.there_)
              have Y9' := Lib.hid (show NumsAt w_6_10 (w_3.heap.size) E from by rw [← hw]; exact Y9.out.turn (Turn.setCells_ (S := fun i => i = w_4.heap.size) (w_4.heap.size) rfl _ _ _ (Turn.refl _ _)) NE.out)
              clear hw
              refine wpAnyH_done (by kernel_rfl) ?_ _
              go_wp2_with fail
              go_meet
              exact ⟨w_3.heap.size, w_4.heap.size, E, F, rfl, rfl, Y9'.out, Y10.out, ED.out, FD.out, B_6_10.out⟩
          · go_simp
            refine hK.out _ _ ?_ (fun hHeld => ?_)
            · exact HSH.out _ (Bl.alloc_ B_3.out _)
            clear hK K hHeld
            try simp only [Act.put, List.getElem_toArray, List.getElem_cons_succ, List.getElem_cons_zero, List.setIfInBounds_toArray, List.set_cons_zero, List.set_cons_succ]
            generalize hw : World.alloc _ _ = w_7
            have B_7 := Lib.hid (show Bl W w_7 from by rw [← hw]; exact Bl.alloc_ B_3.out _)
            have hb : Bl w_3 w_7 := by rw [← hw]; exact Bl.alloc_ (Bl.refl _) _
            have Z10_7 := Lib.hid (show NumsAt w_7 (w_3.heap.size) (List.replicate 24 0) from by rw [← hw]; exact nums_new _ _)
            have LO10 := Lib.hid (show W.heap.size ≤ w_3.heap.size from (B_3.out : Bl W _).size)
            have V_7 := Lib.hid (V_3.out.bl hb)
            clear hw hb
            refine wpAnyH_ready (rs := [7]) (by kernel_rfl) (by simp) ?_
            refine AllReadyH.cons rfl (fun K hK => ?_) AllReadyH.nil
            · go_simp
              refine hK.out _ _ ?_ (fun hHeld => ?_)
              · exact HSH.out _ (Bl.alloc_ B_7.out _)
              clear hK K hHeld
              try simp only [Act.put, List.getElem_toArray, List.getElem_cons_succ, List.getElem_cons_zero, List.setIfInBounds_toArray, List.set_cons_zero, List.set_cons_succ]
              generalize hw : World.alloc _ _ = w_8
              have B_8 := Lib.hid (show Bl W w_8 from by rw [← hw]; exact Bl.alloc_ B_7.out _)
              have hb : Bl w_7 w_8 := by rw [← hw]; exact Bl.alloc_ (Bl.refl _) _
              have Z9_8 := Lib.hid (show NumsAt w_8 (w_7.heap.size) (List.replicate 24 0) from by rw [← hw]; exact nums_new _ _)
              have LO9 := Lib.hid (show W.heap.size ≤ w_7.heap.size from (B_7.out : Bl W _).size)
              have NE := Lib.hid (show w_3.heap.size ≠ w_7.heap.size from Nat.ne_of_lt Z10_7.out.lt)
              have Z10_8 := Lib.hid (Z10_7.out.bl hb)
              have V_8 := Lib.hid (V_7.out.bl hb)
              clear hw hb
              refine wpAnyH_ready (rs := [9]) (by kernel_rfl) (by simp) ?_
              refine AllReadyH.cons rfl (fun K hK => ?_) AllReadyH.nil
              rw [if_pos (by rfl)]
              refine wp_store_mid _ _ _ rfl (w_7.heap.size) 0 (csI E).toArray rfl rfl (by simpa [csI_len, EL.out] using Z9_8.out.there_) (by simpa [csI_len, EL.out] using size24) (csI_one _) ?_
              simp only [Act.put, List.setIfInBounds_toArray, List.set_cons_zero, List.set_cons_succ, List.toList_toArray]
              refine hK.out _ _ ?_ (fun hHeld => ?_)
              · exact HSH.out _ (Bl.setCells_ (w_7.heap.size) LO9.out _ _ _ B_8.out)
              clear hK K hHeld
              try simp only [Act.put, List.getElem_toArray, List.getElem_cons_succ, List.getElem_cons_zero, List.setIfInBounds_toArray, List.set_cons_zero, List.set_cons_succ]
              generalize hw : World.setCells _ _ _ _ = w_9_9
              have B_9_9 := Lib.hid (show Bl W w_9_9 from by rw [← hw]; exact Bl.setCells_ (w_7.heap.size) LO9.out _ _ _ B_8.out)
              have Y9 := Lib.hid (show NumsAt w_9_9 (w_7.heap.size) E from by rw [← hw]; exact NumsAt.stored EL.out Z9_8.out.lt Z9_8.out.there_)
              have Z10_9 := Lib.hid (show NumsAt w_9_9 (w_3.heap.size) (List.replicate 24 0) from by rw [← hw]; exact Z10_8.out.turn (Turn.setCells_ (S := fun i => i = w_7.heap.size) (w_7.heap.size) rfl _ _ _ (Turn.refl _ _)) NE.out)
              clear hw
              refine wpAnyH_ready (rs := [10]) (by kernel_rfl) (by simp) ?_
              refine AllReadyH.cons rfl (fun K hK => ?_) AllReadyH.nil
              rw [if_pos (by rfl)]
              refine wp_store_mid _ _ _ rfl (w_3.heap.size) 0 (csI F).toArray rfl rfl (by simpa [csI_len, FL.out] using Z10_9.out.there_) (by simpa [csI_len, FL.out] using size24) (csI_one _) ?_
              simp only [Act.put, List.setIfInBounds_toArray, List.set_cons_zero, List.set_cons_succ, List.toList_toArray]
              refine hK.out _ _ ?_ (fun hHeld => ?_)
              · exact HSH.out _ (Bl.setCells_ (w_3.heap.size) LO10.out _ _ _ B_9_9.out)
              clear hK K hHeld
              try simp only [Act.put, List.getElem_toArray, List.getElem_cons_succ, List.getElem_cons_zero, List.setIfInBounds_toArray, List.set_cons_zero, List.set_cons_succ]
              generalize hw : World.setCells _ _ _ _ = w_9_10
              have B_9_10 := Lib.hid (show Bl W w_9_10 from by rw [← hw]; exact Bl.setCells_ (w_3.heap.size) LO10.out _ _ _ B_9_9.out)
              have Y10 := Lib.hid (show NumsAt w_9_10 (w_3.heap.size) F from by rw [← hw]; exact NumsAt.stored FL.out Z10_9.out.lt Z10_9.out.there_)
              have Y9' := Lib.hid (show NumsAt w_9_10 (w_7.heap.size) E from by rw [← hw]; exact Y9.out.turn (Turn.setCells_ (S := fun i => i = w_3.heap.size) (w_3.heap.size) rfl _ _ _ (Turn.refl _ _)) NE.out.symm)
              clear hw
              refine wpAnyH_done (by kernel_rfl) ?_ _
              go_wp2_with fail
              go_meet
              exact ⟨w_7.heap.size, w_3.heap.size, E, F, rfl, rfl, Y9'.out, Y10.out, ED.out, FD.out, B_9_10.out⟩
        · go_simp
          refine hK.out _ _ ?_ (fun hHeld => ?_)
          · exact HSH.out _ (Bl.alloc_ B_2.out _)
          clear hK K hHeld
          try simp only [Act.put, List.getElem_toArray, List.getElem_cons_succ, List.getElem_cons_zero, List.setIfInBounds_toArray, List.set_cons_zero, List.set_cons_succ]
          generalize hw : World.alloc _ _ = w_10
          have B_10 := Lib.hid (show Bl W w_10 from by rw [← hw]; exact Bl.alloc_ B_2.out _)
          have hb : Bl w_2 w_10 := by rw [← hw]; exact Bl.alloc_ (Bl.refl _) _
          have Z9_10 := Lib.hid (show NumsAt w_10 (w_2.heap.size) (List.replicate 24 0) from by rw [← hw]; exact nums_new _ _)
          have LO9 := Lib.hid (show W.heap.size ≤ w_2.heap.size from (B_2.out : Bl W _).size)
          have V_10 := Lib.hid (V_2.out.bl hb)
          clear hw hb
          refine wpAnyH_ready (rs := [6, 8]) (by kernel_rfl) (by simp) ?_
          refine AllReadyH.cons rfl (fun K hK => ?_) (AllReadyH.cons rfl (fun K hK => ?_) AllReadyH.nil)
          · go_simp
            refine (distances_any k t A6 (revL L).length c6 (revL L) rfl HC6.out HRO.out ht.1 ht.2 _ V_10.out).mono ?_
            rintro e w_11 ⟨F, rfl, hF, hFd, hb⟩
            have FL := Lib.hid hF
            have FD := Lib.hid hFd
            clear hF hFd
            have B_11 := Lib.hid (B_10.out.trans_ hb)
            have Z9_11 := Lib.hid (Z9_10.out.bl hb)
            have V_11 := Lib.hid (V_10.out.bl hb)
            clear hb
            try (go_wp2_with fail)
            refine hK.out _ _ ?_ (fun hHeld => ?_)
            · exact HSH.out _ B_11.out
            clear hK K hHeld
            try simp only [Act.put, List.getElem_toArray, List.getElem_cons_succ, List.getElem_cons_zero, List.setIfInBounds_toArray, List.set_cons_zero, List.set_cons_succ]
            refine wpAnyH_ready (rs := [8]) (by kernel_rfl) (by simp) ?_
            refine AllReadyH.cons rfl (fun K hK => ?_) AllReadyH.nil
            · go_simp
              refine hK.out _ _ ?_ (fun hHeld => ?_)
              · exact HSH.out _ (Bl.alloc_ B_11.out _)
              clear hK K hHeld
              try simp only [Act.put, List.getElem_toArray, List.getElem_cons_succ, List.getElem_cons_zero, List.setIfInBounds_toArray, List.set_cons_zero, List.set_cons_succ]
              generalize hw : World.alloc _ _ = w_12
              have B_12 := Lib.hid (show Bl W w_12 from by rw [← hw]; exact Bl.alloc_ B_11.out _)
              have hb : Bl w_11 w_12 := by rw [← hw]; exact Bl.alloc_ (Bl.refl _) _
              have Z10_12 := Lib.hid (show NumsAt w_12 (w_11.heap.size) (List.replicate 24 0) from by rw [← hw]; exact nums_new _ _)
              have LO10 := Lib.hid (show W.heap.size ≤ w_11.heap.size from (B_11.out : Bl W _).size)
              have NE := Lib.hid (show w_2.heap.size ≠ w_11.heap.size from Nat.ne_of_lt Z9_11.out.lt)
              have Z9_12 := Lib.hid (Z9_11.out.bl hb)
              have V_12 := Lib.hid (V_11.out.bl hb)
              clear hw hb
              refine wpAnyH_ready (rs := [9]) (by kernel_rfl) (by simp) ?_
              refine AllReadyH.cons rfl (fun K hK => ?_) AllReadyH.nil
              rw [if_pos (by rfl)]
              refine wp_store_mid _ _ _ rfl (w_2.heap.size) 0 (csI E).toArray rfl rfl (by simpa [csI_len, EL.out] using Z9_12.out.there_) (by simpa [csI_len, EL.out] using size24) (csI_one _) ?_
              simp only [Act.put, List.setIfInBounds_toArray, List.set_cons_zero, List.set_cons_succ, List.toList_toArray]
              refine hK.out _ _ ?_ (fun hHeld => ?_)
              · exact HSH.out _ (Bl.setCells_ (w_2.heap.size) LO9.out _ _ _ B_12.out)
              clear hK K hHeld
              try simp only [Act.put, List.getElem_toArray, List.getElem_cons_succ, List.getElem_cons_zero, List.setIfInBounds_toArray, List.set_cons_zero, List.set_cons_succ]
              generalize hw : World.setCells _ _ _ _ = w_13_9
              have B_13_9 := Lib.hid (show Bl W w_13_9 from by rw [← hw]; exact Bl.setCells_ (w_2.heap.size) LO9.out _ _ _ B_12.out)
              have Y9 := Lib.hid (show NumsAt w_13_9 (w_2.heap.size) E from by rw [← hw]; exact NumsAt.stored EL.out Z9_12.out.lt Z9_12.out.there_)
              have Z10_13 := Lib.hid (show NumsAt w_13_9 (w_11.heap.size) (List.replicate 24 0) from by rw [← hw]; exact Z10_12.out.turn (Turn.setCells_ (S := fun i => i = w_2.heap.size) (w_2.heap.size) rfl _ _ _ (Turn.refl _ _)) NE.out.symm)
              clear hw
              refine wpAnyH_ready (rs := [10]) (by kernel_rfl) (by simp) ?_
              refine AllReadyH.cons rfl (fun K hK => ?_) AllReadyH.nil
              rw [if_pos (by rfl)]
              refine wp_store_mid _ _ _ rfl (w_11.heap.size) 0 (csI F).toArray rfl rfl (by simpa [csI_len, FL.out] using Z10_13.out.there_) (by simpa [csI_len, FL.out] using size24) (csI_one _) ?_
              simp only [Act.put, List.setIfInBounds_toArray, List.set_cons_zero, List.set_cons_succ, List.toList_toArray]
              refine hK.out _ _ ?_ (fun hHeld => ?_)
              · exact HSH.out _ (Bl.setCells_ (w_11.heap.size) LO10.out _ _ _ B_13_9.out)
              clear hK K hHeld
              try simp only [Act.put, List.getElem_toArray, List.getElem_cons_succ, List.getElem_cons_zero, List.setIfInBounds_toArray, List.set_cons_zero, List.set_cons_succ]
              generalize hw : World.setCells _ _ _ _ = w_13_10
              have B_13_10 := Lib.hid (show Bl W w_13_10 from by rw [← hw]; exact Bl.setCells_ (w_11.heap.size) LO10.out _ _ _ B_13_9.out)
              have Y10 := Lib.hid (show NumsAt w_13_10 (w_11.heap.size) F from by rw [← hw]; exact NumsAt.stored FL.out Z10_13.out.lt Z10_13.out.there_)
              have Y9' := Lib.hid (show NumsAt w_13_10 (w_2.heap.size) E from by rw [← hw]; exact Y9.out.turn (Turn.setCells_ (S := fun i => i = w_11.heap.size) (w_11.heap.size) rfl _ _ _ (Turn.refl _ _)) NE.out)
              clear hw
              refine wpAnyH_done (by kernel_rfl) ?_ _
              go_wp2_with fail
              go_meet
              exact ⟨w_2.heap.size, w_11.heap.size, E, F, rfl, rfl, Y9'.out, Y10.out, ED.out, FD.out, B_13_10.out⟩
          · go_simp
            refine hK.out _ _ ?_ (fun hHeld => ?_)
            · exact HSH.out _ (Bl.alloc_ B_10.out _)
            clear hK K hHeld
            try simp only [Act.put, List.getElem_toArray, List.getElem_cons_succ, List.getElem_cons_zero, List.setIfInBounds_toArray, List.set_cons_zero, List.set_cons_succ]
            generalize hw : World.alloc _ _ = w_14
            have B_14 := Lib.hid (show Bl W w_14 from by rw [← hw]; exact Bl.alloc_ B_10.out _)
            have hb : Bl w_10 w_14 := by rw [← hw]; exact Bl.alloc_ (Bl.refl _) _
            have Z10_14 := Lib.hid (show NumsAt w_14 (w_10.heap.size) (List.replicate 24 0) from by rw [← hw]; exact nums_new _ _)
            have LO10 := Lib.hid (show W.heap.size ≤ w_10.heap.size from (B_10.out : Bl W _).size)
            have NE := Lib.hid (show w_2.heap.size ≠ w_10.heap.size from Nat.ne_of_lt Z9_10.out.lt)
            have Z9_14 := Lib.hid (Z9_10.out.bl hb)
            have V_14 := Lib.hid (V_10.out.bl hb)
            clear hw hb
            refine wpAnyH_ready (rs := [6]) (by kernel_rfl) (by simp) ?_
            refine AllReadyH.cons rfl (fun K hK => ?_) AllReadyH.nil
            · go_simp
              refine (distances_any k t A6 (revL L).length c6 (revL L) rfl HC6.out HRO.out ht.1 ht.2 _ V_14.out).mono ?_
              rintro e w_15 ⟨F, rfl, hF, hFd, hb⟩
              have FL := Lib.hid hF
              have FD := Lib.hid hFd
              clear hF hFd
              have B_15 := Lib.hid (B_14.out.trans_ hb)
              have Z9_15 := Lib.hid (Z9_14.out.bl hb)
              have Z10_15 := Lib.hid (Z10_14.out.bl hb)
              have V_15 := Lib.hid (V_14.out.bl hb)
              clear hb
              try (go_wp2_with fail)
              refine hK.out _ _ ?_ (fun hHeld => ?_)
              · exact HSH.out _ B_15.out
              clear hK K hHeld
              try simp only [Act.put, List.getElem_toArray, List.getElem_cons_succ, List.getElem_cons_zero, List.setIfInBounds_toArray, List.set_cons_zero, List.set_cons_succ]
              refine wpAnyH_ready (rs := [9]) (by kernel_rfl) (by simp) ?_
              refine AllReadyH.cons rfl (fun K hK => ?_) AllReadyH.nil
              rw [if_pos (by rfl)]
              refine wp_store_mid _ _ _ rfl (w_2.heap.size) 0 (csI E).toArray rfl rfl (by simpa [csI_len, EL.out] using Z9_15.out.there_) (by simpa [csI_len, EL.out] using size24) (csI_one _) ?_
              simp only [Act.put, List.setIfInBounds_toArray, List.set_cons_zero, List.set_cons_succ, List.toList_toArray]
              refine hK.out _ _ ?_ (fun hHeld => ?_)
              · exact HSH.out _ (Bl.setCells_ (w_2.heap.size) LO9.out _ _ _ B_15.out)
              clear hK K hHeld
              try simp only [Act.put, List.getElem_toArray, List.getElem_cons_succ, List.getElem_cons_zero, List.setIfInBounds_toArray, List.set_cons_zero, List.set_cons_succ]
              generalize hw : World.setCells _ _ _ _ = w_16_9
              have B_16_9 := Lib.hid (show Bl W w_16_9 from by rw [← hw]; exact Bl.setCells_ (w_2.heap.size) LO9.out _ _ _ B_15.out)
              have Y9 := Lib.hid (show NumsAt w_16_9 (w_2.heap.size) E from by rw [← hw]; exact NumsAt.stored EL.out Z9_15.out.lt Z9_15.out.there_)
              have Z10_16 := Lib.hid (show NumsAt w_16_9 (w_10.heap.size) (List.replicate 24 0) from by rw [← hw]; exact Z10_15.out.turn (Turn.setCells_ (S := fun i => i = w_2.heap.size) (w_2.heap.size) rfl _ _ _ (Turn.refl _ _)) NE.out.symm)
              clear hw
              refine wpAnyH_ready (rs := [10]) (by kernel_rfl) (by simp) ?_
              refine AllReadyH.cons rfl (fun K hK => ?_) AllReadyH.nil
              rw [if_pos (by rfl)]
              refine wp_store_mid _ _ _ rfl (w_10.heap.size) 0 (csI F).toArray rfl rfl (by simpa [csI_len, FL.out] using Z10_16.out.there_) (by simpa [csI_len, FL.out] using size24) (csI_one _) ?_
              simp only [Act.put, List.setIfInBounds_toArray, List.set_cons_zero, List.set_cons_succ, List.toList_toArray]
              refine hK.out _ _ ?_ (fun hHeld => ?_)
              · exact HSH.out _ (Bl.setCells_ (w_10.heap.size) LO10.out _ _ _ B_16_9.out)
              clear hK K hHeld
              try simp only [Act.put, List.getElem_toArray, List.getElem_cons_succ, List.getElem_cons_zero, List.setIfInBounds_toArray, List.set_cons_zero, List.set_cons_succ]
              generalize hw : World.setCells _ _ _ _ = w_16_10
              have B_16_10 := Lib.hid (show Bl W w_16_10 from by rw [← hw]; exact Bl.setCells_ (w_10.heap.size) LO10.out _ _ _ B_16_9.out)
              have Y10 := Lib.hid (show NumsAt w_16_10 (w_10.heap.size) F from by rw [← hw]; exact NumsAt.stored FL.out Z10_16.out.lt Z10_16.out.there_)
              have Y9' := Lib.hid (show NumsAt w_16_10 (w_2.heap.size) E from by rw [← hw]; exact Y9.out.turn (Turn.setCells_ (S := fun i => i = w_10.heap.size) (w_10.heap.size) rfl _ _ _ (Turn.refl _ _)) NE.out)
              clear hw
              refine wpAnyH_done (by kernel_rfl) ?_ _
              go_wp2_with fail
              go_meet
              exact ⟨w_2.heap.size, w_10.heap.size, E, F, rfl, rfl, Y9'.out, Y10.out, ED.out, FD.out, B_16_10.out⟩
        · go_simp
          refine hK.out _ _ ?_ (fun hHeld => ?_)
          · exact HSH.out _ (Bl.alloc_ B_2.out _)
          clear hK K hHeld
          try simp only [Act.put, List.getElem_toArray, List.getElem_cons_succ, List.getElem_cons_zero, List.setIfInBounds_toArray, List.set_cons_zero, List.set_cons_succ]
          generalize hw : World.alloc _ _ = w_17
          have B_17 := Lib.hid (show Bl W w_17 from by rw [← hw]; exact Bl.alloc_ B_2.out _)
          have hb : Bl w_2 w_17 := by rw [← hw]; exact Bl.alloc_ (Bl.refl _) _
          have Z10_17 := Lib.hid (show NumsAt w_17 (w_2.heap.size) (List.replicate 24 0) from by rw [← hw]; exact nums_new _ _)
          have LO10 := Lib.hid (show W.heap.size ≤ w_2.heap.size from (B_2.out : Bl W _).size)
          have V_17 := Lib.hid (V_2.out.bl hb)
          clear hw hb
          refine wpAnyH_ready (rs := [6, 7]) (by kernel_rfl) (by simp) ?_
          refine AllReadyH.cons rfl (fun K hK => ?_) (AllReadyH.cons rfl (fun K hK => ?_) AllReadyH.nil)
          · go_simp
            refine (distances_any k t A6 (revL L).length c6 (revL L) rfl HC6.out HRO.out ht.1 ht.2 _ V_17.out).mono ?_
            rintro e w_18 ⟨F, rfl, hF, hFd, hb⟩
            have FL := Lib.hid hF
            have FD := Lib.hid hFd
            clear hF hFd
            have B_18 := Lib.hid (B_17.out.trans_ hb)
            have Z10_18 := Lib.hid (Z10_17.out.bl hb)
            have V_18 := Lib.hid (V_17.out.bl hb)
            clear hb
            try (go_wp2_with fail)
            refine hK.out _ _ ?_ (fun hHeld => ?_)
            · exact HSH.out _ B_18.out
            clear hK K hHeld
            try simp only [Act.put, List.getElem_toArray, List.getElem_cons_succ, List.getElem_cons_zero, List.setIfInBounds_toArray, List.set_cons_zero, List.set_cons_succ]
            refine wpAnyH_ready (rs := [7]) (by kernel_rfl) (by simp) ?_
            refine AllReadyH.cons rfl (fun K hK => ?_) AllReadyH.nil
            · go_simp
              refine hK.out _ _ ?_ (fun hHeld => ?_)
              · exact HSH.out _ (Bl.alloc_ B_18.out _)
              clear hK K hHeld
              try simp only [Act.put, List.getElem_toArray, List.getElem_cons_succ, List.getElem_cons_zero, List.setIfInBounds_toArray, List.set_cons_zero, List.set_cons_succ]
              generalize hw : World.alloc _ _ = w_19
              have B_19 := Lib.hid (show Bl W w_19 from by rw [← hw]; exact Bl.alloc_ B_18.out _)
              have hb : Bl w_18 w_19 := by rw [← hw]; exact Bl.alloc_ (Bl.refl _) _
              have Z9_19 := Lib.hid (show NumsAt w_19 (w_18.heap.size) (List.replicate 24 0) from by rw [← hw]; exact nums_new _ _)
              have LO9 := Lib.hid (show W.heap.size ≤ w_18.heap.size from (B_18.out : Bl W _).size)
              have NE := Lib.hid (show w_2.heap.size ≠ w_18.heap.size from Nat.ne_of_lt Z10_18.out.lt)
              have Z10_19 := Lib.hid (Z10_18.out.bl hb)
              have V_19 := Lib.hid (V_18.out.bl hb)
              clear hw hb
              refine wpAnyH_ready (rs := [9]) (by kernel_rfl) (by simp) ?_
              refine AllReadyH.cons rfl (fun K hK => ?_) AllReadyH.nil
              rw [if_pos (by rfl)]
              refine wp_store_mid _ _ _ rfl (w_18.heap.size) 0 (csI E).toArray rfl rfl (by simpa [csI_len, EL.out] using Z9_19.out.there_) (by simpa [csI_len, EL.out] using size24) (csI_one _) ?_
              simp only [Act.put, List.setIfInBounds_toArray, List.set_cons_zero, List.set_cons_succ, List.toList_toArray]
              refine hK.out _ _ ?_ (fun hHeld => ?_)
              · exact HSH.out _ (Bl.setCells_ (w_18.heap.size) LO9.out _ _ _ B_19.out)
              clear hK K hHeld
              try simp only [Act.put, List.getElem_toArray, List.getElem_cons_succ, List.getElem_cons_zero, List.setIfInBounds_toArray, List.set_cons_zero, List.set_cons_succ]
              generalize hw : World.setCells _ _ _ _ = w_20_9
              have B_20_9 := Lib.hid (show Bl W w_20_9 from by rw [← hw]; exact Bl.setCells_ (w_18.heap.size) LO9.out _ _ _ B_19.out)
              have Y9 := Lib.hid (show NumsAt w_20_9 (w_18.heap.size) E from by rw [← hw]; exact NumsAt.stored EL.out Z9_19.out.lt Z9_19.out.there_)
              have Z10_20 := Lib.hid (show NumsAt w_20_9 (w_2.heap.size) (List.replicate 24 0) from by rw [← hw]; exact Z10_19.out.turn (Turn.setCells_ (S := fun i => i = w_18.heap.size) (w_18.heap.size) rfl _ _ _ (Turn.refl _ _)) NE.out)
              clear hw
              refine wpAnyH_ready (rs := [10]) (by kernel_rfl) (by simp) ?_
              refine AllReadyH.cons rfl (fun K hK => ?_) AllReadyH.nil
              rw [if_pos (by rfl)]
              refine wp_store_mid _ _ _ rfl (w_2.heap.size) 0 (csI F).toArray rfl rfl (by simpa [csI_len, FL.out] using Z10_20.out.there_) (by simpa [csI_len, FL.out] using size24) (csI_one _) ?_
              simp only [Act.put, List.setIfInBounds_toArray, List.set_cons_zero, List.set_cons_succ, List.toList_toArray]
              refine hK.out _ _ ?_ (fun hHeld => ?_)
              · exact HSH.out _ (Bl.setCells_ (w_2.heap.size) LO10.out _ _ _ B_20_9.out)
              clear hK K hHeld
              try simp only [Act.put, List.getElem_toArray, List.getElem_cons_succ, List.getElem_cons_zero, List.setIfInBounds_toArray, List.set_cons_zero, List.set_cons_succ]
              generalize hw : World.setCells _ _ _ _ = w_20_10
              have B_20_10 := Lib.hid (show Bl W w_20_10 from by rw [← hw]; exact Bl.setCells_ (w_2.heap.size) LO10.out _ _ _ B_20_9.out)
              have Y10 := Lib.hid (show NumsAt w_20_10 (w_2.heap.size) F from by rw [← hw]; exact NumsAt.stored FL.out Z10_20.out.lt Z10_20.out.there_)
              have Y9' := Lib.hid (show NumsAt w_20_10 (w_18.heap.size) E from by rw [← hw]; exact Y9.out.turn (Turn.setCells_ (S := fun i => i = w_2.heap.size) (w_2.heap.size) rfl _ _ _ (Turn.refl _ _)) NE.out.symm)
              clear hw
              refine wpAnyH_done (by kernel_rfl) ?_ _
              go_wp2_with fail
              go_meet
              exact ⟨w_18.heap.size, w_2.heap.size, E, F, rfl, rfl, Y9'.out, Y10.out, ED.out, FD.out, B_20_10.out⟩
          · go_simp
            refine hK.out _ _ ?_ (fun hHeld => ?_)
            · exact HSH.out _ (Bl.alloc_ B_17.out _)
            clear hK K hHeld
            try simp only [Act.put, List.getElem_toArray, List.getElem_cons_succ, List.getElem_cons_zero, List.setIfInBounds_toArray, List.set_cons_zero, List.set_cons_succ]
            generalize hw : World.alloc _ _ = w_21
            have B_21 := Lib.hid (show Bl W w_21 from by rw [← hw]; exact Bl.alloc_ B_17.out _)
            have hb : Bl w_17 w_21 := by rw [← hw]; exact Bl.alloc_ (Bl.refl _) _
            have Z9_21 := Lib.hid (show NumsAt w_21 (w_17.heap.size) (List.replicate 24 0) from by rw [← hw]; exact nums_new _ _)
            have LO9 := Lib.hid (show W.heap.size ≤ w_17.heap.size from (B_17.out : Bl W _).size)
            have NE := Lib.hid (show w_2.heap.size ≠ w_17.heap.size from Nat.ne_of_lt Z10_17.out.lt)
            have Z10_21 := Lib.hid (Z10_17.out.bl hb)
            have V_21 := Lib.hid (V_17.out.bl hb)
            clear hw hb
            refine wpAnyH_ready (rs := [6]) (by kernel_rfl) (by simp) ?_
            refine AllReadyH.cons rfl (fun K hK => ?_) AllReadyH.nil
            · go_simp
              refine (distances_any k t A6 (revL L).length c6 (revL L) rfl HC6.out HRO.out ht.1 ht.2 _ V_21.out).mono ?_
              rintro e w_22 ⟨F, rfl, hF, hFd, hb⟩
              have FL := Lib.hid hF
              have FD := Lib.hid hFd
              clear hF hFd
              have B_22 := Lib.hid (B_21.out.trans_ hb)
              have Z9_22 := Lib.hid (Z9_21.out.bl hb)
              have Z10_22 := Lib.hid (Z10_21.out.bl hb)
              have V_22 := Lib.hid (V_21.out.bl hb)
              clear hb
              try (go_wp2_with fail)
              refine hK.out _ _ ?_ (fun hHeld => ?_)
              · exact HSH.out _ B_22.out
              clear hK K hHeld
              try simp only [Act.put, List.getElem_toArray, List.getElem_cons_succ, List.getElem_cons_zero, List.setIfInBounds_toArray, List.set_cons_zero, List.set_cons_succ]
              refine wpAnyH_ready (rs := [9]) (by kernel_rfl) (by simp) ?_
              refine AllReadyH.cons rfl (fun K hK => ?_) AllReadyH.nil
              rw [if_pos (by rfl)]
              refine wp_store_mid _ _ _ rfl (w_17.heap.size) 0 (csI E).toArray rfl rfl (by simpa [csI_len, EL.out] using Z9_22.out.there_) (by simpa [csI_len, EL.out] using size24) (csI_one _) ?_
              simp only [Act.put, List.setIfInBounds_toArray, List.set_cons_zero, List.set_cons_succ, List.toList_toArray]
              refine hK.out _ _ ?_ (fun hHeld => ?_)
              · exact HSH.out _ (Bl.setCells_ (w_17.heap.size) LO9.out _ _ _ B_22.out)
              clear hK K hHeld
              try simp only [Act.put, List.getElem_toArray, List.getElem_cons_succ, List.getElem_cons_zero, List.setIfInBounds_toArray, List.set_cons_zero, List.set_cons_succ]
              generalize hw : World.setCells _ _ _ _ = w_23_9
              have B_23_9 := Lib.hid (show Bl W w_23_9 from by rw [← hw]; exact Bl.setCells_ (w_17.heap.size) LO9.out _ _ _ B_22.out)
              have Y9 := Lib.hid (show NumsAt w_23_9 (w_17.heap.size) E from by rw [← hw]; exact NumsAt.stored EL.out Z9_22.out.lt Z9_22.out.there_)
              have Z10_23 := Lib.hid (show NumsAt w_23_9 (w_2.heap.size) (List.replicate 24 0) from by rw [← hw]; exact Z10_22.out.turn (Turn.setCells_ (S := fun i => i = w_17.heap.size) (w_17.heap.size) rfl _ _ _ (Turn.refl _ _)) NE.out)
              clear hw
              refine wpAnyH_ready (rs := [10]) (by kernel_rfl) (by simp) ?_
              refine AllReadyH.cons rfl (fun K hK => ?_) AllReadyH.nil
              rw [if_pos (by rfl)]
              refine wp_store_mid _ _ _ rfl (w_2.heap.size) 0 (csI F).toArray rfl rfl (by simpa [csI_len, FL.out] using Z10_23.out.there_) (by simpa [csI_len, FL.out] using size24) (csI_one _) ?_
              simp only [Act.put, List.setIfInBounds_toArray, List.set_cons_zero, List.set_cons_succ, List.toList_toArray]
              refine hK.out _ _ ?_ (fun hHeld => ?_)
              · exact HSH.out _ (Bl.setCells_ (w_2.heap.size) LO10.out _ _ _ B_23_9.out)
              clear hK K hHeld
              try simp only [Act.put, List.getElem_toArray, List.getElem_cons_succ, List.getElem_cons_zero, List.setIfInBounds_toArray, List.set_cons_zero, List.set_cons_succ]
              generalize hw : World.setCells _ _ _ _ = w_23_10
              have B_23_10 := Lib.hid (show Bl W w_23_10 from by rw [← hw]; exact Bl.setCells_ (w_2.heap.size) LO10.out _ _ _ B_23_9.out)
              have Y10 := Lib.hid (show NumsAt w_23_10 (w_2.heap.size) F from by rw [← hw]; exact NumsAt.stored FL.out Z10_23.out.lt Z10_23.out.there_)
              have Y9' := Lib.hid (show NumsAt w_23_10 (w_17.heap.size) E from by rw [← hw]; exact Y9.out.turn (Turn.setCells_ (S := fun i => i = w_2.heap.size) (w_2.heap.size) rfl _ _ _ (Turn.refl _ _)) NE.out.symm)
              clear hw
              refine wpAnyH_done (by kernel_rfl) ?_ _
              go_wp2_with fail
              go_meet
              exact ⟨w_17.heap.size, w_2.heap.size, E, F, rfl, rfl, Y9'.out, Y10.out, ED.out, FD.out, B_23_10.out⟩
      · go_simp
        refine hK.out _ _ ?_ (fun hHeld => ?_)
        · exact HSH.out _ (Bl.alloc_ B_1.out _)
        clear hK K hHeld
        try simp only [Act.put, List.getElem_toArray, List.getElem_cons_succ, List.getElem_cons_zero, List.setIfInBounds_toArray, List.set_cons_zero, List.set_cons_succ]
        generalize hw : World.alloc _ _ = w_24
        have B_24 := Lib.hid (show Bl W w_24 from by rw [← hw]; exact Bl.alloc_ B_1.out _)
        have hb : Bl w_1 w_24 := by rw [← hw]; exact Bl.alloc_ (Bl.refl _) _
        have Z9_24 := Lib.hid (show NumsAt w_24 (w_1.heap.size) (List.replicate 24 0) from by rw [← hw]; exact nums_new _ _)
        have LO9 := Lib.hid (show W.heap.size ≤ w_1.heap.size from (B_1.out : Bl W _).size)
        clear hw hb
        refine wpAnyH_ready (rs := [4, 8]) (by kernel_rfl) (by simp) ?_
        refine AllReadyH.cons rfl (fun K hK => ?_) (AllReadyH.cons rfl (fun K hK => ?_) AllReadyH.nil)
        · go_simp
          refine (implReversed_any k A n c L HN.out _ hm (K1.out.bl (HBW.out.trans_ B_24.out))).mono ?_
          rintro e w_25 ⟨v6, rfl, hv6, hb⟩
          rw [show revN (k : Int) L = (k : Int) from if_pos HO.out]
          rw [show revG (k : Int) L = revL L from if_pos HO.out] at hv6
          have hcap := OwnA.cap' hv6
          obtain ⟨A6, c6, rfl, ha6, -⟩ := hv6.shape
          have V_25 := Lib.hid ha6
          have HC6 := Lib.hid (hcap _ _ _ rfl)
          clear hv6 hcap ha6
          have B_25 := Lib.hid (B_24.out.trans_ hb)
          have Z9_25 := Lib.hid (Z9_24.out.bl hb)
          clear hb
          try (go_wp2_with fail)
          refine hK.out _ _ ?_ (fun hHeld => ?_)
          · exact HSH.out _ B_25.out
          clear hK K hHeld
          try simp only [Act.put, List.getElem_toArray, List.getElem_cons_succ, List.getElem_cons_zero, List.setIfInBounds_toArray, List.set_cons_zero, List.set_cons_succ]
          refine wpAnyH_ready (rs := [6, 8]) (by kernel_rfl) (by simp) ?_
          refine AllReadyH.cons rfl (fun K hK => ?_) (AllReadyH.cons rfl (fun K hK => ?_) AllReadyH.nil)
          · go_simp
            refine (distances_any k t A6 (revL L).length c6 (revL L) rfl HC6.out HRO.out ht.1 ht.2 _ V_25.out).mono ?_
            rintro e w_26 ⟨F, rfl, hF, hFd, hb⟩
            have FL := Lib.hid hF
            have FD := Lib.hid hFd
            clear hF hFd
            have B_26 := Lib.hid (B_25.out.trans_ hb)
            have Z9_26 := Lib.hid (Z9_25.out.bl hb)
            have V_26 := Lib.hid (V_25.out.bl hb)
            clear hb
            try (go_wp2_with fail)
            refine hK.out _ _ ?_ (fun hHeld => ?_)
            · exact HSH.out _ B_26.out
            clear hK K hHeld
            try simp only [Act.put, List.getElem_toArray, List.getElem_cons_succ, List.getElem_cons_zero, List.setIfInBounds_toArray, List.set_cons_zero, List.set_cons_succ]
            refine wpAnyH_ready (rs := [8]) (by kernel_rfl) (by simp) ?_
            refine AllReadyH.cons rfl (fun K hK => ?_) AllReadyH.nil
            · go_simp
              refine hK.out _ _ ?_ (fun hHeld => ?_)
              · exact HSH.out _ (Bl.alloc_ B_26.out _)
              clear hK K hHeld
              try simp only [Act.put, List.getElem_toArray, List.getElem_cons_succ, List.getElem_cons_zero, List.setIfInBounds_toArray, List.set_cons_zero, List.set_cons_succ]
              generalize hw : World.alloc _ _ = w_27
              have B_27 := Lib.hid (show Bl W w_27 from by rw [← hw]; exact Bl.alloc_ B_26.out _)
              have hb : Bl w_26 w_27 := by rw [← hw]; exact Bl.alloc_ (Bl.refl _) _
              have Z10_27 := Lib.hid (show NumsAt w_27 (w_26.heap.size) (List.replicate 24 0) from by rw [← hw]; exact nums_new _ _)
              have LO10 := Lib.hid (show W.heap.size ≤ w_26.heap.size from (B_26.out : Bl W _).size)
              have NE := Lib.hid (show w_1.heap.size ≠ w_26.heap.size from Nat.ne_of_lt Z9_26.out.lt)
              have Z9_27 := Lib.hid (Z9_26.out.bl hb)
              have V_27 := Lib.hid (V_26.out.bl hb)
              clear hw hb
              refine wpAnyH_ready (rs := [9]) (by kernel_rfl) (by simp) ?_
              refine AllReadyH.cons rfl (fun K hK => ?_) AllReadyH.nil
              rw [if_pos (by rfl)]
              refine wp_store_mid _ _ _ rfl (w_1.heap.size) 0 (csI E).toArray rfl rfl (by simpa [csI_len, EL.out] using Z9_27.out.there_) (by simpa [csI_len, EL.out] using size24) (csI_one _) ?_
              simp only [Act.put, List.setIfInBounds_toArray, List.set_cons_zero, List.set_cons_succ, List.toList_toArray]
              refine hK.out _ _ ?_ (fun hHeld => ?_)
              · exact HSH.out _ (Bl.setCells_ (w_1.heap.size) LO9.out _ _ _ B_27.out)
              clear hK K hHeld
              try simp only [Act.put, List.getElem_toArray, List.getElem_cons_succ, List.getElem_cons_zero, List.setIfInBounds_toArray, List.set_cons_zero, List.set_cons_succ]
              generalize hw : World.setCells _ _ _ _ = w_28_9
              have B_28_9 := Lib.hid (show Bl W w_28_9 from by rw [← hw]; exact Bl.setCells_ (w_1.heap.size) LO9.out _ _ _ B_27.out)
              have Y9 := Lib.hid (show NumsAt w_28_9 (w_1.heap.size) E from by rw [← hw]; exact NumsAt.stored EL.out Z9_27.out.lt Z9_27.out.there_)
              have Z10_28 := Lib.hid (show NumsAt w_28_9 (w_26.heap.size) (List.replicate 24 0) from by rw [← hw]; exact Z10_27.out.turn (Turn.setCells_ (S := fun i => i = w_1.heap.size) (w_1.heap.size) rfl _ _ _ (Turn.refl _ _)) NE.out.symm)
              clear hw
              refine wpAnyH_ready (rs := [10]) (by kernel_rfl) (by simp) ?_
              refine AllReadyH.cons rfl (fun K hK => ?_) AllReadyH.nil
              rw [if_pos (by rfl)]
              refine wp_store_mid _ _ _ rfl (w_26.heap.size) 0 (csI F).toArray rfl rfl (by simpa [csI_len, FL.out] using Z10_28.out.there_) (by simpa [csI_len, FL.out] using size24) (csI_one _) ?_
              simp only [Act.put, List.setIfInBounds_toArray, List.set_cons_zero, List.set_cons_succ, List.toList_toArray]
              refine hK.out _ _ ?_ (fun hHeld => ?_)
              · exact HSH.out _ (Bl.setCells_ (w_26.heap.size) LO10.out _ _ _ B_28_9.out)
              clear hK K hHeld
              try simp only [Act.put, List.getElem_toArray, List.getElem_cons_succ, List.getElem_cons_zero, List.setIfInBounds_toArray, List.set_cons_zero, List.set_cons_succ]
              generalize hw : World.setCells _ _ _ _ = w_28_10
              have B_28_10 := Lib.hid (show Bl W w_28_10 from by rw [← hw]; exact Bl.setCells_ (w_26.heap.size) LO10.out _ _ _ B_28_9.out)
              have Y10 := Lib.hid (show NumsAt w_28_10 (w_26.heap.size) F from by rw [← hw]; exact NumsAt.stored FL.out Z10_28.out.lt Z10_28.out.there_)
              have Y9' := Lib.hid (show NumsAt w_28_10 (w_1.heap.size) E from by rw [← hw]; exact Y9.out.turn (Turn.setCells_ (S := fun i => i = w_26.heap.size) (w_26.heap.size) rfl _ _ _ (Turn.refl _ _)) NE.out)
              clear hw
              refine wpAnyH_done (by kernel_rfl) ?_ _
              go_wp2_with fail
              go_meet
              exact ⟨w_1.heap.size, w_26.heap.size, E, F, rfl, rfl, Y9'.out, Y10.out, ED.out, FD.out, B_28_10.out⟩
          · go_simp
            refine hK.out _ _ ?_ (fun hHeld => ?_)
            · exact HSH.out _ (Bl.alloc_ B_25.out _)
            clear hK K hHeld
            try simp only [Act.put, List.getElem_toArray, List.getElem_cons_succ, List.getElem_cons_zero, List.setIfInBounds_toArray, List.set_cons_zero, List.set_cons_succ]
            generalize hw : World.alloc _ _ = w_29
            have B_29 := Lib.hid (show Bl W w_29 from by rw [← hw]; exact Bl.alloc_ B_25.out _)
            have hb : Bl w_25 w_29 := by rw [← hw]; exact Bl.alloc_ (Bl.refl _) _
            have Z10_29 := Lib.hid (show NumsAt w_29 (w_25.heap.size) (List.replicate 24 0) from by rw [← hw]; exact nums_new _ _)
            have LO10 := Lib.hid (show W.heap.size ≤ w_25.heap.size from (B_25.out : Bl W _).size)
            have NE := Lib.hid (show w_1.heap.size ≠ w_25.heap.size from Nat.ne_of_lt Z9_25.out.lt)
            have Z9_29 := Lib.hid (Z9_25.out.bl hb)
            have V_29 := Lib.hid (V_25.out.bl hb)
            clear hw hb
            refine wpAnyH_ready (rs := [6]) (by kernel_rfl) (by simp) ?_
            refine AllReadyH.cons rfl (fun K hK => ?_) AllReadyH.nil
            · go_simp
              refine (distances_any k t A6 (revL L).length c6 (revL L) rfl HC6.out HRO.out ht.1 ht.2 _ V_29.out).mono ?_
              rintro e w_30 ⟨F, rfl, hF, hFd, hb⟩
              have FL := Lib.hid hF
              have FD := Lib.hid hFd
              clear hF hFd
              have B_30 := Lib.hid (B_29.out.trans_ hb)
              have Z9_30 := Lib.hid (Z9_29.out.bl hb)
              have Z10_30 := Lib.hid (Z10_29.out.bl hb)
              have V_30 := Lib.hid (V_29.out.bl hb)
              clear hb
              try (go_wp2_with fail)
              refine hK.out _ _ ?_ (fun hHeld => ?_)
              · exact HSH.out _ B_30.out
              clear hK K hHeld
              try simp only [Act.put, List.getElem_toArray, List.getElem_cons_succ, List.getElem_cons_zero, List.setIfInBounds_toArray, List.set_cons_zero, List.set_cons_succ]
              refine wpAnyH_ready (rs := [9]) (by kernel_rfl) (by simp) ?_
              refine AllReadyH.cons rfl (fun K hK => ?_) AllReadyH.nil
              rw [if_pos (by rfl)]
              refine wp_store_mid _ _ _ rfl (w_1.heap.size) 0 (csI E).toArray rfl rfl (by simpa [csI_len, EL.out] using Z9_30.out.there_) (by simpa [csI_len, EL.out] using size24) (csI_one _) ?_
              simp only [Act.put, List.setIfInBounds_toArray, List.set_cons_zero, List.set_cons_succ, List.toList_toArray]
              refine hK.out _ _ ?_ (fun hHeld => ?_)
              · exact HSH.out _ (Bl.setCells_ (w_1.heap.size) LO9.out _ _ _ B_30.out)
              clear hK K hHeld
              try simp only [Act.put, List.getElem_toArray, List.getElem_cons_succ, List.getElem_cons_zero, List.setIfInBounds_toArray, List.set_cons_zero, List.set_cons_succ]
              generalize hw : World.setCells _ _ _ _ = w_31_9
              have B_31_9 := Lib.hid (show Bl W w_31_9 from by rw [← hw]; exact Bl.setCells_ (w_1.heap.size) LO9.out _ _ _ B_30.out)
              have Y9 := Lib.hid (show NumsAt w_31_9 (w_1.heap.size) E from by rw [← hw]; exact NumsAt.stored EL.out Z9_30.out.lt Z9_30.out.there_)
              have Z10_31 := Lib.hid (show NumsAt w_31_9 (w_25.heap.size) (List.replicate 24 0) from by rw [← hw]; exact Z10_30.out.turn (Turn.setCells_ (S := fun i => i = w_1.heap.size) (w_1.heap.size) rfl _ _ _ (Turn.refl _ _)) NE.out.symm)
              clear hw
              refine wpAnyH_ready (rs := [10]) (by kernel_rfl) (by simp) ?_
              refine AllReadyH.cons rfl (fun K hK => ?_) AllReadyH.nil
              rw [if_pos (by rfl)]
              refine wp_store_mid _ _ _ rfl (w_25.heap.size) 0 (csI F).toArray rfl rfl (by simpa [csI_len, FL.out] using Z10_31.out.there_) (by simpa [csI_len, FL.out] using size24) (csI_one _) ?_
              simp only [Act.put, List.setIfInBounds_toArray, List.set_cons_zero, List.set_cons_succ, List.toList_toArray]
              refine hK.out _ _ ?_ (fun hHeld => ?_)
              · exact HSH.out _ (Bl.setCells_ (w_25.heap.size) LO10.out _ _ _ B_31_9.out)
              clear hK K hHeld
              try simp only [Act.put, List.getElem_toArray, List.getElem_cons_succ, List.getElem_cons_zero, List.setIfInBounds_toArray, List.set_cons_zero, List.set_cons_succ]
              generalize hw : World.setCells _ _ _ _ = w_31_10
              have B_31_10 := Lib.hid (show Bl W w_31_10 from by rw [← hw]; exact Bl.setCells_ (w_25.heap.size) LO10.out _ _ _ B_31_9.out)
              have Y10 := Lib.hid (show NumsAt w_31_10 (w_25.heap.size) F from by rw [← hw]; exact NumsAt.stored FL.out Z10_31.out.lt Z10_31.out.there_)
              have Y9' := Lib.hid (show NumsAt w_31_10 (w_1.heap.size) E from by rw [← hw]; exact Y9.out.turn (Turn.setCells_ (S := fun i => i = w_25.heap.size) (w_25.heap.size) rfl _ _ _ (Turn.refl _ _)) NE.out)
              clear hw
              refine wpAnyH_done (by kernel_rfl) ?_ _
              go_wp2_with fail
              go_meet
              exact ⟨w_1.heap.size, w_25.heap.size, E, F, rfl, rfl, Y9'.out, Y10.out, ED.out, FD.out, B_31_10.out⟩
        · go_simp
          refine hK.out _ _ ?_ (fun hHeld => ?_)
          · exact HSH.out _ (Bl.alloc_ B_24.out _)
          clear hK K hHeld
          try simp only [Act.put, List.getElem_toArray, List.getElem_cons_succ, List.getElem_cons_zero, List.setIfInBounds_toArray, List.set_cons_zero, List.set_cons_succ]
          generalize hw : World.alloc _ _ = w_32
          have B_32 := Lib.hid (show Bl W w_32 from by rw [← hw]; exact Bl.alloc_ B_24.out _)
          have hb : Bl w_24 w_32 := by rw [← hw]; exact Bl.alloc_ (Bl.refl _) _
          have Z10_32 := Lib.hid (show NumsAt w_32 (w_24.heap.size) (List.replicate 24 0) from by rw [← hw]; exact nums_new _ _)
          have LO10 := Lib.hid (show W.heap.size ≤ w_24.heap.size from (B_24.out : Bl W _).size)
          have NE := Lib.hid (show w_1.heap.size ≠ w_24.heap.size from Nat.ne_of_lt Z9_24.out.lt)
          have Z9_32 := Lib.hid (Z9_24.out.bl hb)
          clear hw hb
          refine wpAnyH_ready (rs := [4]) (by kernel_rfl) (by simp) ?_
          refine AllReadyH.cons rfl (fun K hK => ?_) AllReadyH.nil
          · go_simp
            refine (implReversed_any k A n c L HN.out _ hm (K1.out.bl (HBW.out.trans_ B_32.out))).mono ?_
            rintro e w_33 ⟨v6, rfl, hv6, hb⟩
            rw [show revN (k : Int) L = (k : Int) from if_pos HO.out]
            rw [show revG (k : Int) L = revL L from if_pos HO.out] at hv6
            have hcap := OwnA.cap' hv6
            obtain ⟨A6, c6, rfl, ha6, -⟩ := hv6.shape
            have V_33 := Lib.hid ha6
            have HC6 := Lib.hid (hcap _ _ _ rfl)
            clear hv6 hcap ha6
            have B_33 := Lib.hid (B_32.out.trans_ hb)
            have Z9_33 := Lib.hid (Z9_32.out.bl hb)
            have Z10_33 := Lib.hid (Z10_32.out.bl hb)
            clear hb
            try (go_wp2_with fail)
            refine hK.out _ _ ?_ (fun hHeld => ?_)
            · exact HSH.out _ B_33.out
            clear hK K hHeld
            try simp only [Act.put, List.getElem_toArray, List.getElem_cons_succ, List.getElem_cons_zero, List.setIfInBounds_toArray, List.set_cons_zero, List.set_cons_succ]
            refine wpAnyH_ready (rs := [6]) (by kernel_rfl) (by simp) ?_
            refine AllReadyH.cons rfl (fun K hK => ?_) AllReadyH.nil
            · go_simp
              refine (distances_any k t A6 (revL L).length c6 (revL L) rfl HC6.out HRO.out ht.1 ht.2 _ V_33.out).mono ?_
              rintro e w_34 ⟨F, rfl, hF, hFd, hb⟩
              have FL := Lib.hid hF
              have FD := Lib.hid hFd
              clear hF hFd
              have B_34 := Lib.hid (B_33.out.trans_ hb)
              have Z9_34 := Lib.hid (Z9_33.out.bl hb)
              have Z10_34 := Lib.hid (Z10_33.out.bl hb)
              have V_34 := Lib.hid (V_33.out.bl hb)
              clear hb
              try (go_wp2_with fail)
              refine hK.out _ _ ?_ (fun hHeld => ?_)
              · exact HSH.out _ B_34.out
              clear hK K hHeld
              try simp only [Act.put, List.getElem_toArray, List.getElem_cons_succ, List.getElem_cons_zero, List.setIfInBounds_toArray, List.set_cons_zero, List.set_cons_succ]
              refine wpAnyH_ready (rs := [9]) (by kernel_rfl) (by simp) ?_
              refine AllReadyH.cons rfl (fun K hK => ?_) AllReadyH.nil
              rw [if_pos (by rfl)]
              refine wp_store_mid _ _ _ rfl (w_1.heap.size) 0 (csI E).toArray rfl rfl (by simpa [csI_len, EL.out] using Z9_34.out.there_) (by simpa [csI_len, EL.out] using size24) (csI_one _) ?_
              simp only [Act.put, List.setIfInBounds_toArray, List.set_cons_zero, List.set_cons_succ, List.toList_toArray]
              refine hK.out _ _ ?_ (fun hHeld => ?_)
              · exact HSH.out _ (Bl.setCells_ (w_1.heap.size) LO9.out _ _ _ B_34.out)
              clear hK K hHeld
              try simp only [Act.put, List.getElem_toArray, List.getElem_cons_succ, List.getElem_cons_zero, List.setIfInBounds_toArray, List.set_cons_zero, List.set_cons_succ]
              generalize hw : World.setCells _ _ _ _ = w_35_9
              have B_35_9 := Lib.hid (show Bl W w_35_9 from by rw [← hw]; exact Bl.setCells_ (w_1.heap.size) LO9.out _ _ _ B_34.out)
              have Y9 := Lib.hid (show NumsAt w_35_9 (w_1.heap.size) E from by rw [← hw]; exact NumsAt.stored EL.out Z9_34.out.lt Z9_34.out.there_)
              have Z10_35 := Lib.hid (show NumsAt w_35_9 (w_24.heap.size) (List.replicate 24 0) from by rw [← hw]; exact Z10_34.out.turn (Turn.setCells_ (S := fun i => i = w_1.heap.size) (w_1.heap.size) rfl _ _ _ (Turn.refl _ _)) NE.out.symm)
              clear hw
              refine wpAnyH_ready (rs := [10]) (by kernel_rfl) (by simp) ?_
              refine AllReadyH.cons rfl (fun K hK => ?_) AllReadyH.nil
              rw [if_pos (by rfl)]
              refine wp_store_mid _ _ _ rfl (w_24.heap.size) 0 (csI F).toArray rfl rfl (by simpa [csI_len, FL.out] using Z10_35.out.there_) (by simpa [csI_len, FL.out] using size24) (csI_one _) ?_
              simp only [Act.put, List.setIfInBounds_toArray, List.set_cons_zero, List.set_cons_succ, List.toList_toArray]
              refine hK.out _ _ ?_ (fun hHeld => ?_)
              · exact HSH.out _ (Bl.setCells_ (w_24.heap.size) LO10.out _ _ _ B_35_9.out)
              clear hK K hHeld
              try simp only [Act.put, List.getElem_toArray, List.getElem_cons_succ, List.getElem_cons_zero, List.setIfInBounds_toArray, List.set_cons_zero, List.set_cons_succ]
              generalize hw : World.setCells _ _ _ _ = w_35_10
              have B_35_10 := Lib.hid (show Bl W w_35_10 from by rw [← hw]; exact Bl.setCells_ (w_24.heap.size) LO10.out _ _ _ B_35_9.out)
              have Y10 := Lib.hid (show NumsAt w_35_10 (w_24.heap.size) F from by rw [← hw]; exact NumsAt.stored FL.out Z10_35.out.lt Z10_35.out.there_)
              have Y9' := Lib.hid (show NumsAt w_35_10 (w_1.heap.size) E from by rw [← hw]; exact Y9.out.turn (Turn.setCells_ (S := fun i => i = w_24.heap.size) (w_24.heap.size) rfl _ _ _ (Turn.refl _ _)) NE.out)
              clear hw
              refine wpAnyH_done (by kernel_rfl) ?_ _
              go_wp2_with fail
              go_meet
              exact ⟨w_1.heap.size, w_24.heap.size, E, F, rfl, rfl, Y9'.out, Y10.out, ED.out, FD.out, B_35_10.out⟩
      · go_simp
        refine hK.out _ _ ?_ (fun hHeld => ?_)
        · exact HSH.out _ (Bl.alloc_ B_1.out _)
        clear hK K hHeld
        try simp only [Act.put, List.getElem_toArray, List.getElem_cons_succ, List.getElem_cons_zero, List.setIfInBounds_toArray, List.set_cons_zero, List.set_cons_succ]
        generalize hw : World.alloc _ _ = w_36
        have B_36 := Lib.hid (show Bl W w_36 from by rw [← hw]; exact Bl.alloc_ B_1.out _)
        have hb : Bl w_1 w_36 := by rw [← hw]; exact Bl.alloc_ (Bl.refl _) _
        have Z10_36 := Lib.hid (show NumsAt w_36 (w_1.heap.size) (List.replicate 24 0) from by rw [← hw]; exact nums_new _ _)
        have LO10 := Lib.hid (show W.heap.size ≤ w_1.heap.size from (B_1.out : Bl W _).size)
        clear hw hb
        refine wpAnyH_ready (rs := [4, 7]) (by kernel_rfl) (by simp) ?_
        refine AllReadyH.cons rfl (fun K hK => ?_) (AllReadyH.cons rfl (fun K hK => ?_) AllReadyH.nil)
        · go_simp
          refine (implReversed_any k A n c L HN.out _ hm (K1.out.bl (HBW.out.trans_ B_36.out))).mono ?_
          rintro e w_37 ⟨v6, rfl, hv6, hb⟩
          rw [show revN (k : Int) L = (k : Int) from if_pos HO.out]
          rw [show revG (k : Int) L = revL L from if_pos HO.out] at hv6
          have hcap := OwnA.cap' hv6
          obtain ⟨A6, c6, rfl, ha6, -⟩ := hv6.shape
          have V_37 := Lib.hid ha6
          have HC6 := Lib.hid (hcap _ _ _ rfl)
          clear hv6 hcap ha6
          have B_37 := Lib.hid (B_36.out.trans_ hb)
          have Z10_37 := Lib.hid (Z10_36.out.bl hb)
          clear hb
          try (go_wp2_with fail)
          refine hK.out _ _ ?_ (fun hHeld => ?_)
          · exact HSH.out _ B_37.out
          clear hK K hHeld
          try simp only [Act.put, List.getElem_toArray, List.getElem_cons_succ, List.getElem_cons_zero, List.setIfInBounds_toArray, List.set_cons_zero, List.set_cons_succ]
          refine wpAnyH_ready (rs := [6, 7]) (by kernel_rfl) (by simp) ?_
          refine AllReadyH.cons rfl (fun K hK => ?_) (AllReadyH.cons rfl (fun K hK => ?_) AllReadyH.nil)
          · go_simp
            refine (distances_any k t A6 (revL L).length c6 (revL L) rfl HC6.out HRO.out ht.1 ht.2 _ V_37.out).mono ?_
            rintro e w_38 ⟨F, rfl, hF, hFd, hb⟩
            have FL := Lib.hid hF
            have FD := Lib.hid hFd
            clear hF hFd
            have B_38 := Lib.hid (B_37.out.trans_ hb)
            have Z10_38 := Lib.hid (Z10_37.out.bl hb)
            have V_38 := Lib.hid (V_37.out.bl hb)
            clear hb
            try (go_wp2_with fail)
            refine hK.out _ _ ?_ (fun hHeld => ?_)
            · exact HSH.out _ B_38.out
            clear hK K hHeld
            try simp only [Act.put, List.getElem_toArray, List.getElem_cons_succ, List.getElem_cons_zero, List.setIfInBounds_toArray, List.set_cons_zero, List.set_cons_succ]
            refine wpAnyH_ready (rs := [7]) (by kernel_rfl) (by simp) ?_
            refine AllReadyH.cons rfl (fun K hK => ?_) AllReadyH.nil
            · go_simp
              refine hK.out _ _ ?_ (fun hHeld => ?_)
              · exact HSH.out _ (Bl.alloc_ B_38.out _)
              clear hK K hHeld
              try simp only [Act.put, List.getElem_toArray, List.getElem_cons_succ, List.getElem_cons_zero, List.setIfInBounds_toArray, List.set_cons_zero, List.set_cons_succ]
              generalize hw : World.alloc _ _ = w_39
              have B_39 := Lib.hid (show Bl W w_39 from by rw [← hw]; exact Bl.alloc_ B_38.out _)
              have hb : Bl w_38 w_39 := by rw [← hw]; exact Bl.alloc_ (Bl.refl _) _
              have Z9_39 := Lib.hid (show NumsAt w_39 (w_38.heap.size) (List.replicate 24 0) from by rw [← hw]; exact nums_new _ _)
              have LO9 := Lib.hid (show W.heap.size ≤ w_38.heap.size from (B_38.out : Bl W _).size)
              have NE := Lib.hid (show w_1.heap.size ≠ w_38.heap.size from Nat.ne_of_lt Z10_38.out.lt)
              have Z10_39 := Lib.hid (Z10_38.out.bl hb)
              have V_39 := Lib.hid (V_38.out.bl hb)
              clear hw hb
              refine wpAnyH_ready (rs := [9]) (by kernel_rfl) (by simp) ?_
              refine AllReadyH.cons rfl (fun K hK => ?_) AllReadyH.nil
              rw [if_pos (by rfl)]
              refine wp_store_mid _ _ _ rfl (w_38.heap.size) 0 (csI E).toArray rfl rfl (by simpa [csI_len, EL.out] using Z9_39.out.there_) (by simpa [csI_len, EL.out] using size24) (csI_one _) ?_
              simp only [Act.put, List.setIfInBounds_toArray, List.set_cons_zero, List.set_cons_succ, List.toList_toArray]
              refine hK.out _ _ ?_ (fun hHeld => ?_)
              · exact HSH.out _ (Bl.setCells_ (w_38.heap.size) LO9.out _ _ _ B_39.out)
              clear hK K hHeld
              try simp only [Act.put, List.getElem_toArray, List.getElem_cons_succ, List.getElem_cons_zero, List.setIfInBounds_toArray, List.set_cons_zero, List.set_cons_succ]
              generalize hw : World.setCells _ _ _ _ = w_40_9
              have B_40_9 := Lib.hid (show Bl W w_40_9 from by rw [← hw]; exact Bl.setCells_ (w_38.heap.size) LO9.out _ _ _ B_39.out)
              have Y9 := Lib.hid (show NumsAt w_40_9 (w_38.heap.size) E from by rw [← hw]; exact NumsAt.stored EL.out Z9_39.out.lt Z9_39.out.there_)
              have Z10_40 := Lib.hid (show NumsAt w_40_9 (w_1.heap.size) (List.replicate 24 0) from by rw [← hw]; exact Z10_39.out.turn (Turn.setCells_ (S := fun i => i = w_38.heap.size) (w_38.heap.size) rfl _ _ _ (Turn.refl _ _)) NE.out)
              clear hw
              refine wpAnyH_ready (rs := [10]) (by kernel_rfl) (by simp) ?_
              refine AllReadyH.cons rfl (fun K hK => ?_) AllReadyH.nil
              rw [if_pos (by rfl)]
              refine wp_store_mid _ _ _ rfl (w_1.heap.size) 0 (csI F).toArray rfl rfl (by simpa [csI_len, FL.out] using Z10_40.out.there_) (by simpa [csI_len, FL.out] using size24) (csI_one _) ?_
              simp only [Act.put, List.setIfInBounds_toArray, List.set_cons_zero, List.set_cons_succ, List.toList_toArray]
              refine hK.out _ _ ?_ (fun hHeld => ?_)
              · exact HSH.out _ (Bl.setCells_ (w_1.heap.size) LO10.out _ _ _ B_40_9.out)
              clear hK K hHeld
              try simp only [Act.put, List.getElem_toArray, List.getElem_cons_succ, List.getElem_cons_zero, List.setIfInBounds_toArray, List.set_cons_zero, List.set_cons_succ]
              generalize hw : World.setCells _ _ _ _ = w_40_10
              have B_40_10 := Lib.hid (show Bl W w_40_10 from by rw [← hw]; exact Bl.setCells_ (w_1.heap.size) LO10.out _ _ _ B_40_9.out)
              have Y10 := Lib.hid (show NumsAt w_40_10 (w_1.heap.size) F from by rw [← hw]; exact NumsAt.stored FL.out Z10_40.out.lt Z10_40.out.there_)
              have Y9' := Lib.hid (show NumsAt w_40_10 (w_38.heap.size) E from by rw [← hw]; exact Y9.out.turn (Turn.setCells_ (S := fun i => i = w_1.heap.size) (w_1.heap.size) rfl _ _ _ (Turn.refl _ _)) NE.out.symm)
              clear hw
              refine wpAnyH_done (by kernel_rfl) ?_ _
              go_wp2_with fail
              go_meet
              exact ⟨w_38.heap.size, w_1.heap.size, E, F, rfl, rfl, Y9'.out, Y10.out, ED.out, FD.out, B_40_10.out⟩
          · go_simp
            refine hK.out _ _ ?_ (fun hHeld => ?_)
            · exact HSH.out _ (Bl.alloc_ B_37.out _)
            clear hK K hHeld
            try simp only [Act.put, List.getElem_toArray, List.getElem_cons_succ, List.getElem_cons_zero, List.setIfInBounds_toArray, List.set_cons_zero, List.set_cons_succ]
            generalize hw : World.alloc _ _ = w_41
            have B_41 := Lib.hid (show Bl W w_41 from by rw [← hw]; exact Bl.alloc_ B_37.out _)
            have hb : Bl w_37 w_41 := by rw [← hw]; exact Bl.alloc_ (Bl.refl _) _
            have Z9_41 := Lib.hid (show NumsAt w_41 (w_37.heap.size) (List.replicate 24 0) from by rw [← hw]; exact nums_new _ _)
            have LO9 := Lib.hid (show W.heap.size ≤ w_37.heap.size from (B_37.out : Bl W _).size)
            have NE := Lib.hid (show w_1.heap.size ≠ w_37.heap.size from Nat.ne_of_lt Z10_37.out.lt)
            have Z10_41 := Lib.hid (Z10_37.out.bl hb)
            have V_41 := Lib.hid (V_37.out.bl hb)
            clear hw hb
            refine wpAnyH_ready (rs := [6]) (by kernel_rfl) (by simp) ?_
            refine AllReadyH.cons rfl (fun K hK => ?_) AllReadyH.nil
            · go_simp
              refine (distances_any k t A6 (revL L).length c6 (revL L) rfl HC6.out HRO.out ht.1 ht.2 _ V_41.out).mono ?_
              rintro e w_42 ⟨F, rfl, hF, hFd, hb⟩
              have FL := Lib.hid hF
              have FD := Lib.hid hFd
              clear hF hFd
              have B_42 := Lib.hid (B_41.out.trans_ hb)
              have Z9_42 := Lib.hid (Z9_41.out.bl hb)
              have Z10_42 := Lib.hid (Z10_41.out.bl hb)
              have V_42 := Lib.hid (V_41.out.bl hb)
              clear hb
              try (go_wp2_with fail)
              refine hK.out _ _ ?_ (fun hHeld => ?_)
              · exact HSH.out _ B_42.out
              clear hK K hHeld
              try simp only [Act.put, List.getElem_toArray, List.getElem_cons_succ, List.getElem_cons_zero, List.setIfInBounds_toArray, List.set_cons_zero, List.set_cons_succ]
              refine wpAnyH_ready (rs := [9]) (by kernel_rfl) (by simp) ?_
              refine AllReadyH.cons rfl (fun K hK => ?_) AllReadyH.nil
              rw [if_pos (by rfl)]
              refine wp_store_mid _ _ _ rfl (w_37.heap.size) 0 (csI E).toArray rfl rfl (by simpa [csI_len, EL.out] using Z9_42.out.there_) (by simpa [csI_len, EL.out] using size24) (csI_one _) ?_
              simp only [Act.put, List.setIfInBounds_toArray, List.set_cons_zero, List.set_cons_succ, List.toList_toArray]
              refine hK.out _ _ ?_ (fun hHeld => ?_)
              · exact HSH.out _ (Bl.setCells_ (w_37.heap.size) LO9.out _ _ _ B_42.out)
              clear hK K hHeld
              try simp only [Act.put, List.getElem_toArray, List.getElem_cons_succ, List.getElem_cons_zero, List.setIfInBounds_toArray, List.set_cons_zero, List.set_cons_succ]
              generalize hw : World.setCells _ _ _ _ = w_43_9
              have B_43_9 := Lib.hid (show Bl W w_43_9 from by rw [← hw]; exact Bl.setCells_ (w_37.heap.size) LO9.out _ _ _ B_42.out)
              have Y9 := Lib.hid (show NumsAt w_43_9 (w_37.heap.size) E from by rw [← hw]; exact NumsAt.stored EL.out Z9_42.out.lt Z9_42.out.there_)
              have Z10_43 := Lib.hid (show NumsAt w_43_9 (w_1.heap.size) (List.replicate 24 0) from by rw [← hw]; exact Z10_42.out.turn (Turn.setCells_ (S := fun i => i = w_37.heap.size) (w_37.heap.size) rfl _ _ _ (Turn.refl _ _)) NE.out)
              clear hw
              refine wpAnyH_ready (rs := [10]) (by kernel_rfl) (by simp) ?_
              refine AllReadyH.cons rfl (fun K hK => ?_) AllReadyH.nil
              rw [if_pos (by rfl)]
              refine wp_store_mid _ _ _ rfl (w_1.heap.size) 0 (csI F).toArray rfl rfl (by simpa [csI_len, FL.out] using Z10_43.out.there_) (by simpa [csI_len, FL.out] using size24) (csI_one _) ?_
              simp only [Act.put, List.setIfInBounds_toArray, List.set_cons_zero, List.set_cons_succ, List.toList_toArray]
              refine hK.out _ _ ?_ (fun hHeld => ?_)
              · exact HSH.out _ (Bl.setCells_ (w_1.heap.size) LO10.out _ _ _ B_43_9.out)
              clear hK K hHeld
              try simp only [Act.put, List.getElem_toArray, List.getElem_cons_succ, List.getElem_cons_zero, List.setIfInBounds_toArray, List.set_cons_zero, List.set_cons_succ]
              generalize hw : World.setCells _ _ _ _ = w_43_10
              have B_43_10 := Lib.hid (show Bl W w_43_10 from by rw [← hw]; exact Bl.setCells_ (w_1.heap.size) LO10.out _ _ _ B_43_9.out)
              have Y10 := Lib.hid (show NumsAt w_43_10 (w_1.heap.size) F from by rw [← hw]; exact NumsAt.stored FL.out Z10_43.out.lt Z10_43.out.there_)
              have Y9' := Lib.hid (show NumsAt w_43_10 (w_37.heap.size) E from by rw [← hw]; exact Y9.out.turn (Turn.setCells_ (S := fun i => i = w_1.heap.size) (w_1.heap.size) rfl _ _ _ (Turn.refl _ _)) NE.out.symm)
              clear hw
              refine wpAnyH_done (by kernel_rfl) ?_ _
              go_wp2_with fail
              go_meet
              exact ⟨w_37.heap.size, w_1.heap.size, E, F, rfl, rfl, Y9'.out, Y10.out, ED.out, FD.out, B_43_10.out⟩
        · go_simp
          refine hK.out _ _ ?_ (fun hHeld => ?_)
          · exact HSH.out _ (Bl.alloc_ B_36.out _)
          clear hK K hHeld
          try simp only [Act.put, List.getElem_toArray, List.getElem_cons_succ, List.getElem_cons_zero, List.setIfInBounds_toArray, List.set_cons_zero, List.set_cons_succ]
          generalize hw : World.alloc _ _ = w_44
          have B_44 := Lib.hid (show Bl W w_44 from by rw [← hw]; exact Bl.alloc_ B_36.out _)
          have hb : Bl w_36 w_44 := by rw [← hw]; exact Bl.alloc_ (Bl.refl _) _
          have Z9_44 := Lib.hid (show NumsAt w_44 (w_36.heap.size) (List.replicate 24 0) from by rw [← hw]; exact nums_new _ _)
          have LO9 := Lib.hid (show W.heap.size ≤ w_36.heap.size from (B_36.out : Bl W _).size)
          have NE := Lib.hid (show w_1.heap.size ≠ w_36.heap.size from Nat.ne_of_lt Z10_36.out.lt)
          have Z10_44 := Lib.hid (Z10_36.out.bl hb)
          clear hw hb
          refine wpAnyH_ready (rs := [4]) (by kernel_rfl) (by simp) ?_
          refine AllReadyH.cons rfl (fun K hK => ?_) AllReadyH.nil
          · go_simp
            refine (implReversed_any k A n c L HN.out _ hm (K1.out.bl (HBW.out.trans_ B_44.out))).mono ?_
            rintro e w_45 ⟨v6, rfl, hv6, hb⟩
            rw [show revN (k : Int) L = (k : Int) from if_pos HO.out]
            rw [show revG (k : Int) L = revL L from if_pos HO.out] at hv6
            have hcap := OwnA.cap' hv6
            obtain ⟨A6, c6, rfl, ha6, -⟩ := hv6.shape
            have V_45 := Lib.hid ha6
            have HC6 := Lib.hid (hcap _ _ _ rfl)
            clear hv6 hcap ha6
            have B_45 := Lib.hid (B_44.out.trans_ hb)
            have Z9_45 := Lib.hid (Z9_44.out.bl hb)
            have Z10_45 := Lib.hid (Z10_44.out.bl hb)
            clear hb
            try (go_wp2_with fail)
            refine hK.out _ _ ?_ (fun hHeld => ?_)
            · exact HSH.out _ B_45.out
            clear hK K hHeld
            try simp only [Act.put, List.getElem_toArray, List.getElem_cons_succ, List.getElem_cons_zero, List.setIfInBounds_toArray, List.set_cons_zero, List.set_cons_succ]
            refine wpAnyH_ready (rs := [6]) (by kernel_rfl) (by simp) ?_
            refine AllReadyH.cons rfl (fun K hK => ?_) AllReadyH.nil
            · go_simp
              refine (distances_any k t A6 (revL L).length c6 (revL L) rfl HC6.out HRO.out ht.1 ht.2 _ V_45.out).mono ?_
              rintro e w_46 ⟨F, rfl, hF, hFd, hb⟩
              have FL := Lib.hid hF
              have FD := Lib.hid hFd
              clear hF hFd
              have B_46 := Lib.hid (B_45.out.trans_ hb)
              have Z9_46 := Lib.hid (Z9_45.out.bl hb)
              have Z10_46 := Lib.hid (Z10_45.out.bl hb)
              have V_46 := Lib.hid (V_45.out.bl hb)
              clear hb
              try (go_wp2_with fail)
              refine hK.out _ _ ?_ (fun hHeld => ?_)
              · exact HSH.out _ B_46.out
              clear hK K hHeld
              try simp only [Act.put, List.getElem_toArray, List.getElem_cons_succ, List.getElem_cons_zero, List.setIfInBounds_toArray, List.set_cons_zero, List.set_cons_succ]
              refine wpAnyH_ready (rs := [9]) (by kernel_rfl) (by simp) ?_
              refine AllReadyH.cons rfl (fun K hK => ?_) AllReadyH.nil
              rw [if_pos (by rfl)]
              refine wp_store_mid _ _ _ rfl (w_36.heap.size) 0 (csI E).toArray rfl rfl (by simpa [csI_len, EL.out] using Z9_46.out.there_) (by simpa [csI_len, EL.out] using size24) (csI_one _) ?_
              simp only [Act.put, List.setIfInBounds_toArray, List.set_cons_zero, List.set_cons_succ, List.toList_toArray]
              refine hK.out _ _ ?_ (fun hHeld => ?_)
              · exact HSH.out _ (Bl.setCells_ (w_36.heap.size) LO9.out _ _ _ B_46.out)
              clear hK K hHeld
              try simp only [Act.put, List.getElem_toArray, List.getElem_cons_succ, List.getElem_cons_zero, List.setIfInBounds_toArray, List.set_cons_zero, List.set_cons_succ]
              generalize hw : World.setCells _ _ _ _ = w_47_9
              have B_47_9 := Lib.hid (show Bl W w_47_9 from by rw [← hw]; exact Bl.setCells_ (w_36.heap.size) LO9.out _ _ _ B_46.out)
              have Y9 := Lib.hid (show NumsAt w_47_9 (w_36.heap.size) E from by rw [← hw]; exact NumsAt.stored EL.out Z9_46.out.lt Z9_46.out.there_)
              have Z10_47 := Lib.hid (show NumsAt w_47_9 (w_1.heap.size) (List.replicate 24 0) from by rw [← hw]; exact Z10_46.out.turn (Turn.setCells_ (S := fun i => i = w_36.heap.size) (w_36.heap.size) rfl _ _ _ (Turn.refl _ _)) NE.out)
              clear hw
              refine wpAnyH_ready (rs := [10]) (by kernel_rfl) (by simp) ?_
              refine AllReadyH.cons rfl (fun K hK => ?_) AllReadyH.nil
              rw [if_pos (by rfl)]
              refine wp_store_mid _ _ _ rfl (w_1.heap.size) 0 (csI F).toArray rfl rfl (by simpa [csI_len, FL.out] using Z10_47.out.there_) (by simpa [csI_len, FL.out] using size24) (csI_one _) ?_
              simp only [Act.put, List.setIfInBounds_toArray, List.set_cons_zero, List.set_cons_succ, List.toList_toArray]
              refine hK.out _ _ ?_ (fun hHeld => ?_)
              · exact HSH.out _ (Bl.setCells_ (w_1.heap.size) LO10.out _ _ _ B_47_9.out)
              clear hK K hHeld
              try simp only [Act.put, List.getElem_toArray, List.getElem_cons_succ, List.getElem_cons_zero, List.setIfInBounds_toArray, List.set_cons_zero, List.set_cons_succ]
              generalize hw : World.setCells _ _ _ _ = w_47_10
              have B_47_10 := Lib.hid (show Bl W w_47_10 from by rw [← hw]; exact Bl.setCells_ (w_1.heap.size) LO10.out _ _ _ B_47_9.out)
              have Y10 := Lib.hid (show NumsAt w_47_10 (w_1.heap.size) F from by rw [← hw]; exact NumsAt.stored FL.out Z10_47.out.lt Z10_47.out.there_)
              have Y9' := Lib.hid (show NumsAt w_47_10 (w_36.heap.size) E from by rw [← hw]; exact Y9.out.turn (Turn.setCells_ (S := fun i => i = w_1.heap.size) (w_1.heap.size) rfl _ _ _ (Turn.refl _ _)) NE.out.symm)
              clear hw
              refine wpAnyH_done (by kernel_rfl) ?_ _
              go_wp2_with fail
              go_meet
              exact ⟨w_36.heap.size, w_1.heap.size, E, F, rfl, rfl, Y9'.out, Y10.out, ED.out, FD.out, B_47_10.out⟩
    · go_simp
      refine hK.out _ _ ?_ (fun hHeld => ?_)
      · exact HSH.out _ (by first | exact Bl.drew_ (Bl.alloc_ (Bl.refl W) _) | exact Bl.alloc_ (Bl.drew_ (Bl.refl W)) _)
      clear hK K hHeld
      try simp only [Act.put, List.getElem_toArray, List.getElem_cons_succ, List.getElem_cons_zero, List.setIfInBounds_toArray, List.set_cons_zero, List.set_cons_succ]
      generalize hw : World.drew (World.alloc _ _) = w_48
      have B_48 := Lib.hid (show Bl W w_48 from by rw [← hw]; exact Bl.drew_ (Bl.alloc_ (Bl.refl W) _))
      have hb : Bl W w_48 := B_48.out
      have Z9_48 := Lib.hid (show NumsAt w_48 (W.heap.size) (List.replicate 24 0) from by rw [← hw]; exact (nums_new W _).bl (Bl.drew_ (Bl.refl _)))
      have LO9 := Lib.hid (show W.heap.size ≤ W.heap.size from ((Bl.drew_ (Bl.refl W)) : Bl W _).size)
      clear hw hb
      refine wpAnyH_ready (rs := [2, 8]) (by kernel_rfl) (by simp) ?_
      refine AllReadyH.cons rfl (fun K hK => ?_) (AllReadyH.cons rfl (fun K hK => ?_) AllReadyH.nil)
      · go_simp
        refine (distances_any k s A n c L HN.out hc HO.out hs.1 hs.2 _ (K1.out.bl (HBW.out.trans_ B_48.out))).mono ?_
        rintro e w_49 ⟨E, rfl, hE, hEd, hb⟩
        have EL := Lib.hid hE
        have ED := Lib.hid hEd
        clear hE hEd
        have B_49 := Lib.hid (B_48.out.trans_ hb)
        have Z9_49 := Lib.hid (Z9_48.out.bl hb)
        clear hb
        try (go_wp2_with fail)
        refine hK.out _ _ ?_ (fun hHeld => ?_)
        · exact HSH.out _ B_49.out
        clear hK K hHeld
        try simp only [Act.put, List.getElem_toArray, List.getElem_cons_succ, List.getElem_cons_zero, List.setIfInBounds_toArray, List.set_cons_zero, List.set_cons_succ]
        refine wpAnyH_ready (rs := [4, 8]) (by kernel_rfl) (by simp) ?_
        refine AllReadyH.cons rfl (fun K hK => ?_) (AllReadyH.cons rfl (fun K hK => ?_) AllReadyH.nil)
        · go_simp
          refine (implReversed_any k A n c L HN.out _ hm (K1.out.bl (HBW.out.trans_ B_49.out))).mono ?_
          rintro e w_50 ⟨v6, rfl, hv6, hb⟩
          rw [show revN (k : Int) L = (k : Int) from if_pos HO.out]
          rw [show revG (k : Int) L = revL L from if_pos HO.out] at hv6
          have hcap := OwnA.cap' hv6
          obtain ⟨A6, c6, rfl, ha6, -⟩ := hv6.shape
          have V_50 := Lib.hid ha6
          have HC6 := Lib.hid (hcap _ _ _ rfl)
          clear hv6 hcap ha6
          have B_50 := Lib.hid (B_49.out.trans_ hb)
          have Z9_50 := Lib.hid (Z9_49.out.bl hb)
          clear hb
          try (go_wp2_with fail)
          refine hK.out _ _ ?_ (fun hHeld => ?_)
          · exact HSH.out _ B_50.out
          clear hK K hHeld
          try simp only [Act.put, List.getElem_toArray, List.getElem_cons_succ, List.getElem_cons_zero, List.setIfInBounds_toArray, List.set_cons_zero, List.set_cons_succ]
          refine wpAnyH_ready (rs := [6, 8]) (by kernel_rfl) (by simp) ?_
          refine AllReadyH.cons rfl (fun K hK => ?_) (AllReadyH.cons rfl (fun K hK => ?_) AllReadyH.nil)
          · go_simp
            refine (distances_any k t A6 (revL L).length c6 (revL L) rfl HC6.out HRO.out ht.1 ht.2 _ V_50.out).mono ?_
            rintro e w_51 ⟨F, rfl, hF, hFd, hb⟩
            have FL := Lib.hid hF
            have FD := Lib.hid hFd
            clear hF hFd
            have B_51 := Lib.hid (B_50.out.trans_ hb)
            have Z9_51 := Lib.hid (Z9_50.out.bl hb)
            have V_51 := Lib.hid (V_50.out.bl hb)
            clear hb
            try (go_wp2_with fail)
            refine hK.out _ _ ?_ (fun hHeld => ?_)
            · exact HSH.out _ B_51.out
            clear hK K hHeld
            try simp only [Act.put, List.getElem_toArray, List.getElem_cons_succ, List.getElem_cons_zero, List.setIfInBounds_toArray, List.set_cons_zero, List.set_cons_succ]
            refine wpAnyH_ready (rs := [8]) (by kernel_rfl) (by simp) ?_
            refine AllReadyH.cons rfl (fun K hK => ?_) AllReadyH.nil
            · go_simp
              refine hK.out _ _ ?_ (fun hHeld => ?_)
              · exact HSH.out _ (Bl.alloc_ B_51.out _)
              clear hK K hHeld
              try simp only [Act.put, List.getElem_toArray, List.getElem_cons_succ, List.getElem_cons_zero, List.setIfInBounds_toArray, List.set_cons_zero, List.set_cons_succ]
              generalize hw : World.alloc _ _ = w_52
              have B_52 := Lib.hid (show Bl W w_52 from by rw [← hw]; exact Bl.alloc_ B_51.out _)
              have hb : Bl w_51 w_52 := by rw [← hw]; exact Bl.alloc_ (Bl.refl _) _
              have Z10_52 := Lib.hid (show NumsAt w_52 (w_51.heap.size) (List.replicate 24 0) from by rw [← hw]; exact nums_new _ _)
              have LO10 := Lib.hid (show W.heap.size ≤ w_51.heap.size from (B_51.out : Bl W _).size)
              have NE := Lib.hid (show W.heap.size ≠ w_51.heap.size from Nat.ne_of_lt Z9_51.out.lt)
              have Z9_52 := Lib.hid (Z9_51.out.bl hb)
              have V_52 := Lib.hid (V_51.out.bl hb)
              clear hw hb
              refine wpAnyH_ready (rs := [9]) (by kernel_rfl) (by simp) ?_
              refine AllReadyH.cons rfl (fun K hK => ?_) AllReadyH.nil
              rw [if_pos (by rfl)]
              refine wp_store_mid _ _ _ rfl (W.heap.size) 0 (csI E).toArray rfl rfl (by simpa [csI_len, EL.out] using Z9_52.out.there_) (by simpa [csI_len, EL.out] using size24) (csI_one _) ?_
              simp only [Act.put, List.setIfInBounds_toArray, List.set_cons_zero, List.set_cons_succ, List.toList_toArray]
              refine hK.out _ _ ?_ (fun hHeld => ?_)
              · exact HSH.out _ (Bl.setCells_ (W.heap.size) LO9.out _ _ _ B_52.out)
              clear hK K hHeld
              try simp only [Act.put, List.getElem_toArray, List.getElem_cons_succ, List.getElem_cons_zero, List.setIfInBounds_toArray, List.set_cons_zero, List.set_cons_succ]
              generalize hw : World.setCells _ _ _ _ = w_53_9
              have B_53_9 := Lib.hid (show Bl W w_53_9 from by rw [← hw]; exact Bl.setCells_ (W.heap.size) LO9.out _ _ _ B_52.out)
              have Y9 := Lib.hid (show NumsAt w_53_9 (W.heap.size) E from by rw [← hw]; exact NumsAt.stored EL.out Z9_52.out.lt Z9_52.out.there_)
              have Z10_53 := Lib.hid (show NumsAt w_53_9 (w_51.heap.size) (List.replicate 24 0) from by rw [← hw]; exact Z10_52.out.turn (Turn.setCells_ (S := fun i => i = W.heap.size) (W.heap.size) rfl _ _ _ (Turn.refl _ _)) NE.out.symm)
              clear hw
              refine wpAnyH_ready (rs := [10]) (by kernel_rfl) (by simp) ?_
              refine AllReadyH.cons rfl (fun K hK => ?_) AllReadyH.nil
              rw [if_pos (by rfl)]
              refine wp_store_mid _ _ _ rfl (w_51.heap.size) 0 (csI F).toArray rfl rfl (by simpa [csI_len, FL.out] using Z10_53.out.there_) (by simpa [csI_len, FL.out] using size24) (csI_one _) ?_
              simp only [Act.put, List.setIfInBounds_toArray, List.set_cons_zero, List.set_cons_succ, List.toList_toArray]
              refine hK.out _ _ ?_ (fun hHeld => ?_)
              · exact HSH.out _ (Bl.setCells_ (w_51.heap.size) LO10.out _ _ _ B_53_9.out)
              clear hK K hHeld
              try simp only [Act.put, List.getElem_toArray, List.getElem_cons_succ, List.getElem_cons_zero, List.setIfInBounds_toArray, List.set_cons_zero, List.set_cons_succ]
              generalize hw : World.setCells _ _ _ _ = w_53_10
              have B_53_10 := Lib.hid (show Bl W w_53_10 from by rw [← hw]; exact Bl.setCells_ (w_51.heap.size) LO10.out _ _ _ B_53_9.out)
              have Y10 := Lib.hid (show NumsAt w_53_10 (w_51.heap.size) F from by rw [← hw]; exact NumsAt.stored FL.out Z10_53.out.lt Z10_53.out.there_)
              have Y9' := Lib.hid (show NumsAt w_53_10 (W.heap.size) E from by rw [← hw]; exact Y9.out.turn (Turn.setCells_ (S := fun i => i = w_51.heap.size) (w_51.heap.size) rfl _ _ _ (Turn.refl _ _)) NE.out)
              clear hw
              refine wpAnyH_done (by kernel_rfl) ?_ _
              go_wp2_with fail
              go_meet
              exact ⟨W.heap.size, w_51.heap.size, E, F, rfl, rfl, Y9'.out, Y10.out, ED.out, FD.out, B_53_10.out⟩
          · go_simp
            refine hK.out _ _ ?_ (fun hHeld => ?_)
            · exact HSH.out _ (Bl.alloc_ B_50.out _)
            clear hK K hHeld
            try simp only [Act.put, List.getElem_toArray, List.getElem_cons_succ, List.getElem_cons_zero, List.setIfInBounds_toArray, List.set_cons_zero, List.set_cons_succ]
            generalize hw : World.alloc _ _ = w_54
            have B_54 := Lib.hid (show Bl W w_54 from by rw [← hw]; exact Bl.alloc_ B_50.out _)
            have hb : Bl w_50 w_54 := by rw [← hw]; exact Bl.alloc_ (Bl.refl _) _
            have Z10_54 := Lib.hid (show NumsAt w_54 (w_50.heap.size) (List.replicate 24 0) from by rw [← hw]; exact nums_new _ _)
            have LO10 := Lib.hid (show W.heap.size ≤ w_50.heap.size from (B_50.out : Bl W _).size)
            have NE := Lib.hid (show W.heap.size ≠ w_50.heap.size from Nat.ne_of_lt Z9_50.out.lt)
            have Z9_54 := Lib.hid (Z9_50.out.bl hb)
            have V_54 := Lib.hid (V_50.out.bl hb)
            clear hw hb
            refine wpAnyH_ready (rs := [6]) (by kernel_rfl) (by simp) ?_
            refine AllReadyH.cons rfl (fun K hK => ?_) AllReadyH.nil
            · go_simp
              refine (distances_any k t A6 (revL L).length c6 (revL L) rfl HC6.out HRO.out ht.1 ht.2 _ V_54.out).mono ?_
              rintro e w_55 ⟨F, rfl, hF, hFd, hb⟩
              have FL := Lib.hid hF
              have FD := Lib.hid hFd
              clear hF hFd
              have B_55 := Lib.hid (B_54.out.trans_ hb)
              have Z9_55 := Lib.hid (Z9_54.out.bl hb)
              have Z10_55 := Lib.hid (Z10_54.out.bl hb)
              have V_55 := Lib.hid (V_54.out.bl hb)
              clear hb
              try (go_wp2_with fail)
              refine hK.out _ _ ?_ (fun hHeld => ?_)
              · exact HSH.out _ B_55.out
              clear hK K hHeld
              try simp only [Act.put, List.getElem_toArray, List.getElem_cons_succ, List.getElem_cons_zero, List.setIfInBounds_toArray, List.set_cons_zero, List.set_cons_succ]
              refine wpAnyH_ready (rs := [9]) (by kernel_rfl) (by simp) ?_
              refine AllReadyH.cons rfl (fun K hK => ?_) AllReadyH.nil
              rw [if_pos (by rfl)]
              refine wp_store_mid _ _ _ rfl (W.heap.size) 0 (csI E).toArray rfl rfl (by simpa [csI_len, EL.out] using Z9_55.out.there_) (by simpa [csI_len, EL.out] using size24) (csI_one _) ?_
              simp only [Act.put, List.setIfInBounds_toArray, List.set_cons_zero, List.set_cons_succ, List.toList_toArray]
              refine hK.out _ _ ?_ (fun hHeld => ?_)
              · exact HSH.out _ (Bl.setCells_ (W.heap.size) LO9.out _ _ _ B_55.out)
              clear hK K hHeld
              try simp only [Act.put, List.getElem_toArray, List.getElem_cons_succ, List.getElem_cons_zero, List.setIfInBounds_toArray, List.set_cons_zero, List.set_cons_succ]
              generalize hw : World.setCells _ _ _ _ = w_56_9
              have B_56_9 := Lib.hid (show Bl W w_56_9 from by rw [← hw]; exact Bl.setCells_ (W.heap.size) LO9.out _ _ _ B_55.out)
              have Y9 := Lib.hid (show NumsAt w_56_9 (W.heap.size) E from by rw [← hw]; exact NumsAt.stored EL.out Z9_55.out.lt Z9_55.out.there_)
              have Z10_56 := Lib.hid (show NumsAt w_56_9 (w_50.heap.size) (List.replicate 24 0) from by rw [← hw]; exact Z10_55.out.turn (Turn.setCells_ (S := fun i => i = W.heap.size) (W.heap.size) rfl _ _ _ (Turn.refl _ _)) NE.out.symm)
              clear hw
              refine wpAnyH_ready (rs := [10]) (by kernel_rfl) (by simp) ?_
              refine AllReadyH.cons rfl (fun K hK => ?_) AllReadyH.nil
              rw [if_pos (by rfl)]
              refine wp_store_mid _ _ _ rfl (w_50.heap.size) 0 (csI F).toArray rfl rfl (by simpa [csI_len, FL.out] using Z10_56.out.there_) (by simpa [csI_len, FL.out] using size24) (csI_one _) ?_
              simp only [Act.put, List.setIfInBounds_toArray, List.set_cons_zero, List.set_cons_succ, List.toList_toArray]
              refine hK.out _ _ ?_ (fun hHeld => ?_)
              · exact HSH.out _ (Bl.setCells_ (w_50.heap.size) LO10.out _ _ _ B_56_9.out)
              clear hK K hHeld
              try simp only [Act.put, List.getElem_toArray, List.getElem_cons_succ, List.getElem_cons_zero, List.setIfInBounds_toArray, List.set_cons_zero, List.set_cons_succ]
              generalize hw : World.setCells _ _ _ _ = w_56_10
              have B_56_10 := Lib.hid (show Bl W w_56_10 from by rw [← hw]; exact Bl.setCells_ (w_50.heap.size) LO10.out _ _ _ B_56_9.out)
              have Y10 := Lib.hid (show NumsAt w_56_10 (w_50.heap.size) F from by rw [← hw]; exact NumsAt.stored FL.out Z10_56.out.lt Z10_56.out.there_)
              have Y9' := Lib.hid (show NumsAt w_56_10 (W.heap.size) E from by rw [← hw]; exact Y9.out.turn (Turn.setCells_ (S := fun i => i = w_50.heap.size) (w_50.heap.size) rfl _ _ _ (Turn.refl _ _)) NE.out)
              clear hw
              refine wpAnyH_done (by kernel_rfl) ?_ _
              go_wp2_with fail
              go_meet
              exact ⟨W.heap.size, w_50.heap.size, E, F, rfl, rfl, Y9'.out, Y10.out, ED.out, FD.out, B_56_10.out⟩
        · go_simp
          refine hK.out _ _ ?_ (fun hHeld => ?_)
          · exact HSH.out _ (Bl.alloc_ B_49.out _)
          clear hK K hHeld
          try simp only [Act.put, List.getElem_toArray, List.getElem_cons_succ, List.getElem_cons_zero, List.setIfInBounds_toArray, List.set_cons_zero, List.set_cons_succ]
          generalize hw : World.alloc _ _ = w_57
          have B_57 := Lib.hid (show Bl W w_57 from by rw [← hw]; exact Bl.alloc_ B_49.out _)
          have hb : Bl w_49 w_57 := by rw [← hw]; exact Bl.alloc_ (Bl.refl _) _
          have Z10_57 := Lib.hid (show NumsAt w_57 (w_49.heap.size) (List.replicate 24 0) from by rw [← hw]; exact nums_new _ _)
          have LO10 := Lib.hid (show W.heap.size ≤ w_49.heap.size from (B_49.out : Bl W _).size)
          have NE := Lib.hid (show W.heap.size ≠ w_49.heap.size from Nat.ne_of_lt Z9_49.out.lt)
          have Z9_57 := Lib.hid (Z9_49.out.bl hb)
          clear hw hb
          refine wpAnyH_ready (rs := [4]) (by kernel_rfl) (by simp) ?_
          refine AllReadyH.cons rfl (fun K hK => ?_) AllReadyH.nil
          · go_simp
            refine (implReversed_any k A n c L HN.out _ hm (K1.out.bl (HBW.out.trans_ B_57.out))).mono ?_
            rintro e w_58 ⟨v6, rfl, hv6, hb⟩
            rw [show revN (k : Int) L = (k : Int) from if_pos HO.out]
            rw [show revG (k : Int) L = revL L from if_pos HO.out] at hv6
            have hcap := OwnA.cap' hv6
            obtain ⟨A6, c6, rfl, ha6, -⟩ := hv6.shape
            have V_58 := Lib.hid ha6
            have HC6 := Lib.hid (hcap _ _ _ rfl)
            clear hv6 hcap ha6
            have B_58 := Lib.hid (B_57.out.trans_ hb)
            have Z9_58 := Lib.hid (Z9_57.out.bl hb)
            have Z10_58 := Lib.hid (Z10_57.out.bl hb)
            clear hb
            try (go_wp2_with fail)
            refine hK.out _ _ ?_ (fun hHeld => ?_)
            · exact HSH.out _ B_58.out
            clear hK K hHeld
            try simp only [Act.put, List.getElem_toArray, List.getElem_cons_succ, List.getElem_cons_zero, List.setIfInBounds_toArray, List.set_cons_zero, List.set_cons_succ]
            refine wpAnyH_ready (rs := [6]) (by kernel_rfl) (by simp) ?_
            refine AllReadyH.cons rfl (fun K hK => ?_) AllReadyH.nil
            · go_simp
              refine (distances_any k t A6 (revL L).length c6 (revL L) rfl HC6.out HRO.out ht.1 ht.2 _ V_58.out).mono ?_
              rintro e w_59 ⟨F, rfl, hF, hFd, hb⟩
              have FL := Lib.hid hF
              have FD := Lib.hid hFd
              clear hF hFd
              have B_59 := Lib.hid (B_58.out.trans_ hb)
              have Z9_59 := Lib.hid (Z9_58.out.bl hb)
              have Z10_59 := Lib.hid (Z10_58.out.bl hb)
              have V_59 := Lib.hid (V_58.out.bl hb)
              clear hb
              try (go_wp2_with fail)
              refine hK.out _ _ ?_ (fun hHeld => ?_)
              · exact HSH.out _ B_59.out
              clear hK K hHeld
              try simp only [Act.put, List.getElem_toArray, List.getElem_cons_succ, List.getElem_cons_zero, List.setIfInBounds_toArray, List.set_cons_zero, List.set_cons_succ]
              refine wpAnyH_ready (rs := [9]) (by kernel_rfl) (by simp) ?_
              refine AllReadyH.cons rfl (fun K hK => ?_) AllReadyH.nil
              rw [if_pos (by rfl)]
              refine wp_store_mid _ _ _ rfl (W.heap.size) 0 (csI E).toArray rfl rfl (by simpa [csI_len, EL.out] using Z9_59.out.there_) (by simpa [csI_len, EL.out] using size24) (csI_one _) ?_
              simp only [Act.put, List.setIfInBounds_toArray, List.set_cons_zero, List.set_cons_succ, List.toList_toArray]
              refine hK.out _ _ ?_ (fun hHeld => ?_)
              · exact HSH.out _ (Bl.setCells_ (W.heap.size) LO9.out _ _ _ B_59.out)
              clear hK K hHeld
              try simp only [Act.put, List.getElem_toArray, List.getElem_cons_succ, List.getElem_cons_zero, List.setIfInBounds_toArray, List.set_cons_zero, List.set_cons_succ]
              generalize hw : World.setCells _ _ _ _ = w_60_9
              have B_60_9 := Lib.hid (show Bl W w_60_9 from by rw [← hw]; exact Bl.setCells_ (W.heap.size) LO9.out _ _ _ B_59.out)
              have Y9 := Lib.hid (show NumsAt w_60_9 (W.heap.size) E from by rw [← hw]; exact NumsAt.stored EL.out Z9_59.out.lt Z9_59.out.there_)
              have Z10_60 := Lib.hid (show NumsAt w_60_9 (w_49.heap.size) (List.replicate 24 0) from by rw [← hw]; exact Z10_59.out.turn (Turn.setCells_ (S := fun i => i = W.heap.size) (W.heap.size) rfl _ _ _ (Turn.refl _ _)) NE.out.symm)
              clear hw
              refine wpAnyH_ready (rs := [10]) (by kernel_rfl) (by simp) ?_
              refine AllReadyH.cons rfl (fun K hK => ?_) AllReadyH.nil
              rw [if_pos (by rfl)]
              refine wp_store_mid _ _ _ rfl (w_49.heap.size) 0 (csI F).toArray rfl rfl (by simpa [csI_len, FL.out] using Z10_60.out.there_) (by simpa [csI_len, FL.out] using size24) (csI_one _) ?_
              simp only [Act.put, List.setIfInBounds_toArray, List.set_cons_zero, List.set_cons_succ, List.toList_toArray]
              refine hK.out _ _ ?_ (fun hHeld => ?_)
              · exact HSH.out _ (Bl.setCells_ (w_49.heap.size) LO10.out _ _ _ B_60_9.out)
              clear hK K hHeld
              try simp only [Act.put, List.getElem_toArray, List.getElem_cons_succ, List.getElem_cons_zero, List.setIfInBounds_toArray, List.set_cons_zero, List.set_cons_succ]
              generalize hw : World.setCells _ _ _ _ = w_60_10
              have B_60_10 := Lib.hid (show Bl W w_60_10 from by rw [← hw]; exact Bl.setCells_ (w_49.heap.size) LO10.out _ _ _ B_60_9.out)
              have Y10 := Lib.hid (show NumsAt w_60_10 (w_49.heap.size) F from by rw [← hw]; exact NumsAt.stored FL.out Z10_60.out.lt Z10_60.out.there_)
              have Y9' := Lib.hid (show NumsAt w_60_10 (W.heap.size) E from by rw [← hw]; exact Y9.out.turn (Turn.setCells_ (S := fun i => i = w_49.heap.size) (w_49.heap.size) rfl _ _ _ (Turn.refl _ _)) NE.out)
              clear hw
              refine wpAnyH_done (by kernel_rfl) ?_ _
              go_wp2_with fail
              go_meet
              exact ⟨W.heap.size, w_49.heap.size, E, F, rfl, rfl, Y9'.out, Y10.out, ED.out, FD.out, B_60_10.out⟩
      · go_simp
        refine hK.out _ _ ?_ (fun hHeld => ?_)
        · exact HSH.out _ (Bl.alloc_ B_48.out _)
        clear hK K hHeld
        try simp only [Act.put, List.getElem_toArray, List.getElem_cons_succ, List.getElem_cons_zero, List.setIfInBounds_toArray, List.set_cons_zero, List.set_cons_succ]
        generalize hw : World.alloc _ _ = w_61
        have B_61 := Lib.hid (show Bl W w_61 from by rw [← hw]; exact Bl.alloc_ B_48.out _)
        have hb : Bl w_48 w_61 := by rw [← hw]; exact Bl.alloc_ (Bl.refl _) _
        have Z10_61 := Lib.hid (show NumsAt w_61 (w_48.heap.size) (List.replicate 24 0) from by rw [← hw]; exact nums_new _ _)
        have LO10 := Lib.hid (show W.heap.size ≤ w_48.heap.size from (B_48.out : Bl W _).size)
        have NE := Lib.hid (show W.heap.size ≠ w_48.heap.size from Nat.ne_of_lt Z9_48.out.lt)
        have Z9_61 := Lib.hid (Z9_48.out.bl hb)
        clear hw hb
        refine wpAnyH_ready (rs := [2]) (by kernel_rfl) (by simp) ?_
        refine AllReadyH.cons rfl (fun K hK => ?_) AllReadyH.nil
        · go_simp
          refine (distances_any k s A n c L HN.out hc HO.out hs.1 hs.2 _ (K1.out.bl (HBW.out.trans_ B_61.out))).mono ?_
          rintro e w_62 ⟨E, rfl, hE, hEd, hb⟩
          have EL := Lib.hid hE
          have ED := Lib.hid hEd
          clear hE hEd
          have B_62 := Lib.hid (B_61.out.trans_ hb)
          have Z9_62 := Lib.hid (Z9_61.out.bl hb)
          have Z10_62 := Lib.hid (Z10_61.out.bl hb)
          clear hb
          try (go_wp2_with fail)
          refine hK.out _ _ ?_ (fun hHeld => ?_)
          · exact HSH.out _ B_62.out
          clear hK K hHeld
          try simp only [Act.put, List.getElem_toArray, List.getElem_cons_succ, List.getElem_cons_zero, List.setIfInBounds_toArray, List.set_cons_zero, List.set_cons_succ]
          refine wpAnyH_ready (rs := [4]) (by kernel_rfl) (by simp) ?_
          refine AllReadyH.cons rfl (fun K hK => ?_) AllReadyH.nil
          · go_simp
            refine (implReversed_any k A n c L HN.out _ hm (K1.out.bl (HBW.out.trans_ B_62.out))).mono ?_
            rintro e w_63 ⟨v6, rfl, hv6, hb⟩
            rw [show revN (k : Int) L = (k : Int) from if_pos HO.out]
            rw [show revG (k : Int) L = revL L from if_pos HO.out] at hv6
            have hcap := OwnA.cap' hv6
            obtain ⟨A6, c6, rfl, ha6, -⟩ := hv6.shape
            have V_63 := Lib.hid ha6
            have HC6 := Lib.hid (hcap _ _ _ rfl)
            clear hv6 hcap ha6
            have B_63 := Lib.hid (B_62.out.trans_ hb)
            have Z9_63 := Lib.hid (Z9_62.out.bl hb)
            have Z10_63 := Lib.hid (Z10_62.out.bl hb)
            clear hb
            try (go_wp2_with fail)
            refine hK.out _ _ ?_ (fun hHeld => ?_)
            · exact HSH.out _ B_63.out
            clear hK K hHeld
            try simp only [Act.put, List.getElem_toArray, List.getElem_cons_succ, List.getElem_cons_zero, List.setIfInBounds_toArray, List.set_cons_zero, List.set_cons_succ]
            refine wpAnyH_ready (rs := [6]) (by kernel_rfl) (by simp) ?_
            refine AllReadyH.cons rfl (fun K hK => ?_) AllReadyH.nil
            · go_simp
              refine (distances_any k t A6 (revL L).length c6 (revL L) rfl HC6.out HRO.out ht.1 ht.2 _ V_63.out).mono ?_
              rintro e w_64 ⟨F, rfl, hF, hFd, hb⟩
              have FL := Lib.hid hF
              have FD := Lib.hid hFd
              clear hF hFd
              have B_64 := Lib.hid (B_63.out.trans_ hb)
              have Z9_64 := Lib.hid (Z9_63.out.bl hb)
              have Z10_64 := Lib.hid (Z10_63.out.bl hb)
              have V_64 := Lib.hid (V_63.out.bl hb)
              clear hb
              try (go_wp2_with fail)
              refine hK.out _ _ ?_ (fun hHeld => ?_)
              · exact HSH.out _ B_64.out
              clear hK K hHeld
              try simp only [Act.put, List.getElem_toArray, List.getElem_cons_succ, List.getElem_cons_zero, List.setIfInBounds_toArray, List.set_cons_zero, List.set_cons_succ]
              refine wpAnyH_ready (rs := [9]) (by kernel_rfl) (by simp) ?_
              refine AllReadyH.cons rfl (fun K hK => ?_) AllReadyH.nil
              rw [if_pos (by rfl)]
              refine wp_store_mid _ _ _ rfl (W.heap.size) 0 (csI E).toArray rfl rfl (by simpa [csI_len, EL.out] using Z9_64.out.there_) (by simpa [csI_len, EL.out] using size24) (csI_one _) ?_
              simp only [Act.put, List.setIfInBounds_toArray, List.set_cons_zero, List.set_cons_succ, List.toList_toArray]
              refine hK.out _ _ ?_ (fun hHeld => ?_)
              · exact HSH.out _ (Bl.setCells_ (W.heap.size) LO9.out _ _ _ B_64.out)
              clear hK K hHeld
              try simp only [Act.put, List.getElem_toArray, List.getElem_cons_succ, List.getElem_cons_zero, List.setIfInBounds_toArray, List.set_cons_zero, List.set_cons_succ]
              generalize hw : World.setCells _ _ _ _ = w_65_9
              have B_65_9 := Lib.hid (show Bl W w_65_9 from by rw [← hw]; exact Bl.setCells_ (W.heap.size) LO9.out _ _ _ B_64.out)
              have Y9 := Lib.hid (show NumsAt w_65_9 (W.heap.size) E from by rw [← hw]; exact NumsAt.stored EL.out Z9_64.out.lt Z9_64.out.there_)
              have Z10_65 := Lib.hid (show NumsAt w_65_9 (w_48.heap.size) (List.replicate 24 0) from by rw [← hw]; exact Z10_64.out.turn (Turn.setCells_ (S := fun i => i = W.heap.size) (W.heap.size) rfl _ _ _ (Turn.refl _ _)) NE.out.symm)
              clear hw
              refine wpAnyH_ready (rs := [10]) (by kernel_rfl) (by simp) ?_
              refine AllReadyH.cons rfl (fun K hK => ?_) AllReadyH.nil
              rw [if_pos (by rfl)]
              refine wp_store_mid _ _ _ rfl (w_48.heap.size) 0 (csI F).toArray rfl rfl (by simpa [csI_len, FL.out] using Z10_65.out.there_) (by simpa [csI_len, FL.out] using size24) (csI_one _) ?_
              simp only [Act.put, List.setIfInBounds_toArray, List.set_cons_zero, List.set_cons_succ, List.toList_toArray]
              refine hK.out _ _ ?_ (fun hHeld => ?_)
              · exact HSH.out _ (Bl.setCells_ (w_48.heap.size) LO10.out _ _ _ B_65_9.out)
              clear hK K hHeld
              try simp only [Act.put, List.getElem_toArray, List.getElem_cons_succ, List.getElem_cons_zero, List.setIfInBounds_toArray, List.set_cons_zero, List.set_cons_succ]
              generalize hw : World.setCells _ _ _ _ = w_65_10
              have B_65_10 := Lib.hid (show Bl W w_65_10 from by rw [← hw]; exact Bl.setCells_ (w_48.heap.size) LO10.out _ _ _ B_65_9.out)
              have Y10 := Lib.hid (show NumsAt w_65_10 (w_48.heap.size) F from by rw [← hw]; exact NumsAt.stored FL.out Z10_65.out.lt Z10_65.out.there_)
              have Y9' := Lib.hid (show NumsAt w_65_10 (W.heap.size) E from by rw [← hw]; exact Y9.out.turn (Turn.setCells_ (S := fun i => i = w_48.heap.size) (w_48.heap.size) rfl _ _ _ (Turn.refl _ _)) NE.out)
              clear hw
              refine wpAnyH_done (by kernel_rfl) ?_ _
              go_wp2_with fail
              go_meet
              exact ⟨W.heap.size, w_48.heap.size, E, F, rfl, rfl, Y9'.out, Y10.out, ED.out, FD.out, B_65_10.out⟩
    · go_simp
      refine hK.out _ _ ?_ (fun hHeld => ?_)
      · exact HSH.out _ (by first | exact Bl.drew_ (Bl.alloc_ (Bl.refl W) _) | exact Bl.alloc_ (Bl.drew_ (Bl.refl W)) _)
      clear hK K hHeld
      try simp only [Act.put, List.getElem_toArray, List.getElem_cons_succ, List.getElem_cons_zero, List.setIfInBounds_toArray, List.set_cons_zero, List.set_cons_succ]
      generalize hw : World.drew (World.alloc _ _) = w_66
      have B_66 := Lib.hid (show Bl W w_66 from by rw [← hw]; exact Bl.drew_ (Bl.alloc_ (Bl.refl W) _))
      have hb : Bl W w_66 := B_66.out
      have Z10_66 := Lib.hid (show NumsAt w_66 (W.heap.size) (List.replicate 24 0) from by rw [← hw]; exact (nums_new W _).bl (Bl.drew_ (Bl.refl _)))
      have LO10 := Lib.hid (show W.heap.size ≤ W.heap.size from ((Bl.drew_ (Bl.refl W)) : Bl W _).size)
      clear hw hb
      refine wpAnyH_ready (rs := [2, 7]) (by kernel_rfl) (by simp) ?_
      refine AllReadyH.cons rfl (fun K hK => ?_) (AllReadyH.cons rfl (fun K hK => ?_) AllReadyH.nil)
      · go_simp
        refine (distances_any k s A n c L HN.out hc HO.out hs.1 hs.2 _ (K1.out.bl (HBW.out.trans_ B_66.out))).mono ?_
        rintro e w_67 ⟨E, rfl, hE, hEd, hb⟩
        have EL := Lib.hid hE
        have ED := Lib.hid hEd
        clear hE hEd
        have B_67 := Lib.hid (B_66.out.trans_ hb)
        have Z10_67 := Lib.hid (Z10_66.out.bl hb)
        clear hb
        try (go_wp2_with fail)
        refine hK.out _ _ ?_ (fun hHeld => ?_)
        · exact HSH.out _ B_67.out
        clear hK K hHeld
        try simp only [Act.put, List.getElem_toArray, List.getElem_cons_succ, List.getElem_cons_zero, List.setIfInBounds_toArray, List.set_cons_zero, List.set_cons_succ]
        refine wpAnyH_ready (rs := [4, 7]) (by kernel_rfl) (by simp) ?_
        refine AllReadyH.cons rfl (fun K hK => ?_) (AllReadyH.cons rfl (fun K hK => ?_) AllReadyH.nil)
        · go_simp
          refine (implReversed_any k A n c L HN.out _ hm (K1.out.bl (HBW.out.trans_ B_67.out))).mono ?_
          rintro e w_68 ⟨v6, rfl, hv6, hb⟩
          rw [show revN (k : Int) L = (k : Int) from if_pos HO.out]
          rw [show revG (k : Int) L = revL L from if_pos HO.out] at hv6
          have hcap := OwnA.cap' hv6
          obtain ⟨A6, c6, rfl, ha6, -⟩ := hv6.shape
          have V_68 := Lib.hid ha6
          have HC6 := Lib.hid (hcap _ _ _ rfl)
          clear hv6 hcap ha6
          have B_68 := Lib.hid (B_67.out.trans_ hb)
          have Z10_68 := Lib.hid (Z10_67.out.bl hb)
          clear hb
          try (go_wp2_with fail)
          refine hK.out _ _ ?_ (fun hHeld => ?_)
          · exact HSH.out _ B_68.out
          clear hK K hHeld
          try simp only [Act.put, List.getElem_toArray, List.getElem_cons_succ, List.getElem_cons_zero, List.setIfInBounds_toArray, List.set_cons_zero, List.set_cons_succ]
          refine wpAnyH_ready (rs := [6, 7]) (by kernel_rfl) (by simp) ?_
          refine AllReadyH.cons rfl (fun K hK => ?_) (AllReadyH.cons rfl (fun K hK => ?_) AllReadyH.nil)
          · go_simp
            refine (distances_any k t A6 (revL L).length c6 (revL L) rfl HC6.out HRO.out ht.1 ht.2 _ V_68.out).mono ?_
            rintro e w_69 ⟨F, rfl, hF, hFd, hb⟩
            have FL := Lib.hid hF
            have FD := Lib.hid hFd
            clear hF hFd
            have B_69 := Lib.hid (B_68.out.trans_ hb)
            have Z10_69 := Lib.hid (Z10_68.out.bl hb)
            have V_69 := Lib.hid (V_68.out.bl hb)
            clear hb
            try (go_wp2_with fail)
            refine hK.out _ _ ?_ (fun hHeld => ?_)
            · exact HSH.out _ B_69.out
            clear hK K hHeld
            try simp only [Act.put, List.getElem_toArray, List.getElem_cons_succ, List.getElem_cons_zero, List.setIfInBounds_toArray, List.set_cons_zero, List.set_cons_succ]
            refine wpAnyH_ready (rs := [7]) (by kernel_rfl) (by simp) ?_
            refine AllReadyH.cons rfl (fun K hK => ?_) AllReadyH.nil
            · go_simp
              refine hK.out _ _ ?_ (fun hHeld => ?_)
              · exact HSH.out _ (Bl.alloc_ B_69.out _)
              clear hK K hHeld
              try simp only [Act.put, List.getElem_toArray, List.getElem_cons_succ, List.getElem_cons_zero, List.setIfInBounds_toArray, List.set_cons_zero, List.set_cons_succ]
              generalize hw : World.alloc _ _ = w_70
              have B_70 := Lib.hid (show Bl W w_70 from by rw [← hw]; exact Bl.alloc_ B_69.out _)
              have hb : Bl w_69 w_70 := by rw [← hw]; exact Bl.alloc_ (Bl.refl _) _
              have Z9_70 := Lib.hid (show NumsAt w_70 (w_69.heap.size) (List.replicate 24 0) from by rw [← hw]; exact nums_new _ _)
              have LO9 := Lib.hid (show W.heap.size ≤ w_69.heap.size from (B_69.out : Bl W _).size)
              have NE := Lib.hid (show W.heap.size ≠ w_69.heap.size from Nat.ne_of_lt Z10_69.out.lt)
              have Z10_70 := Lib.hid (Z10_69.out.bl hb)
              have V_70 := Lib.hid (V_69.out.bl hb)
              clear hw hb
              refine wpAnyH_ready (rs := [9]) (by kernel_rfl) (by simp) ?_
              refine AllReadyH.cons rfl (fun K hK => ?_) AllReadyH.nil
              rw [if_pos (by rfl)]
              refine wp_store_mid _ _ _ rfl (w_69.heap.size) 0 (csI E).toArray rfl rfl (by simpa [csI_len, EL.out] using Z9_70.out.there_) (by simpa [csI_len, EL.out] using size24) (csI_one _) ?_
              simp only [Act.put, List.setIfInBounds_toArray, List.set_cons_zero, List.set_cons_succ, List.toList_toArray]
              refine hK.out _ _ ?_ (fun hHeld => ?_)
              · exact HSH.out _ (Bl.setCells_ (w_69.heap.size) LO9.out _ _ _ B_70.out)
              clear hK K hHeld
              try simp only [Act.put, List.getElem_toArray, List.getElem_cons_succ, List.getElem_cons_zero, List.setIfInBounds_toArray, List.set_cons_zero, List.set_cons_succ]
              generalize hw : World.setCells _ _ _ _ = w_71_9
              have B_71_9 := Lib.hid (show Bl W w_71_9 from by rw [← hw]; exact Bl.setCells_ (w_69.heap.size) LO9.out _ _ _ B_70.out)
              have Y9 := Lib.hid (show NumsAt w_71_9 (w_69.heap.size) E from by rw [← hw]; exact NumsAt.stored EL.out Z9_70.out.lt Z9_70.out.there_)
              have Z10_71 := Lib.hid (show NumsAt w_71_9 (W.heap.size) (List.replicate 24 0) from by rw [← hw]; exact Z10_70.out.turn (Turn.setCells_ (S := fun i => i = w_69.heap.size) (w_69.heap.size) rfl _ _ _ (Turn.refl _ _)) NE.out)
              clear hw
              refine wpAnyH_ready (rs := [10]) (by kernel_rfl) (by simp) ?_
              refine AllReadyH.cons rfl (fun K hK => ?_) AllReadyH.nil
              rw [if_pos (by rfl)]
              refine wp_store_mid _ _ _ rfl (W.heap.size) 0 (csI F).toArray rfl rfl (by simpa [csI_len, FL.out] using Z10_71.out.there_) (by simpa [csI_len, FL.out] using size24) (csI_one _) ?_
              simp only [Act.put, List.setIfInBounds_toArray, List.set_cons_zero, List.set_cons_succ, List.toList_toArray]
              refine hK.out _ _ ?_ (fun hHeld => ?_)
              · exact HSH.out _ (Bl.setCells_ (W.heap.size) LO10.out _ _ _ B_71_9.out)
              clear hK K hHeld
              try simp only [Act.put, List.getElem_toArray, List.getElem_cons_succ, List.getElem_cons_zero, List.setIfInBounds_toArray, List.set_cons_zero, List.set_cons_succ]
              generalize hw : World.setCells _ _ _ _ = w_71_10
              have B_71_10 := Lib.hid (show Bl W w_71_10 from by rw [← hw]; exact Bl.setCells_ (W.heap.size) LO10.out _ _ _ B_71_9.out)
              have Y10 := Lib.hid (show NumsAt w_71_10 (W.heap.size) F from by rw [← hw]; exact NumsAt.stored FL.out Z10_71.out.lt Z10_71.out.there_)
              have Y9' := Lib.hid (show NumsAt w_71_10 (w_69.heap.size) E from by rw [← hw]; exact Y9.out.turn (Turn.setCells_ (S := fun i => i = W.heap.size) (W.heap.size) rfl _ _ _ (Turn.refl _ _)) NE.out.symm)
              clear hw
              refine wpAnyH_done (by kernel_rfl) ?_ _
              go_wp2_with fail
              go_meet
              exact ⟨w_69.heap.size, W.heap.size, E, F, rfl, rfl, Y9'.out, Y10.out, ED.out, FD.out, B_71_10.out⟩
          · go_simp
            refine hK.out _ _ ?_ (fun hHeld => ?_)
            · exact HSH.out _ (Bl.alloc_ B_68.out _)
            clear hK K hHeld
            try simp only [Act.put, List.getElem_toArray, List.getElem_cons_succ, List.getElem_cons_zero, List.setIfInBounds_toArray, List.set_cons_zero, List.set_cons_succ]
            generalize hw : World.alloc _ _ = w_72
            have B_72 := Lib.hid (show Bl W w_72 from by rw [← hw]; exact Bl.alloc_ B_68.out _)
            have hb : Bl w_68 w_72 := by rw [← hw]; exact Bl.alloc_ (Bl.refl _) _
            have Z9_72 := Lib.hid (show NumsAt w_72 (w_68.heap.size) (List.replicate 24 0) from by rw [← hw]; exact nums_new _ _)
            have LO9 := Lib.hid (show W.heap.size ≤ w_68.heap.size from (B_68.out : Bl W _).size)
            have NE := Lib.hid (show W.heap.size ≠ w_68.heap.size from Nat.ne_of_lt Z10_68.out.lt)
            have Z10_72 := Lib.hid (Z10_68.out.bl hb)
            have V_72 := Lib.hid (V_68.out.bl hb)
            clear hw hb
            refine wpAnyH_ready (rs := [6]) (by kernel_rfl) (by simp) ?_
            refine AllReadyH.cons rfl (fun K hK => ?_) AllReadyH.nil
            · go_simp
              refine (distances_any k t A6 (revL L).length c6 (revL L) rfl HC6.out HRO.out ht.1 ht.2 _ V_72.out).mono ?_
              rintro e w_73 ⟨F, rfl, hF, hFd, hb⟩
              have FL := Lib.hid hF
              have FD := Lib.hid hFd
              clear hF hFd
              have B_73 := Lib.hid (B_72.out.trans_ hb)
              have Z9_73 := Lib.hid (Z9_72.out.bl hb)
              have Z10_73 := Lib.hid (Z10_72.out.bl hb)
              have V_73 := Lib.hid (V_72.out.bl hb)
              clear hb
              try (go_wp2_with fail)
              refine hK.out _ _ ?_ (fun hHeld => ?_)
              · exact HSH.out _ B_73.out
              clear hK K hHeld
              try simp only [Act.put, List.getElem_toArray, List.getElem_cons_succ, List.getElem_cons_zero, List.setIfInBounds_toArray, List.set_cons_zero, List.set_cons_succ]
              refine wpAnyH_ready (rs := [9]) (by kernel_rfl) (by simp) ?_
              refine AllReadyH.cons rfl (fun K hK => ?_) AllReadyH.nil
              rw [if_pos (by rfl)]
              refine wp_store_mid _ _ _ rfl (w_68.heap.size) 0 (csI E).toArray rfl rfl (by simpa [csI_len, EL.out] using Z9_73.out.there_) (by simpa [csI_len, EL.out] using size24) (csI_one _) ?_
              simp only [Act.put, List.setIfInBounds_toArray, List.set_cons_zero, List.set_cons_succ, List.toList_toArray]
              refine hK.out _ _ ?_ (fun hHeld => ?_)
              · exact HSH.out _ (Bl.setCells_ (w_68.heap.size) LO9.out _ _ _ B_73.out)
              clear hK K hHeld
              try simp only [Act.put, List.getElem_toArray, List.getElem_cons_succ, List.getElem_cons_zero, List.setIfInBounds_toArray, List.set_cons_zero, List.set_cons_succ]
              generalize hw : World.setCells _ _ _ _ = w_74_9
              have B_74_9 := Lib.hid (show Bl W w_74_9 from by rw [← hw]; exact Bl.setCells_ (w_68.heap.size) LO9.out _ _ _ B_73.out)
              have Y9 := Lib.hid (show NumsAt w_74_9 (w_68.heap.size) E from by rw [← hw]; exact NumsAt.stored EL.out Z9_73.out.lt Z9_73.out.there_)
              have Z10_74 := Lib.hid (show NumsAt w_74_9 (W.heap.size) (List.replicate 24 0) from by rw [← hw]; exact Z10_73.out.turn (Turn.setCells_ (S := fun i => i = w_68.heap.size) (w_68.heap.size) rfl _ _ _ (Turn.refl _ _)) NE.out)
              clear hw
              refine wpAnyH_ready (rs := [10]) (by kernel_rfl) (by simp) ?_
              refine AllReadyH.cons rfl (fun K hK => ?_) AllReadyH.nil
              rw [if_pos (by rfl)]
              refine wp_store_mid _ _ _ rfl (W.heap.size) 0 (csI F).toArray rfl rfl (by simpa [csI_len, FL.out] using Z10_74.out.there_) (by simpa [csI_len, FL.out] using size24) (csI_one _) ?_
              simp only [Act.put, List.setIfInBounds_toArray, List.set_cons_zero, List.set_cons_succ, List.toList_toArray]
              refine hK.out _ _ ?_ (fun hHeld => ?_)
              · exact HSH.out _ (Bl.setCells_ (W.heap.size) LO10.out _ _ _ B_74_9.out)
              clear hK K hHeld
              try simp only [Act.put, List.getElem_toArray, List.getElem_cons_succ, List.getElem_cons_zero, List.setIfInBounds_toArray, List.set_cons_zero, List.set_cons_succ]
              generalize hw : World.setCells _ _ _ _ = w_74_10
              have B_74_10 := Lib.hid (show Bl W w_74_10 from by rw [← hw]; exact Bl.setCells_ (W.heap.size) LO10.out _ _ _ B_74_9.out)
              have Y10 := Lib.hid (show NumsAt w_74_10 (W.heap.size) F from by rw [← hw]; exact NumsAt.stored FL.out Z10_74.out.lt Z10_74.out.there_)
              have Y9' := Lib.hid (show NumsAt w_74_10 (w_68.heap.size) E from by rw [← hw]; exact Y9.out.turn (Turn.setCells_ (S := fun i => i = W.heap.size) (W.heap.size) rfl _ _ _ (Turn.refl _ _)) NE.out.symm)
              clear hw
              refine wpAnyH_done (by kernel_rfl) ?_ _
              go_wp2_with fail
              go_meet
              exact ⟨w_68.heap.size, W.heap.size, E, F, rfl, rfl, Y9'.out, Y10.out, ED.out, FD.out, B_74_10.out⟩
        · go_simp
          refine hK.out _ _ ?_ (fun hHeld => ?_)
          · exact HSH.out _ (Bl.alloc_ B_67.out _)
          clear hK K hHeld
          try simp only [Act.put, List.getElem_toArray, List.getElem_cons_succ, List.getElem_cons_zero, List.setIfInBounds_toArray, List.set_cons_zero, List.set_cons_succ]
          generalize hw : World.alloc _ _ = w_75
          have B_75 := Lib.hid (show Bl W w_75 from by rw [← hw]; exact Bl.alloc_ B_67.out _)
          have hb : Bl w_67 w_75 := by rw [← hw]; exact Bl.alloc_ (Bl.refl _) _
          have Z9_75 := Lib.hid (show NumsAt w_75 (w_67.heap.size) (List.replicate 24 0) from by rw [← hw]; exact nums_new _ _)
          have LO9 := Lib.hid (show W.heap.size ≤ w_67.heap.size from (B_67.out : Bl W _).size)
          have NE := Lib.hid (show W.heap.size ≠ w_67.heap.size from Nat.ne_of_lt Z10_67.out.lt)
          have Z10_75 := Lib.hid (Z10_67.out.bl hb)
          clear hw hb
          refine wpAnyH_ready (rs := [4]) (by kernel_rfl) (by simp) ?_
          refine AllReadyH.cons rfl (fun K hK => ?_) AllReadyH.nil
          · go_simp
            refine (implReversed_any k A n c L HN.out _ hm (K1.out.bl (HBW.out.trans_ B_75.out))).mono ?_
            rintro e w_76 ⟨v6, rfl, hv6, hb⟩
            rw [show revN (k : Int) L = (k : Int) from if_pos HO.out]
            rw [show revG (k : Int) L = revL L from if_pos HO.out] at hv6
            have hcap := OwnA.cap' hv6
            obtain ⟨A6, c6, rfl, ha6, -⟩ := hv6.shape
            have V_76 := Lib.hid ha6
            have HC6 := Lib.hid (hcap _ _ _ rfl)
            clear hv6 hcap ha6
            have B_76 := Lib.hid (B_75.out.trans_ hb)
            have Z9_76 := Lib.hid (Z9_75.out.bl hb)
            have Z10_76 := Lib.hid (Z10_75.out.bl hb)
            clear hb
            try (go_wp2_with fail)
            refine hK.out _ _ ?_ (fun hHeld => ?_)
            · exact HSH.out _ B_76.out
            clear hK K hHeld
            try simp only [Act.put, List.getElem_toArray, List.getElem_cons_succ, List.getElem_cons_zero, List.setIfInBounds_toArray, List.set_cons_zero, List.set_cons_succ]
            refine wpAnyH_ready (rs := [6]) (by kernel_rfl) (by simp) ?_
            refine AllReadyH.cons rfl (fun K hK => ?_) AllReadyH.nil
            · go_simp
              refine (distances_any k t A6 (revL L).length c6 (revL L) rfl HC6.out HRO.out ht.1 ht.2 _ V_76.out).mono ?_
              rintro e w_77 ⟨F, rfl, hF, hFd, hb⟩
              have FL := Lib.hid hF
              have FD := Lib.hid hFd
              clear hF hFd
              have B_77 := Lib.hid (B_76.out.trans_ hb)
              have Z9_77 := Lib.hid (Z9_76.out.bl hb)
              have Z10_77 := Lib.hid (Z10_76.out.bl hb)
              have V_77 := Lib.hid (V_76.out.bl hb)
              clear hb
              try (go_wp2_with fail)
              refine hK.out _ _ ?_ (fun hHeld => ?_)
              · exact HSH.out _ B_77.out
              clear hK K hHeld
              try simp only [Act.put, List.getElem_toArray, List.getElem_cons_succ, List.getElem_cons_zero, List.setIfInBounds_toArray, List.set_cons_zero, List.set_cons_succ]
              refine wpAnyH_ready (rs := [9]) (by kernel_rfl) (by simp) ?_
              refine AllReadyH.cons rfl (fun K hK => ?_) AllReadyH.nil
              rw [if_pos (by rfl)]
              refine wp_store_mid _ _ _ rfl (w_67.heap.size) 0 (csI E).toArray rfl rfl (by simpa [csI_len, EL.out] using Z9_77.out.there_) (by simpa [csI_len, EL.out] using size24) (csI_one _) ?_
              simp only [Act.put, List.setIfInBounds_toArray, List.set_cons_zero, List.set_cons_succ, List.toList_toArray]
              refine hK.out _ _ ?_ (fun hHeld => ?_)
              · exact HSH.out _ (Bl.setCells_ (w_67.heap.size) LO9.out _ _ _ B_77.out)
              clear hK K hHeld
              try simp only [Act.put, List.getElem_toArray, List.getElem_cons_succ, List.getElem_cons_zero, List.setIfInBounds_toArray, List.set_cons_zero, List.set_cons_succ]
              generalize hw : World.setCells _ _ _ _ = w_78_9
              have B_78_9 := Lib.hid (show Bl W w_78_9 from by rw [← hw]; exact Bl.setCells_ (w_67.heap.size) LO9.out _ _ _ B_77.out)
              have Y9 := Lib.hid (show NumsAt w_78_9 (w_67.heap.size) E from by rw [← hw]; exact NumsAt.stored EL.out Z9_77.out.lt Z9_77.out.there_)
              have Z10_78 := Lib.hid (show NumsAt w_78_9 (W.heap.size) (List.replicate 24 0) from by rw [← hw]; exact Z10_77.out.turn (Turn.setCells_ (S := fun i => i = w_67.heap.size) (w_67.heap.size) rfl _ _ _ (Turn.refl _ _)) NE.out)
              clear hw
              refine wpAnyH_ready (rs := [10]) (by kernel_rfl) (by simp) ?_
              refine AllReadyH.cons rfl (fun K hK => ?_) AllReadyH.nil
              rw [if_pos (by rfl)]
              refine wp_store_mid _ _ _ rfl (W.heap.size) 0 (csI F).toArray rfl rfl (by simpa [csI_len, FL.out] using Z10_78.out.there_) (by simpa [csI_len, FL.out] using size24) (csI_one _) ?_
              simp only [Act.put, List.setIfInBounds_toArray, List.set_cons_zero, List.set_cons_succ, List.toList_toArray]
              refine hK.out _ _ ?_ (fun hHeld => ?_)
              · exact HSH.out _ (Bl.setCells_ (W.heap.size) LO10.out _ _ _ B_78_9.out)
              clear hK K hHeld
              try simp only [Act.put, List.getElem_toArray, List.getElem_cons_succ, List.getElem_cons_zero, List.setIfInBounds_toArray, List.set_cons_zero, List.set_cons_succ]
              generalize hw : World.setCells _ _ _ _ = w_78_10
              have B_78_10 := Lib.hid (show Bl W w_78_10 from by rw [← hw]; exact Bl.setCells_ (W.heap.size) LO10.out _ _ _ B_78_9.out)
              have Y10 := Lib.hid (show NumsAt w_78_10 (W.heap.size) F from by rw [← hw]; exact NumsAt.stored FL.out Z10_78.out.lt Z10_78.out.there_)
              have Y9' := Lib.hid (show NumsAt w_78_10 (w_67.heap.size) E from by rw [← hw]; exact Y9.out.turn (Turn.setCells_ (S := fun i => i = W.heap.size) (W.heap.size) rfl _ _ _ (Turn.refl _ _)) NE.out.symm)
              clear hw
              refine wpAnyH_done (by kernel_rfl) ?_ _
              go_wp2_with fail
              go_meet
              exact ⟨w_67.heap.size, W.heap.size, E, F, rfl, rfl, Y9'.out, Y10.out, ED.out, FD.out, B_78_10.out⟩
      · go_simp
        refine hK.out _ _ ?_ (fun hHeld => ?_)
        · exact HSH.out _ (Bl.alloc_ B_66.out _)
        clear hK K hHeld
        try simp only [Act.put, List.getElem_toArray, List.getElem_cons_succ, List.getElem_cons_zero, List.setIfInBounds_toArray, List.set_cons_zero, List.set_cons_succ]
        generalize hw : World.alloc _ _ = w_79
        have B_79 := Lib.hid (show Bl W w_79 from by rw [← hw]; exact Bl.alloc_ B_66.out _)
        have hb : Bl w_66 w_79 := by rw [← hw]; exact Bl.alloc_ (Bl.refl _) _
        have Z9_79 := Lib.hid (show NumsAt w_79 (w_66.heap.size) (List.replicate 24 0) from by rw [← hw]; exact nums_new _ _)
        have LO9 := Lib.hid (show W.heap.size ≤ w_66.heap.size from (B_66.out : Bl W _).size)
        have NE := Lib.hid (show W.heap.size ≠ w_66.heap.size from Nat.ne_of_lt Z10_66.out.lt)
        have Z10_79 := Lib.hid (Z10_66.out.bl hb)
        clear hw hb
        refine wpAnyH_ready (rs := [2]) (by kernel_rfl) (by simp) ?_
        refine AllReadyH.cons rfl (fun K hK => ?_) AllReadyH.nil
        · go_simp
          refine (distances_any k s A n c L HN.out hc HO.out hs.1 hs.2 _ (K1.out.bl (HBW.out.trans_ B_79.out))).mono ?_
          rintro e w_80 ⟨E, rfl, hE, hEd, hb⟩
          have EL := Lib.hid hE
          have ED := Lib.hid hEd
          clear hE hEd
          have B_80 := Lib.hid (B_79.out.trans_ hb)
          have Z9_80 := Lib.hid (Z9_79.out.bl hb)
          have Z10_80 := Lib.hid (Z10_79.out.bl hb)
          clear hb
          try (go_wp2_with fail)
          refine hK.out _ _ ?_ (fun hHeld => ?_)
          · exact HSH.out _ B_80.out
          clear hK K hHeld
          try simp only [Act.put, List.getElem_toArray, List.getElem_cons_succ, List.getElem_cons_zero, List.setIfInBounds_toArray, List.set_cons_zero, List.set_cons_succ]
          refine wpAnyH_ready (rs := [4]) (by kernel_rfl) (by simp) ?_
          refine AllReadyH.cons rfl (fun K hK => ?_) AllReadyH.nil
          · go_simp
            refine (implReversed_any k A n c L HN.out _ hm (K1.out.bl (HBW.out.trans_ B_80.out))).mono ?_
            rintro e w_81 ⟨v6, rfl, hv6, hb⟩
            rw [show revN (k : Int) L = (k : Int) from if_pos HO.out]
            rw [show revG (k : Int) L = revL L from if_pos HO.out] at hv6
            have hcap := OwnA.cap' hv6
            obtain ⟨A6, c6, rfl, ha6, -⟩ := hv6.shape
            have V_81 := Lib.hid ha6
            have HC6 := Lib.hid (hcap _ _ _ rfl)
            clear hv6 hcap ha6
            have B_81 := Lib.hid (B_80.out.trans_ hb)
            have Z9_81 := Lib.hid (Z9_80.out.bl hb)
            have Z10_81 := Lib.hid (Z10_80.out.bl hb)
            clear hb
            try (go_wp2_with fail)
            refine hK.out _ _ ?_ (fun hHeld => ?_)
            · exact HSH.out _ B_81.out
            clear hK K hHeld
            try simp only [Act.put, List.getElem_toArray, List.getElem_cons_succ, List.getElem_cons_zero, List.setIfInBounds_toArray, List.set_cons_zero, List.set_cons_succ]
            refine wpAnyH_ready (rs := [6]) (by kernel_rfl) (by simp) ?_
            refine AllReadyH.cons rfl (fun K hK => ?_) AllReadyH.nil
            · go_simp
              refine (distances_any k t A6 (revL L).length c6 (revL L) rfl HC6.out HRO.out ht.1 ht.2 _ V_81.out).mono ?_
              rintro e w_82 ⟨F, rfl, hF, hFd, hb⟩
              have FL := Lib.hid hF
              have FD := Lib.hid hFd
              clear hF hFd
              have B_82 := Lib.hid (B_81.out.trans_ hb)
              have Z9_82 := Lib.hid (Z9_81.out.bl hb)
              have Z10_82 := Lib.hid (Z10_81.out.bl hb)
              have V_82 := Lib.hid (V_81.out.bl hb)
              clear hb
              try (go_wp2_with fail)
              refine hK.out _ _ ?_ (fun hHeld => ?_)
              · exact HSH.out _ B_82.out
              clear hK K hHeld
              try simp only [Act.put, List.getElem_toArray, List.getElem_cons_succ, List.getElem_cons_zero, List.setIfInBounds_toArray, List.set_cons_zero, List.set_cons_succ]
              refine wpAnyH_ready (rs := [9]) (by kernel_rfl) (by simp) ?_
              refine AllReadyH.cons rfl (fun K hK => ?_) AllReadyH.nil
              rw [if_pos (by rfl)]
              refine wp_store_mid _ _ _ rfl (w_66.heap.size) 0 (csI E).toArray rfl rfl (by simpa [csI_len, EL.out] using Z9_82.out.there_) (by simpa [csI_len, EL.out] using size24) (csI_one _) ?_
              simp only [Act.put, List.setIfInBounds_toArray, List.set_cons_zero, List.set_cons_succ, List.toList_toArray]
              refine hK.out _ _ ?_ (fun hHeld => ?_)
              · exact HSH.out _ (Bl.setCells_ (w_66.heap.size) LO9.out _ _ _ B_82.out)
              clear hK K hHeld
              try simp only [Act.put, List.getElem_toArray, List.getElem_cons_succ, List.getElem_cons_zero, List.setIfInBounds_toArray, List.set_cons_zero, List.set_cons_succ]
              generalize hw : World.setCells _ _ _ _ = w_83_9
              have B_83_9 := Lib.hid (show Bl W w_83_9 from by rw [← hw]; exact Bl.setCells_ (w_66.heap.size) LO9.out _ _ _ B_82.out)
              have Y9 := Lib.hid (show NumsAt w_83_9 (w_66.heap.size) E from by rw [← hw]; exact NumsAt.stored EL.out Z9_82.out.lt Z9_82.out.there_)
              have Z10_83 := Lib.hid (show NumsAt w_83_9 (W.heap.size) (List.replicate 24 0) from by rw [← hw]; exact Z10_82.out.turn (Turn.setCells_ (S := fun i => i = w_66.heap.size) (w_66.heap.size) rfl _ _ _ (Turn.refl _ _)) NE.out)
              clear hw
              refine wpAnyH_ready (rs := [10]) (by kernel_rfl) (by simp) ?_
              refine AllReadyH.cons rfl (fun K hK => ?_) AllReadyH.nil
              rw [if_pos (by rfl)]
              refine wp_store_mid _ _ _ rfl (W.heap.size) 0 (csI F).toArray rfl rfl (by simpa [csI_len, FL.out] using Z10_83.out.there_) (by simpa [csI_len, FL.out] using size24) (csI_one _) ?_
              simp only [Act.put, List.setIfInBounds_toArray, List.set_cons_zero, List.set_cons_succ, List.toList_toArray]
              refine hK.out _ _ ?_ (fun hHeld => ?_)
              · exact HSH.out _ (Bl.setCells_ (W.heap.size) LO10.out _ _ _ B_83_9.out)
              clear hK K hHeld
              try simp only [Act.put, List.getElem_toArray, List.getElem_cons_succ, List.getElem_cons_zero, List.setIfInBounds_toArray, List.set_cons_zero, List.set_cons_succ]
              generalize hw : World.setCells _ _ _ _ = w_83_10
              have B_83_10 := Lib.hid (show Bl W w_83_10 from by rw [← hw]; exact Bl.setCells_ (W.heap.size) LO10.out _ _ _ B_83_9.out)
              have Y10 := Lib.hid (show NumsAt w_83_10 (W.heap.size) F from by rw [← hw]; exact NumsAt.stored FL.out Z10_83.out.lt Z10_83.out.there_)
              have Y9' := Lib.hid (show NumsAt w_83_10 (w_66.heap.size) E from by rw [← hw]; exact Y9.out.turn (Turn.setCells_ (S := fun i => i = W.heap.size) (W.heap.size) rfl _ _ _ (Turn.refl _ _)) NE.out.symm)
              clear hw
              refine wpAnyH_done (by kernel_rfl) ?_ _
              go_wp2_with fail
              go_meet
              exact ⟨w_66.heap.size, W.heap.size, E, F, rfl, rfl, Y9'.out, Y10.out, ED.out, FD.out, B_83_10.out⟩
  case rest =>
    obtain ⟨b9, b10, E, F, rfl, rfl, h9, h10, hEd, hFd, hbc⟩ := hcut
    rw [Int.toNat_natCast] at hEd hFd
    have HDT := Lib.hid (fun v => distL_top (s := s) HO.out hs.1 hs.2 v)
    have HET := Lib.hid (fun v => distL_top (s := t) HRO.out ht.1 ht.2 v)
    have hDl : (distL k L s).length = k := by have := distL_len HO.out hs.1 hs.2; simpa using this
    have hTl : (distL k (revL L) t).length = k := by have := distL_len HRO.out ht.1 ht.2; simpa using this
    have HV := Lib.hid (show withinL (k : Int) L s t m = withinK (distL k L s) (distL k (revL L) t) m k from by unfold withinL; rw [← withinK_all]; simp)
    generalize distL k L s = D at *
    generalize distL k (revL L) t = T at *
    obtain ⟨q0, q1⟩ := HSH.out _ hbc
    have H9 := Lib.hid h9
    have H10 := Lib.hid h10
    have HBC := Lib.hid hbc
    have HE := Lib.hid hEd
    have HF := Lib.hid hFd
    have hl9 := h9.len
    have hl10 := h10.len
    have hk24 : k ≤ 24 := by omega
    clear h9 h10 hbc hEd hFd
    go_wp2_with fail
    go_loopw [11, 22] (fun vv i wr => ∃ (j : Nat) (v : Value), j ≤ k ∧ v = vv ∧ i = .int .i64 j ∧ OwnN wr wc.heap.size v (withinK D T m j) ∧ Bl wc wr) (fun _ i _ => k - (intOf i).toNat)
    case atStart => exact ⟨0, _, by omega, rfl, rfl, by rw [withinK_zero]; exact OwnN.nil_ _ _, Bl.refl _⟩
    case round =>
      obtain ⟨j, v, hj, rfl, rfl, hO, hbl⟩ := hrel
      have O := Lib.hid hO
      have hszl := hbl.size
      have hwl := withinK_len D T m j
      have HBL := Lib.hid hbl
      clear hO hbl
      by_cases hlt : j < k
      · have i1 : (j : Int) < (k : Int) := by omega
        have hjD : j < D.length := by omega
        have hjT : j < T.length := by omega
        have p1 := (H9.out.bl HBL.out).cell j (by omega)
        have p2 := (H10.out.bl HBL.out).cell j (by omega)
        have e1 : E[j]'(by omega) = D[j] := by simp only [← HE.out, List.getElem_take]
        have e2 : F[j]'(by omega) = T[j] := by simp only [← HF.out, List.getElem_take]
        rw [e1] at p1
        rw [e2] at p2
        have BY := Lib.hid (byB_at' (m := m) hjD hjT)
        have YES := Lib.hid (fun h => withinK_yes (D := D) (E := T) (m := m) (k := j) h)
        have NO := Lib.hid (fun h => withinK_no (D := D) (E := T) (m := m) (k := j) h)
        have hd0 := HDT.out j
        have he0 := HET.out j
        rw [dAt_at hjD] at hd0
        rw [dAt_at hjT] at he0
        clear e1 e2
        generalize D[j] = d at *
        generalize T[j] = e at *
        have j0 : (0 : Int) ≤ (j : Int) := by omega
        have j24 : (j : Int) < 24 := by omega
        have j24' : j < 24 := by omega
        have a1 : IntKind.i64.wrap (d + e) = d + e := IntWalk.i64_in _ (by omega)
        clear hd0 he0
        by_cases h1 : 0 ≤ d
        · have b1 : decide (0 ≤ d) = true := by simpa using h1
          by_cases h2 : 0 ≤ e
          · have b2 : decide (0 ≤ e) = true := by simpa using h2
            by_cases h3 : d + e ≤ m
            · have b3 : decide (d + e ≤ m) = true := by simpa using h3
              have HY := Lib.hid (YES.out (by rw [BY.out, decide_eq_true_eq]; exact ⟨h1, h2, h3⟩))
              clear YES NO BY
              go_wp2
              go_quiet (fail)
              go_wp2_with (at_builtin; refine wpList_append_any _ rfl (.tmp 46) (.tmp 48) _ rfl wc.heap.size 2 i0 _ 1 8 Try.underlying29 I0.out I1.out I2.out I3.out rfl (by decide) _ (withinK D T m j).length (csI (withinK D T m j)) rfl (World.ownsRow.alloc (OwnN.bl O.out (by first | exact Bl.refl _ | exact (Bl.refl _).drew_ | exact (Bl.refl _).drewN_ _)) _) (wr.heap.size + 1) (some ⟨wr.heap.size, 0, none⟩) 1 1 [.int .i64 (j : Int)] rfl ?c0 (by simp [Value.oneCell']) ?c3 ?c4 ?c5 ?_)
              case c0 =>
                refine ⟨rfl, fun _ => ⟨_, rfl, by show wr.heap.size < wr.heap.size + 1; omega, fun x u hj => ?_⟩⟩
                match x, hj with
                | 0, hj => simp at hj; subst hj; (try simp [Addr.add, go_sem]); (try exact cell_new_drewN' _ _ _ _)
                | (x + 1), hj => simp at hj
              case c3 => unfold maxLen; omega
              case c4 => omega
              case c5 => first | (simp; omega) | (show wc.heap.size ≤ wr.heap.size + 1; omega)
              intro v' w7 hown' hgrow hwh
              have O7 := Lib.hid (OwnN.snoc (V := withinK D T m j) (x := (j : Int)) (n := (withinK D T m j).length) rfl (by simpa using hown'))
              rw [← HY.out] at O7
              have B7 : Hid (Bl wc w7) := by
                have hz : ∀ g, v.ownBlock = some g → wc.heap.size ≤ g := fun g hg => (Owns.lt O.out g hg).1
                first
                | exact Lib.hid ((HBL.out.alloc_ _).grown_ hgrow hz)
                | exact Lib.hid (((HBL.out.drew_).alloc_ _).grown_ hgrow hz)
                | exact Lib.hid (((HBL.out.drewN_ _).alloc_ _).grown_ hgrow hz)
                | exact Lib.hid (((HBL.out.alloc_ _).drew_).grown_ hgrow hz)
                | exact Lib.hid (((HBL.out.alloc_ _).drewN_ _).grown_ hgrow hz)
              clear hown' hgrow hwh
              go_wp2
              go_roundw
              case rel => exact ⟨j + 1, _, by omega, rfl, by go_num, O7.out, B7.out⟩
              case measure => simp [intOf]; omega
            · have b3 : decide (d + e ≤ m) = false := by simpa using h3
              have HY := Lib.hid (NO.out (by rw [BY.out, decide_eq_false_iff_not]; omega))
              clear YES NO BY
              go_wp2
              go_quiet (fail)
              go_wp2
              go_roundw
              case rel => exact ⟨j + 1, _, by omega, rfl, by go_num, by rw [HY.out]; exact OwnN.bl O.out (by repeat' (first | exact Bl.refl _ | with_reducible assumption | with_reducible refine Bl.drew_ ?_ | with_reducible refine Bl.drewN_ ?_ _ | with_reducible refine Bl.alloc_ ?_ _ | with_reducible refine Bl.trans_ ?_ (by assumption) | with_reducible refine Bl.trans_ ?_ (And.left (by assumption)))), HBL.out.trans_ (by repeat' (first | exact Bl.refl _ | with_reducible assumption | with_reducible refine Bl.drew_ ?_ | with_reducible refine Bl.drewN_ ?_ _ | with_reducible refine Bl.alloc_ ?_ _ | with_reducible refine Bl.trans_ ?_ (by assumption) | with_reducible refine Bl.trans_ ?_ (And.left (by assumption))))⟩
              case measure => simp [intOf]; omega
          · have b2 : decide (0 ≤ e) = false := by simpa using h2
            have HY := Lib.hid (NO.out (by rw [BY.out, decide_eq_false_iff_not]; omega))
            clear YES NO BY
            go_wp2
            go_quiet (fail)
            go_wp2
            go_roundw
            case rel => exact ⟨j + 1, _, by omega, rfl, by go_num, by rw [HY.out]; exact OwnN.bl O.out (by repeat' (first | exact Bl.refl _ | with_reducible assumption | with_reducible refine Bl.drew_ ?_ | with_reducible refine Bl.drewN_ ?_ _ | with_reducible refine Bl.alloc_ ?_ _ | with_reducible refine Bl.trans_ ?_ (by assumption) | with_reducible refine Bl.trans_ ?_ (And.left (by assumption)))), HBL.out.trans_ (by repeat' (first | exact Bl.refl _ | with_reducible assumption | with_reducible refine Bl.drew_ ?_ | with_reducible refine Bl.drewN_ ?_ _ | with_reducible refine Bl.alloc_ ?_ _ | with_reducible refine Bl.trans_ ?_ (by assumption) | with_reducible refine Bl.trans_ ?_ (And.left (by assumption))))⟩
            case measure => simp [intOf]; omega
        · have b1 : decide (0 ≤ d) = false := by simpa using h1
          have HY := Lib.hid (NO.out (by rw [BY.out, decide_eq_false_iff_not]; omega))
          clear YES NO BY
          go_wp2
          go_quiet (fail)
          go_wp2
          go_roundw
          case rel => exact ⟨j + 1, _, by omega, rfl, by go_num, by rw [HY.out]; exact OwnN.bl O.out (by repeat' (first | exact Bl.refl _ | with_reducible assumption | with_reducible refine Bl.drew_ ?_ | with_reducible refine Bl.drewN_ ?_ _ | with_reducible refine Bl.alloc_ ?_ _ | with_reducible refine Bl.trans_ ?_ (by assumption) | with_reducible refine Bl.trans_ ?_ (And.left (by assumption)))), HBL.out.trans_ (by repeat' (first | exact Bl.refl _ | with_reducible assumption | with_reducible refine Bl.drew_ ?_ | with_reducible refine Bl.drewN_ ?_ _ | with_reducible refine Bl.alloc_ ?_ _ | with_reducible refine Bl.trans_ ?_ (by assumption) | with_reducible refine Bl.trans_ ?_ (And.left (by assumption))))⟩
          case measure => simp [intOf]; omega
      · obtain rfl : j = k := by omega
        go_wp2
        go_ret
        refine ⟨_, rfl, ?_, HBW.out.trans_ (HBC.out.trans_ HBL.out)⟩
        rw [HV.out]
        exact O.out.low (by have := (HBW.out.trans_ HBC.out).size; omega)

end Go.Proofs.Ytkfladkncfbgmaa
