/-
  What is proved here: the iterator over the nodes of the shortest paths of all pairs tells just these. No conditions beyond those that each theorem states.
-/
import Derived.Test.YtpbgnidjgmmebaaTG16
set_option linter.unusedSimpArgs false
set_option linter.unusedVariables false
namespace Go.Proofs.Ytpbgnidjgmmebaa
open Go.RowKit Go.Shelf
attribute [local go_sem] Oper.semAt_some

set_option maxRecDepth 100000 in
set_option maxHeartbeats 8000000 in
theorem short_walk (q : Nat) (A : Option Addr) (n c gb : Nat) (L : List Arc3) (hn : n = L.length) (hc : n ≤ c) (hm : n ≤ 1048576) (ho : okB q L = true)
    (l : Nat) (J Jx : List Arc3 → (Nat → Prop) → World → Prop) (K0 : Nat → Prop) (W : World) (hI : SIn W gb q A n c L)
    (hJ : ∀ pre K A B, J pre K A → Turn (fun i => ¬ K i) A B → J pre K B) (hJx : ∀ pre K A B, Jx pre K A → Turn (fun i => ¬ K i) A B → Jx pre K B) (hlt : ∀ pre K A, J pre K A → ∀ i, K i → i < A.heap.size)
    (hK0 : ∀ i, K0 i → ¬ sBlocks gb A L i)
    (hY : ∀ pre x K W1, J pre K W1 → NextSP q L pre x → YieldAt Fence.wide 0 Try.prog l (encP x) W1 fun e W' => ∃ K', Step K K' W1 W' ∧
      ((e = .returned (.bool true) ∧ J (pre ++ [x]) K' W') ∨ (e = .returned (.bool false) ∧ Jx (pre ++ [x]) K' W')))
    (hJ0 : J [] K0 W) :
    CallsIn Fence.wide 0 Try.prog 105 #[.func (.yield l) #[] #[], .pointer (some ⟨gb, 0, none⟩)] W fun e W' => (∃ v, e = .returned v) ∧ ∃ K', Step K0 K' W W' ∧
      ((∃ xs, AllSP q L xs ∧ J xs K' W') ∨ (∃ pre, PartSP q L pre ∧ Jx pre K' W')) := by
  have HI := Lib.hid hI
  have HJ := Lib.hid hJ
  have HJX := Lib.hid hJx
  have HLT := Lib.hid hlt
  have HK := Lib.hid hK0
  have HY := Lib.hid hY
  have HN := Lib.hid hn
  have HO := Lib.hid ho
  have HJ0 := Lib.hid hJ0
  obtain ⟨q0, q1, -⟩ := hI
  have hgl := World.block_lt_of_cell? _ _ q0
  simp only at hgl
  clear hJ hJx hlt hK0 hY hn ho hJ0
  refine callsIn_of_wp_marks Try.func105 rfl trivial ?_ rfl
  simp only [Try.ntmps105, List.size_toArray, List.length_cons, List.length_nil, Nat.reduceAdd, Nat.reduceSub, Array.replicate_succ, Array.replicate_zero, List.push_toArray, List.append_toArray, List.nil_append, List.cons_append]
  gi_wp2_with fail
  obtain ⟨X, hX⟩ : ∃ X, X = W.alloc (.cells #[.func (.yield l) #[] #[]] 114) := ⟨_, rfl⟩
  have HBW := Lib.hid (show Bl W X from by rw [hX]; exact Bl.alloc_ (Bl.refl W) _)
  have HX := Lib.hid (show X.heap.size = W.heap.size + 1 from by rw [hX]; simp)
  have K1 := Lib.hid HI.out.arcs
  have HRO := Lib.hid (revL_ok HO.out)
  have HYB := Lib.hid (show ∀ wx, Bl X wx → wx.cell? ⟨W.heap.size, 0, none⟩ = some (.func (.yield l) #[] #[]) from fun wx hb => by rw [hX] at hb; exact box1 hb)
  have HSH := Lib.hid (show ∀ wx, Bl X wx → wx.cell? ⟨gb, 0, none⟩ = some (.int .i64 (q : Int)) ∧ wx.cell? ⟨gb, 1, none⟩ = some (.slice A n c) from fun wx hb => by
    have h := (bcell (HBW.out.trans_ hb)).1
    exact ⟨(h _ _ hgl).trans q0, (h _ _ hgl).trans q1⟩)
  rw [← hX]
  clear hX q0 q1
  refine wpIn_mono (Q := fun e a wc => e = Exit.normal ∧ ∃ (b3 b4 : Nat) (E F : List Int) (z8 z9 z10 z11 z12 : Value), a = { tmps := #[.func (.yield l) #[] #[], .pointer (some ⟨gb, 0, none⟩), .pointer (some ⟨W.heap.size, 0, none⟩), .pointer (some ⟨b3, 0, none⟩), .pointer (some ⟨b4, 0, none⟩), undef, undef, undef, z8, z9, z10, z11, z12, undef, undef, undef, undef, undef, undef, undef, undef, undef, undef, undef, undef, undef, undef, undef, undef, undef, undef, undef, undef, undef, undef, undef, undef, undef, undef, undef, undef, undef, undef, undef, undef, undef, undef, undef, undef, undef, undef, undef], defers := [] } ∧ ManyAt wc b3 E ∧ ManyAt wc b4 F ∧ Hid (IsTable q L q E) ∧ Hid (IsTable q (revL L) q F) ∧ (X.heap.size ≤ b3 ∧ X.heap.size ≤ b4 ∧ b3 ≠ b4) ∧ Bl X wc) ?first ?rest
  case first =>
    refine wpIn_region_held (S := fun wx => wx.cell? ⟨gb, 0, none⟩ = some (.int .i64 (q : Int)) ∧ wx.cell? ⟨gb, 1, none⟩ = some (.slice A n c)) (by kernel_rfl) ?_ (fun hHeld => ?_)
    · exact HSH.out _ (Bl.drew_ (Bl.refl X))
    refine wpAnyH_take (i := 0) (v := ?_) rfl (by kernel_rfl) (by kernel_rfl) (by kernel_rfl) (fun _ _ _ h => h) (Or.inl ⟨by kernel_rfl, ?_⟩) (by assumption) ?_
    rotate_left
    · (intro wx hSw; (try dsimp only at hSw); go_simp; try (with_reducible rfl))
    try simp only [Act.put, List.getElem_toArray, List.getElem_cons_succ, List.getElem_cons_zero, List.setIfInBounds_toArray, List.set_cons_zero, List.set_cons_succ]
    refine wpAnyH_take (i := 2) (v := ?_) rfl (by kernel_rfl) (by kernel_rfl) (by kernel_rfl) (fun _ _ _ h => h) (Or.inl ⟨by kernel_rfl, ?_⟩) (by assumption) ?_
    rotate_left
    · (intro wx hSw; (try dsimp only at hSw); go_simp; try (with_reducible rfl))
    try simp only [Act.put, List.getElem_toArray, List.getElem_cons_succ, List.getElem_cons_zero, List.setIfInBounds_toArray, List.set_cons_zero, List.set_cons_succ]
    clear hHeld
    refine wpAnyH_ready (rs := [1, 5, 6]) (by kernel_rfl) (by simp) ?_
    refine AllReadyH.cons rfl (fun K hK => ?_) (AllReadyH.cons rfl (fun K hK => ?_) (AllReadyH.cons rfl (fun K hK => ?_) AllReadyH.nil))
    · go_simp
      refine (tableOf_any q A n c L HN.out hc HO.out _ (K1.out.bl (HBW.out.trans_ (Bl.drew_ (Bl.refl X))))).mono ?_
      rintro e w_1 ⟨E, rfl, hE, hb⟩
      have EL := Lib.hid hE.1
      have ET := Lib.hid hE
      clear hE
      have B_1 := Lib.hid ((Bl.drew_ (Bl.refl X)).trans_ hb)
      clear hb
      try (go_wp2_with fail)
      refine hK.out _ _ ?_ (fun hHeld => ?_)
      · exact HSH.out _ B_1.out
      clear hK K hHeld
      try simp only [Act.put, List.getElem_toArray, List.getElem_cons_succ, List.getElem_cons_zero, List.setIfInBounds_toArray, List.set_cons_zero, List.set_cons_succ]
      refine wpAnyH_ready (rs := [3, 5, 6]) (by kernel_rfl) (by simp) ?_
      refine AllReadyH.cons rfl (fun K hK => ?_) (AllReadyH.cons rfl (fun K hK => ?_) (AllReadyH.cons rfl (fun K hK => ?_) AllReadyH.nil))
      · go_simp
        refine (implReversed_any q A n c L HN.out _ hm (K1.out.bl (HBW.out.trans_ B_1.out))).mono ?_
        rintro e w_2 ⟨v6, rfl, hv6, hb⟩
        rw [show revN (q : Int) L = (q : Int) from if_pos HO.out]
        rw [show revG (q : Int) L = revL L from if_pos HO.out] at hv6
        have hcap := OwnA.cap_ hv6
        obtain ⟨A6, c6, rfl, ha6, -⟩ := hv6.shape
        have V_2 := Lib.hid ha6
        have HC6 := Lib.hid (hcap _ _ _ rfl)
        clear hv6 hcap ha6
        have B_2 := Lib.hid (B_1.out.trans_ hb)
        clear hb
        try (go_wp2_with fail)
        refine hK.out _ _ ?_ (fun hHeld => ?_)
        · exact HSH.out _ B_2.out
        clear hK K hHeld
        try simp only [Act.put, List.getElem_toArray, List.getElem_cons_succ, List.getElem_cons_zero, List.setIfInBounds_toArray, List.set_cons_zero, List.set_cons_succ]
        refine wpAnyH_ready (rs := [4, 5, 6]) (by kernel_rfl) (by simp) ?_
        refine AllReadyH.cons rfl (fun K hK => ?_) (AllReadyH.cons rfl (fun K hK => ?_) (AllReadyH.cons rfl (fun K hK => ?_) AllReadyH.nil))
        · go_simp
          refine (tableOf_any q A6 (revL L).length c6 (revL L) rfl HC6.out HRO.out _ V_2.out).mono ?_
          rintro e w_3 ⟨F, rfl, hF, hb⟩
          have FL := Lib.hid hF.1
          have FT := Lib.hid hF
          clear hF
          have B_3 := Lib.hid (B_2.out.trans_ hb)
          have V_3 := Lib.hid (V_2.out.bl hb)
          clear hb
          try (go_wp2_with fail)
          refine hK.out _ _ ?_ (fun hHeld => ?_)
          · exact HSH.out _ B_3.out
          clear hK K hHeld
          try simp only [Act.put, List.getElem_toArray, List.getElem_cons_succ, List.getElem_cons_zero, List.setIfInBounds_toArray, List.set_cons_zero, List.set_cons_succ]
          refine wpAnyH_ready (rs := [5, 6]) (by kernel_rfl) (by simp) ?_
          refine AllReadyH.cons rfl (fun K hK => ?_) (AllReadyH.cons rfl (fun K hK => ?_) AllReadyH.nil)
          · go_simp
            refine hK.out _ _ ?_ (fun hHeld => ?_)
            · exact HSH.out _ (Bl.alloc_ B_3.out _)
            clear hK K hHeld
            try simp only [Act.put, List.getElem_toArray, List.getElem_cons_succ, List.getElem_cons_zero, List.setIfInBounds_toArray, List.set_cons_zero, List.set_cons_succ]
            generalize hw : World.alloc _ _ = w_4
            have B_4 := Lib.hid (show Bl X w_4 from by rw [← hw]; exact Bl.alloc_ B_3.out _)
            have hb : Bl w_3 w_4 := by rw [← hw]; exact Bl.alloc_ (Bl.refl _) _
            have Z9_4 := Lib.hid (show ManyAt w_4 (w_3.heap.size) (List.replicate 576 0) from by rw [← hw]; exact many_new _ _)
            have LO9 := Lib.hid (show X.heap.size ≤ w_3.heap.size from (B_3.out : Bl X _).size)
            have V_4 := Lib.hid (V_3.out.bl hb)
            clear hw hb
            refine wpAnyH_ready (rs := [6]) (by kernel_rfl) (by simp) ?_
            refine AllReadyH.cons rfl (fun K hK => ?_) AllReadyH.nil
            · go_simp
              refine hK.out _ _ ?_ (fun hHeld => ?_)
              · exact HSH.out _ (Bl.alloc_ B_4.out _)
              clear hK K hHeld
              try simp only [Act.put, List.getElem_toArray, List.getElem_cons_succ, List.getElem_cons_zero, List.setIfInBounds_toArray, List.set_cons_zero, List.set_cons_succ]
              generalize hw : World.alloc _ _ = w_5
              have B_5 := Lib.hid (show Bl X w_5 from by rw [← hw]; exact Bl.alloc_ B_4.out _)
              have hb : Bl w_4 w_5 := by rw [← hw]; exact Bl.alloc_ (Bl.refl _) _
              have Z10_5 := Lib.hid (show ManyAt w_5 (w_4.heap.size) (List.replicate 576 0) from by rw [← hw]; exact many_new _ _)
              have LO10 := Lib.hid (show X.heap.size ≤ w_4.heap.size from (B_4.out : Bl X _).size)
              have NE := Lib.hid (show w_3.heap.size ≠ w_4.heap.size from Nat.ne_of_lt Z9_4.out.lt)
              have Z9_5 := Lib.hid (Z9_4.out.bl hb)
              have V_5 := Lib.hid (V_4.out.bl hb)
              clear hw hb
              refine wpAnyH_ready (rs := [7]) (by kernel_rfl) (by simp) ?_
              refine AllReadyH.cons rfl (fun K hK => ?_) AllReadyH.nil
              rw [if_pos (by rfl)]
              refine wp_store_mid _ _ _ rfl (w_3.heap.size) 0 (csI E).toArray rfl rfl (by simpa [csI_len, EL.out] using Z9_5.out.there_ (o := 0) (m := 576) (by simp)) (by simpa [csI_len, EL.out] using size576) (csI_one _) ?_
              simp only [Act.put, List.setIfInBounds_toArray, List.set_cons_zero, List.set_cons_succ, List.toList_toArray]
              refine hK.out _ _ ?_ (fun hHeld => ?_)
              · exact HSH.out _ (Bl.setCells_ (w_3.heap.size) LO9.out _ _ _ B_5.out)
              clear hK K hHeld
              try simp only [Act.put, List.getElem_toArray, List.getElem_cons_succ, List.getElem_cons_zero, List.setIfInBounds_toArray, List.set_cons_zero, List.set_cons_succ]
              generalize hw : World.setCells _ _ _ _ = w_6_7
              have B_6_7 := Lib.hid (show Bl X w_6_7 from by rw [← hw]; exact Bl.setCells_ (w_3.heap.size) LO9.out _ _ _ B_5.out)
              have Y7 := Lib.hid (show ManyAt w_6_7 (w_3.heap.size) E from by rw [← hw]; exact Z9_5.out.over (by rw [EL.out]; simp))
              have Z10_6 := Lib.hid (show ManyAt w_6_7 (w_4.heap.size) (List.replicate 576 0) from by rw [← hw]; exact Z10_5.out.turn (Turn.setCells_ (S := fun i => i = w_3.heap.size) (w_3.heap.size) rfl _ _ _ (Turn.refl _ _)) NE.out.symm)
              clear hw
              refine wpAnyH_ready (rs := [8]) (by kernel_rfl) (by simp) ?_
              refine AllReadyH.cons rfl (fun K hK => ?_) AllReadyH.nil
              rw [if_pos (by rfl)]
              refine wp_store_mid _ _ _ rfl (w_4.heap.size) 0 (csI F).toArray rfl rfl (by simpa [csI_len, FL.out] using Z10_6.out.there_ (o := 0) (m := 576) (by simp)) (by simpa [csI_len, FL.out] using size576) (csI_one _) ?_
              simp only [Act.put, List.setIfInBounds_toArray, List.set_cons_zero, List.set_cons_succ, List.toList_toArray]
              refine hK.out _ _ ?_ (fun hHeld => ?_)
              · exact HSH.out _ (Bl.setCells_ (w_4.heap.size) LO10.out _ _ _ B_6_7.out)
              clear hK K hHeld
              try simp only [Act.put, List.getElem_toArray, List.getElem_cons_succ, List.getElem_cons_zero, List.setIfInBounds_toArray, List.set_cons_zero, List.set_cons_succ]
              generalize hw : World.setCells _ _ _ _ = w_6_8
              have B_6_8 := Lib.hid (show Bl X w_6_8 from by rw [← hw]; exact Bl.setCells_ (w_4.heap.size) LO10.out _ _ _ B_6_7.out)
              have Y8 := Lib.hid (show ManyAt w_6_8 (w_4.heap.size) F from by rw [← hw]; exact Z10_6.out.over (by rw [FL.out]; simp))
              have Y9' := Lib.hid (show ManyAt w_6_8 (w_3.heap.size) E from by rw [← hw]; exact Y7.out.turn (Turn.setCells_ (S := fun i => i = w_4.heap.size) (w_4.heap.size) rfl _ _ _ (Turn.refl _ _)) NE.out)
              clear hw
              refine wpAnyH_done (by kernel_rfl) ?_ _
              refine NoOut.normal ?_
              exact ⟨rfl, w_3.heap.size, w_4.heap.size, E, F, _, _, _, _, _, rfl, Y9'.out, Y8.out, ET, FT, ⟨LO9.out, LO10.out, NE.out⟩, B_6_8.out⟩
          · go_simp
            refine hK.out _ _ ?_ (fun hHeld => ?_)
            · exact HSH.out _ (Bl.alloc_ B_3.out _)
            clear hK K hHeld
            try simp only [Act.put, List.getElem_toArray, List.getElem_cons_succ, List.getElem_cons_zero, List.setIfInBounds_toArray, List.set_cons_zero, List.set_cons_succ]
            generalize hw : World.alloc _ _ = w_7
            have B_7 := Lib.hid (show Bl X w_7 from by rw [← hw]; exact Bl.alloc_ B_3.out _)
            have hb : Bl w_3 w_7 := by rw [← hw]; exact Bl.alloc_ (Bl.refl _) _
            have Z10_7 := Lib.hid (show ManyAt w_7 (w_3.heap.size) (List.replicate 576 0) from by rw [← hw]; exact many_new _ _)
            have LO10 := Lib.hid (show X.heap.size ≤ w_3.heap.size from (B_3.out : Bl X _).size)
            have V_7 := Lib.hid (V_3.out.bl hb)
            clear hw hb
            refine wpAnyH_ready (rs := [5]) (by kernel_rfl) (by simp) ?_
            refine AllReadyH.cons rfl (fun K hK => ?_) AllReadyH.nil
            · go_simp
              refine hK.out _ _ ?_ (fun hHeld => ?_)
              · exact HSH.out _ (Bl.alloc_ B_7.out _)
              clear hK K hHeld
              try simp only [Act.put, List.getElem_toArray, List.getElem_cons_succ, List.getElem_cons_zero, List.setIfInBounds_toArray, List.set_cons_zero, List.set_cons_succ]
              generalize hw : World.alloc _ _ = w_8
              have B_8 := Lib.hid (show Bl X w_8 from by rw [← hw]; exact Bl.alloc_ B_7.out _)
              have hb : Bl w_7 w_8 := by rw [← hw]; exact Bl.alloc_ (Bl.refl _) _
              have Z9_8 := Lib.hid (show ManyAt w_8 (w_7.heap.size) (List.replicate 576 0) from by rw [← hw]; exact many_new _ _)
              have LO9 := Lib.hid (show X.heap.size ≤ w_7.heap.size from (B_7.out : Bl X _).size)
              have NE := Lib.hid (show w_3.heap.size ≠ w_7.heap.size from Nat.ne_of_lt Z10_7.out.lt)
              have Z10_8 := Lib.hid (Z10_7.out.bl hb)
              have V_8 := Lib.hid (V_7.out.bl hb)
              clear hw hb
              refine wpAnyH_ready (rs := [7]) (by kernel_rfl) (by simp) ?_
              refine AllReadyH.cons rfl (fun K hK => ?_) AllReadyH.nil
              rw [if_pos (by rfl)]
              refine wp_store_mid _ _ _ rfl (w_7.heap.size) 0 (csI E).toArray rfl rfl (by simpa [csI_len, EL.out] using Z9_8.out.there_ (o := 0) (m := 576) (by simp)) (by simpa [csI_len, EL.out] using size576) (csI_one _) ?_
              simp only [Act.put, List.setIfInBounds_toArray, List.set_cons_zero, List.set_cons_succ, List.toList_toArray]
              refine hK.out _ _ ?_ (fun hHeld => ?_)
              · exact HSH.out _ (Bl.setCells_ (w_7.heap.size) LO9.out _ _ _ B_8.out)
              clear hK K hHeld
              try simp only [Act.put, List.getElem_toArray, List.getElem_cons_succ, List.getElem_cons_zero, List.setIfInBounds_toArray, List.set_cons_zero, List.set_cons_succ]
              generalize hw : World.setCells _ _ _ _ = w_9_7
              have B_9_7 := Lib.hid (show Bl X w_9_7 from by rw [← hw]; exact Bl.setCells_ (w_7.heap.size) LO9.out _ _ _ B_8.out)
              have Y7 := Lib.hid (show ManyAt w_9_7 (w_7.heap.size) E from by rw [← hw]; exact Z9_8.out.over (by rw [EL.out]; simp))
              have Z10_9 := Lib.hid (show ManyAt w_9_7 (w_3.heap.size) (List.replicate 576 0) from by rw [← hw]; exact Z10_8.out.turn (Turn.setCells_ (S := fun i => i = w_7.heap.size) (w_7.heap.size) rfl _ _ _ (Turn.refl _ _)) NE.out)
              clear hw
              refine wpAnyH_ready (rs := [8]) (by kernel_rfl) (by simp) ?_
              refine AllReadyH.cons rfl (fun K hK => ?_) AllReadyH.nil
              rw [if_pos (by rfl)]
              refine wp_store_mid _ _ _ rfl (w_3.heap.size) 0 (csI F).toArray rfl rfl (by simpa [csI_len, FL.out] using Z10_9.out.there_ (o := 0) (m := 576) (by simp)) (by simpa [csI_len, FL.out] using size576) (csI_one _) ?_
              simp only [Act.put, List.setIfInBounds_toArray, List.set_cons_zero, List.set_cons_succ, List.toList_toArray]
              refine hK.out _ _ ?_ (fun hHeld => ?_)
              · exact HSH.out _ (Bl.setCells_ (w_3.heap.size) LO10.out _ _ _ B_9_7.out)
              clear hK K hHeld
              try simp only [Act.put, List.getElem_toArray, List.getElem_cons_succ, List.getElem_cons_zero, List.setIfInBounds_toArray, List.set_cons_zero, List.set_cons_succ]
              generalize hw : World.setCells _ _ _ _ = w_9_8
              have B_9_8 := Lib.hid (show Bl X w_9_8 from by rw [← hw]; exact Bl.setCells_ (w_3.heap.size) LO10.out _ _ _ B_9_7.out)
              have Y8 := Lib.hid (show ManyAt w_9_8 (w_3.heap.size) F from by rw [← hw]; exact Z10_9.out.over (by rw [FL.out]; simp))
              have Y9' := Lib.hid (show ManyAt w_9_8 (w_7.heap.size) E from by rw [← hw]; exact Y7.out.turn (Turn.setCells_ (S := fun i => i = w_3.heap.size) (w_3.heap.size) rfl _ _ _ (Turn.refl _ _)) NE.out.symm)
              clear hw
              refine wpAnyH_done (by kernel_rfl) ?_ _
              refine NoOut.normal ?_
              exact ⟨rfl, w_7.heap.size, w_3.heap.size, E, F, _, _, _, _, _, rfl, Y9'.out, Y8.out, ET, FT, ⟨LO9.out, LO10.out, NE.out.symm⟩, B_9_8.out⟩
        · go_simp
          refine hK.out _ _ ?_ (fun hHeld => ?_)
          · exact HSH.out _ (Bl.alloc_ B_2.out _)
          clear hK K hHeld
          try simp only [Act.put, List.getElem_toArray, List.getElem_cons_succ, List.getElem_cons_zero, List.setIfInBounds_toArray, List.set_cons_zero, List.set_cons_succ]
          generalize hw : World.alloc _ _ = w_10
          have B_10 := Lib.hid (show Bl X w_10 from by rw [← hw]; exact Bl.alloc_ B_2.out _)
          have hb : Bl w_2 w_10 := by rw [← hw]; exact Bl.alloc_ (Bl.refl _) _
          have Z9_10 := Lib.hid (show ManyAt w_10 (w_2.heap.size) (List.replicate 576 0) from by rw [← hw]; exact many_new _ _)
          have LO9 := Lib.hid (show X.heap.size ≤ w_2.heap.size from (B_2.out : Bl X _).size)
          have V_10 := Lib.hid (V_2.out.bl hb)
          clear hw hb
          refine wpAnyH_ready (rs := [4, 6]) (by kernel_rfl) (by simp) ?_
          refine AllReadyH.cons rfl (fun K hK => ?_) (AllReadyH.cons rfl (fun K hK => ?_) AllReadyH.nil)
          · go_simp
            refine (tableOf_any q A6 (revL L).length c6 (revL L) rfl HC6.out HRO.out _ V_10.out).mono ?_
            rintro e w_11 ⟨F, rfl, hF, hb⟩
            have FL := Lib.hid hF.1
            have FT := Lib.hid hF
            clear hF
            have B_11 := Lib.hid (B_10.out.trans_ hb)
            have Z9_11 := Lib.hid (Z9_10.out.bl hb)
            have V_11 := Lib.hid (V_10.out.bl hb)
            clear hb
            try (go_wp2_with fail)
            refine hK.out _ _ ?_ (fun hHeld => ?_)
            · exact HSH.out _ B_11.out
            clear hK K hHeld
            try simp only [Act.put, List.getElem_toArray, List.getElem_cons_succ, List.getElem_cons_zero, List.setIfInBounds_toArray, List.set_cons_zero, List.set_cons_succ]
            refine wpAnyH_ready (rs := [6]) (by kernel_rfl) (by simp) ?_
            refine AllReadyH.cons rfl (fun K hK => ?_) AllReadyH.nil
            · go_simp
              refine hK.out _ _ ?_ (fun hHeld => ?_)
              · exact HSH.out _ (Bl.alloc_ B_11.out _)
              clear hK K hHeld
              try simp only [Act.put, List.getElem_toArray, List.getElem_cons_succ, List.getElem_cons_zero, List.setIfInBounds_toArray, List.set_cons_zero, List.set_cons_succ]
              generalize hw : World.alloc _ _ = w_12
              have B_12 := Lib.hid (show Bl X w_12 from by rw [← hw]; exact Bl.alloc_ B_11.out _)
              have hb : Bl w_11 w_12 := by rw [← hw]; exact Bl.alloc_ (Bl.refl _) _
              have Z10_12 := Lib.hid (show ManyAt w_12 (w_11.heap.size) (List.replicate 576 0) from by rw [← hw]; exact many_new _ _)
              have LO10 := Lib.hid (show X.heap.size ≤ w_11.heap.size from (B_11.out : Bl X _).size)
              have NE := Lib.hid (show w_2.heap.size ≠ w_11.heap.size from Nat.ne_of_lt Z9_11.out.lt)
              have Z9_12 := Lib.hid (Z9_11.out.bl hb)
              have V_12 := Lib.hid (V_11.out.bl hb)
              clear hw hb
              refine wpAnyH_ready (rs := [7]) (by kernel_rfl) (by simp) ?_
              refine AllReadyH.cons rfl (fun K hK => ?_) AllReadyH.nil
              rw [if_pos (by rfl)]
              refine wp_store_mid _ _ _ rfl (w_2.heap.size) 0 (csI E).toArray rfl rfl (by simpa [csI_len, EL.out] using Z9_12.out.there_ (o := 0) (m := 576) (by simp)) (by simpa [csI_len, EL.out] using size576) (csI_one _) ?_
              simp only [Act.put, List.setIfInBounds_toArray, List.set_cons_zero, List.set_cons_succ, List.toList_toArray]
              refine hK.out _ _ ?_ (fun hHeld => ?_)
              · exact HSH.out _ (Bl.setCells_ (w_2.heap.size) LO9.out _ _ _ B_12.out)
              clear hK K hHeld
              try simp only [Act.put, List.getElem_toArray, List.getElem_cons_succ, List.getElem_cons_zero, List.setIfInBounds_toArray, List.set_cons_zero, List.set_cons_succ]
              generalize hw : World.setCells _ _ _ _ = w_13_7
              have B_13_7 := Lib.hid (show Bl X w_13_7 from by rw [← hw]; exact Bl.setCells_ (w_2.heap.size) LO9.out _ _ _ B_12.out)
              have Y7 := Lib.hid (show ManyAt w_13_7 (w_2.heap.size) E from by rw [← hw]; exact Z9_12.out.over (by rw [EL.out]; simp))
              have Z10_13 := Lib.hid (show ManyAt w_13_7 (w_11.heap.size) (List.replicate 576 0) from by rw [← hw]; exact Z10_12.out.turn (Turn.setCells_ (S := fun i => i = w_2.heap.size) (w_2.heap.size) rfl _ _ _ (Turn.refl _ _)) NE.out.symm)
              clear hw
              refine wpAnyH_ready (rs := [8]) (by kernel_rfl) (by simp) ?_
              refine AllReadyH.cons rfl (fun K hK => ?_) AllReadyH.nil
              rw [if_pos (by rfl)]
              refine wp_store_mid _ _ _ rfl (w_11.heap.size) 0 (csI F).toArray rfl rfl (by simpa [csI_len, FL.out] using Z10_13.out.there_ (o := 0) (m := 576) (by simp)) (by simpa [csI_len, FL.out] using size576) (csI_one _) ?_
              simp only [Act.put, List.setIfInBounds_toArray, List.set_cons_zero, List.set_cons_succ, List.toList_toArray]
              refine hK.out _ _ ?_ (fun hHeld => ?_)
              · exact HSH.out _ (Bl.setCells_ (w_11.heap.size) LO10.out _ _ _ B_13_7.out)
              clear hK K hHeld
              try simp only [Act.put, List.getElem_toArray, List.getElem_cons_succ, List.getElem_cons_zero, List.setIfInBounds_toArray, List.set_cons_zero, List.set_cons_succ]
              generalize hw : World.setCells _ _ _ _ = w_13_8
              have B_13_8 := Lib.hid (show Bl X w_13_8 from by rw [← hw]; exact Bl.setCells_ (w_11.heap.size) LO10.out _ _ _ B_13_7.out)
              have Y8 := Lib.hid (show ManyAt w_13_8 (w_11.heap.size) F from by rw [← hw]; exact Z10_13.out.over (by rw [FL.out]; simp))
              have Y9' := Lib.hid (show ManyAt w_13_8 (w_2.heap.size) E from by rw [← hw]; exact Y7.out.turn (Turn.setCells_ (S := fun i => i = w_11.heap.size) (w_11.heap.size) rfl _ _ _ (Turn.refl _ _)) NE.out)
              clear hw
              refine wpAnyH_done (by kernel_rfl) ?_ _
              refine NoOut.normal ?_
              exact ⟨rfl, w_2.heap.size, w_11.heap.size, E, F, _, _, _, _, _, rfl, Y9'.out, Y8.out, ET, FT, ⟨LO9.out, LO10.out, NE.out⟩, B_13_8.out⟩
          · go_simp
            refine hK.out _ _ ?_ (fun hHeld => ?_)
            · exact HSH.out _ (Bl.alloc_ B_10.out _)
            clear hK K hHeld
            try simp only [Act.put, List.getElem_toArray, List.getElem_cons_succ, List.getElem_cons_zero, List.setIfInBounds_toArray, List.set_cons_zero, List.set_cons_succ]
            generalize hw : World.alloc _ _ = w_14
            have B_14 := Lib.hid (show Bl X w_14 from by rw [← hw]; exact Bl.alloc_ B_10.out _)
            have hb : Bl w_10 w_14 := by rw [← hw]; exact Bl.alloc_ (Bl.refl _) _
            have Z10_14 := Lib.hid (show ManyAt w_14 (w_10.heap.size) (List.replicate 576 0) from by rw [← hw]; exact many_new _ _)
            have LO10 := Lib.hid (show X.heap.size ≤ w_10.heap.size from (B_10.out : Bl X _).size)
            have NE := Lib.hid (show w_2.heap.size ≠ w_10.heap.size from Nat.ne_of_lt Z9_10.out.lt)
            have Z9_14 := Lib.hid (Z9_10.out.bl hb)
            have V_14 := Lib.hid (V_10.out.bl hb)
            clear hw hb
            refine wpAnyH_ready (rs := [4]) (by kernel_rfl) (by simp) ?_
            refine AllReadyH.cons rfl (fun K hK => ?_) AllReadyH.nil
            · go_simp
              refine (tableOf_any q A6 (revL L).length c6 (revL L) rfl HC6.out HRO.out _ V_14.out).mono ?_
              rintro e w_15 ⟨F, rfl, hF, hb⟩
              have FL := Lib.hid hF.1
              have FT := Lib.hid hF
              clear hF
              have B_15 := Lib.hid (B_14.out.trans_ hb)
              have Z9_15 := Lib.hid (Z9_14.out.bl hb)
              have Z10_15 := Lib.hid (Z10_14.out.bl hb)
              have V_15 := Lib.hid (V_14.out.bl hb)
              clear hb
              try (go_wp2_with fail)
              refine hK.out _ _ ?_ (fun hHeld => ?_)
              · exact HSH.out _ B_15.out
              clear hK K hHeld
              try simp only [Act.put, List.getElem_toArray, List.getElem_cons_succ, List.getElem_cons_zero, List.setIfInBounds_toArray, List.set_cons_zero, List.set_cons_succ]
              refine wpAnyH_ready (rs := [7]) (by kernel_rfl) (by simp) ?_
              refine AllReadyH.cons rfl (fun K hK => ?_) AllReadyH.nil
              rw [if_pos (by rfl)]
              refine wp_store_mid _ _ _ rfl (w_2.heap.size) 0 (csI E).toArray rfl rfl (by simpa [csI_len, EL.out] using Z9_15.out.there_ (o := 0) (m := 576) (by simp)) (by simpa [csI_len, EL.out] using size576) (csI_one _) ?_
              simp only [Act.put, List.setIfInBounds_toArray, List.set_cons_zero, List.set_cons_succ, List.toList_toArray]
              refine hK.out _ _ ?_ (fun hHeld => ?_)
              · exact HSH.out _ (Bl.setCells_ (w_2.heap.size) LO9.out _ _ _ B_15.out)
              clear hK K hHeld
              try simp only [Act.put, List.getElem_toArray, List.getElem_cons_succ, List.getElem_cons_zero, List.setIfInBounds_toArray, List.set_cons_zero, List.set_cons_succ]
              generalize hw : World.setCells _ _ _ _ = w_16_7
              have B_16_7 := Lib.hid (show Bl X w_16_7 from by rw [← hw]; exact Bl.setCells_ (w_2.heap.size) LO9.out _ _ _ B_15.out)
              have Y7 := Lib.hid (show ManyAt w_16_7 (w_2.heap.size) E from by rw [← hw]; exact Z9_15.out.over (by rw [EL.out]; simp))
              have Z10_16 := Lib.hid (show ManyAt w_16_7 (w_10.heap.size) (List.replicate 576 0) from by rw [← hw]; exact Z10_15.out.turn (Turn.setCells_ (S := fun i => i = w_2.heap.size) (w_2.heap.size) rfl _ _ _ (Turn.refl _ _)) NE.out.symm)
              clear hw
              refine wpAnyH_ready (rs := [8]) (by kernel_rfl) (by simp) ?_
              refine AllReadyH.cons rfl (fun K hK => ?_) AllReadyH.nil
              rw [if_pos (by rfl)]
              refine wp_store_mid _ _ _ rfl (w_10.heap.size) 0 (csI F).toArray rfl rfl (by simpa [csI_len, FL.out] using Z10_16.out.there_ (o := 0) (m := 576) (by simp)) (by simpa [csI_len, FL.out] using size576) (csI_one _) ?_
              simp only [Act.put, List.setIfInBounds_toArray, List.set_cons_zero, List.set_cons_succ, List.toList_toArray]
              refine hK.out _ _ ?_ (fun hHeld => ?_)
              · exact HSH.out _ (Bl.setCells_ (w_10.heap.size) LO10.out _ _ _ B_16_7.out)
              clear hK K hHeld
              try simp only [Act.put, List.getElem_toArray, List.getElem_cons_succ, List.getElem_cons_zero, List.setIfInBounds_toArray, List.set_cons_zero, List.set_cons_succ]
              generalize hw : World.setCells _ _ _ _ = w_16_8
              have B_16_8 := Lib.hid (show Bl X w_16_8 from by rw [← hw]; exact Bl.setCells_ (w_10.heap.size) LO10.out _ _ _ B_16_7.out)
              have Y8 := Lib.hid (show ManyAt w_16_8 (w_10.heap.size) F from by rw [← hw]; exact Z10_16.out.over (by rw [FL.out]; simp))
              have Y9' := Lib.hid (show ManyAt w_16_8 (w_2.heap.size) E from by rw [← hw]; exact Y7.out.turn (Turn.setCells_ (S := fun i => i = w_10.heap.size) (w_10.heap.size) rfl _ _ _ (Turn.refl _ _)) NE.out)
              clear hw
              refine wpAnyH_done (by kernel_rfl) ?_ _
              refine NoOut.normal ?_
              exact ⟨rfl, w_2.heap.size, w_10.heap.size, E, F, _, _, _, _, _, rfl, Y9'.out, Y8.out, ET, FT, ⟨LO9.out, LO10.out, NE.out⟩, B_16_8.out⟩
        · go_simp
          refine hK.out _ _ ?_ (fun hHeld => ?_)
          · exact HSH.out _ (Bl.alloc_ B_2.out _)
          clear hK K hHeld
          try simp only [Act.put, List.getElem_toArray, List.getElem_cons_succ, List.getElem_cons_zero, List.setIfInBounds_toArray, List.set_cons_zero, List.set_cons_succ]
          generalize hw : World.alloc _ _ = w_17
          have B_17 := Lib.hid (show Bl X w_17 from by rw [← hw]; exact Bl.alloc_ B_2.out _)
          have hb : Bl w_2 w_17 := by rw [← hw]; exact Bl.alloc_ (Bl.refl _) _
          have Z10_17 := Lib.hid (show ManyAt w_17 (w_2.heap.size) (List.replicate 576 0) from by rw [← hw]; exact many_new _ _)
          have LO10 := Lib.hid (show X.heap.size ≤ w_2.heap.size from (B_2.out : Bl X _).size)
          have V_17 := Lib.hid (V_2.out.bl hb)
          clear hw hb
          refine wpAnyH_ready (rs := [4, 5]) (by kernel_rfl) (by simp) ?_
          refine AllReadyH.cons rfl (fun K hK => ?_) (AllReadyH.cons rfl (fun K hK => ?_) AllReadyH.nil)
          · go_simp
            refine (tableOf_any q A6 (revL L).length c6 (revL L) rfl HC6.out HRO.out _ V_17.out).mono ?_
            rintro e w_18 ⟨F, rfl, hF, hb⟩
            have FL := Lib.hid hF.1
            have FT := Lib.hid hF
            clear hF
            have B_18 := Lib.hid (B_17.out.trans_ hb)
            have Z10_18 := Lib.hid (Z10_17.out.bl hb)
            have V_18 := Lib.hid (V_17.out.bl hb)
            clear hb
            try (go_wp2_with fail)
            refine hK.out _ _ ?_ (fun hHeld => ?_)
            · exact HSH.out _ B_18.out
            clear hK K hHeld
            try simp only [Act.put, List.getElem_toArray, List.getElem_cons_succ, List.getElem_cons_zero, List.setIfInBounds_toArray, List.set_cons_zero, List.set_cons_succ]
            refine wpAnyH_ready (rs := [5]) (by kernel_rfl) (by simp) ?_
            refine AllReadyH.cons rfl (fun K hK => ?_) AllReadyH.nil
            · go_simp
              refine hK.out _ _ ?_ (fun hHeld => ?_)
              · exact HSH.out _ (Bl.alloc_ B_18.out _)
              clear hK K hHeld
              try simp only [Act.put, List.getElem_toArray, List.getElem_cons_succ, List.getElem_cons_zero, List.setIfInBounds_toArray, List.set_cons_zero, List.set_cons_succ]
              generalize hw : World.alloc _ _ = w_19
              have B_19 := Lib.hid (show Bl X w_19 from by rw [← hw]; exact Bl.alloc_ B_18.out _)
              have hb : Bl w_18 w_19 := by rw [← hw]; exact Bl.alloc_ (Bl.refl _) _
              have Z9_19 := Lib.hid (show ManyAt w_19 (w_18.heap.size) (List.replicate 576 0) from by rw [← hw]; exact many_new _ _)
              have LO9 := Lib.hid (show X.heap.size ≤ w_18.heap.size from (B_18.out : Bl X _).size)
              have NE := Lib.hid (show w_2.heap.size ≠ w_18.heap.size from Nat.ne_of_lt Z10_18.out.lt)
              have Z10_19 := Lib.hid (Z10_18.out.bl hb)
              have V_19 := Lib.hid (V_18.out.bl hb)
              clear hw hb
              refine wpAnyH_ready (rs := [7]) (by kernel_rfl) (by simp) ?_
              refine AllReadyH.cons rfl (fun K hK => ?_) AllReadyH.nil
              rw [if_pos (by rfl)]
              refine wp_store_mid _ _ _ rfl (w_18.heap.size) 0 (csI E).toArray rfl rfl (by simpa [csI_len, EL.out] using Z9_19.out.there_ (o := 0) (m := 576) (by simp)) (by simpa [csI_len, EL.out] using size576) (csI_one _) ?_
              simp only [Act.put, List.setIfInBounds_toArray, List.set_cons_zero, List.set_cons_succ, List.toList_toArray]
              refine hK.out _ _ ?_ (fun hHeld => ?_)
              · exact HSH.out _ (Bl.setCells_ (w_18.heap.size) LO9.out _ _ _ B_19.out)
              clear hK K hHeld
              try simp only [Act.put, List.getElem_toArray, List.getElem_cons_succ, List.getElem_cons_zero, List.setIfInBounds_toArray, List.set_cons_zero, List.set_cons_succ]
              generalize hw : World.setCells _ _ _ _ = w_20_7
              have B_20_7 := Lib.hid (show Bl X w_20_7 from by rw [← hw]; exact Bl.setCells_ (w_18.heap.size) LO9.out _ _ _ B_19.out)
              have Y7 := Lib.hid (show ManyAt w_20_7 (w_18.heap.size) E from by rw [← hw]; exact Z9_19.out.over (by rw [EL.out]; simp))
              have Z10_20 := Lib.hid (show ManyAt w_20_7 (w_2.heap.size) (List.replicate 576 0) from by rw [← hw]; exact Z10_19.out.turn (Turn.setCells_ (S := fun i => i = w_18.heap.size) (w_18.heap.size) rfl _ _ _ (Turn.refl _ _)) NE.out)
              clear hw
              refine wpAnyH_ready (rs := [8]) (by kernel_rfl) (by simp) ?_
              refine AllReadyH.cons rfl (fun K hK => ?_) AllReadyH.nil
              rw [if_pos (by rfl)]
              refine wp_store_mid _ _ _ rfl (w_2.heap.size) 0 (csI F).toArray rfl rfl (by simpa [csI_len, FL.out] using Z10_20.out.there_ (o := 0) (m := 576) (by simp)) (by simpa [csI_len, FL.out] using size576) (csI_one _) ?_
              simp only [Act.put, List.setIfInBounds_toArray, List.set_cons_zero, List.set_cons_succ, List.toList_toArray]
              refine hK.out _ _ ?_ (fun hHeld => ?_)
              · exact HSH.out _ (Bl.setCells_ (w_2.heap.size) LO10.out _ _ _ B_20_7.out)
              clear hK K hHeld
              try simp only [Act.put, List.getElem_toArray, List.getElem_cons_succ, List.getElem_cons_zero, List.setIfInBounds_toArray, List.set_cons_zero, List.set_cons_succ]
              generalize hw : World.setCells _ _ _ _ = w_20_8
              have B_20_8 := Lib.hid (show Bl X w_20_8 from by rw [← hw]; exact Bl.setCells_ (w_2.heap.size) LO10.out _ _ _ B_20_7.out)
              have Y8 := Lib.hid (show ManyAt w_20_8 (w_2.heap.size) F from by rw [← hw]; exact Z10_20.out.over (by rw [FL.out]; simp))
              have Y9' := Lib.hid (show ManyAt w_20_8 (w_18.heap.size) E from by rw [← hw]; exact Y7.out.turn (Turn.setCells_ (S := fun i => i = w_2.heap.size) (w_2.heap.size) rfl _ _ _ (Turn.refl _ _)) NE.out.symm)
              clear hw
              refine wpAnyH_done (by kernel_rfl) ?_ _
              refine NoOut.normal ?_
              exact ⟨rfl, w_18.heap.size, w_2.heap.size, E, F, _, _, _, _, _, rfl, Y9'.out, Y8.out, ET, FT, ⟨LO9.out, LO10.out, NE.out.symm⟩, B_20_8.out⟩
          · go_simp
            refine hK.out _ _ ?_ (fun hHeld => ?_)
            · exact HSH.out _ (Bl.alloc_ B_17.out _)
            clear hK K hHeld
            try simp only [Act.put, List.getElem_toArray, List.getElem_cons_succ, List.getElem_cons_zero, List.setIfInBounds_toArray, List.set_cons_zero, List.set_cons_succ]
            generalize hw : World.alloc _ _ = w_21
            have B_21 := Lib.hid (show Bl X w_21 from by rw [← hw]; exact Bl.alloc_ B_17.out _)
            have hb : Bl w_17 w_21 := by rw [← hw]; exact Bl.alloc_ (Bl.refl _) _
            have Z9_21 := Lib.hid (show ManyAt w_21 (w_17.heap.size) (List.replicate 576 0) from by rw [← hw]; exact many_new _ _)
            have LO9 := Lib.hid (show X.heap.size ≤ w_17.heap.size from (B_17.out : Bl X _).size)
            have NE := Lib.hid (show w_2.heap.size ≠ w_17.heap.size from Nat.ne_of_lt Z10_17.out.lt)
            have Z10_21 := Lib.hid (Z10_17.out.bl hb)
            have V_21 := Lib.hid (V_17.out.bl hb)
            clear hw hb
            refine wpAnyH_ready (rs := [4]) (by kernel_rfl) (by simp) ?_
            refine AllReadyH.cons rfl (fun K hK => ?_) AllReadyH.nil
            · go_simp
              refine (tableOf_any q A6 (revL L).length c6 (revL L) rfl HC6.out HRO.out _ V_21.out).mono ?_
              rintro e w_22 ⟨F, rfl, hF, hb⟩
              have FL := Lib.hid hF.1
              have FT := Lib.hid hF
              clear hF
              have B_22 := Lib.hid (B_21.out.trans_ hb)
              have Z9_22 := Lib.hid (Z9_21.out.bl hb)
              have Z10_22 := Lib.hid (Z10_21.out.bl hb)
              have V_22 := Lib.hid (V_21.out.bl hb)
              clear hb
              try (go_wp2_with fail)
              refine hK.out _ _ ?_ (fun hHeld => ?_)
              · exact HSH.out _ B_22.out
              clear hK K hHeld
              try simp only [Act.put, List.getElem_toArray, List.getElem_cons_succ, List.getElem_cons_zero, List.setIfInBounds_toArray, List.set_cons_zero, List.set_cons_succ]
              refine wpAnyH_ready (rs := [7]) (by kernel_rfl) (by simp) ?_
              refine AllReadyH.cons rfl (fun K hK => ?_) AllReadyH.nil
              rw [if_pos (by rfl)]
              refine wp_store_mid _ _ _ rfl (w_17.heap.size) 0 (csI E).toArray rfl rfl (by simpa [csI_len, EL.out] using Z9_22.out.there_ (o := 0) (m := 576) (by simp)) (by simpa [csI_len, EL.out] using size576) (csI_one _) ?_
              simp only [Act.put, List.setIfInBounds_toArray, List.set_cons_zero, List.set_cons_succ, List.toList_toArray]
              refine hK.out _ _ ?_ (fun hHeld => ?_)
              · exact HSH.out _ (Bl.setCells_ (w_17.heap.size) LO9.out _ _ _ B_22.out)
              clear hK K hHeld
              try simp only [Act.put, List.getElem_toArray, List.getElem_cons_succ, List.getElem_cons_zero, List.setIfInBounds_toArray, List.set_cons_zero, List.set_cons_succ]
              generalize hw : World.setCells _ _ _ _ = w_23_7
              have B_23_7 := Lib.hid (show Bl X w_23_7 from by rw [← hw]; exact Bl.setCells_ (w_17.heap.size) LO9.out _ _ _ B_22.out)
              have Y7 := Lib.hid (show ManyAt w_23_7 (w_17.heap.size) E from by rw [← hw]; exact Z9_22.out.over (by rw [EL.out]; simp))
              have Z10_23 := Lib.hid (show ManyAt w_23_7 (w_2.heap.size) (List.replicate 576 0) from by rw [← hw]; exact Z10_22.out.turn (Turn.setCells_ (S := fun i => i = w_17.heap.size) (w_17.heap.size) rfl _ _ _ (Turn.refl _ _)) NE.out)
              clear hw
              refine wpAnyH_ready (rs := [8]) (by kernel_rfl) (by simp) ?_
              refine AllReadyH.cons rfl (fun K hK => ?_) AllReadyH.nil
              rw [if_pos (by rfl)]
              refine wp_store_mid _ _ _ rfl (w_2.heap.size) 0 (csI F).toArray rfl rfl (by simpa [csI_len, FL.out] using Z10_23.out.there_ (o := 0) (m := 576) (by simp)) (by simpa [csI_len, FL.out] using size576) (csI_one _) ?_
              simp only [Act.put, List.setIfInBounds_toArray, List.set_cons_zero, List.set_cons_succ, List.toList_toArray]
              refine hK.out _ _ ?_ (fun hHeld => ?_)
              · exact HSH.out _ (Bl.setCells_ (w_2.heap.size) LO10.out _ _ _ B_23_7.out)
              clear hK K hHeld
              try simp only [Act.put, List.getElem_toArray, List.getElem_cons_succ, List.getElem_cons_zero, List.setIfInBounds_toArray, List.set_cons_zero, List.set_cons_succ]
              generalize hw : World.setCells _ _ _ _ = w_23_8
              have B_23_8 := Lib.hid (show Bl X w_23_8 from by rw [← hw]; exact Bl.setCells_ (w_2.heap.size) LO10.out _ _ _ B_23_7.out)
              have Y8 := Lib.hid (show ManyAt w_23_8 (w_2.heap.size) F from by rw [← hw]; exact Z10_23.out.over (by rw [FL.out]; simp))
              have Y9' := Lib.hid (show ManyAt w_23_8 (w_17.heap.size) E from by rw [← hw]; exact Y7.out.turn (Turn.setCells_ (S := fun i => i = w_2.heap.size) (w_2.heap.size) rfl _ _ _ (Turn.refl _ _)) NE.out.symm)
              clear hw
              refine wpAnyH_done (by kernel_rfl) ?_ _
              refine NoOut.normal ?_
              exact ⟨rfl, w_17.heap.size, w_2.heap.size, E, F, _, _, _, _, _, rfl, Y9'.out, Y8.out, ET, FT, ⟨LO9.out, LO10.out, NE.out.symm⟩, B_23_8.out⟩
      · go_simp
        refine hK.out _ _ ?_ (fun hHeld => ?_)
        · exact HSH.out _ (Bl.alloc_ B_1.out _)
        clear hK K hHeld
        try simp only [Act.put, List.getElem_toArray, List.getElem_cons_succ, List.getElem_cons_zero, List.setIfInBounds_toArray, List.set_cons_zero, List.set_cons_succ]
        generalize hw : World.alloc _ _ = w_24
        have B_24 := Lib.hid (show Bl X w_24 from by rw [← hw]; exact Bl.alloc_ B_1.out _)
        have hb : Bl w_1 w_24 := by rw [← hw]; exact Bl.alloc_ (Bl.refl _) _
        have Z9_24 := Lib.hid (show ManyAt w_24 (w_1.heap.size) (List.replicate 576 0) from by rw [← hw]; exact many_new _ _)
        have LO9 := Lib.hid (show X.heap.size ≤ w_1.heap.size from (B_1.out : Bl X _).size)
        clear hw hb
        refine wpAnyH_ready (rs := [3, 6]) (by kernel_rfl) (by simp) ?_
        refine AllReadyH.cons rfl (fun K hK => ?_) (AllReadyH.cons rfl (fun K hK => ?_) AllReadyH.nil)
        · go_simp
          refine (implReversed_any q A n c L HN.out _ hm (K1.out.bl (HBW.out.trans_ B_24.out))).mono ?_
          rintro e w_25 ⟨v6, rfl, hv6, hb⟩
          rw [show revN (q : Int) L = (q : Int) from if_pos HO.out]
          rw [show revG (q : Int) L = revL L from if_pos HO.out] at hv6
          have hcap := OwnA.cap_ hv6
          obtain ⟨A6, c6, rfl, ha6, -⟩ := hv6.shape
          have V_25 := Lib.hid ha6
          have HC6 := Lib.hid (hcap _ _ _ rfl)
          clear hv6 hcap ha6
          have B_25 := Lib.hid (B_24.out.trans_ hb)
          have Z9_25 := Lib.hid (Z9_24.out.bl hb)
          clear hb
          try (go_wp2_with fail)
          refine hK.out _ _ ?_ (fun hHeld => ?_)
          · exact HSH.out _ B_25.out
          clear hK K hHeld
          try simp only [Act.put, List.getElem_toArray, List.getElem_cons_succ, List.getElem_cons_zero, List.setIfInBounds_toArray, List.set_cons_zero, List.set_cons_succ]
          refine wpAnyH_ready (rs := [4, 6]) (by kernel_rfl) (by simp) ?_
          refine AllReadyH.cons rfl (fun K hK => ?_) (AllReadyH.cons rfl (fun K hK => ?_) AllReadyH.nil)
          · go_simp
            refine (tableOf_any q A6 (revL L).length c6 (revL L) rfl HC6.out HRO.out _ V_25.out).mono ?_
            rintro e w_26 ⟨F, rfl, hF, hb⟩
            have FL := Lib.hid hF.1
            have FT := Lib.hid hF
            clear hF
            have B_26 := Lib.hid (B_25.out.trans_ hb)
            have Z9_26 := Lib.hid (Z9_25.out.bl hb)
            have V_26 := Lib.hid (V_25.out.bl hb)
            clear hb
            try (go_wp2_with fail)
            refine hK.out _ _ ?_ (fun hHeld => ?_)
            · exact HSH.out _ B_26.out
            clear hK K hHeld
            try simp only [Act.put, List.getElem_toArray, List.getElem_cons_succ, List.getElem_cons_zero, List.setIfInBounds_toArray, List.set_cons_zero, List.set_cons_succ]
            refine wpAnyH_ready (rs := [6]) (by kernel_rfl) (by simp) ?_
            refine AllReadyH.cons rfl (fun K hK => ?_) AllReadyH.nil
            · go_simp
              refine hK.out _ _ ?_ (fun hHeld => ?_)
              · exact HSH.out _ (Bl.alloc_ B_26.out _)
              clear hK K hHeld
              try simp only [Act.put, List.getElem_toArray, List.getElem_cons_succ, List.getElem_cons_zero, List.setIfInBounds_toArray, List.set_cons_zero, List.set_cons_succ]
              generalize hw : World.alloc _ _ = w_27
              have B_27 := Lib.hid (show Bl X w_27 from by rw [← hw]; exact Bl.alloc_ B_26.out _)
              have hb : Bl w_26 w_27 := by rw [← hw]; exact Bl.alloc_ (Bl.refl _) _
              have Z10_27 := Lib.hid (show ManyAt w_27 (w_26.heap.size) (List.replicate 576 0) from by rw [← hw]; exact many_new _ _)
              have LO10 := Lib.hid (show X.heap.size ≤ w_26.heap.size from (B_26.out : Bl X _).size)
              have NE := Lib.hid (show w_1.heap.size ≠ w_26.heap.size from Nat.ne_of_lt Z9_26.out.lt)
              have Z9_27 := Lib.hid (Z9_26.out.bl hb)
              have V_27 := Lib.hid (V_26.out.bl hb)
              clear hw hb
              refine wpAnyH_ready (rs := [7]) (by kernel_rfl) (by simp) ?_
              refine AllReadyH.cons rfl (fun K hK => ?_) AllReadyH.nil
              rw [if_pos (by rfl)]
              refine wp_store_mid _ _ _ rfl (w_1.heap.size) 0 (csI E).toArray rfl rfl (by simpa [csI_len, EL.out] using Z9_27.out.there_ (o := 0) (m := 576) (by simp)) (by simpa [csI_len, EL.out] using size576) (csI_one _) ?_
              simp only [Act.put, List.setIfInBounds_toArray, List.set_cons_zero, List.set_cons_succ, List.toList_toArray]
              refine hK.out _ _ ?_ (fun hHeld => ?_)
              · exact HSH.out _ (Bl.setCells_ (w_1.heap.size) LO9.out _ _ _ B_27.out)
              clear hK K hHeld
              try simp only [Act.put, List.getElem_toArray, List.getElem_cons_succ, List.getElem_cons_zero, List.setIfInBounds_toArray, List.set_cons_zero, List.set_cons_succ]
              generalize hw : World.setCells _ _ _ _ = w_28_7
              have B_28_7 := Lib.hid (show Bl X w_28_7 from by rw [← hw]; exact Bl.setCells_ (w_1.heap.size) LO9.out _ _ _ B_27.out)
              have Y7 := Lib.hid (show ManyAt w_28_7 (w_1.heap.size) E from by rw [← hw]; exact Z9_27.out.over (by rw [EL.out]; simp))
              have Z10_28 := Lib.hid (show ManyAt w_28_7 (w_26.heap.size) (List.replicate 576 0) from by rw [← hw]; exact Z10_27.out.turn (Turn.setCells_ (S := fun i => i = w_1.heap.size) (w_1.heap.size) rfl _ _ _ (Turn.refl _ _)) NE.out.symm)
              clear hw
              refine wpAnyH_ready (rs := [8]) (by kernel_rfl) (by simp) ?_
              refine AllReadyH.cons rfl (fun K hK => ?_) AllReadyH.nil
              rw [if_pos (by rfl)]
              refine wp_store_mid _ _ _ rfl (w_26.heap.size) 0 (csI F).toArray rfl rfl (by simpa [csI_len, FL.out] using Z10_28.out.there_ (o := 0) (m := 576) (by simp)) (by simpa [csI_len, FL.out] using size576) (csI_one _) ?_
              simp only [Act.put, List.setIfInBounds_toArray, List.set_cons_zero, List.set_cons_succ, List.toList_toArray]
              refine hK.out _ _ ?_ (fun hHeld => ?_)
              · exact HSH.out _ (Bl.setCells_ (w_26.heap.size) LO10.out _ _ _ B_28_7.out)
              clear hK K hHeld
              try simp only [Act.put, List.getElem_toArray, List.getElem_cons_succ, List.getElem_cons_zero, List.setIfInBounds_toArray, List.set_cons_zero, List.set_cons_succ]
              generalize hw : World.setCells _ _ _ _ = w_28_8
              have B_28_8 := Lib.hid (show Bl X w_28_8 from by rw [← hw]; exact Bl.setCells_ (w_26.heap.size) LO10.out _ _ _ B_28_7.out)
              have Y8 := Lib.hid (show ManyAt w_28_8 (w_26.heap.size) F from by rw [← hw]; exact Z10_28.out.over (by rw [FL.out]; simp))
              have Y9' := Lib.hid (show ManyAt w_28_8 (w_1.heap.size) E from by rw [← hw]; exact Y7.out.turn (Turn.setCells_ (S := fun i => i = w_26.heap.size) (w_26.heap.size) rfl _ _ _ (Turn.refl _ _)) NE.out)
              clear hw
              refine wpAnyH_done (by kernel_rfl) ?_ _
              refine NoOut.normal ?_
              exact ⟨rfl, w_1.heap.size, w_26.heap.size, E, F, _, _, _, _, _, rfl, Y9'.out, Y8.out, ET, FT, ⟨LO9.out, LO10.out, NE.out⟩, B_28_8.out⟩
          · go_simp
            refine hK.out _ _ ?_ (fun hHeld => ?_)
            · exact HSH.out _ (Bl.alloc_ B_25.out _)
            clear hK K hHeld
            try simp only [Act.put, List.getElem_toArray, List.getElem_cons_succ, List.getElem_cons_zero, List.setIfInBounds_toArray, List.set_cons_zero, List.set_cons_succ]
            generalize hw : World.alloc _ _ = w_29
            have B_29 := Lib.hid (show Bl X w_29 from by rw [← hw]; exact Bl.alloc_ B_25.out _)
            have hb : Bl w_25 w_29 := by rw [← hw]; exact Bl.alloc_ (Bl.refl _) _
            have Z10_29 := Lib.hid (show ManyAt w_29 (w_25.heap.size) (List.replicate 576 0) from by rw [← hw]; exact many_new _ _)
            have LO10 := Lib.hid (show X.heap.size ≤ w_25.heap.size from (B_25.out : Bl X _).size)
            have NE := Lib.hid (show w_1.heap.size ≠ w_25.heap.size from Nat.ne_of_lt Z9_25.out.lt)
            have Z9_29 := Lib.hid (Z9_25.out.bl hb)
            have V_29 := Lib.hid (V_25.out.bl hb)
            clear hw hb
            refine wpAnyH_ready (rs := [4]) (by kernel_rfl) (by simp) ?_
            refine AllReadyH.cons rfl (fun K hK => ?_) AllReadyH.nil
            · go_simp
              refine (tableOf_any q A6 (revL L).length c6 (revL L) rfl HC6.out HRO.out _ V_29.out).mono ?_
              rintro e w_30 ⟨F, rfl, hF, hb⟩
              have FL := Lib.hid hF.1
              have FT := Lib.hid hF
              clear hF
              have B_30 := Lib.hid (B_29.out.trans_ hb)
              have Z9_30 := Lib.hid (Z9_29.out.bl hb)
              have Z10_30 := Lib.hid (Z10_29.out.bl hb)
              have V_30 := Lib.hid (V_29.out.bl hb)
              clear hb
              try (go_wp2_with fail)
              refine hK.out _ _ ?_ (fun hHeld => ?_)
              · exact HSH.out _ B_30.out
              clear hK K hHeld
              try simp only [Act.put, List.getElem_toArray, List.getElem_cons_succ, List.getElem_cons_zero, List.setIfInBounds_toArray, List.set_cons_zero, List.set_cons_succ]
              refine wpAnyH_ready (rs := [7]) (by kernel_rfl) (by simp) ?_
              refine AllReadyH.cons rfl (fun K hK => ?_) AllReadyH.nil
              rw [if_pos (by rfl)]
              refine wp_store_mid _ _ _ rfl (w_1.heap.size) 0 (csI E).toArray rfl rfl (by simpa [csI_len, EL.out] using Z9_30.out.there_ (o := 0) (m := 576) (by simp)) (by simpa [csI_len, EL.out] using size576) (csI_one _) ?_
              simp only [Act.put, List.setIfInBounds_toArray, List.set_cons_zero, List.set_cons_succ, List.toList_toArray]
              refine hK.out _ _ ?_ (fun hHeld => ?_)
              · exact HSH.out _ (Bl.setCells_ (w_1.heap.size) LO9.out _ _ _ B_30.out)
              clear hK K hHeld
              try simp only [Act.put, List.getElem_toArray, List.getElem_cons_succ, List.getElem_cons_zero, List.setIfInBounds_toArray, List.set_cons_zero, List.set_cons_succ]
              generalize hw : World.setCells _ _ _ _ = w_31_7
              have B_31_7 := Lib.hid (show Bl X w_31_7 from by rw [← hw]; exact Bl.setCells_ (w_1.heap.size) LO9.out _ _ _ B_30.out)
              have Y7 := Lib.hid (show ManyAt w_31_7 (w_1.heap.size) E from by rw [← hw]; exact Z9_30.out.over (by rw [EL.out]; simp))
              have Z10_31 := Lib.hid (show ManyAt w_31_7 (w_25.heap.size) (List.replicate 576 0) from by rw [← hw]; exact Z10_30.out.turn (Turn.setCells_ (S := fun i => i = w_1.heap.size) (w_1.heap.size) rfl _ _ _ (Turn.refl _ _)) NE.out.symm)
              clear hw
              refine wpAnyH_ready (rs := [8]) (by kernel_rfl) (by simp) ?_
              refine AllReadyH.cons rfl (fun K hK => ?_) AllReadyH.nil
              rw [if_pos (by rfl)]
              refine wp_store_mid _ _ _ rfl (w_25.heap.size) 0 (csI F).toArray rfl rfl (by simpa [csI_len, FL.out] using Z10_31.out.there_ (o := 0) (m := 576) (by simp)) (by simpa [csI_len, FL.out] using size576) (csI_one _) ?_
              simp only [Act.put, List.setIfInBounds_toArray, List.set_cons_zero, List.set_cons_succ, List.toList_toArray]
              refine hK.out _ _ ?_ (fun hHeld => ?_)
              · exact HSH.out _ (Bl.setCells_ (w_25.heap.size) LO10.out _ _ _ B_31_7.out)
              clear hK K hHeld
              try simp only [Act.put, List.getElem_toArray, List.getElem_cons_succ, List.getElem_cons_zero, List.setIfInBounds_toArray, List.set_cons_zero, List.set_cons_succ]
              generalize hw : World.setCells _ _ _ _ = w_31_8
              have B_31_8 := Lib.hid (show Bl X w_31_8 from by rw [← hw]; exact Bl.setCells_ (w_25.heap.size) LO10.out _ _ _ B_31_7.out)
              have Y8 := Lib.hid (show ManyAt w_31_8 (w_25.heap.size) F from by rw [← hw]; exact Z10_31.out.over (by rw [FL.out]; simp))
              have Y9' := Lib.hid (show ManyAt w_31_8 (w_1.heap.size) E from by rw [← hw]; exact Y7.out.turn (Turn.setCells_ (S := fun i => i = w_25.heap.size) (w_25.heap.size) rfl _ _ _ (Turn.refl _ _)) NE.out)
              clear hw
              refine wpAnyH_done (by kernel_rfl) ?_ _
              refine NoOut.normal ?_
              exact ⟨rfl, w_1.heap.size, w_25.heap.size, E, F, _, _, _, _, _, rfl, Y9'.out, Y8.out, ET, FT, ⟨LO9.out, LO10.out, NE.out⟩, B_31_8.out⟩
        · go_simp
          refine hK.out _ _ ?_ (fun hHeld => ?_)
          · exact HSH.out _ (Bl.alloc_ B_24.out _)
          clear hK K hHeld
          try simp only [Act.put, List.getElem_toArray, List.getElem_cons_succ, List.getElem_cons_zero, List.setIfInBounds_toArray, List.set_cons_zero, List.set_cons_succ]
          generalize hw : World.alloc _ _ = w_32
          have B_32 := Lib.hid (show Bl X w_32 from by rw [← hw]; exact Bl.alloc_ B_24.out _)
          have hb : Bl w_24 w_32 := by rw [← hw]; exact Bl.alloc_ (Bl.refl _) _
          have Z10_32 := Lib.hid (show ManyAt w_32 (w_24.heap.size) (List.replicate 576 0) from by rw [← hw]; exact many_new _ _)
          have LO10 := Lib.hid (show X.heap.size ≤ w_24.heap.size from (B_24.out : Bl X _).size)
          have NE := Lib.hid (show w_1.heap.size ≠ w_24.heap.size from Nat.ne_of_lt Z9_24.out.lt)
          have Z9_32 := Lib.hid (Z9_24.out.bl hb)
          clear hw hb
          refine wpAnyH_ready (rs := [3]) (by kernel_rfl) (by simp) ?_
          refine AllReadyH.cons rfl (fun K hK => ?_) AllReadyH.nil
          · go_simp
            refine (implReversed_any q A n c L HN.out _ hm (K1.out.bl (HBW.out.trans_ B_32.out))).mono ?_
            rintro e w_33 ⟨v6, rfl, hv6, hb⟩
            rw [show revN (q : Int) L = (q : Int) from if_pos HO.out]
            rw [show revG (q : Int) L = revL L from if_pos HO.out] at hv6
            have hcap := OwnA.cap_ hv6
            obtain ⟨A6, c6, rfl, ha6, -⟩ := hv6.shape
            have V_33 := Lib.hid ha6
            have HC6 := Lib.hid (hcap _ _ _ rfl)
            clear hv6 hcap ha6
            have B_33 := Lib.hid (B_32.out.trans_ hb)
            have Z9_33 := Lib.hid (Z9_32.out.bl hb)
            have Z10_33 := Lib.hid (Z10_32.out.bl hb)
            clear hb
            try (go_wp2_with fail)
            refine hK.out _ _ ?_ (fun hHeld => ?_)
            · exact HSH.out _ B_33.out
            clear hK K hHeld
            try simp only [Act.put, List.getElem_toArray, List.getElem_cons_succ, List.getElem_cons_zero, List.setIfInBounds_toArray, List.set_cons_zero, List.set_cons_succ]
            refine wpAnyH_ready (rs := [4]) (by kernel_rfl) (by simp) ?_
            refine AllReadyH.cons rfl (fun K hK => ?_) AllReadyH.nil
            · go_simp
              refine (tableOf_any q A6 (revL L).length c6 (revL L) rfl HC6.out HRO.out _ V_33.out).mono ?_
              rintro e w_34 ⟨F, rfl, hF, hb⟩
              have FL := Lib.hid hF.1
              have FT := Lib.hid hF
              clear hF
              have B_34 := Lib.hid (B_33.out.trans_ hb)
              have Z9_34 := Lib.hid (Z9_33.out.bl hb)
              have Z10_34 := Lib.hid (Z10_33.out.bl hb)
              have V_34 := Lib.hid (V_33.out.bl hb)
              clear hb
              try (go_wp2_with fail)
              refine hK.out _ _ ?_ (fun hHeld => ?_)
              · exact HSH.out _ B_34.out
              clear hK K hHeld
              try simp only [Act.put, List.getElem_toArray, List.getElem_cons_succ, List.getElem_cons_zero, List.setIfInBounds_toArray, List.set_cons_zero, List.set_cons_succ]
              refine wpAnyH_ready (rs := [7]) (by kernel_rfl) (by simp) ?_
              refine AllReadyH.cons rfl (fun K hK => ?_) AllReadyH.nil
              rw [if_pos (by rfl)]
              refine wp_store_mid _ _ _ rfl (w_1.heap.size) 0 (csI E).toArray rfl rfl (by simpa [csI_len, EL.out] using Z9_34.out.there_ (o := 0) (m := 576) (by simp)) (by simpa [csI_len, EL.out] using size576) (csI_one _) ?_
              simp only [Act.put, List.setIfInBounds_toArray, List.set_cons_zero, List.set_cons_succ, List.toList_toArray]
              refine hK.out _ _ ?_ (fun hHeld => ?_)
              · exact HSH.out _ (Bl.setCells_ (w_1.heap.size) LO9.out _ _ _ B_34.out)
              clear hK K hHeld
              try simp only [Act.put, List.getElem_toArray, List.getElem_cons_succ, List.getElem_cons_zero, List.setIfInBounds_toArray, List.set_cons_zero, List.set_cons_succ]
              generalize hw : World.setCells _ _ _ _ = w_35_7
              have B_35_7 := Lib.hid (show Bl X w_35_7 from by rw [← hw]; exact Bl.setCells_ (w_1.heap.size) LO9.out _ _ _ B_34.out)
              have Y7 := Lib.hid (show ManyAt w_35_7 (w_1.heap.size) E from by rw [← hw]; exact Z9_34.out.over (by rw [EL.out]; simp))
              have Z10_35 := Lib.hid (show ManyAt w_35_7 (w_24.heap.size) (List.replicate 576 0) from by rw [← hw]; exact Z10_34.out.turn (Turn.setCells_ (S := fun i => i = w_1.heap.size) (w_1.heap.size) rfl _ _ _ (Turn.refl _ _)) NE.out.symm)
              clear hw
              refine wpAnyH_ready (rs := [8]) (by kernel_rfl) (by simp) ?_
              refine AllReadyH.cons rfl (fun K hK => ?_) AllReadyH.nil
              rw [if_pos (by rfl)]
              refine wp_store_mid _ _ _ rfl (w_24.heap.size) 0 (csI F).toArray rfl rfl (by simpa [csI_len, FL.out] using Z10_35.out.there_ (o := 0) (m := 576) (by simp)) (by simpa [csI_len, FL.out] using size576) (csI_one _) ?_
              simp only [Act.put, List.setIfInBounds_toArray, List.set_cons_zero, List.set_cons_succ, List.toList_toArray]
              refine hK.out _ _ ?_ (fun hHeld => ?_)
              · exact HSH.out _ (Bl.setCells_ (w_24.heap.size) LO10.out _ _ _ B_35_7.out)
              clear hK K hHeld
              try simp only [Act.put, List.getElem_toArray, List.getElem_cons_succ, List.getElem_cons_zero, List.setIfInBounds_toArray, List.set_cons_zero, List.set_cons_succ]
              generalize hw : World.setCells _ _ _ _ = w_35_8
              have B_35_8 := Lib.hid (show Bl X w_35_8 from by rw [← hw]; exact Bl.setCells_ (w_24.heap.size) LO10.out _ _ _ B_35_7.out)
              have Y8 := Lib.hid (show ManyAt w_35_8 (w_24.heap.size) F from by rw [← hw]; exact Z10_35.out.over (by rw [FL.out]; simp))
              have Y9' := Lib.hid (show ManyAt w_35_8 (w_1.heap.size) E from by rw [← hw]; exact Y7.out.turn (Turn.setCells_ (S := fun i => i = w_24.heap.size) (w_24.heap.size) rfl _ _ _ (Turn.refl _ _)) NE.out)
              clear hw
              refine wpAnyH_done (by kernel_rfl) ?_ _
              refine NoOut.normal ?_
              exact ⟨rfl, w_1.heap.size, w_24.heap.size, E, F, _, _, _, _, _, rfl, Y9'.out, Y8.out, ET, FT, ⟨LO9.out, LO10.out, NE.out⟩, B_35_8.out⟩
      · go_simp
        refine hK.out _ _ ?_ (fun hHeld => ?_)
        · exact HSH.out _ (Bl.alloc_ B_1.out _)
        clear hK K hHeld
        try simp only [Act.put, List.getElem_toArray, List.getElem_cons_succ, List.getElem_cons_zero, List.setIfInBounds_toArray, List.set_cons_zero, List.set_cons_succ]
        generalize hw : World.alloc _ _ = w_36
        have B_36 := Lib.hid (show Bl X w_36 from by rw [← hw]; exact Bl.alloc_ B_1.out _)
        have hb : Bl w_1 w_36 := by rw [← hw]; exact Bl.alloc_ (Bl.refl _) _
        have Z10_36 := Lib.hid (show ManyAt w_36 (w_1.heap.size) (List.replicate 576 0) from by rw [← hw]; exact many_new _ _)
        have LO10 := Lib.hid (show X.heap.size ≤ w_1.heap.size from (B_1.out : Bl X _).size)
        clear hw hb
        refine wpAnyH_ready (rs := [3, 5]) (by kernel_rfl) (by simp) ?_
        refine AllReadyH.cons rfl (fun K hK => ?_) (AllReadyH.cons rfl (fun K hK => ?_) AllReadyH.nil)
        · go_simp
          refine (implReversed_any q A n c L HN.out _ hm (K1.out.bl (HBW.out.trans_ B_36.out))).mono ?_
          rintro e w_37 ⟨v6, rfl, hv6, hb⟩
          rw [show revN (q : Int) L = (q : Int) from if_pos HO.out]
          rw [show revG (q : Int) L = revL L from if_pos HO.out] at hv6
          have hcap := OwnA.cap_ hv6
          obtain ⟨A6, c6, rfl, ha6, -⟩ := hv6.shape
          have V_37 := Lib.hid ha6
          have HC6 := Lib.hid (hcap _ _ _ rfl)
          clear hv6 hcap ha6
          have B_37 := Lib.hid (B_36.out.trans_ hb)
          have Z10_37 := Lib.hid (Z10_36.out.bl hb)
          clear hb
          try (go_wp2_with fail)
          refine hK.out _ _ ?_ (fun hHeld => ?_)
          · exact HSH.out _ B_37.out
          clear hK K hHeld
          try simp only [Act.put, List.getElem_toArray, List.getElem_cons_succ, List.getElem_cons_zero, List.setIfInBounds_toArray, List.set_cons_zero, List.set_cons_succ]
          refine wpAnyH_ready (rs := [4, 5]) (by kernel_rfl) (by simp) ?_
          refine AllReadyH.cons rfl (fun K hK => ?_) (AllReadyH.cons rfl (fun K hK => ?_) AllReadyH.nil)
          · go_simp
            refine (tableOf_any q A6 (revL L).length c6 (revL L) rfl HC6.out HRO.out _ V_37.out).mono ?_
            rintro e w_38 ⟨F, rfl, hF, hb⟩
            have FL := Lib.hid hF.1
            have FT := Lib.hid hF
            clear hF
            have B_38 := Lib.hid (B_37.out.trans_ hb)
            have Z10_38 := Lib.hid (Z10_37.out.bl hb)
            have V_38 := Lib.hid (V_37.out.bl hb)
            clear hb
            try (go_wp2_with fail)
            refine hK.out _ _ ?_ (fun hHeld => ?_)
            · exact HSH.out _ B_38.out
            clear hK K hHeld
            try simp only [Act.put, List.getElem_toArray, List.getElem_cons_succ, List.getElem_cons_zero, List.setIfInBounds_toArray, List.set_cons_zero, List.set_cons_succ]
            refine wpAnyH_ready (rs := [5]) (by kernel_rfl) (by simp) ?_
            refine AllReadyH.cons rfl (fun K hK => ?_) AllReadyH.nil
            · go_simp
              refine hK.out _ _ ?_ (fun hHeld => ?_)
              · exact HSH.out _ (Bl.alloc_ B_38.out _)
              clear hK K hHeld
              try simp only [Act.put, List.getElem_toArray, List.getElem_cons_succ, List.getElem_cons_zero, List.setIfInBounds_toArray, List.set_cons_zero, List.set_cons_succ]
              generalize hw : World.alloc _ _ = w_39
              have B_39 := Lib.hid (show Bl X w_39 from by rw [← hw]; exact Bl.alloc_ B_38.out _)
              have hb : Bl w_38 w_39 := by rw [← hw]; exact Bl.alloc_ (Bl.refl _) _
              have Z9_39 := Lib.hid (show ManyAt w_39 (w_38.heap.size) (List.replicate 576 0) from by rw [← hw]; exact many_new _ _)
              have LO9 := Lib.hid (show X.heap.size ≤ w_38.heap.size from (B_38.out : Bl X _).size)
              have NE := Lib.hid (show w_1.heap.size ≠ w_38.heap.size from Nat.ne_of_lt Z10_38.out.lt)
              have Z10_39 := Lib.hid (Z10_38.out.bl hb)
              have V_39 := Lib.hid (V_38.out.bl hb)
              clear hw hb
              refine wpAnyH_ready (rs := [7]) (by kernel_rfl) (by simp) ?_
              refine AllReadyH.cons rfl (fun K hK => ?_) AllReadyH.nil
              rw [if_pos (by rfl)]
              refine wp_store_mid _ _ _ rfl (w_38.heap.size) 0 (csI E).toArray rfl rfl (by simpa [csI_len, EL.out] using Z9_39.out.there_ (o := 0) (m := 576) (by simp)) (by simpa [csI_len, EL.out] using size576) (csI_one _) ?_
              simp only [Act.put, List.setIfInBounds_toArray, List.set_cons_zero, List.set_cons_succ, List.toList_toArray]
              refine hK.out _ _ ?_ (fun hHeld => ?_)
              · exact HSH.out _ (Bl.setCells_ (w_38.heap.size) LO9.out _ _ _ B_39.out)
              clear hK K hHeld
              try simp only [Act.put, List.getElem_toArray, List.getElem_cons_succ, List.getElem_cons_zero, List.setIfInBounds_toArray, List.set_cons_zero, List.set_cons_succ]
              generalize hw : World.setCells _ _ _ _ = w_40_7
              have B_40_7 := Lib.hid (show Bl X w_40_7 from by rw [← hw]; exact Bl.setCells_ (w_38.heap.size) LO9.out _ _ _ B_39.out)
              have Y7 := Lib.hid (show ManyAt w_40_7 (w_38.heap.size) E from by rw [← hw]; exact Z9_39.out.over (by rw [EL.out]; simp))
              have Z10_40 := Lib.hid (show ManyAt w_40_7 (w_1.heap.size) (List.replicate 576 0) from by rw [← hw]; exact Z10_39.out.turn (Turn.setCells_ (S := fun i => i = w_38.heap.size) (w_38.heap.size) rfl _ _ _ (Turn.refl _ _)) NE.out)
              clear hw
              refine wpAnyH_ready (rs := [8]) (by kernel_rfl) (by simp) ?_
              refine AllReadyH.cons rfl (fun K hK => ?_) AllReadyH.nil
              rw [if_pos (by rfl)]
              refine wp_store_mid _ _ _ rfl (w_1.heap.size) 0 (csI F).toArray rfl rfl (by simpa [csI_len, FL.out] using Z10_40.out.there_ (o := 0) (m := 576) (by simp)) (by simpa [csI_len, FL.out] using size576) (csI_one _) ?_
              simp only [Act.put, List.setIfInBounds_toArray, List.set_cons_zero, List.set_cons_succ, List.toList_toArray]
              refine hK.out _ _ ?_ (fun hHeld => ?_)
              · exact HSH.out _ (Bl.setCells_ (w_1.heap.size) LO10.out _ _ _ B_40_7.out)
              clear hK K hHeld
              try simp only [Act.put, List.getElem_toArray, List.getElem_cons_succ, List.getElem_cons_zero, List.setIfInBounds_toArray, List.set_cons_zero, List.set_cons_succ]
              generalize hw : World.setCells _ _ _ _ = w_40_8
              have B_40_8 := Lib.hid (show Bl X w_40_8 from by rw [← hw]; exact Bl.setCells_ (w_1.heap.size) LO10.out _ _ _ B_40_7.out)
              have Y8 := Lib.hid (show ManyAt w_40_8 (w_1.heap.size) F from by rw [← hw]; exact Z10_40.out.over (by rw [FL.out]; simp))
              have Y9' := Lib.hid (show ManyAt w_40_8 (w_38.heap.size) E from by rw [← hw]; exact Y7.out.turn (Turn.setCells_ (S := fun i => i = w_1.heap.size) (w_1.heap.size) rfl _ _ _ (Turn.refl _ _)) NE.out.symm)
              clear hw
              refine wpAnyH_done (by kernel_rfl) ?_ _
              refine NoOut.normal ?_
              exact ⟨rfl, w_38.heap.size, w_1.heap.size, E, F, _, _, _, _, _, rfl, Y9'.out, Y8.out, ET, FT, ⟨LO9.out, LO10.out, NE.out.symm⟩, B_40_8.out⟩
          · go_simp
            refine hK.out _ _ ?_ (fun hHeld => ?_)
            · exact HSH.out _ (Bl.alloc_ B_37.out _)
            clear hK K hHeld
            try simp only [Act.put, List.getElem_toArray, List.getElem_cons_succ, List.getElem_cons_zero, List.setIfInBounds_toArray, List.set_cons_zero, List.set_cons_succ]
            generalize hw : World.alloc _ _ = w_41
            have B_41 := Lib.hid (show Bl X w_41 from by rw [← hw]; exact Bl.alloc_ B_37.out _)
            have hb : Bl w_37 w_41 := by rw [← hw]; exact Bl.alloc_ (Bl.refl _) _
            have Z9_41 := Lib.hid (show ManyAt w_41 (w_37.heap.size) (List.replicate 576 0) from by rw [← hw]; exact many_new _ _)
            have LO9 := Lib.hid (show X.heap.size ≤ w_37.heap.size from (B_37.out : Bl X _).size)
            have NE := Lib.hid (show w_1.heap.size ≠ w_37.heap.size from Nat.ne_of_lt Z10_37.out.lt)
            have Z10_41 := Lib.hid (Z10_37.out.bl hb)
            have V_41 := Lib.hid (V_37.out.bl hb)
            clear hw hb
            refine wpAnyH_ready (rs := [4]) (by kernel_rfl) (by simp) ?_
            refine AllReadyH.cons rfl (fun K hK => ?_) AllReadyH.nil
            · go_simp
              refine (tableOf_any q A6 (revL L).length c6 (revL L) rfl HC6.out HRO.out _ V_41.out).mono ?_
              rintro e w_42 ⟨F, rfl, hF, hb⟩
              have FL := Lib.hid hF.1
              have FT := Lib.hid hF
              clear hF
              have B_42 := Lib.hid (B_41.out.trans_ hb)
              have Z9_42 := Lib.hid (Z9_41.out.bl hb)
              have Z10_42 := Lib.hid (Z10_41.out.bl hb)
              have V_42 := Lib.hid (V_41.out.bl hb)
              clear hb
              try (go_wp2_with fail)
              refine hK.out _ _ ?_ (fun hHeld => ?_)
              · exact HSH.out _ B_42.out
              clear hK K hHeld
              try simp only [Act.put, List.getElem_toArray, List.getElem_cons_succ, List.getElem_cons_zero, List.setIfInBounds_toArray, List.set_cons_zero, List.set_cons_succ]
              refine wpAnyH_ready (rs := [7]) (by kernel_rfl) (by simp) ?_
              refine AllReadyH.cons rfl (fun K hK => ?_) AllReadyH.nil
              rw [if_pos (by rfl)]
              refine wp_store_mid _ _ _ rfl (w_37.heap.size) 0 (csI E).toArray rfl rfl (by simpa [csI_len, EL.out] using Z9_42.out.there_ (o := 0) (m := 576) (by simp)) (by simpa [csI_len, EL.out] using size576) (csI_one _) ?_
              simp only [Act.put, List.setIfInBounds_toArray, List.set_cons_zero, List.set_cons_succ, List.toList_toArray]
              refine hK.out _ _ ?_ (fun hHeld => ?_)
              · exact HSH.out _ (Bl.setCells_ (w_37.heap.size) LO9.out _ _ _ B_42.out)
              clear hK K hHeld
              try simp only [Act.put, List.getElem_toArray, List.getElem_cons_succ, List.getElem_cons_zero, List.setIfInBounds_toArray, List.set_cons_zero, List.set_cons_succ]
              generalize hw : World.setCells _ _ _ _ = w_43_7
              have B_43_7 := Lib.hid (show Bl X w_43_7 from by rw [← hw]; exact Bl.setCells_ (w_37.heap.size) LO9.out _ _ _ B_42.out)
              have Y7 := Lib.hid (show ManyAt w_43_7 (w_37.heap.size) E from by rw [← hw]; exact Z9_42.out.over (by rw [EL.out]; simp))
              have Z10_43 := Lib.hid (show ManyAt w_43_7 (w_1.heap.size) (List.replicate 576 0) from by rw [← hw]; exact Z10_42.out.turn (Turn.setCells_ (S := fun i => i = w_37.heap.size) (w_37.heap.size) rfl _ _ _ (Turn.refl _ _)) NE.out)
              clear hw
              refine wpAnyH_ready (rs := [8]) (by kernel_rfl) (by simp) ?_
              refine AllReadyH.cons rfl (fun K hK => ?_) AllReadyH.nil
              rw [if_pos (by rfl)]
              refine wp_store_mid _ _ _ rfl (w_1.heap.size) 0 (csI F).toArray rfl rfl (by simpa [csI_len, FL.out] using Z10_43.out.there_ (o := 0) (m := 576) (by simp)) (by simpa [csI_len, FL.out] using size576) (csI_one _) ?_
              simp only [Act.put, List.setIfInBounds_toArray, List.set_cons_zero, List.set_cons_succ, List.toList_toArray]
              refine hK.out _ _ ?_ (fun hHeld => ?_)
              · exact HSH.out _ (Bl.setCells_ (w_1.heap.size) LO10.out _ _ _ B_43_7.out)
              clear hK K hHeld
              try simp only [Act.put, List.getElem_toArray, List.getElem_cons_succ, List.getElem_cons_zero, List.setIfInBounds_toArray, List.set_cons_zero, List.set_cons_succ]
              generalize hw : World.setCells _ _ _ _ = w_43_8
              have B_43_8 := Lib.hid (show Bl X w_43_8 from by rw [← hw]; exact Bl.setCells_ (w_1.heap.size) LO10.out _ _ _ B_43_7.out)
              have Y8 := Lib.hid (show ManyAt w_43_8 (w_1.heap.size) F from by rw [← hw]; exact Z10_43.out.over (by rw [FL.out]; simp))
              have Y9' := Lib.hid (show ManyAt w_43_8 (w_37.heap.size) E from by rw [← hw]; exact Y7.out.turn (Turn.setCells_ (S := fun i => i = w_1.heap.size) (w_1.heap.size) rfl _ _ _ (Turn.refl _ _)) NE.out.symm)
              clear hw
              refine wpAnyH_done (by kernel_rfl) ?_ _
              refine NoOut.normal ?_
              exact ⟨rfl, w_37.heap.size, w_1.heap.size, E, F, _, _, _, _, _, rfl, Y9'.out, Y8.out, ET, FT, ⟨LO9.out, LO10.out, NE.out.symm⟩, B_43_8.out⟩
        · go_simp
          refine hK.out _ _ ?_ (fun hHeld => ?_)
          · exact HSH.out _ (Bl.alloc_ B_36.out _)
          clear hK K hHeld
          try simp only [Act.put, List.getElem_toArray, List.getElem_cons_succ, List.getElem_cons_zero, List.setIfInBounds_toArray, List.set_cons_zero, List.set_cons_succ]
          generalize hw : World.alloc _ _ = w_44
          have B_44 := Lib.hid (show Bl X w_44 from by rw [← hw]; exact Bl.alloc_ B_36.out _)
          have hb : Bl w_36 w_44 := by rw [← hw]; exact Bl.alloc_ (Bl.refl _) _
          have Z9_44 := Lib.hid (show ManyAt w_44 (w_36.heap.size) (List.replicate 576 0) from by rw [← hw]; exact many_new _ _)
          have LO9 := Lib.hid (show X.heap.size ≤ w_36.heap.size from (B_36.out : Bl X _).size)
          have NE := Lib.hid (show w_1.heap.size ≠ w_36.heap.size from Nat.ne_of_lt Z10_36.out.lt)
          have Z10_44 := Lib.hid (Z10_36.out.bl hb)
          clear hw hb
          refine wpAnyH_ready (rs := [3]) (by kernel_rfl) (by simp) ?_
          refine AllReadyH.cons rfl (fun K hK => ?_) AllReadyH.nil
          · go_simp
            refine (implReversed_any q A n c L HN.out _ hm (K1.out.bl (HBW.out.trans_ B_44.out))).mono ?_
            rintro e w_45 ⟨v6, rfl, hv6, hb⟩
            rw [show revN (q : Int) L = (q : Int) from if_pos HO.out]
            rw [show revG (q : Int) L = revL L from if_pos HO.out] at hv6
            have hcap := OwnA.cap_ hv6
            obtain ⟨A6, c6, rfl, ha6, -⟩ := hv6.shape
            have V_45 := Lib.hid ha6
            have HC6 := Lib.hid (hcap _ _ _ rfl)
            clear hv6 hcap ha6
            have B_45 := Lib.hid (B_44.out.trans_ hb)
            have Z9_45 := Lib.hid (Z9_44.out.bl hb)
            have Z10_45 := Lib.hid (Z10_44.out.bl hb)
            clear hb
            try (go_wp2_with fail)
            refine hK.out _ _ ?_ (fun hHeld => ?_)
            · exact HSH.out _ B_45.out
            clear hK K hHeld
            try simp only [Act.put, List.getElem_toArray, List.getElem_cons_succ, List.getElem_cons_zero, List.setIfInBounds_toArray, List.set_cons_zero, List.set_cons_succ]
            refine wpAnyH_ready (rs := [4]) (by kernel_rfl) (by simp) ?_
            refine AllReadyH.cons rfl (fun K hK => ?_) AllReadyH.nil
            · go_simp
              refine (tableOf_any q A6 (revL L).length c6 (revL L) rfl HC6.out HRO.out _ V_45.out).mono ?_
              rintro e w_46 ⟨F, rfl, hF, hb⟩
              have FL := Lib.hid hF.1
              have FT := Lib.hid hF
              clear hF
              have B_46 := Lib.hid (B_45.out.trans_ hb)
              have Z9_46 := Lib.hid (Z9_45.out.bl hb)
              have Z10_46 := Lib.hid (Z10_45.out.bl hb)
              have V_46 := Lib.hid (V_45.out.bl hb)
              clear hb
              try (go_wp2_with fail)
              refine hK.out _ _ ?_ (fun hHeld => ?_)
              · exact HSH.out _ B_46.out
              clear hK K hHeld
              try simp only [Act.put, List.getElem_toArray, List.getElem_cons_succ, List.getElem_cons_zero, List.setIfInBounds_toArray, List.set_cons_zero, List.set_cons_succ]
              refine wpAnyH_ready (rs := [7]) (by kernel_rfl) (by simp) ?_
              refine AllReadyH.cons rfl (fun K hK => ?_) AllReadyH.nil
              rw [if_pos (by rfl)]
              refine wp_store_mid _ _ _ rfl (w_36.heap.size) 0 (csI E).toArray rfl rfl (by simpa [csI_len, EL.out] using Z9_46.out.there_ (o := 0) (m := 576) (by simp)) (by simpa [csI_len, EL.out] using size576) (csI_one _) ?_
              simp only [Act.put, List.setIfInBounds_toArray, List.set_cons_zero, List.set_cons_succ, List.toList_toArray]
              refine hK.out _ _ ?_ (fun hHeld => ?_)
              · exact HSH.out _ (Bl.setCells_ (w_36.heap.size) LO9.out _ _ _ B_46.out)
              clear hK K hHeld
              try simp only [Act.put, List.getElem_toArray, List.getElem_cons_succ, List.getElem_cons_zero, List.setIfInBounds_toArray, List.set_cons_zero, List.set_cons_succ]
              generalize hw : World.setCells _ _ _ _ = w_47_7
              have B_47_7 := Lib.hid (show Bl X w_47_7 from by rw [← hw]; exact Bl.setCells_ (w_36.heap.size) LO9.out _ _ _ B_46.out)
              have Y7 := Lib.hid (show ManyAt w_47_7 (w_36.heap.size) E from by rw [← hw]; exact Z9_46.out.over (by rw [EL.out]; simp))
              have Z10_47 := Lib.hid (show ManyAt w_47_7 (w_1.heap.size) (List.replicate 576 0) from by rw [← hw]; exact Z10_46.out.turn (Turn.setCells_ (S := fun i => i = w_36.heap.size) (w_36.heap.size) rfl _ _ _ (Turn.refl _ _)) NE.out)
              clear hw
              refine wpAnyH_ready (rs := [8]) (by kernel_rfl) (by simp) ?_
              refine AllReadyH.cons rfl (fun K hK => ?_) AllReadyH.nil
              rw [if_pos (by rfl)]
              refine wp_store_mid _ _ _ rfl (w_1.heap.size) 0 (csI F).toArray rfl rfl (by simpa [csI_len, FL.out] using Z10_47.out.there_ (o := 0) (m := 576) (by simp)) (by simpa [csI_len, FL.out] using size576) (csI_one _) ?_
              simp only [Act.put, List.setIfInBounds_toArray, List.set_cons_zero, List.set_cons_succ, List.toList_toArray]
              refine hK.out _ _ ?_ (fun hHeld => ?_)
              · exact HSH.out _ (Bl.setCells_ (w_1.heap.size) LO10.out _ _ _ B_47_7.out)
              clear hK K hHeld
              try simp only [Act.put, List.getElem_toArray, List.getElem_cons_succ, List.getElem_cons_zero, List.setIfInBounds_toArray, List.set_cons_zero, List.set_cons_succ]
              generalize hw : World.setCells _ _ _ _ = w_47_8
              have B_47_8 := Lib.hid (show Bl X w_47_8 from by rw [← hw]; exact Bl.setCells_ (w_1.heap.size) LO10.out _ _ _ B_47_7.out)
              have Y8 := Lib.hid (show ManyAt w_47_8 (w_1.heap.size) F from by rw [← hw]; exact Z10_47.out.over (by rw [FL.out]; simp))
              have Y9' := Lib.hid (show ManyAt w_47_8 (w_36.heap.size) E from by rw [← hw]; exact Y7.out.turn (Turn.setCells_ (S := fun i => i = w_1.heap.size) (w_1.heap.size) rfl _ _ _ (Turn.refl _ _)) NE.out.symm)
              clear hw
              refine wpAnyH_done (by kernel_rfl) ?_ _
              refine NoOut.normal ?_
              exact ⟨rfl, w_36.heap.size, w_1.heap.size, E, F, _, _, _, _, _, rfl, Y9'.out, Y8.out, ET, FT, ⟨LO9.out, LO10.out, NE.out.symm⟩, B_47_8.out⟩
    · go_simp
      refine hK.out _ _ ?_ (fun hHeld => ?_)
      · exact HSH.out _ (by first | exact Bl.drew_ (Bl.alloc_ (Bl.refl X) _) | exact Bl.alloc_ (Bl.drew_ (Bl.refl X)) _)
      clear hK K hHeld
      try simp only [Act.put, List.getElem_toArray, List.getElem_cons_succ, List.getElem_cons_zero, List.setIfInBounds_toArray, List.set_cons_zero, List.set_cons_succ]
      generalize hw : World.drew (World.alloc _ _) = w_48
      have B_48 := Lib.hid (show Bl X w_48 from by rw [← hw]; exact Bl.drew_ (Bl.alloc_ (Bl.refl X) _))
      have hb : Bl X w_48 := B_48.out
      have Z9_48 := Lib.hid (show ManyAt w_48 (X.heap.size) (List.replicate 576 0) from by rw [← hw]; exact (many_new X _).bl (Bl.drew_ (Bl.refl _)))
      have LO9 := Lib.hid (show X.heap.size ≤ X.heap.size from ((Bl.drew_ (Bl.refl X)) : Bl X _).size)
      clear hw hb
      refine wpAnyH_ready (rs := [1, 6]) (by kernel_rfl) (by simp) ?_
      refine AllReadyH.cons rfl (fun K hK => ?_) (AllReadyH.cons rfl (fun K hK => ?_) AllReadyH.nil)
      · go_simp
        refine (tableOf_any q A n c L HN.out hc HO.out _ (K1.out.bl (HBW.out.trans_ B_48.out))).mono ?_
        rintro e w_49 ⟨E, rfl, hE, hb⟩
        have EL := Lib.hid hE.1
        have ET := Lib.hid hE
        clear hE
        have B_49 := Lib.hid (B_48.out.trans_ hb)
        have Z9_49 := Lib.hid (Z9_48.out.bl hb)
        clear hb
        try (go_wp2_with fail)
        refine hK.out _ _ ?_ (fun hHeld => ?_)
        · exact HSH.out _ B_49.out
        clear hK K hHeld
        try simp only [Act.put, List.getElem_toArray, List.getElem_cons_succ, List.getElem_cons_zero, List.setIfInBounds_toArray, List.set_cons_zero, List.set_cons_succ]
        refine wpAnyH_ready (rs := [3, 6]) (by kernel_rfl) (by simp) ?_
        refine AllReadyH.cons rfl (fun K hK => ?_) (AllReadyH.cons rfl (fun K hK => ?_) AllReadyH.nil)
        · go_simp
          refine (implReversed_any q A n c L HN.out _ hm (K1.out.bl (HBW.out.trans_ B_49.out))).mono ?_
          rintro e w_50 ⟨v6, rfl, hv6, hb⟩
          rw [show revN (q : Int) L = (q : Int) from if_pos HO.out]
          rw [show revG (q : Int) L = revL L from if_pos HO.out] at hv6
          have hcap := OwnA.cap_ hv6
          obtain ⟨A6, c6, rfl, ha6, -⟩ := hv6.shape
          have V_50 := Lib.hid ha6
          have HC6 := Lib.hid (hcap _ _ _ rfl)
          clear hv6 hcap ha6
          have B_50 := Lib.hid (B_49.out.trans_ hb)
          have Z9_50 := Lib.hid (Z9_49.out.bl hb)
          clear hb
          try (go_wp2_with fail)
          refine hK.out _ _ ?_ (fun hHeld => ?_)
          · exact HSH.out _ B_50.out
          clear hK K hHeld
          try simp only [Act.put, List.getElem_toArray, List.getElem_cons_succ, List.getElem_cons_zero, List.setIfInBounds_toArray, List.set_cons_zero, List.set_cons_succ]
          refine wpAnyH_ready (rs := [4, 6]) (by kernel_rfl) (by simp) ?_
          refine AllReadyH.cons rfl (fun K hK => ?_) (AllReadyH.cons rfl (fun K hK => ?_) AllReadyH.nil)
          · go_simp
            refine (tableOf_any q A6 (revL L).length c6 (revL L) rfl HC6.out HRO.out _ V_50.out).mono ?_
            rintro e w_51 ⟨F, rfl, hF, hb⟩
            have FL := Lib.hid hF.1
            have FT := Lib.hid hF
            clear hF
            have B_51 := Lib.hid (B_50.out.trans_ hb)
            have Z9_51 := Lib.hid (Z9_50.out.bl hb)
            have V_51 := Lib.hid (V_50.out.bl hb)
            clear hb
            try (go_wp2_with fail)
            refine hK.out _ _ ?_ (fun hHeld => ?_)
            · exact HSH.out _ B_51.out
            clear hK K hHeld
            try simp only [Act.put, List.getElem_toArray, List.getElem_cons_succ, List.getElem_cons_zero, List.setIfInBounds_toArray, List.set_cons_zero, List.set_cons_succ]
            refine wpAnyH_ready (rs := [6]) (by kernel_rfl) (by simp) ?_
            refine AllReadyH.cons rfl (fun K hK => ?_) AllReadyH.nil
            · go_simp
              refine hK.out _ _ ?_ (fun hHeld => ?_)
              · exact HSH.out _ (Bl.alloc_ B_51.out _)
              clear hK K hHeld
              try simp only [Act.put, List.getElem_toArray, List.getElem_cons_succ, List.getElem_cons_zero, List.setIfInBounds_toArray, List.set_cons_zero, List.set_cons_succ]
              generalize hw : World.alloc _ _ = w_52
              have B_52 := Lib.hid (show Bl X w_52 from by rw [← hw]; exact Bl.alloc_ B_51.out _)
              have hb : Bl w_51 w_52 := by rw [← hw]; exact Bl.alloc_ (Bl.refl _) _
              have Z10_52 := Lib.hid (show ManyAt w_52 (w_51.heap.size) (List.replicate 576 0) from by rw [← hw]; exact many_new _ _)
              have LO10 := Lib.hid (show X.heap.size ≤ w_51.heap.size from (B_51.out : Bl X _).size)
              have NE := Lib.hid (show X.heap.size ≠ w_51.heap.size from Nat.ne_of_lt Z9_51.out.lt)
              have Z9_52 := Lib.hid (Z9_51.out.bl hb)
              have V_52 := Lib.hid (V_51.out.bl hb)
              clear hw hb
              refine wpAnyH_ready (rs := [7]) (by kernel_rfl) (by simp) ?_
              refine AllReadyH.cons rfl (fun K hK => ?_) AllReadyH.nil
              rw [if_pos (by rfl)]
              refine wp_store_mid _ _ _ rfl (X.heap.size) 0 (csI E).toArray rfl rfl (by simpa [csI_len, EL.out] using Z9_52.out.there_ (o := 0) (m := 576) (by simp)) (by simpa [csI_len, EL.out] using size576) (csI_one _) ?_
              simp only [Act.put, List.setIfInBounds_toArray, List.set_cons_zero, List.set_cons_succ, List.toList_toArray]
              refine hK.out _ _ ?_ (fun hHeld => ?_)
              · exact HSH.out _ (Bl.setCells_ (X.heap.size) LO9.out _ _ _ B_52.out)
              clear hK K hHeld
              try simp only [Act.put, List.getElem_toArray, List.getElem_cons_succ, List.getElem_cons_zero, List.setIfInBounds_toArray, List.set_cons_zero, List.set_cons_succ]
              generalize hw : World.setCells _ _ _ _ = w_53_7
              have B_53_7 := Lib.hid (show Bl X w_53_7 from by rw [← hw]; exact Bl.setCells_ (X.heap.size) LO9.out _ _ _ B_52.out)
              have Y7 := Lib.hid (show ManyAt w_53_7 (X.heap.size) E from by rw [← hw]; exact Z9_52.out.over (by rw [EL.out]; simp))
              have Z10_53 := Lib.hid (show ManyAt w_53_7 (w_51.heap.size) (List.replicate 576 0) from by rw [← hw]; exact Z10_52.out.turn (Turn.setCells_ (S := fun i => i = X.heap.size) (X.heap.size) rfl _ _ _ (Turn.refl _ _)) NE.out.symm)
              clear hw
              refine wpAnyH_ready (rs := [8]) (by kernel_rfl) (by simp) ?_
              refine AllReadyH.cons rfl (fun K hK => ?_) AllReadyH.nil
              rw [if_pos (by rfl)]
              refine wp_store_mid _ _ _ rfl (w_51.heap.size) 0 (csI F).toArray rfl rfl (by simpa [csI_len, FL.out] using Z10_53.out.there_ (o := 0) (m := 576) (by simp)) (by simpa [csI_len, FL.out] using size576) (csI_one _) ?_
              simp only [Act.put, List.setIfInBounds_toArray, List.set_cons_zero, List.set_cons_succ, List.toList_toArray]
              refine hK.out _ _ ?_ (fun hHeld => ?_)
              · exact HSH.out _ (Bl.setCells_ (w_51.heap.size) LO10.out _ _ _ B_53_7.out)
              clear hK K hHeld
              try simp only [Act.put, List.getElem_toArray, List.getElem_cons_succ, List.getElem_cons_zero, List.setIfInBounds_toArray, List.set_cons_zero, List.set_cons_succ]
              generalize hw : World.setCells _ _ _ _ = w_53_8
              have B_53_8 := Lib.hid (show Bl X w_53_8 from by rw [← hw]; exact Bl.setCells_ (w_51.heap.size) LO10.out _ _ _ B_53_7.out)
              have Y8 := Lib.hid (show ManyAt w_53_8 (w_51.heap.size) F from by rw [← hw]; exact Z10_53.out.over (by rw [FL.out]; simp))
              have Y9' := Lib.hid (show ManyAt w_53_8 (X.heap.size) E from by rw [← hw]; exact Y7.out.turn (Turn.setCells_ (S := fun i => i = w_51.heap.size) (w_51.heap.size) rfl _ _ _ (Turn.refl _ _)) NE.out)
              clear hw
              refine wpAnyH_done (by kernel_rfl) ?_ _
              refine NoOut.normal ?_
              exact ⟨rfl, X.heap.size, w_51.heap.size, E, F, _, _, _, _, _, rfl, Y9'.out, Y8.out, ET, FT, ⟨LO9.out, LO10.out, NE.out⟩, B_53_8.out⟩
          · go_simp
            refine hK.out _ _ ?_ (fun hHeld => ?_)
            · exact HSH.out _ (Bl.alloc_ B_50.out _)
            clear hK K hHeld
            try simp only [Act.put, List.getElem_toArray, List.getElem_cons_succ, List.getElem_cons_zero, List.setIfInBounds_toArray, List.set_cons_zero, List.set_cons_succ]
            generalize hw : World.alloc _ _ = w_54
            have B_54 := Lib.hid (show Bl X w_54 from by rw [← hw]; exact Bl.alloc_ B_50.out _)
            have hb : Bl w_50 w_54 := by rw [← hw]; exact Bl.alloc_ (Bl.refl _) _
            have Z10_54 := Lib.hid (show ManyAt w_54 (w_50.heap.size) (List.replicate 576 0) from by rw [← hw]; exact many_new _ _)
            have LO10 := Lib.hid (show X.heap.size ≤ w_50.heap.size from (B_50.out : Bl X _).size)
            have NE := Lib.hid (show X.heap.size ≠ w_50.heap.size from Nat.ne_of_lt Z9_50.out.lt)
            have Z9_54 := Lib.hid (Z9_50.out.bl hb)
            have V_54 := Lib.hid (V_50.out.bl hb)
            clear hw hb
            refine wpAnyH_ready (rs := [4]) (by kernel_rfl) (by simp) ?_
            refine AllReadyH.cons rfl (fun K hK => ?_) AllReadyH.nil
            · go_simp
              refine (tableOf_any q A6 (revL L).length c6 (revL L) rfl HC6.out HRO.out _ V_54.out).mono ?_
              rintro e w_55 ⟨F, rfl, hF, hb⟩
              have FL := Lib.hid hF.1
              have FT := Lib.hid hF
              clear hF
              have B_55 := Lib.hid (B_54.out.trans_ hb)
              have Z9_55 := Lib.hid (Z9_54.out.bl hb)
              have Z10_55 := Lib.hid (Z10_54.out.bl hb)
              have V_55 := Lib.hid (V_54.out.bl hb)
              clear hb
              try (go_wp2_with fail)
              refine hK.out _ _ ?_ (fun hHeld => ?_)
              · exact HSH.out _ B_55.out
              clear hK K hHeld
              try simp only [Act.put, List.getElem_toArray, List.getElem_cons_succ, List.getElem_cons_zero, List.setIfInBounds_toArray, List.set_cons_zero, List.set_cons_succ]
              refine wpAnyH_ready (rs := [7]) (by kernel_rfl) (by simp) ?_
              refine AllReadyH.cons rfl (fun K hK => ?_) AllReadyH.nil
              rw [if_pos (by rfl)]
              refine wp_store_mid _ _ _ rfl (X.heap.size) 0 (csI E).toArray rfl rfl (by simpa [csI_len, EL.out] using Z9_55.out.there_ (o := 0) (m := 576) (by simp)) (by simpa [csI_len, EL.out] using size576) (csI_one _) ?_
              simp only [Act.put, List.setIfInBounds_toArray, List.set_cons_zero, List.set_cons_succ, List.toList_toArray]
              refine hK.out _ _ ?_ (fun hHeld => ?_)
              · exact HSH.out _ (Bl.setCells_ (X.heap.size) LO9.out _ _ _ B_55.out)
              clear hK K hHeld
              try simp only [Act.put, List.getElem_toArray, List.getElem_cons_succ, List.getElem_cons_zero, List.setIfInBounds_toArray, List.set_cons_zero, List.set_cons_succ]
              generalize hw : World.setCells _ _ _ _ = w_56_7
              have B_56_7 := Lib.hid (show Bl X w_56_7 from by rw [← hw]; exact Bl.setCells_ (X.heap.size) LO9.out _ _ _ B_55.out)
              have Y7 := Lib.hid (show ManyAt w_56_7 (X.heap.size) E from by rw [← hw]; exact Z9_55.out.over (by rw [EL.out]; simp))
              have Z10_56 := Lib.hid (show ManyAt w_56_7 (w_50.heap.size) (List.replicate 576 0) from by rw [← hw]; exact Z10_55.out.turn (Turn.setCells_ (S := fun i => i = X.heap.size) (X.heap.size) rfl _ _ _ (Turn.refl _ _)) NE.out.symm)
              clear hw
              refine wpAnyH_ready (rs := [8]) (by kernel_rfl) (by simp) ?_
              refine AllReadyH.cons rfl (fun K hK => ?_) AllReadyH.nil
              rw [if_pos (by rfl)]
              refine wp_store_mid _ _ _ rfl (w_50.heap.size) 0 (csI F).toArray rfl rfl (by simpa [csI_len, FL.out] using Z10_56.out.there_ (o := 0) (m := 576) (by simp)) (by simpa [csI_len, FL.out] using size576) (csI_one _) ?_
              simp only [Act.put, List.setIfInBounds_toArray, List.set_cons_zero, List.set_cons_succ, List.toList_toArray]
              refine hK.out _ _ ?_ (fun hHeld => ?_)
              · exact HSH.out _ (Bl.setCells_ (w_50.heap.size) LO10.out _ _ _ B_56_7.out)
              clear hK K hHeld
              try simp only [Act.put, List.getElem_toArray, List.getElem_cons_succ, List.getElem_cons_zero, List.setIfInBounds_toArray, List.set_cons_zero, List.set_cons_succ]
              generalize hw : World.setCells _ _ _ _ = w_56_8
              have B_56_8 := Lib.hid (show Bl X w_56_8 from by rw [← hw]; exact Bl.setCells_ (w_50.heap.size) LO10.out _ _ _ B_56_7.out)
              have Y8 := Lib.hid (show ManyAt w_56_8 (w_50.heap.size) F from by rw [← hw]; exact Z10_56.out.over (by rw [FL.out]; simp))
              have Y9' := Lib.hid (show ManyAt w_56_8 (X.heap.size) E from by rw [← hw]; exact Y7.out.turn (Turn.setCells_ (S := fun i => i = w_50.heap.size) (w_50.heap.size) rfl _ _ _ (Turn.refl _ _)) NE.out)
              clear hw
              refine wpAnyH_done (by kernel_rfl) ?_ _
              refine NoOut.normal ?_
              exact ⟨rfl, X.heap.size, w_50.heap.size, E, F, _, _, _, _, _, rfl, Y9'.out, Y8.out, ET, FT, ⟨LO9.out, LO10.out, NE.out⟩, B_56_8.out⟩
        · go_simp
          refine hK.out _ _ ?_ (fun hHeld => ?_)
          · exact HSH.out _ (Bl.alloc_ B_49.out _)
          clear hK K hHeld
          try simp only [Act.put, List.getElem_toArray, List.getElem_cons_succ, List.getElem_cons_zero, List.setIfInBounds_toArray, List.set_cons_zero, List.set_cons_succ]
          generalize hw : World.alloc _ _ = w_57
          have B_57 := Lib.hid (show Bl X w_57 from by rw [← hw]; exact Bl.alloc_ B_49.out _)
          have hb : Bl w_49 w_57 := by rw [← hw]; exact Bl.alloc_ (Bl.refl _) _
          have Z10_57 := Lib.hid (show ManyAt w_57 (w_49.heap.size) (List.replicate 576 0) from by rw [← hw]; exact many_new _ _)
          have LO10 := Lib.hid (show X.heap.size ≤ w_49.heap.size from (B_49.out : Bl X _).size)
          have NE := Lib.hid (show X.heap.size ≠ w_49.heap.size from Nat.ne_of_lt Z9_49.out.lt)
          have Z9_57 := Lib.hid (Z9_49.out.bl hb)
          clear hw hb
          refine wpAnyH_ready (rs := [3]) (by kernel_rfl) (by simp) ?_
          refine AllReadyH.cons rfl (fun K hK => ?_) AllReadyH.nil
          · go_simp
            refine (implReversed_any q A n c L HN.out _ hm (K1.out.bl (HBW.out.trans_ B_57.out))).mono ?_
            rintro e w_58 ⟨v6, rfl, hv6, hb⟩
            rw [show revN (q : Int) L = (q : Int) from if_pos HO.out]
            rw [show revG (q : Int) L = revL L from if_pos HO.out] at hv6
            have hcap := OwnA.cap_ hv6
            obtain ⟨A6, c6, rfl, ha6, -⟩ := hv6.shape
            have V_58 := Lib.hid ha6
            have HC6 := Lib.hid (hcap _ _ _ rfl)
            clear hv6 hcap ha6
            have B_58 := Lib.hid (B_57.out.trans_ hb)
            have Z9_58 := Lib.hid (Z9_57.out.bl hb)
            have Z10_58 := Lib.hid (Z10_57.out.bl hb)
            clear hb
            try (go_wp2_with fail)
            refine hK.out _ _ ?_ (fun hHeld => ?_)
            · exact HSH.out _ B_58.out
            clear hK K hHeld
            try simp only [Act.put, List.getElem_toArray, List.getElem_cons_succ, List.getElem_cons_zero, List.setIfInBounds_toArray, List.set_cons_zero, List.set_cons_succ]
            refine wpAnyH_ready (rs := [4]) (by kernel_rfl) (by simp) ?_
            refine AllReadyH.cons rfl (fun K hK => ?_) AllReadyH.nil
            · go_simp
              refine (tableOf_any q A6 (revL L).length c6 (revL L) rfl HC6.out HRO.out _ V_58.out).mono ?_
              rintro e w_59 ⟨F, rfl, hF, hb⟩
              have FL := Lib.hid hF.1
              have FT := Lib.hid hF
              clear hF
              have B_59 := Lib.hid (B_58.out.trans_ hb)
              have Z9_59 := Lib.hid (Z9_58.out.bl hb)
              have Z10_59 := Lib.hid (Z10_58.out.bl hb)
              have V_59 := Lib.hid (V_58.out.bl hb)
              clear hb
              try (go_wp2_with fail)
              refine hK.out _ _ ?_ (fun hHeld => ?_)
              · exact HSH.out _ B_59.out
              clear hK K hHeld
              try simp only [Act.put, List.getElem_toArray, List.getElem_cons_succ, List.getElem_cons_zero, List.setIfInBounds_toArray, List.set_cons_zero, List.set_cons_succ]
              refine wpAnyH_ready (rs := [7]) (by kernel_rfl) (by simp) ?_
              refine AllReadyH.cons rfl (fun K hK => ?_) AllReadyH.nil
              rw [if_pos (by rfl)]
              refine wp_store_mid _ _ _ rfl (X.heap.size) 0 (csI E).toArray rfl rfl (by simpa [csI_len, EL.out] using Z9_59.out.there_ (o := 0) (m := 576) (by simp)) (by simpa [csI_len, EL.out] using size576) (csI_one _) ?_
              simp only [Act.put, List.setIfInBounds_toArray, List.set_cons_zero, List.set_cons_succ, List.toList_toArray]
              refine hK.out _ _ ?_ (fun hHeld => ?_)
              · exact HSH.out _ (Bl.setCells_ (X.heap.size) LO9.out _ _ _ B_59.out)
              clear hK K hHeld
              try simp only [Act.put, List.getElem_toArray, List.getElem_cons_succ, List.getElem_cons_zero, List.setIfInBounds_toArray, List.set_cons_zero, List.set_cons_succ]
              generalize hw : World.setCells _ _ _ _ = w_60_7
              have B_60_7 := Lib.hid (show Bl X w_60_7 from by rw [← hw]; exact Bl.setCells_ (X.heap.size) LO9.out _ _ _ B_59.out)
              have Y7 := Lib.hid (show ManyAt w_60_7 (X.heap.size) E from by rw [← hw]; exact Z9_59.out.over (by rw [EL.out]; simp))
              have Z10_60 := Lib.hid (show ManyAt w_60_7 (w_49.heap.size) (List.replicate 576 0) from by rw [← hw]; exact Z10_59.out.turn (Turn.setCells_ (S := fun i => i = X.heap.size) (X.heap.size) rfl _ _ _ (Turn.refl _ _)) NE.out.symm)
              clear hw
              refine wpAnyH_ready (rs := [8]) (by kernel_rfl) (by simp) ?_
              refine AllReadyH.cons rfl (fun K hK => ?_) AllReadyH.nil
              rw [if_pos (by rfl)]
              refine wp_store_mid _ _ _ rfl (w_49.heap.size) 0 (csI F).toArray rfl rfl (by simpa [csI_len, FL.out] using Z10_60.out.there_ (o := 0) (m := 576) (by simp)) (by simpa [csI_len, FL.out] using size576) (csI_one _) ?_
              simp only [Act.put, List.setIfInBounds_toArray, List.set_cons_zero, List.set_cons_succ, List.toList_toArray]
              refine hK.out _ _ ?_ (fun hHeld => ?_)
              · exact HSH.out _ (Bl.setCells_ (w_49.heap.size) LO10.out _ _ _ B_60_7.out)
              clear hK K hHeld
              try simp only [Act.put, List.getElem_toArray, List.getElem_cons_succ, List.getElem_cons_zero, List.setIfInBounds_toArray, List.set_cons_zero, List.set_cons_succ]
              generalize hw : World.setCells _ _ _ _ = w_60_8
              have B_60_8 := Lib.hid (show Bl X w_60_8 from by rw [← hw]; exact Bl.setCells_ (w_49.heap.size) LO10.out _ _ _ B_60_7.out)
              have Y8 := Lib.hid (show ManyAt w_60_8 (w_49.heap.size) F from by rw [← hw]; exact Z10_60.out.over (by rw [FL.out]; simp))
              have Y9' := Lib.hid (show ManyAt w_60_8 (X.heap.size) E from by rw [← hw]; exact Y7.out.turn (Turn.setCells_ (S := fun i => i = w_49.heap.size) (w_49.heap.size) rfl _ _ _ (Turn.refl _ _)) NE.out)
              clear hw
              refine wpAnyH_done (by kernel_rfl) ?_ _
              refine NoOut.normal ?_
              exact ⟨rfl, X.heap.size, w_49.heap.size, E, F, _, _, _, _, _, rfl, Y9'.out, Y8.out, ET, FT, ⟨LO9.out, LO10.out, NE.out⟩, B_60_8.out⟩
      · go_simp
        refine hK.out _ _ ?_ (fun hHeld => ?_)
        · exact HSH.out _ (Bl.alloc_ B_48.out _)
        clear hK K hHeld
        try simp only [Act.put, List.getElem_toArray, List.getElem_cons_succ, List.getElem_cons_zero, List.setIfInBounds_toArray, List.set_cons_zero, List.set_cons_succ]
        generalize hw : World.alloc _ _ = w_61
        have B_61 := Lib.hid (show Bl X w_61 from by rw [← hw]; exact Bl.alloc_ B_48.out _)
        have hb : Bl w_48 w_61 := by rw [← hw]; exact Bl.alloc_ (Bl.refl _) _
        have Z10_61 := Lib.hid (show ManyAt w_61 (w_48.heap.size) (List.replicate 576 0) from by rw [← hw]; exact many_new _ _)
        have LO10 := Lib.hid (show X.heap.size ≤ w_48.heap.size from (B_48.out : Bl X _).size)
        have NE := Lib.hid (show X.heap.size ≠ w_48.heap.size from Nat.ne_of_lt Z9_48.out.lt)
        have Z9_61 := Lib.hid (Z9_48.out.bl hb)
        clear hw hb
        refine wpAnyH_ready (rs := [1]) (by kernel_rfl) (by simp) ?_
        refine AllReadyH.cons rfl (fun K hK => ?_) AllReadyH.nil
        · go_simp
          refine (tableOf_any q A n c L HN.out hc HO.out _ (K1.out.bl (HBW.out.trans_ B_61.out))).mono ?_
          rintro e w_62 ⟨E, rfl, hE, hb⟩
          have EL := Lib.hid hE.1
          have ET := Lib.hid hE
          clear hE
          have B_62 := Lib.hid (B_61.out.trans_ hb)
          have Z9_62 := Lib.hid (Z9_61.out.bl hb)
          have Z10_62 := Lib.hid (Z10_61.out.bl hb)
          clear hb
          try (go_wp2_with fail)
          refine hK.out _ _ ?_ (fun hHeld => ?_)
          · exact HSH.out _ B_62.out
          clear hK K hHeld
          try simp only [Act.put, List.getElem_toArray, List.getElem_cons_succ, List.getElem_cons_zero, List.setIfInBounds_toArray, List.set_cons_zero, List.set_cons_succ]
          refine wpAnyH_ready (rs := [3]) (by kernel_rfl) (by simp) ?_
          refine AllReadyH.cons rfl (fun K hK => ?_) AllReadyH.nil
          · go_simp
            refine (implReversed_any q A n c L HN.out _ hm (K1.out.bl (HBW.out.trans_ B_62.out))).mono ?_
            rintro e w_63 ⟨v6, rfl, hv6, hb⟩
            rw [show revN (q : Int) L = (q : Int) from if_pos HO.out]
            rw [show revG (q : Int) L = revL L from if_pos HO.out] at hv6
            have hcap := OwnA.cap_ hv6
            obtain ⟨A6, c6, rfl, ha6, -⟩ := hv6.shape
            have V_63 := Lib.hid ha6
            have HC6 := Lib.hid (hcap _ _ _ rfl)
            clear hv6 hcap ha6
            have B_63 := Lib.hid (B_62.out.trans_ hb)
            have Z9_63 := Lib.hid (Z9_62.out.bl hb)
            have Z10_63 := Lib.hid (Z10_62.out.bl hb)
            clear hb
            try (go_wp2_with fail)
            refine hK.out _ _ ?_ (fun hHeld => ?_)
            · exact HSH.out _ B_63.out
            clear hK K hHeld
            try simp only [Act.put, List.getElem_toArray, List.getElem_cons_succ, List.getElem_cons_zero, List.setIfInBounds_toArray, List.set_cons_zero, List.set_cons_succ]
            refine wpAnyH_ready (rs := [4]) (by kernel_rfl) (by simp) ?_
            refine AllReadyH.cons rfl (fun K hK => ?_) AllReadyH.nil
            · go_simp
              refine (tableOf_any q A6 (revL L).length c6 (revL L) rfl HC6.out HRO.out _ V_63.out).mono ?_
              rintro e w_64 ⟨F, rfl, hF, hb⟩
              have FL := Lib.hid hF.1
              have FT := Lib.hid hF
              clear hF
              have B_64 := Lib.hid (B_63.out.trans_ hb)
              have Z9_64 := Lib.hid (Z9_63.out.bl hb)
              have Z10_64 := Lib.hid (Z10_63.out.bl hb)
              have V_64 := Lib.hid (V_63.out.bl hb)
              clear hb
              try (go_wp2_with fail)
              refine hK.out _ _ ?_ (fun hHeld => ?_)
              · exact HSH.out _ B_64.out
              clear hK K hHeld
              try simp only [Act.put, List.getElem_toArray, List.getElem_cons_succ, List.getElem_cons_zero, List.setIfInBounds_toArray, List.set_cons_zero, List.set_cons_succ]
              refine wpAnyH_ready (rs := [7]) (by kernel_rfl) (by simp) ?_
              refine AllReadyH.cons rfl (fun K hK => ?_) AllReadyH.nil
              rw [if_pos (by rfl)]
              refine wp_store_mid _ _ _ rfl (X.heap.size) 0 (csI E).toArray rfl rfl (by simpa [csI_len, EL.out] using Z9_64.out.there_ (o := 0) (m := 576) (by simp)) (by simpa [csI_len, EL.out] using size576) (csI_one _) ?_
              simp only [Act.put, List.setIfInBounds_toArray, List.set_cons_zero, List.set_cons_succ, List.toList_toArray]
              refine hK.out _ _ ?_ (fun hHeld => ?_)
              · exact HSH.out _ (Bl.setCells_ (X.heap.size) LO9.out _ _ _ B_64.out)
              clear hK K hHeld
              try simp only [Act.put, List.getElem_toArray, List.getElem_cons_succ, List.getElem_cons_zero, List.setIfInBounds_toArray, List.set_cons_zero, List.set_cons_succ]
              generalize hw : World.setCells _ _ _ _ = w_65_7
              have B_65_7 := Lib.hid (show Bl X w_65_7 from by rw [← hw]; exact Bl.setCells_ (X.heap.size) LO9.out _ _ _ B_64.out)
              have Y7 := Lib.hid (show ManyAt w_65_7 (X.heap.size) E from by rw [← hw]; exact Z9_64.out.over (by rw [EL.out]; simp))
              have Z10_65 := Lib.hid (show ManyAt w_65_7 (w_48.heap.size) (List.replicate 576 0) from by rw [← hw]; exact Z10_64.out.turn (Turn.setCells_ (S := fun i => i = X.heap.size) (X.heap.size) rfl _ _ _ (Turn.refl _ _)) NE.out.symm)
              clear hw
              refine wpAnyH_ready (rs := [8]) (by kernel_rfl) (by simp) ?_
              refine AllReadyH.cons rfl (fun K hK => ?_) AllReadyH.nil
              rw [if_pos (by rfl)]
              refine wp_store_mid _ _ _ rfl (w_48.heap.size) 0 (csI F).toArray rfl rfl (by simpa [csI_len, FL.out] using Z10_65.out.there_ (o := 0) (m := 576) (by simp)) (by simpa [csI_len, FL.out] using size576) (csI_one _) ?_
              simp only [Act.put, List.setIfInBounds_toArray, List.set_cons_zero, List.set_cons_succ, List.toList_toArray]
              refine hK.out _ _ ?_ (fun hHeld => ?_)
              · exact HSH.out _ (Bl.setCells_ (w_48.heap.size) LO10.out _ _ _ B_65_7.out)
              clear hK K hHeld
              try simp only [Act.put, List.getElem_toArray, List.getElem_cons_succ, List.getElem_cons_zero, List.setIfInBounds_toArray, List.set_cons_zero, List.set_cons_succ]
              generalize hw : World.setCells _ _ _ _ = w_65_8
              have B_65_8 := Lib.hid (show Bl X w_65_8 from by rw [← hw]; exact Bl.setCells_ (w_48.heap.size) LO10.out _ _ _ B_65_7.out)
              have Y8 := Lib.hid (show ManyAt w_65_8 (w_48.heap.size) F from by rw [← hw]; exact Z10_65.out.over (by rw [FL.out]; simp))
              have Y9' := Lib.hid (show ManyAt w_65_8 (X.heap.size) E from by rw [← hw]; exact Y7.out.turn (Turn.setCells_ (S := fun i => i = w_48.heap.size) (w_48.heap.size) rfl _ _ _ (Turn.refl _ _)) NE.out)
              clear hw
              refine wpAnyH_done (by kernel_rfl) ?_ _
              refine NoOut.normal ?_
              exact ⟨rfl, X.heap.size, w_48.heap.size, E, F, _, _, _, _, _, rfl, Y9'.out, Y8.out, ET, FT, ⟨LO9.out, LO10.out, NE.out⟩, B_65_8.out⟩
    · go_simp
      refine hK.out _ _ ?_ (fun hHeld => ?_)
      · exact HSH.out _ (by first | exact Bl.drew_ (Bl.alloc_ (Bl.refl X) _) | exact Bl.alloc_ (Bl.drew_ (Bl.refl X)) _)
      clear hK K hHeld
      try simp only [Act.put, List.getElem_toArray, List.getElem_cons_succ, List.getElem_cons_zero, List.setIfInBounds_toArray, List.set_cons_zero, List.set_cons_succ]
      generalize hw : World.drew (World.alloc _ _) = w_66
      have B_66 := Lib.hid (show Bl X w_66 from by rw [← hw]; exact Bl.drew_ (Bl.alloc_ (Bl.refl X) _))
      have hb : Bl X w_66 := B_66.out
      have Z10_66 := Lib.hid (show ManyAt w_66 (X.heap.size) (List.replicate 576 0) from by rw [← hw]; exact (many_new X _).bl (Bl.drew_ (Bl.refl _)))
      have LO10 := Lib.hid (show X.heap.size ≤ X.heap.size from ((Bl.drew_ (Bl.refl X)) : Bl X _).size)
      clear hw hb
      refine wpAnyH_ready (rs := [1, 5]) (by kernel_rfl) (by simp) ?_
      refine AllReadyH.cons rfl (fun K hK => ?_) (AllReadyH.cons rfl (fun K hK => ?_) AllReadyH.nil)
      · go_simp
        refine (tableOf_any q A n c L HN.out hc HO.out _ (K1.out.bl (HBW.out.trans_ B_66.out))).mono ?_
        rintro e w_67 ⟨E, rfl, hE, hb⟩
        have EL := Lib.hid hE.1
        have ET := Lib.hid hE
        clear hE
        have B_67 := Lib.hid (B_66.out.trans_ hb)
        have Z10_67 := Lib.hid (Z10_66.out.bl hb)
        clear hb
        try (go_wp2_with fail)
        refine hK.out _ _ ?_ (fun hHeld => ?_)
        · exact HSH.out _ B_67.out
        clear hK K hHeld
        try simp only [Act.put, List.getElem_toArray, List.getElem_cons_succ, List.getElem_cons_zero, List.setIfInBounds_toArray, List.set_cons_zero, List.set_cons_succ]
        refine wpAnyH_ready (rs := [3, 5]) (by kernel_rfl) (by simp) ?_
        refine AllReadyH.cons rfl (fun K hK => ?_) (AllReadyH.cons rfl (fun K hK => ?_) AllReadyH.nil)
        · go_simp
          refine (implReversed_any q A n c L HN.out _ hm (K1.out.bl (HBW.out.trans_ B_67.out))).mono ?_
          rintro e w_68 ⟨v6, rfl, hv6, hb⟩
          rw [show revN (q : Int) L = (q : Int) from if_pos HO.out]
          rw [show revG (q : Int) L = revL L from if_pos HO.out] at hv6
          have hcap := OwnA.cap_ hv6
          obtain ⟨A6, c6, rfl, ha6, -⟩ := hv6.shape
          have V_68 := Lib.hid ha6
          have HC6 := Lib.hid (hcap _ _ _ rfl)
          clear hv6 hcap ha6
          have B_68 := Lib.hid (B_67.out.trans_ hb)
          have Z10_68 := Lib.hid (Z10_67.out.bl hb)
          clear hb
          try (go_wp2_with fail)
          refine hK.out _ _ ?_ (fun hHeld => ?_)
          · exact HSH.out _ B_68.out
          clear hK K hHeld
          try simp only [Act.put, List.getElem_toArray, List.getElem_cons_succ, List.getElem_cons_zero, List.setIfInBounds_toArray, List.set_cons_zero, List.set_cons_succ]
          refine wpAnyH_ready (rs := [4, 5]) (by kernel_rfl) (by simp) ?_
          refine AllReadyH.cons rfl (fun K hK => ?_) (AllReadyH.cons rfl (fun K hK => ?_) AllReadyH.nil)
          · go_simp
            refine (tableOf_any q A6 (revL L).length c6 (revL L) rfl HC6.out HRO.out _ V_68.out).mono ?_
            rintro e w_69 ⟨F, rfl, hF, hb⟩
            have FL := Lib.hid hF.1
            have FT := Lib.hid hF
            clear hF
            have B_69 := Lib.hid (B_68.out.trans_ hb)
            have Z10_69 := Lib.hid (Z10_68.out.bl hb)
            have V_69 := Lib.hid (V_68.out.bl hb)
            clear hb
            try (go_wp2_with fail)
            refine hK.out _ _ ?_ (fun hHeld => ?_)
            · exact HSH.out _ B_69.out
            clear hK K hHeld
            try simp only [Act.put, List.getElem_toArray, List.getElem_cons_succ, List.getElem_cons_zero, List.setIfInBounds_toArray, List.set_cons_zero, List.set_cons_succ]
            refine wpAnyH_ready (rs := [5]) (by kernel_rfl) (by simp) ?_
            refine AllReadyH.cons rfl (fun K hK => ?_) AllReadyH.nil
            · go_simp
              refine hK.out _ _ ?_ (fun hHeld => ?_)
              · exact HSH.out _ (Bl.alloc_ B_69.out _)
              clear hK K hHeld
              try simp only [Act.put, List.getElem_toArray, List.getElem_cons_succ, List.getElem_cons_zero, List.setIfInBounds_toArray, List.set_cons_zero, List.set_cons_succ]
              generalize hw : World.alloc _ _ = w_70
              have B_70 := Lib.hid (show Bl X w_70 from by rw [← hw]; exact Bl.alloc_ B_69.out _)
              have hb : Bl w_69 w_70 := by rw [← hw]; exact Bl.alloc_ (Bl.refl _) _
              have Z9_70 := Lib.hid (show ManyAt w_70 (w_69.heap.size) (List.replicate 576 0) from by rw [← hw]; exact many_new _ _)
              have LO9 := Lib.hid (show X.heap.size ≤ w_69.heap.size from (B_69.out : Bl X _).size)
              have NE := Lib.hid (show X.heap.size ≠ w_69.heap.size from Nat.ne_of_lt Z10_69.out.lt)
              have Z10_70 := Lib.hid (Z10_69.out.bl hb)
              have V_70 := Lib.hid (V_69.out.bl hb)
              clear hw hb
              refine wpAnyH_ready (rs := [7]) (by kernel_rfl) (by simp) ?_
              refine AllReadyH.cons rfl (fun K hK => ?_) AllReadyH.nil
              rw [if_pos (by rfl)]
              refine wp_store_mid _ _ _ rfl (w_69.heap.size) 0 (csI E).toArray rfl rfl (by simpa [csI_len, EL.out] using Z9_70.out.there_ (o := 0) (m := 576) (by simp)) (by simpa [csI_len, EL.out] using size576) (csI_one _) ?_
              simp only [Act.put, List.setIfInBounds_toArray, List.set_cons_zero, List.set_cons_succ, List.toList_toArray]
              refine hK.out _ _ ?_ (fun hHeld => ?_)
              · exact HSH.out _ (Bl.setCells_ (w_69.heap.size) LO9.out _ _ _ B_70.out)
              clear hK K hHeld
              try simp only [Act.put, List.getElem_toArray, List.getElem_cons_succ, List.getElem_cons_zero, List.setIfInBounds_toArray, List.set_cons_zero, List.set_cons_succ]
              generalize hw : World.setCells _ _ _ _ = w_71_7
              have B_71_7 := Lib.hid (show Bl X w_71_7 from by rw [← hw]; exact Bl.setCells_ (w_69.heap.size) LO9.out _ _ _ B_70.out)
              have Y7 := Lib.hid (show ManyAt w_71_7 (w_69.heap.size) E from by rw [← hw]; exact Z9_70.out.over (by rw [EL.out]; simp))
              have Z10_71 := Lib.hid (show ManyAt w_71_7 (X.heap.size) (List.replicate 576 0) from by rw [← hw]; exact Z10_70.out.turn (Turn.setCells_ (S := fun i => i = w_69.heap.size) (w_69.heap.size) rfl _ _ _ (Turn.refl _ _)) NE.out)
              clear hw
              refine wpAnyH_ready (rs := [8]) (by kernel_rfl) (by simp) ?_
              refine AllReadyH.cons rfl (fun K hK => ?_) AllReadyH.nil
              rw [if_pos (by rfl)]
              refine wp_store_mid _ _ _ rfl (X.heap.size) 0 (csI F).toArray rfl rfl (by simpa [csI_len, FL.out] using Z10_71.out.there_ (o := 0) (m := 576) (by simp)) (by simpa [csI_len, FL.out] using size576) (csI_one _) ?_
              simp only [Act.put, List.setIfInBounds_toArray, List.set_cons_zero, List.set_cons_succ, List.toList_toArray]
              refine hK.out _ _ ?_ (fun hHeld => ?_)
              · exact HSH.out _ (Bl.setCells_ (X.heap.size) LO10.out _ _ _ B_71_7.out)
              clear hK K hHeld
              try simp only [Act.put, List.getElem_toArray, List.getElem_cons_succ, List.getElem_cons_zero, List.setIfInBounds_toArray, List.set_cons_zero, List.set_cons_succ]
              generalize hw : World.setCells _ _ _ _ = w_71_8
              have B_71_8 := Lib.hid (show Bl X w_71_8 from by rw [← hw]; exact Bl.setCells_ (X.heap.size) LO10.out _ _ _ B_71_7.out)
              have Y8 := Lib.hid (show ManyAt w_71_8 (X.heap.size) F from by rw [← hw]; exact Z10_71.out.over (by rw [FL.out]; simp))
              have Y9' := Lib.hid (show ManyAt w_71_8 (w_69.heap.size) E from by rw [← hw]; exact Y7.out.turn (Turn.setCells_ (S := fun i => i = X.heap.size) (X.heap.size) rfl _ _ _ (Turn.refl _ _)) NE.out.symm)
              clear hw
              refine wpAnyH_done (by kernel_rfl) ?_ _
              refine NoOut.normal ?_
              exact ⟨rfl, w_69.heap.size, X.heap.size, E, F, _, _, _, _, _, rfl, Y9'.out, Y8.out, ET, FT, ⟨LO9.out, LO10.out, NE.out.symm⟩, B_71_8.out⟩
          · go_simp
            refine hK.out _ _ ?_ (fun hHeld => ?_)
            · exact HSH.out _ (Bl.alloc_ B_68.out _)
            clear hK K hHeld
            try simp only [Act.put, List.getElem_toArray, List.getElem_cons_succ, List.getElem_cons_zero, List.setIfInBounds_toArray, List.set_cons_zero, List.set_cons_succ]
            generalize hw : World.alloc _ _ = w_72
            have B_72 := Lib.hid (show Bl X w_72 from by rw [← hw]; exact Bl.alloc_ B_68.out _)
            have hb : Bl w_68 w_72 := by rw [← hw]; exact Bl.alloc_ (Bl.refl _) _
            have Z9_72 := Lib.hid (show ManyAt w_72 (w_68.heap.size) (List.replicate 576 0) from by rw [← hw]; exact many_new _ _)
            have LO9 := Lib.hid (show X.heap.size ≤ w_68.heap.size from (B_68.out : Bl X _).size)
            have NE := Lib.hid (show X.heap.size ≠ w_68.heap.size from Nat.ne_of_lt Z10_68.out.lt)
            have Z10_72 := Lib.hid (Z10_68.out.bl hb)
            have V_72 := Lib.hid (V_68.out.bl hb)
            clear hw hb
            refine wpAnyH_ready (rs := [4]) (by kernel_rfl) (by simp) ?_
            refine AllReadyH.cons rfl (fun K hK => ?_) AllReadyH.nil
            · go_simp
              refine (tableOf_any q A6 (revL L).length c6 (revL L) rfl HC6.out HRO.out _ V_72.out).mono ?_
              rintro e w_73 ⟨F, rfl, hF, hb⟩
              have FL := Lib.hid hF.1
              have FT := Lib.hid hF
              clear hF
              have B_73 := Lib.hid (B_72.out.trans_ hb)
              have Z9_73 := Lib.hid (Z9_72.out.bl hb)
              have Z10_73 := Lib.hid (Z10_72.out.bl hb)
              have V_73 := Lib.hid (V_72.out.bl hb)
              clear hb
              try (go_wp2_with fail)
              refine hK.out _ _ ?_ (fun hHeld => ?_)
              · exact HSH.out _ B_73.out
              clear hK K hHeld
              try simp only [Act.put, List.getElem_toArray, List.getElem_cons_succ, List.getElem_cons_zero, List.setIfInBounds_toArray, List.set_cons_zero, List.set_cons_succ]
              refine wpAnyH_ready (rs := [7]) (by kernel_rfl) (by simp) ?_
              refine AllReadyH.cons rfl (fun K hK => ?_) AllReadyH.nil
              rw [if_pos (by rfl)]
              refine wp_store_mid _ _ _ rfl (w_68.heap.size) 0 (csI E).toArray rfl rfl (by simpa [csI_len, EL.out] using Z9_73.out.there_ (o := 0) (m := 576) (by simp)) (by simpa [csI_len, EL.out] using size576) (csI_one _) ?_
              simp only [Act.put, List.setIfInBounds_toArray, List.set_cons_zero, List.set_cons_succ, List.toList_toArray]
              refine hK.out _ _ ?_ (fun hHeld => ?_)
              · exact HSH.out _ (Bl.setCells_ (w_68.heap.size) LO9.out _ _ _ B_73.out)
              clear hK K hHeld
              try simp only [Act.put, List.getElem_toArray, List.getElem_cons_succ, List.getElem_cons_zero, List.setIfInBounds_toArray, List.set_cons_zero, List.set_cons_succ]
              generalize hw : World.setCells _ _ _ _ = w_74_7
              have B_74_7 := Lib.hid (show Bl X w_74_7 from by rw [← hw]; exact Bl.setCells_ (w_68.heap.size) LO9.out _ _ _ B_73.out)
              have Y7 := Lib.hid (show ManyAt w_74_7 (w_68.heap.size) E from by rw [← hw]; exact Z9_73.out.over (by rw [EL.out]; simp))
              have Z10_74 := Lib.hid (show ManyAt w_74_7 (X.heap.size) (List.replicate 576 0) from by rw [← hw]; exact Z10_73.out.turn (Turn.setCells_ (S := fun i => i = w_68.heap.size) (w_68.heap.size) rfl _ _ _ (Turn.refl _ _)) NE.out)
              clear hw
              refine wpAnyH_ready (rs := [8]) (by kernel_rfl) (by simp) ?_
              refine AllReadyH.cons rfl (fun K hK => ?_) AllReadyH.nil
              rw [if_pos (by rfl)]
              refine wp_store_mid _ _ _ rfl (X.heap.size) 0 (csI F).toArray rfl rfl (by simpa [csI_len, FL.out] using Z10_74.out.there_ (o := 0) (m := 576) (by simp)) (by simpa [csI_len, FL.out] using size576) (csI_one _) ?_
              simp only [Act.put, List.setIfInBounds_toArray, List.set_cons_zero, List.set_cons_succ, List.toList_toArray]
              refine hK.out _ _ ?_ (fun hHeld => ?_)
              · exact HSH.out _ (Bl.setCells_ (X.heap.size) LO10.out _ _ _ B_74_7.out)
              clear hK K hHeld
              try simp only [Act.put, List.getElem_toArray, List.getElem_cons_succ, List.getElem_cons_zero, List.setIfInBounds_toArray, List.set_cons_zero, List.set_cons_succ]
              generalize hw : World.setCells _ _ _ _ = w_74_8
              have B_74_8 := Lib.hid (show Bl X w_74_8 from by rw [← hw]; exact Bl.setCells_ (X.heap.size) LO10.out _ _ _ B_74_7.out)
              have Y8 := Lib.hid (show ManyAt w_74_8 (X.heap.size) F from by rw [← hw]; exact Z10_74.out.over (by rw [FL.out]; simp))
              have Y9' := Lib.hid (show ManyAt w_74_8 (w_68.heap.size) E from by rw [← hw]; exact Y7.out.turn (Turn.setCells_ (S := fun i => i = X.heap.size) (X.heap.size) rfl _ _ _ (Turn.refl _ _)) NE.out.symm)
              clear hw
              refine wpAnyH_done (by kernel_rfl) ?_ _
              refine NoOut.normal ?_
              exact ⟨rfl, w_68.heap.size, X.heap.size, E, F, _, _, _, _, _, rfl, Y9'.out, Y8.out, ET, FT, ⟨LO9.out, LO10.out, NE.out.symm⟩, B_74_8.out⟩
        · go_simp
          refine hK.out _ _ ?_ (fun hHeld => ?_)
          · exact HSH.out _ (Bl.alloc_ B_67.out _)
          clear hK K hHeld
          try simp only [Act.put, List.getElem_toArray, List.getElem_cons_succ, List.getElem_cons_zero, List.setIfInBounds_toArray, List.set_cons_zero, List.set_cons_succ]
          generalize hw : World.alloc _ _ = w_75
          have B_75 := Lib.hid (show Bl X w_75 from by rw [← hw]; exact Bl.alloc_ B_67.out _)
          have hb : Bl w_67 w_75 := by rw [← hw]; exact Bl.alloc_ (Bl.refl _) _
          have Z9_75 := Lib.hid (show ManyAt w_75 (w_67.heap.size) (List.replicate 576 0) from by rw [← hw]; exact many_new _ _)
          have LO9 := Lib.hid (show X.heap.size ≤ w_67.heap.size from (B_67.out : Bl X _).size)
          have NE := Lib.hid (show X.heap.size ≠ w_67.heap.size from Nat.ne_of_lt Z10_67.out.lt)
          have Z10_75 := Lib.hid (Z10_67.out.bl hb)
          clear hw hb
          refine wpAnyH_ready (rs := [3]) (by kernel_rfl) (by simp) ?_
          refine AllReadyH.cons rfl (fun K hK => ?_) AllReadyH.nil
          · go_simp
            refine (implReversed_any q A n c L HN.out _ hm (K1.out.bl (HBW.out.trans_ B_75.out))).mono ?_
            rintro e w_76 ⟨v6, rfl, hv6, hb⟩
            rw [show revN (q : Int) L = (q : Int) from if_pos HO.out]
            rw [show revG (q : Int) L = revL L from if_pos HO.out] at hv6
            have hcap := OwnA.cap_ hv6
            obtain ⟨A6, c6, rfl, ha6, -⟩ := hv6.shape
            have V_76 := Lib.hid ha6
            have HC6 := Lib.hid (hcap _ _ _ rfl)
            clear hv6 hcap ha6
            have B_76 := Lib.hid (B_75.out.trans_ hb)
            have Z9_76 := Lib.hid (Z9_75.out.bl hb)
            have Z10_76 := Lib.hid (Z10_75.out.bl hb)
            clear hb
            try (go_wp2_with fail)
            refine hK.out _ _ ?_ (fun hHeld => ?_)
            · exact HSH.out _ B_76.out
            clear hK K hHeld
            try simp only [Act.put, List.getElem_toArray, List.getElem_cons_succ, List.getElem_cons_zero, List.setIfInBounds_toArray, List.set_cons_zero, List.set_cons_succ]
            refine wpAnyH_ready (rs := [4]) (by kernel_rfl) (by simp) ?_
            refine AllReadyH.cons rfl (fun K hK => ?_) AllReadyH.nil
            · go_simp
              refine (tableOf_any q A6 (revL L).length c6 (revL L) rfl HC6.out HRO.out _ V_76.out).mono ?_
              rintro e w_77 ⟨F, rfl, hF, hb⟩
              have FL := Lib.hid hF.1
              have FT := Lib.hid hF
              clear hF
              have B_77 := Lib.hid (B_76.out.trans_ hb)
              have Z9_77 := Lib.hid (Z9_76.out.bl hb)
              have Z10_77 := Lib.hid (Z10_76.out.bl hb)
              have V_77 := Lib.hid (V_76.out.bl hb)
              clear hb
              try (go_wp2_with fail)
              refine hK.out _ _ ?_ (fun hHeld => ?_)
              · exact HSH.out _ B_77.out
              clear hK K hHeld
              try simp only [Act.put, List.getElem_toArray, List.getElem_cons_succ, List.getElem_cons_zero, List.setIfInBounds_toArray, List.set_cons_zero, List.set_cons_succ]
              refine wpAnyH_ready (rs := [7]) (by kernel_rfl) (by simp) ?_
              refine AllReadyH.cons rfl (fun K hK => ?_) AllReadyH.nil
              rw [if_pos (by rfl)]
              refine wp_store_mid _ _ _ rfl (w_67.heap.size) 0 (csI E).toArray rfl rfl (by simpa [csI_len, EL.out] using Z9_77.out.there_ (o := 0) (m := 576) (by simp)) (by simpa [csI_len, EL.out] using size576) (csI_one _) ?_
              simp only [Act.put, List.setIfInBounds_toArray, List.set_cons_zero, List.set_cons_succ, List.toList_toArray]
              refine hK.out _ _ ?_ (fun hHeld => ?_)
              · exact HSH.out _ (Bl.setCells_ (w_67.heap.size) LO9.out _ _ _ B_77.out)
              clear hK K hHeld
              try simp only [Act.put, List.getElem_toArray, List.getElem_cons_succ, List.getElem_cons_zero, List.setIfInBounds_toArray, List.set_cons_zero, List.set_cons_succ]
              generalize hw : World.setCells _ _ _ _ = w_78_7
              have B_78_7 := Lib.hid (show Bl X w_78_7 from by rw [← hw]; exact Bl.setCells_ (w_67.heap.size) LO9.out _ _ _ B_77.out)
              have Y7 := Lib.hid (show ManyAt w_78_7 (w_67.heap.size) E from by rw [← hw]; exact Z9_77.out.over (by rw [EL.out]; simp))
              have Z10_78 := Lib.hid (show ManyAt w_78_7 (X.heap.size) (List.replicate 576 0) from by rw [← hw]; exact Z10_77.out.turn (Turn.setCells_ (S := fun i => i = w_67.heap.size) (w_67.heap.size) rfl _ _ _ (Turn.refl _ _)) NE.out)
              clear hw
              refine wpAnyH_ready (rs := [8]) (by kernel_rfl) (by simp) ?_
              refine AllReadyH.cons rfl (fun K hK => ?_) AllReadyH.nil
              rw [if_pos (by rfl)]
              refine wp_store_mid _ _ _ rfl (X.heap.size) 0 (csI F).toArray rfl rfl (by simpa [csI_len, FL.out] using Z10_78.out.there_ (o := 0) (m := 576) (by simp)) (by simpa [csI_len, FL.out] using size576) (csI_one _) ?_
              simp only [Act.put, List.setIfInBounds_toArray, List.set_cons_zero, List.set_cons_succ, List.toList_toArray]
              refine hK.out _ _ ?_ (fun hHeld => ?_)
              · exact HSH.out _ (Bl.setCells_ (X.heap.size) LO10.out _ _ _ B_78_7.out)
              clear hK K hHeld
              try simp only [Act.put, List.getElem_toArray, List.getElem_cons_succ, List.getElem_cons_zero, List.setIfInBounds_toArray, List.set_cons_zero, List.set_cons_succ]
              generalize hw : World.setCells _ _ _ _ = w_78_8
              have B_78_8 := Lib.hid (show Bl X w_78_8 from by rw [← hw]; exact Bl.setCells_ (X.heap.size) LO10.out _ _ _ B_78_7.out)
              have Y8 := Lib.hid (show ManyAt w_78_8 (X.heap.size) F from by rw [← hw]; exact Z10_78.out.over (by rw [FL.out]; simp))
              have Y9' := Lib.hid (show ManyAt w_78_8 (w_67.heap.size) E from by rw [← hw]; exact Y7.out.turn (Turn.setCells_ (S := fun i => i = X.heap.size) (X.heap.size) rfl _ _ _ (Turn.refl _ _)) NE.out.symm)
              clear hw
              refine wpAnyH_done (by kernel_rfl) ?_ _
              refine NoOut.normal ?_
              exact ⟨rfl, w_67.heap.size, X.heap.size, E, F, _, _, _, _, _, rfl, Y9'.out, Y8.out, ET, FT, ⟨LO9.out, LO10.out, NE.out.symm⟩, B_78_8.out⟩
      · go_simp
        refine hK.out _ _ ?_ (fun hHeld => ?_)
        · exact HSH.out _ (Bl.alloc_ B_66.out _)
        clear hK K hHeld
        try simp only [Act.put, List.getElem_toArray, List.getElem_cons_succ, List.getElem_cons_zero, List.setIfInBounds_toArray, List.set_cons_zero, List.set_cons_succ]
        generalize hw : World.alloc _ _ = w_79
        have B_79 := Lib.hid (show Bl X w_79 from by rw [← hw]; exact Bl.alloc_ B_66.out _)
        have hb : Bl w_66 w_79 := by rw [← hw]; exact Bl.alloc_ (Bl.refl _) _
        have Z9_79 := Lib.hid (show ManyAt w_79 (w_66.heap.size) (List.replicate 576 0) from by rw [← hw]; exact many_new _ _)
        have LO9 := Lib.hid (show X.heap.size ≤ w_66.heap.size from (B_66.out : Bl X _).size)
        have NE := Lib.hid (show X.heap.size ≠ w_66.heap.size from Nat.ne_of_lt Z10_66.out.lt)
        have Z10_79 := Lib.hid (Z10_66.out.bl hb)
        clear hw hb
        refine wpAnyH_ready (rs := [1]) (by kernel_rfl) (by simp) ?_
        refine AllReadyH.cons rfl (fun K hK => ?_) AllReadyH.nil
        · go_simp
          refine (tableOf_any q A n c L HN.out hc HO.out _ (K1.out.bl (HBW.out.trans_ B_79.out))).mono ?_
          rintro e w_80 ⟨E, rfl, hE, hb⟩
          have EL := Lib.hid hE.1
          have ET := Lib.hid hE
          clear hE
          have B_80 := Lib.hid (B_79.out.trans_ hb)
          have Z9_80 := Lib.hid (Z9_79.out.bl hb)
          have Z10_80 := Lib.hid (Z10_79.out.bl hb)
          clear hb
          try (go_wp2_with fail)
          refine hK.out _ _ ?_ (fun hHeld => ?_)
          · exact HSH.out _ B_80.out
          clear hK K hHeld
          try simp only [Act.put, List.getElem_toArray, List.getElem_cons_succ, List.getElem_cons_zero, List.setIfInBounds_toArray, List.set_cons_zero, List.set_cons_succ]
          refine wpAnyH_ready (rs := [3]) (by kernel_rfl) (by simp) ?_
          refine AllReadyH.cons rfl (fun K hK => ?_) AllReadyH.nil
          · go_simp
            refine (implReversed_any q A n c L HN.out _ hm (K1.out.bl (HBW.out.trans_ B_80.out))).mono ?_
            rintro e w_81 ⟨v6, rfl, hv6, hb⟩
            rw [show revN (q : Int) L = (q : Int) from if_pos HO.out]
            rw [show revG (q : Int) L = revL L from if_pos HO.out] at hv6
            have hcap := OwnA.cap_ hv6
            obtain ⟨A6, c6, rfl, ha6, -⟩ := hv6.shape
            have V_81 := Lib.hid ha6
            have HC6 := Lib.hid (hcap _ _ _ rfl)
            clear hv6 hcap ha6
            have B_81 := Lib.hid (B_80.out.trans_ hb)
            have Z9_81 := Lib.hid (Z9_80.out.bl hb)
            have Z10_81 := Lib.hid (Z10_80.out.bl hb)
            clear hb
            try (go_wp2_with fail)
            refine hK.out _ _ ?_ (fun hHeld => ?_)
            · exact HSH.out _ B_81.out
            clear hK K hHeld
            try simp only [Act.put, List.getElem_toArray, List.getElem_cons_succ, List.getElem_cons_zero, List.setIfInBounds_toArray, List.set_cons_zero, List.set_cons_succ]
            refine wpAnyH_ready (rs := [4]) (by kernel_rfl) (by simp) ?_
            refine AllReadyH.cons rfl (fun K hK => ?_) AllReadyH.nil
            · go_simp
              refine (tableOf_any q A6 (revL L).length c6 (revL L) rfl HC6.out HRO.out _ V_81.out).mono ?_
              rintro e w_82 ⟨F, rfl, hF, hb⟩
              have FL := Lib.hid hF.1
              have FT := Lib.hid hF
              clear hF
              have B_82 := Lib.hid (B_81.out.trans_ hb)
              have Z9_82 := Lib.hid (Z9_81.out.bl hb)
              have Z10_82 := Lib.hid (Z10_81.out.bl hb)
              have V_82 := Lib.hid (V_81.out.bl hb)
              clear hb
              try (go_wp2_with fail)
              refine hK.out _ _ ?_ (fun hHeld => ?_)
              · exact HSH.out _ B_82.out
              clear hK K hHeld
              try simp only [Act.put, List.getElem_toArray, List.getElem_cons_succ, List.getElem_cons_zero, List.setIfInBounds_toArray, List.set_cons_zero, List.set_cons_succ]
              refine wpAnyH_ready (rs := [7]) (by kernel_rfl) (by simp) ?_
              refine AllReadyH.cons rfl (fun K hK => ?_) AllReadyH.nil
              rw [if_pos (by rfl)]
              refine wp_store_mid _ _ _ rfl (w_66.heap.size) 0 (csI E).toArray rfl rfl (by simpa [csI_len, EL.out] using Z9_82.out.there_ (o := 0) (m := 576) (by simp)) (by simpa [csI_len, EL.out] using size576) (csI_one _) ?_
              simp only [Act.put, List.setIfInBounds_toArray, List.set_cons_zero, List.set_cons_succ, List.toList_toArray]
              refine hK.out _ _ ?_ (fun hHeld => ?_)
              · exact HSH.out _ (Bl.setCells_ (w_66.heap.size) LO9.out _ _ _ B_82.out)
              clear hK K hHeld
              try simp only [Act.put, List.getElem_toArray, List.getElem_cons_succ, List.getElem_cons_zero, List.setIfInBounds_toArray, List.set_cons_zero, List.set_cons_succ]
              generalize hw : World.setCells _ _ _ _ = w_83_7
              have B_83_7 := Lib.hid (show Bl X w_83_7 from by rw [← hw]; exact Bl.setCells_ (w_66.heap.size) LO9.out _ _ _ B_82.out)
              have Y7 := Lib.hid (show ManyAt w_83_7 (w_66.heap.size) E from by rw [← hw]; exact Z9_82.out.over (by rw [EL.out]; simp))
              have Z10_83 := Lib.hid (show ManyAt w_83_7 (X.heap.size) (List.replicate 576 0) from by rw [← hw]; exact Z10_82.out.turn (Turn.setCells_ (S := fun i => i = w_66.heap.size) (w_66.heap.size) rfl _ _ _ (Turn.refl _ _)) NE.out)
              clear hw
              refine wpAnyH_ready (rs := [8]) (by kernel_rfl) (by simp) ?_
              refine AllReadyH.cons rfl (fun K hK => ?_) AllReadyH.nil
              rw [if_pos (by rfl)]
              refine wp_store_mid _ _ _ rfl (X.heap.size) 0 (csI F).toArray rfl rfl (by simpa [csI_len, FL.out] using Z10_83.out.there_ (o := 0) (m := 576) (by simp)) (by simpa [csI_len, FL.out] using size576) (csI_one _) ?_
              simp only [Act.put, List.setIfInBounds_toArray, List.set_cons_zero, List.set_cons_succ, List.toList_toArray]
              refine hK.out _ _ ?_ (fun hHeld => ?_)
              · exact HSH.out _ (Bl.setCells_ (X.heap.size) LO10.out _ _ _ B_83_7.out)
              clear hK K hHeld
              try simp only [Act.put, List.getElem_toArray, List.getElem_cons_succ, List.getElem_cons_zero, List.setIfInBounds_toArray, List.set_cons_zero, List.set_cons_succ]
              generalize hw : World.setCells _ _ _ _ = w_83_8
              have B_83_8 := Lib.hid (show Bl X w_83_8 from by rw [← hw]; exact Bl.setCells_ (X.heap.size) LO10.out _ _ _ B_83_7.out)
              have Y8 := Lib.hid (show ManyAt w_83_8 (X.heap.size) F from by rw [← hw]; exact Z10_83.out.over (by rw [FL.out]; simp))
              have Y9' := Lib.hid (show ManyAt w_83_8 (w_66.heap.size) E from by rw [← hw]; exact Y7.out.turn (Turn.setCells_ (S := fun i => i = X.heap.size) (X.heap.size) rfl _ _ _ (Turn.refl _ _)) NE.out.symm)
              clear hw
              refine wpAnyH_done (by kernel_rfl) ?_ _
              refine NoOut.normal ?_
              exact ⟨rfl, w_66.heap.size, X.heap.size, E, F, _, _, _, _, _, rfl, Y9'.out, Y8.out, ET, FT, ⟨LO9.out, LO10.out, NE.out.symm⟩, B_83_8.out⟩
  case rest =>
    rintro e a wc ⟨rfl, b3, b4, E, F, z8, z9, z10, z11, z12, rfl, h3, h4, hE, hF, ⟨hb3, hb4, hb34⟩, hbc⟩
    have HTE := hE
    have hq24 := (okB_elim HO.out).2.1
    have hq1 := (okB_elim HO.out).1
    have hk0 := HLT.out [] K0 W HJ0.out
    have hxs := HX.out
    have S0 := Lib.hid (show SQ W K0 l gb b3 b4 q A n c L E F K0 wc from by
      refine ⟨HYB.out _ hbc, h3, h4, HI.out.turn (Turn.of_bl (S := fun _ => False) (HBW.out.trans_ hbc)) (fun _ h => h.elim), ⟨fun h => by have := hk0 _ h; omega, fun h => by have := hk0 _ h; omega, fun h => by have := hk0 _ h; omega⟩, HK.out, ⟨Turn.of_bl (HBW.out.trans_ hbc), fun i h => .inl h⟩⟩)
    have J0 := Lib.hid (HJ.out [] K0 W wc HJ0.out (Turn.of_bl (HBW.out.trans_ hbc)))
    obtain ⟨q0, q1⟩ := HSH.out _ hbc
    have HB34 := Lib.hid (show W.heap.size < b3 ∧ W.heap.size < b4 ∧ b3 ≠ b4 from by omega)
    clear h3 h4 hbc hb3 hb4 hb34 hk0 hxs
    gi_wp2_with fail
    clear q0 q1
    refine wpIn_loop_ghost_k (fun kk a wr => ∃ v5 v6 v7 v15 v16 v17 v18 v19 v20 v21 v22 v23 v24 v25 v26 v27 v28 v29 v30 v31 v32 v33 v34 v35 v36 v37 v38 v39 v40 v41 v42 v43 v44 v45 v46 v47 v48 v49 v50 v51 : Value, ∃ ds : List Deferred, (∃ (s : Nat) (Ds : List Nat) (Ko : Nat → Prop), (s ≤ q ∧ kk = q - s ∧ v15 = .int .i64 s) ∧ (MarksD ds Ds wr ∧ ∀ D ∈ Ds, W.heap.size < D ∧ ¬ Ko D) ∧ J (allS q L s) Ko wr ∧ Hid (SQ W K0 l gb b3 b4 q A n c L E F Ko wr)) ∧ a = { tmps := #[.func (.yield l) #[] #[], .pointer (some ⟨gb, 0, none⟩), .pointer (some ⟨W.heap.size, 0, none⟩), .pointer (some ⟨b3, 0, none⟩), .pointer (some ⟨b4, 0, none⟩), v5, v6, v7, z8, z9, z10, z11, z12, .pointer (some ⟨gb, 0, none⟩), .int .i64 (q : Int), v15, v16, v17, v18, v19, v20, v21, v22, v23, v24, v25, v26, v27, v28, v29, v30, v31, v32, v33, v34, v35, v36, v37, v38, v39, v40, v41, v42, v43, v44, v45, v46, v47, v48, v49, v50, v51], defers := ds }) q ?start ?round
    case start => exact ⟨_, _, _, .int .i64 0, _, _, _, _, _, _, _, _, _, _, _, _, _, _, _, _, _, _, _, _, _, _, _, _, _, _, _, _, _, _, _, _, _, _, _, _, [], ⟨0, [], K0, ⟨by omega, by omega, rfl⟩, ⟨MarksD.nil_ _, by simp⟩, J0.out, S0⟩, rfl⟩
    case round =>
      clear S0 J0
      rintro kk _ wr ⟨v5, v6, v7, v15, v16, v17, v18, v19, v20, v21, v22, v23, v24, v25, v26, v27, v28, v29, v30, v31, v32, v33, v34, v35, v36, v37, v38, v39, v40, v41, v42, v43, v44, v45, v46, v47, v48, v49, v50, v51, ds, ⟨s, Ds, Ko, ⟨hs, rfl, rfl⟩, ⟨hmk, hml⟩, hj, SQ1⟩, rfl⟩ JJ KK hJJ hKK
      have MK := Lib.hid hmk
      have ML := Lib.hid hml
      have J1 := Lib.hid hj
      clear hmk hml hj
      by_cases hlt1 : s < q
      · have hlt1' : (s : Int) < (q : Int) := by omega
        have gq := SQ1.out.inn.size
        have hgbl := World.block_lt_of_cell? _ _ gq
        simp only at hgbl
        gi_wp2_with fail
        obtain ⟨wo, hwo⟩ : ∃ wo, wo = wr.alloc (.cells #[.int .i64 (s : Int)] 2) := ⟨_, rfl⟩
        have BO := Lib.hid (show Bl wr wo from by rw [hwo]; exact Bl.alloc_ (Bl.refl wr) _)
        have C5 := Lib.hid (show wo.cell? ⟨wr.heap.size, 0, none⟩ = some (.int .i64 (s : Int)) from by rw [hwo]; simp [go_sem])
        have HB5 := Lib.hid (HLT.out _ _ _ J1.out)
        obtain ⟨b5, hb5⟩ : ∃ b5, b5 = wr.heap.size := ⟨_, rfl⟩
        rw [← hb5] at C5 HB5
        have LOW := Lib.hid (show W.heap.size < b5 ∧ b3 < b5 ∧ ¬ Ko b5 ∧ b4 < b5 from by
          have h1 := World.block_lt_of_cell? _ _ SQ1.out.y
          have h2 := SQ1.out.t3.lt
          have h3 := SQ1.out.t4.lt
          simp only at h1
          exact ⟨by omega, by omega, fun h => by have := HB5.out _ h; omega, by omega⟩)
        rw [← hwo, ← hb5]
        have SQ2 := Lib.hid (SQ1.out.bl BO.out)
        have J2 := Lib.hid (HJ.out _ _ _ _ J1.out (Turn.of_bl BO.out))
        have MK2 := Lib.hid (MK.out.bl BO.out)
        clear hwo hb5 gq MK J1 SQ1 BO HB5 hgbl
        refine wpIn_loop_ghost_k (fun kk a wq => ∃ u6 u7 u16 u17 u18 u20 u21 u22 u23 u24 u25 u26 u27 u28 u29 u30 u31 u32 u33 u34 u35 u36 u37 u38 u39 u40 u41 u42 u43 u44 u45 u46 u47 u48 u49 u50 u51 : Value, ∃ dt : List Deferred, (∃ (t : Nat) (Dt : List Nat) (Ko : Nat → Prop), (t ≤ q ∧ kk = q - t ∧ u20 = .int .i64 t) ∧ (MarksD dt Dt wq ∧ ∀ D ∈ Dt, W.heap.size < D ∧ ¬ Ko D) ∧ J (allS q L s ++ rowS q L (s : Int) t) Ko wq ∧ Hid (SQ W K0 l gb b3 b4 q A n c L E F Ko wq) ∧ Hid (wq.cell? ⟨b5, 0, none⟩ = some (.int .i64 (s : Int)) ∧ ¬ Ko b5)) ∧ a = { tmps := #[.func (.yield l) #[] #[], .pointer (some ⟨gb, 0, none⟩), .pointer (some ⟨W.heap.size, 0, none⟩), .pointer (some ⟨b3, 0, none⟩), .pointer (some ⟨b4, 0, none⟩), .pointer (some ⟨b5, 0, none⟩), u6, u7, z8, z9, z10, z11, z12, .pointer (some ⟨gb, 0, none⟩), .int .i64 (q : Int), .int .i64 (s : Int), u16, u17, u18, .int .i64 (q : Int), u20, u21, u22, u23, u24, u25, u26, u27, u28, u29, u30, u31, u32, u33, u34, u35, u36, u37, u38, u39, u40, u41, u42, u43, u44, u45, u46, u47, u48, u49, u50, u51], defers := dt }) q ?start2 ?round2
        case start2 => exact ⟨_, _, _, _, _, .int .i64 0, _, _, _, _, _, _, _, _, _, _, _, _, _, _, _, _, _, _, _, _, _, _, _, _, _, _, _, _, _, _, _, ds, ⟨0, Ds, Ko, ⟨by omega, by omega, rfl⟩, ⟨MK2.out, ML.out⟩, by rw [show rowS q L (s : Int) 0 = [] from rfl, List.append_nil]; exact J2.out, SQ2, Lib.hid ⟨C5.out, LOW.out.2.2.1⟩⟩, rfl⟩
        case round2 =>
          clear SQ2 J2 MK2 ML C5
          have LOW1 := Lib.hid (show W.heap.size < b5 ∧ b3 < b5 ∧ b4 < b5 from ⟨LOW.out.1, LOW.out.2.1, LOW.out.2.2.2⟩)
          clear LOW
          rintro kk _ wq ⟨u6, u7, u16, u17, u18, u20, u21, u22, u23, u24, u25, u26, u27, u28, u29, u30, u31, u32, u33, u34, u35, u36, u37, u38, u39, u40, u41, u42, u43, u44, u45, u46, u47, u48, u49, u50, u51, dt, ⟨t, Dt, Ko, ⟨ht, rfl, rfl⟩, ⟨hmk, hml⟩, hj, SQ3, C5⟩, rfl⟩ JJ2 KK2 hJJ2 hKK2
          have MK := Lib.hid hmk
          have ML := Lib.hid hml
          have J3 := Lib.hid hj
          clear hmk hml hj
          by_cases hlt2 : t < q
          · have hlt2' : (t : Int) < (q : Int) := by omega
            have gq := SQ3.out.inn.size
            have gl := World.block_lt_of_cell? _ _ gq
            simp only at gl
            obtain ⟨c5, n5⟩ := C5.out
            have l5 := World.block_lt_of_cell? _ _ c5
            simp only at l5
            gi_wp2_with fail
            obtain ⟨wt, hwt⟩ : ∃ wt, wt = wq.alloc (.cells #[.int .i64 (t : Int)] 2) := ⟨_, rfl⟩
            have BT := Lib.hid (show Bl wq wt from by rw [hwt]; exact Bl.alloc_ (Bl.refl wq) _)
            have C6 := Lib.hid (show wt.cell? ⟨wq.heap.size, 0, none⟩ = some (.int .i64 (t : Int)) from by rw [hwt]; simp [go_sem])
            have HJl := Lib.hid (HLT.out _ _ _ J3.out)
            have hwts : wt.heap.size = wq.heap.size + 1 := by rw [hwt]; simp
            obtain ⟨b6, hb6⟩ : ∃ b6, b6 = wq.heap.size := ⟨_, rfl⟩
            rw [← hb6] at C6 HJl hwts l5
            have N6 := Lib.hid (show ¬ Ko b6 from fun h => by have := HJl.out _ h; omega)
            rw [← hwt, ← hb6]
            have C5t := Lib.hid ((bcell BT.out).1 _ _ (by rw [← hb6]; exact l5) |>.trans c5)
            have SQ4 := Lib.hid (SQ3.out.bl BT.out)
            have J4 := Lib.hid (HJ.out _ _ _ _ J3.out (Turn.of_bl BT.out))
            have MK4 := Lib.hid (MK.out.bl BT.out)
            have N5 := Lib.hid n5
            have l3 := SQ3.out.t3.lt
            rw [← hb6] at l3
            have B56 := Lib.hid (show b5 < b6 ∧ b3 < b6 from ⟨l5, l3⟩)
            clear hwt hb6 gq gl c5 n5 l5 l3 MK J3 SQ3 BT C5
            have HR1 := Lib.hid (rowAt_len (s := s) hE.out.1 (by omega))
            have HR2 := Lib.hid (rowAt_len (s := t) hF.out.1 (by omega))
            have s0 : (0 : Int) ≤ (s : Int) := by omega
            have s1 : (s : Int) < 24 := by omega
            have t0 : (0 : Int) ≤ (t : Int) := by omega
            have t1 : (t : Int) < 24 := by omega
            have HSH2 := Lib.hid (show ∀ wx, Bl wt wx → Bl wt wx ∧ wx.cell? ⟨gb, 0, none⟩ = some (.int .i64 (q : Int)) ∧ wx.cell? ⟨b5, 0, none⟩ = some (.int .i64 (s : Int)) ∧ wx.cell? ⟨b6, 0, none⟩ = some (.int .i64 (t : Int)) ∧ wx.rangeAt b3 (s * 24) (csI (rowAt E s)) ∧ wx.rangeAt b4 (t * 24) (csI (rowAt F t)) from fun wx hb =>
              ⟨hb, (SQ4.out.bl hb).inn.size, ((bcell hb).1 _ _ (World.block_lt_of_cell? _ _ C5t.out)).trans C5t.out, ((bcell hb).1 _ _ (World.block_lt_of_cell? _ _ C6.out)).trans C6.out, (SQ4.out.bl hb).t3.part _ _, (SQ4.out.bl hb).t4.part _ _⟩)
            refine wpIn_region_held (S := fun wx => Bl wt wx ∧ wx.cell? ⟨gb, 0, none⟩ = some (.int .i64 (q : Int)) ∧ wx.cell? ⟨b5, 0, none⟩ = some (.int .i64 (s : Int)) ∧ wx.cell? ⟨b6, 0, none⟩ = some (.int .i64 (t : Int)) ∧ wx.rangeAt b3 (s * 24) (csI (rowAt E s)) ∧ wx.rangeAt b4 (t * 24) (csI (rowAt F t))) (by kernel_rfl) ?_ (fun hHeld => ?_)
            · (exact HSH2.out _ (by repeat' (first | exact Bl.refl _ | with_reducible assumption | with_reducible refine Bl.drew_ ?_ | with_reducible refine Bl.drewN_ ?_ _ | with_reducible refine Bl.alloc_ ?_ _ | with_reducible refine Bl.trans_ ?_ (by assumption) | with_reducible refine Bl.trans_ ?_ (And.left (by assumption)))))
            refine wpAnyH_take (i := 0) (v := ?_) rfl (by kernel_rfl) (by kernel_rfl) (by kernel_rfl) (fun _ _ _ h => h) (Or.inl ⟨by kernel_rfl, ?_⟩) (by assumption) ?_
            rotate_left
            · (intro wx hSw; (try dsimp only at hSw); go_simp; try (with_reducible rfl))
            try simp only [Act.put, List.getElem_toArray, List.getElem_cons_succ, List.getElem_cons_zero, List.setIfInBounds_toArray, List.set_cons_zero, List.set_cons_succ]
            refine wpAnyH_take (i := 1) (v := ?_) rfl (by kernel_rfl) (by kernel_rfl) (by kernel_rfl) (fun _ _ _ h => h) (Or.inl ⟨by kernel_rfl, ?_⟩) (by assumption) ?_
            rotate_left
            · (intro wx hSw; (try dsimp only at hSw); go_simp; try (with_reducible rfl))
            try simp only [Act.put, List.getElem_toArray, List.getElem_cons_succ, List.getElem_cons_zero, List.setIfInBounds_toArray, List.set_cons_zero, List.set_cons_succ]
            refine wpAnyH_take (i := 2) (v := ?_) rfl (by kernel_rfl) (by kernel_rfl) (by kernel_rfl) (fun _ _ _ h => h) (Or.inl ⟨by kernel_rfl, ?_⟩) (by assumption) ?_
            rotate_left
            · (intro wx hSw; (try dsimp only at hSw); go_simp; try (with_reducible rfl))
            try simp only [Act.put, List.getElem_toArray, List.getElem_cons_succ, List.getElem_cons_zero, List.setIfInBounds_toArray, List.set_cons_zero, List.set_cons_succ]
            refine wpAnyH_take (i := 3) (v := ?_) rfl (by kernel_rfl) (by kernel_rfl) (by kernel_rfl) (fun _ _ _ h => h) (Or.inl ⟨by kernel_rfl, ?_⟩) (by assumption) ?_
            rotate_left
            · (intro wx hSw; (try dsimp only at hSw); go_simp; try (with_reducible rfl))
            try simp only [Act.put, List.getElem_toArray, List.getElem_cons_succ, List.getElem_cons_zero, List.setIfInBounds_toArray, List.set_cons_zero, List.set_cons_succ]
            refine wpAnyH_take (i := 4) (v := _) rfl (by kernel_rfl) (by kernel_rfl) (by kernel_rfl) (fun _ _ _ h => h) (yieldsIf_load_mid (by kernel_rfl) _ _ rfl b3 (s * 24) rfl (csI (rowAt E s)) _ (fun wx h => h.2.2.2.2.1) Try.underlying75 rfl (by rw [csI_len, HR1.out]; exact size24')) (by assumption) ?_
            try simp only [Act.put, List.getElem_toArray, List.getElem_cons_succ, List.getElem_cons_zero, List.setIfInBounds_toArray, List.set_cons_zero, List.set_cons_succ]
            refine wpAnyH_take (i := 5) (v := ?_) rfl (by kernel_rfl) (by kernel_rfl) (by kernel_rfl) (fun _ _ _ h => h) (Or.inl ⟨by kernel_rfl, ?_⟩) (by assumption) ?_
            rotate_left
            · (intro wx hSw; (try dsimp only at hSw); go_simp; try (with_reducible rfl))
            try simp only [Act.put, List.getElem_toArray, List.getElem_cons_succ, List.getElem_cons_zero, List.setIfInBounds_toArray, List.set_cons_zero, List.set_cons_succ]
            refine wpAnyH_take (i := 6) (v := ?_) rfl (by kernel_rfl) (by kernel_rfl) (by kernel_rfl) (fun _ _ _ h => h) (Or.inl ⟨by kernel_rfl, ?_⟩) (by assumption) ?_
            rotate_left
            · (intro wx hSw; (try dsimp only at hSw); go_simp; try (with_reducible rfl))
            try simp only [Act.put, List.getElem_toArray, List.getElem_cons_succ, List.getElem_cons_zero, List.setIfInBounds_toArray, List.set_cons_zero, List.set_cons_succ]
            refine wpAnyH_take (i := 7) (v := _) rfl (by kernel_rfl) (by kernel_rfl) (by kernel_rfl) (fun _ _ _ h => h) (yieldsIf_load_mid (by kernel_rfl) _ _ rfl b4 (t * 24) rfl (csI (rowAt F t)) _ (fun wx h => h.2.2.2.2.2) Try.underlying75 rfl (by rw [csI_len, HR2.out]; exact size24')) (by assumption) ?_
            try simp only [Act.put, List.getElem_toArray, List.getElem_cons_succ, List.getElem_cons_zero, List.setIfInBounds_toArray, List.set_cons_zero, List.set_cons_succ]
            refine wpAnyH_ready (rs := [8]) (by kernel_rfl) (by simp) ?_
            refine AllReadyH.cons rfl (fun K hK => ?_) AllReadyH.nil
            go_simp
            (go_at_call 102; refine (passings_any q (rowAt E s) (rowAt F t) HR1.out HR2.out _).mono ?_; rintro e w6 ⟨rfl, hw6⟩; have hb6 : Bl wt w6 := (by rw [hw6]; exact ((((Bl.refl wt).drew_).alloc_ _).alloc_ _).alloc_ _); have HW6 := Lib.hid hw6; clear hw6)
            try (go_wp2_with fail)
            refine hK.out _ _ ?_ (fun hHeld => ?_)
            · (exact HSH2.out _ (by repeat' (first | exact Bl.refl _ | with_reducible assumption | with_reducible refine Bl.drew_ ?_ | with_reducible refine Bl.drewN_ ?_ _ | with_reducible refine Bl.alloc_ ?_ _ | with_reducible refine Bl.trans_ ?_ (by assumption) | with_reducible refine Bl.trans_ ?_ (And.left (by assumption)))))
            clear hK K
            try simp only [Act.put, List.getElem_toArray, List.getElem_cons_succ, List.getElem_cons_zero, List.setIfInBounds_toArray, List.set_cons_zero, List.set_cons_succ]
            refine wpAnyH_done (by kernel_rfl) ?_ _
            refine NoOut.normal ?_
            gi_wp2_with fail
            have hs6 : w6.heap.size = b6 + 4 := by rw [HW6.out]; simp; omega
            have hpin : PIn w6 (b6 + 1) (b6 + 1 + 1) (b6 + 1 + 2) q (rowAt E s) (rowAt F t) := by
              have n1 := (nums_box ((wt.drew.alloc (.cells #[.int .i64 (q : Int)] 2))) 75 (rowAt E s) HR1.out).bl (Bl.alloc_ (Bl.refl _) (.cells ((rowAt F t).map (Value.int .i64)).toArray 75))
              have n2 := nums_box ((wt.drew.alloc (.cells #[.int .i64 (q : Int)] 2)).alloc (.cells ((rowAt E s).map (Value.int .i64)).toArray 75)) 75 (rowAt F t) HR2.out
              refine ⟨?_, ?_, ?_⟩
              · rw [HW6.out, ← hwts]; simp [go_sem]
              · rw [HW6.out]
                have e : (wt.drew.alloc (.cells #[.int .i64 (q : Int)] 2)).heap.size = b6 + 1 + 1 := by simp; omega
                rw [e] at n1
                exact n1
              · rw [HW6.out]
                have e : ((wt.drew.alloc (.cells #[.int .i64 (q : Int)] 2)).alloc (.cells ((rowAt E s).map (Value.int .i64)).toArray 75)).heap.size = b6 + 1 + 2 := by simp; omega
                rw [e] at n2
                exact n2
            have hb6w : Bl wt w6 := by rw [HW6.out]; exact ((((Bl.refl wt).drew_).alloc_ _).alloc_ _).alloc_ _
            have SQ6 := Lib.hid (SQ4.out.bl hb6w)
            have J6 := Lib.hid (HJ.out _ _ _ _ J4.out (Turn.of_bl hb6w))
            have MK6 := Lib.hid (MK4.out.bl hb6w)
            have HS6 := Lib.hid hs6
            obtain ⟨m, hmd⟩ : ∃ m, m = dAt (distL q L (s : Int)) (t : Int) := ⟨_, rfl⟩
            have SEL := Lib.hid (show selST q L (s : Int) (t : Int) = selE m (passK (rowAt E s) (rowAt F t) q) from by rw [hmd]; exact selST_rows hE.out hF.out hlt1 hlt2 (by omega))
            have HEM := Lib.hid (show E.getD (s * 24 + t) 0 = m from by rw [hmd]; exact hE.out.2 s t hlt1 hlt2')
            have HDB := Lib.hid (show (∀ v : Int, 0 ≤ v → v < (q : Int) → dAt (rowAt E s) v ≤ 23000) ∧ ∀ v : Int, 0 ≤ v → v < (q : Int) → dAt (rowAt F t) v ≤ 23000 from ⟨fun v h0 h1 => by rw [rowAt_dist hE.out hlt1 (by omega) v h0 h1]; exact (distL_top (s := (s : Int)) HO.out (by omega) hlt1' v).2, fun v h0 h1 => by rw [rowAt_dist hF.out hlt2 (by omega) v h0 h1]; exact (distL_top (s := (t : Int)) HRO.out (by omega) hlt2' v).2⟩)
            have RQ6 := Lib.hid (show RQ W.heap.size l b3 b5 b6 s t E Ko w6.heap.size Ko w6 from ⟨SQ6.out.y, SQ6.out.t3, ((bcell hb6w).1 _ _ (World.block_lt_of_cell? _ _ C5t.out)).trans C5t.out, ((bcell hb6w).1 _ _ (World.block_lt_of_cell? _ _ C6.out)).trans C6.out, ⟨SQ6.out.no.1, SQ6.out.no.2.1, N5.out, N6.out⟩, fun i h => .inl h, Nat.le_refl _⟩)
            clear hmd hwts SQ4 J4 MK4 hb6w hb6 hs6
            refine wpIn_range (gf := 116) (lb := #[.pointer (some ⟨b6 + 1, 0, none⟩), .pointer (some ⟨b6 + 1 + 1, 0, none⟩), .pointer (some ⟨b6 + 1 + 2, 0, none⟩)]) ?e1 ?e2
              (pass_stops q (b6 + 1) (b6 + 1 + 1) (b6 + 1 + 2) (rowAt E s) (rowAt F t) (by omega) w6 hpin) (Bl.refl _) (fun i hi => hpin.lt hi) ?e3
              (fun pre K W' => ∃ Kp : Nat → Prop, (∀ i, K i ↔ (Kp i ∨ i = W.heap.size ∨ i = b3 ∨ i = b5 ∨ i = b6)) ∧ J (allS q L s ++ rowS q L (s : Int) t ++ selE m pre) Kp W' ∧ RQ W.heap.size l b3 b5 b6 s t E Ko w6.heap.size Kp W')
              (fun cd pre K W' => cd = .ret ∧ ∃ Kp : Nat → Prop, (∀ i, Kp i → K i) ∧ Jx (allS q L s ++ rowS q L (s : Int) t ++ selE m pre) Kp W' ∧ ∀ i, Kp i → Ko i ∨ w6.heap.size ≤ i)
              (fun pre x a K W' => ∃ xb : Nat, ∃ x0 x1 x4 x8 x9 x10 x11 x12 x13 x14 x15 x16 x17 x18 x19 x20 x21 x22 x23 x24 x25 x26 x27 x28 x29 x30 x31 x32 x33 x34 x35 x36 x37 x38 x39 x40 x41 x42 x43 x44 x45 x46 x47 x48 x49 x50 x51 : Value, ∃ Kp : Nat → Prop, (∀ i, K i ↔ (Kp i ∨ i = W.heap.size ∨ i = b3 ∨ i = b5 ∨ i = b6 ∨ i = xb)) ∧ J (allS q L s ++ rowS q L (s : Int) t ++ selE m pre) Kp W' ∧ RQ W.heap.size l b3 b5 b6 s t E Ko w6.heap.size Kp W' ∧
                ((xb ≠ W.heap.size ∧ xb ≠ b3 ∧ xb ≠ b5 ∧ xb ≠ b6 ∧ ¬ Kp xb) ∧ W'.cell? ⟨xb, 0, none⟩ = some (.int .i64 x.1) ∧ W'.cell? ⟨xb, 1, none⟩ = some (.int .i64 x.2.1) ∧ W'.cell? ⟨xb, 2, none⟩ = some (.int .i64 x.2.2)) ∧ a = { tmps := #[x0, x1, .pointer (some ⟨W.heap.size, 0, none⟩), .pointer (some ⟨b3, 0, none⟩), x4, .pointer (some ⟨b5, 0, none⟩), .pointer (some ⟨b6, 0, none⟩), .pointer (some ⟨xb, 0, none⟩), x8, x9, x10, x11, x12, x13, x14, x15, x16, x17, x18, x19, x20, x21, x22, x23, x24, x25, x26, x27, x28, x29, x30, x31, x32, x33, x34, x35, x36, x37, x38, x39, x40, x41, x42, x43, x44, x45, x46, x47, x48, x49, x50, x51], defers := [] })
              (fun i => Ko i ∨ i = W.heap.size ∨ i = b3 ∨ i = b5 ∨ i = b6) ?hK0 ?hI ?hIx ?hM ?hlt ?h0 ?assign ?body ?done ?stop
            case e1 => rfl
            case e2 => exact enters_of Try.func116 (by kernel_rfl) rfl
            case e3 => exact fun x => rfl
            case h0 => exact ⟨Ko, fun i => Iff.rfl, by rw [selE_nil, List.append_nil]; exact J6.out, RQ6.out⟩
            case hK0 =>
              have hlo := RQ6.out.low
              have hb := B56.out
              have h5 := LOW1.out
              have hko := HJl.out
              rintro i hi hp
              have hi' : b6 < i := by rcases hp with rfl | rfl | rfl <;> omega
              rcases hi with h | rfl | rfl | rfl | rfl
              · have := hko _ h; omega
              · omega
              · omega
              · omega
              · omega
            case hI =>
              rintro pre K Y1 Y2 ⟨Kp, hk, hj, hr⟩ ht
              exact ⟨Kp, hk, HJ.out _ _ _ _ hj (ht.more fun i _ h h' => h ((hk i).2 (.inl h'))), hr.keep ht ⟨fun h => h ((hk _).2 (.inr (.inl rfl))), fun h => h ((hk _).2 (.inr (.inr (.inl rfl)))), fun h => h ((hk _).2 (.inr (.inr (.inr (.inl rfl))))), fun h => h ((hk _).2 (.inr (.inr (.inr (.inr rfl)))))⟩⟩
            case hIx =>
              rintro cd pre K Y1 Y2 ⟨rfl, Kp, hk, hj, hm⟩ ht
              exact ⟨rfl, Kp, hk, HJX.out _ _ _ _ hj (ht.more fun i _ h h' => h (hk i h')), hm⟩
            case hM =>
              rintro pre x a K Y1 Y2 ⟨xb, x0, x1, x4, x8, x9, x10, x11, x12, x13, x14, x15, x16, x17, x18, x19, x20, x21, x22, x23, x24, x25, x26, x27, x28, x29, x30, x31, x32, x33, x34, x35, x36, x37, x38, x39, x40, x41, x42, x43, x44, x45, x46, x47, x48, x49, x50, x51, Kp, hk, hj, hr, ⟨hne, c0, c1, c2⟩, he⟩ ht
              have hx := World.block_lt_of_cell? _ _ c0
              have hs := fun o => (ht.cells hx (fun h => h ((hk _).2 (.inr (.inr (.inr (.inr (.inr rfl))))))) o).1
              exact ⟨xb, x0, x1, x4, x8, x9, x10, x11, x12, x13, x14, x15, x16, x17, x18, x19, x20, x21, x22, x23, x24, x25, x26, x27, x28, x29, x30, x31, x32, x33, x34, x35, x36, x37, x38, x39, x40, x41, x42, x43, x44, x45, x46, x47, x48, x49, x50, x51, Kp, hk, HJ.out _ _ _ _ hj (ht.more fun i _ h h' => h ((hk i).2 (.inl h'))), hr.keep ht ⟨fun h => h ((hk _).2 (.inr (.inl rfl))), fun h => h ((hk _).2 (.inr (.inr (.inl rfl)))), fun h => h ((hk _).2 (.inr (.inr (.inr (.inl rfl))))), fun h => h ((hk _).2 (.inr (.inr (.inr (.inr (.inl rfl))))))⟩, ⟨hne, (hs 0).trans c0, (hs 1).trans c1, (hs 2).trans c2⟩, he⟩
            case hlt =>
              rintro pre K Y1 ⟨Kp, hk, hj, hr⟩ i hi
              rcases (hk i).1 hi with h | rfl | rfl | rfl | rfl
              · exact HLT.out _ _ _ hj i h
              · exact World.block_lt_of_cell? _ _ hr.y
              · exact hr.t3.lt
              · exact World.block_lt_of_cell? _ _ hr.c5
              · exact World.block_lt_of_cell? _ _ hr.c6
            case assign =>
              rintro l2 pre ⟨x, y, z⟩ K Y1 R ⟨Kp, hk, hj, hr⟩ hpre hR
              have KK9 := Lib.hid hk
              have JJ9 := Lib.hid hj
              have RR9 := Lib.hid hr
              have HR9 := Lib.hid hR
              clear hk hj hr hpre hR hpin
              dsimp only [encP]
              gi_wp2_with fail
              have hy1 := World.block_lt_of_cell? _ _ RR9.out.y
              have hy2 := RR9.out.t3.lt
              have hy3 := World.block_lt_of_cell? _ _ RR9.out.c5
              have hy4 := World.block_lt_of_cell? _ _ RR9.out.c6
              simp only at hy1 hy3 hy4
              have BN : Bl Y1 (Y1.alloc (.cells #[.int .i64 x, .int .i64 y, .int .i64 z] 90)) := Bl.alloc_ (Bl.refl Y1) _
              refine HR9.out _ (fun i => Kp i ∨ i = W.heap.size ∨ i = b3 ∨ i = b5 ∨ i = b6 ∨ i = Y1.heap.size) _ ⟨Turn.of_bl BN, fun i hi => ?_⟩ ⟨Y1.heap.size, _, _, _, _, _, _, _, _, _, _, _, _, _, _, _, _, _, _, _, _, _, _, _, _, _, _, _, _, _, _, _, _, _, _, _, _, _, _, _, _, _, _, _, _, _, _, _, Kp, fun i => Iff.rfl, HJ.out _ _ _ _ JJ9.out (Turn.of_bl BN), RR9.out.bl BN, ⟨⟨by omega, by omega, by omega, by omega, fun h => by have := HLT.out _ _ _ JJ9.out _ h; omega⟩, by simp [go_sem], by simp [go_sem], by simp [go_sem]⟩, rfl⟩
              rcases hi with h | h | h | h | h | h
              · exact .inl ((KK9.out i).2 (.inl h))
              · exact .inl ((KK9.out i).2 (.inr (.inl h)))
              · exact .inl ((KK9.out i).2 (.inr (.inr (.inl h))))
              · exact .inl ((KK9.out i).2 (.inr (.inr (.inr (.inl h)))))
              · exact .inl ((KK9.out i).2 (.inr (.inr (.inr (.inr h)))))
              · exact .inr (Nat.le_of_eq h.symm)
            case body =>
              rintro l2 pre ⟨x, y, z⟩ a₁ K Y1 ⟨xb, x0, x1, x4, x8, x9, x10, x11, x12, x13, x14, x15, x16, x17, x18, x19, x20, x21, x22, x23, x24, x25, x26, x27, x28, x29, x30, x31, x32, x33, x34, x35, x36, x37, x38, x39, x40, x41, x42, x43, x44, x45, x46, x47, x48, x49, x50, x51, Kp, hk, hj, hr, ⟨⟨n1, n2, n3, n4, n5⟩, c0, c1, c2⟩, rfl⟩ ⟨Z, hZ⟩
              have hp := passK_ids (rowAt E s) (rowAt F t) q (x, y, z) (by rw [hZ]; simp)
              obtain ⟨⟨p0, p1⟩, p2, p3, p4, p5⟩ := hp
              simp only at p0 p1 p2 p3 p4 p5 c0 c1 c2
              have hyb : y ≤ 23000 := by rw [p2]; exact HDB.out.1 x p0 p1
              have hzb : z ≤ 23000 := by rw [p3]; exact HDB.out.2 x p0 p1
              have a1 : IntKind.i64.wrap (y + z) = y + z := IntWalk.i64_in _ (by omega)
              have hx := World.block_lt_of_cell? _ _ c0
              simp only at hx
              have hst : s * 24 + t < E.length := by rw [hE.out.1]; omega
              have q3 := hr.t3.cell (s * 24 + t) hst
              rw [← getD_at hst, HEM.out] at q3
              have HSH3 := Lib.hid (show ∀ (S : Nat → Prop) wx, Turn S Y1 wx → (∀ i, S i → Kp i) → wx.cell? ⟨xb, 0, none⟩ = some (.int .i64 x) ∧ wx.cell? ⟨xb, 1, none⟩ = some (.int .i64 y) ∧ wx.cell? ⟨xb, 2, none⟩ = some (.int .i64 z) ∧ wx.cell? ⟨b5, 0, none⟩ = some (.int .i64 (s : Int)) ∧ wx.cell? ⟨b6, 0, none⟩ = some (.int .i64 (t : Int)) ∧ wx.cell? ⟨b3, s * 24 + t, none⟩ = some (.int .i64 m) ∧ wx.cell? ⟨W.heap.size, 0, none⟩ = some (.func (.yield l) #[] #[]) from fun S wx ht hS => by
                have hs := fun o => (ht.cells hx (fun h => n5 (hS _ h)) o).1
                have h2 := hr.keep ht ⟨fun h => hr.no.1 (hS _ h), fun h => hr.no.2.1 (hS _ h), fun h => hr.no.2.2.1 (hS _ h), fun h => hr.no.2.2.2 (hS _ h)⟩
                exact ⟨(hs 0).trans c0, (hs 1).trans c1, (hs 2).trans c2, h2.c5, h2.c6, ((ht.cells hr.t3.lt (fun h => hr.no.2.1 (hS _ h)) _).1).trans q3, h2.y⟩)
              have KK9 := Lib.hid hk
              have RR9 := Lib.hid hr
              have JJ9 := Lib.hid hj
              have SEL2 := Lib.hid (show ∀ (h : y + z = m), NextSP q L (allS q L s ++ rowS q L (s : Int) t ++ selE m pre) (x, y, z) from fun h => by
                have h1 : selST q L (s : Int) (t : Int) = selE m pre ++ ((x, y, z) :: selE m Z) := by
                  rw [SEL.out, hZ, selE_append]
                  congr 1
                  unfold selE
                  rw [List.filter_cons, if_pos (by simpa using h)]
                obtain ⟨Z', hZ'⟩ := allS_part (N := (q : Int)) (s := s) (t := t) (by simpa using hlt1) (by simpa using hlt2) h1
                exact ⟨selE m Z ++ Z', by rw [hZ']; simp⟩)
              clear hk hj hr p2 p3 hZ q3 hpin hst
              have hyl : (0 : Int) ≤ (t : Int) := by omega
              by_cases hyz : y + z = m
              · have b1 : (y + z == m) = true := by simpa using hyz
                have HYZ := Lib.hid hyz
                obtain ⟨fn, tmps, assign, body, hy, hR⟩ := HY.out _ (x, y, z) Kp _ (HJ.out _ _ _ _ JJ9.out (Turn.of_bl (Bl.drew_ (Bl.refl Y1)))) (SEL2.out hyz)
                dsimp only [encP] at hy
                clear hyz SEL2 c0 c1 c2
                gi_wp2_with fail
                refine wpIn_region_heldF (S := fun wx => wx.cell? ⟨xb, 0, none⟩ = some (.int .i64 x) ∧ wx.cell? ⟨xb, 1, none⟩ = some (.int .i64 y) ∧ wx.cell? ⟨xb, 2, none⟩ = some (.int .i64 z) ∧ wx.cell? ⟨b5, 0, none⟩ = some (.int .i64 (s : Int)) ∧ wx.cell? ⟨b6, 0, none⟩ = some (.int .i64 (t : Int)) ∧ wx.cell? ⟨b3, s * 24 + t, none⟩ = some (.int .i64 m) ∧ wx.cell? ⟨W.heap.size, 0, none⟩ = some (.func (.yield l) #[] #[])) (by kernel_rfl) ?_ (fun hHeld => ?_)
                · (first | exact HSH3.out Kp _ ((Turn.of_bl ((Bl.refl _).drew_)).trans ST4.1 (fun i _ h => h)) (fun _ h => h) | exact HSH3.out Kp _ (Turn.of_bl (by repeat' (first | exact Bl.refl _ | with_reducible assumption | with_reducible refine Bl.drew_ ?_ | with_reducible refine Bl.drewN_ ?_ _ | with_reducible refine Bl.alloc_ ?_ _ | with_reducible refine Bl.trans_ ?_ (by assumption) | with_reducible refine Bl.trans_ ?_ (And.left (by assumption))))) (fun _ h => h))
                refine wpAnyHF_take (i := 0) (v := ?_) (by kernel_rfl) rfl (by kernel_rfl) (by kernel_rfl) (by kernel_rfl) (fun _ _ _ h => h) (Or.inl ⟨by kernel_rfl, ?_⟩) (fun _ => rfl) (by assumption) ?_
                rotate_left
                · (intro wx hSw; (try dsimp only at hSw); go_simp; try (with_reducible rfl))
                try simp only [Act.put, List.getElem_toArray, List.getElem_cons_succ, List.getElem_cons_zero, List.setIfInBounds_toArray, List.set_cons_zero, List.set_cons_succ]
                refine wpAnyHF_take (i := 1) (v := ?_) (by kernel_rfl) rfl (by kernel_rfl) (by kernel_rfl) (by kernel_rfl) (fun _ _ _ h => h) (Or.inl ⟨by kernel_rfl, ?_⟩) (fun _ => rfl) (by assumption) ?_
                rotate_left
                · (intro wx hSw; (try dsimp only at hSw); go_simp; try (with_reducible rfl))
                try simp only [Act.put, List.getElem_toArray, List.getElem_cons_succ, List.getElem_cons_zero, List.setIfInBounds_toArray, List.set_cons_zero, List.set_cons_succ]
                refine wpAnyHF_take (i := 2) (v := ?_) (by kernel_rfl) rfl (by kernel_rfl) (by kernel_rfl) (by kernel_rfl) (fun _ _ _ h => h) (Or.inl ⟨by kernel_rfl, ?_⟩) (fun _ => rfl) (by assumption) ?_
                rotate_left
                · (intro wx hSw; (try dsimp only at hSw); go_simp; try (with_reducible rfl))
                try simp only [Act.put, List.getElem_toArray, List.getElem_cons_succ, List.getElem_cons_zero, List.setIfInBounds_toArray, List.set_cons_zero, List.set_cons_succ]
                refine wpAnyHF_take (i := 3) (v := ?_) (by kernel_rfl) rfl (by kernel_rfl) (by kernel_rfl) (by kernel_rfl) (fun _ _ _ h => h) (Or.inl ⟨by kernel_rfl, ?_⟩) (fun _ => rfl) (by assumption) ?_
                rotate_left
                · (intro wx hSw; (try dsimp only at hSw); go_simp; try (with_reducible rfl))
                try simp only [Act.put, List.getElem_toArray, List.getElem_cons_succ, List.getElem_cons_zero, List.setIfInBounds_toArray, List.set_cons_zero, List.set_cons_succ]
                refine wpAnyHF_take (i := 4) (v := ?_) (by kernel_rfl) rfl (by kernel_rfl) (by kernel_rfl) (by kernel_rfl) (fun _ _ _ h => h) (Or.inl ⟨by kernel_rfl, ?_⟩) (fun _ => rfl) (by assumption) ?_
                rotate_left
                · (intro wx hSw; (try dsimp only at hSw); go_simp; try (with_reducible rfl))
                try simp only [Act.put, List.getElem_toArray, List.getElem_cons_succ, List.getElem_cons_zero, List.setIfInBounds_toArray, List.set_cons_zero, List.set_cons_succ]
                refine wpAnyHF_take (i := 5) (v := ?_) (by kernel_rfl) rfl (by kernel_rfl) (by kernel_rfl) (by kernel_rfl) (fun _ _ _ h => h) (Or.inl ⟨by kernel_rfl, ?_⟩) (fun _ => rfl) (by assumption) ?_
                rotate_left
                · (intro wx hSw; (try dsimp only at hSw); go_simp; try (with_reducible rfl))
                try simp only [Act.put, List.getElem_toArray, List.getElem_cons_succ, List.getElem_cons_zero, List.setIfInBounds_toArray, List.set_cons_zero, List.set_cons_succ]
                refine wpAnyHF_take (i := 6) (v := ?_) (by kernel_rfl) rfl (by kernel_rfl) (by kernel_rfl) (by kernel_rfl) (fun _ _ _ h => h) (Or.inl ⟨by kernel_rfl, ?_⟩) (fun _ => rfl) (by assumption) ?_
                rotate_left
                · (intro wx hSw; (try dsimp only at hSw); go_simp; try (with_reducible rfl))
                try simp only [Act.put, List.getElem_toArray, List.getElem_cons_succ, List.getElem_cons_zero, List.setIfInBounds_toArray, List.set_cons_zero, List.set_cons_succ]
                refine wpAnyHF_take (i := 7) (v := ?_) (by kernel_rfl) rfl (by kernel_rfl) (by kernel_rfl) (by kernel_rfl) (fun _ _ _ h => h) (Or.inl ⟨by kernel_rfl, ?_⟩) (fun _ => rfl) (by assumption) ?_
                rotate_left
                · (intro wx hSw; (try dsimp only at hSw); go_simp; try (with_reducible rfl))
                try simp only [Act.put, List.getElem_toArray, List.getElem_cons_succ, List.getElem_cons_zero, List.setIfInBounds_toArray, List.set_cons_zero, List.set_cons_succ]
                refine wpAnyHF_take (i := 8) (v := ?_) (by kernel_rfl) rfl (by kernel_rfl) (by kernel_rfl) (by kernel_rfl) (fun _ _ _ h => h) (Or.inl ⟨by kernel_rfl, ?_⟩) (fun _ => rfl) (by assumption) ?_
                rotate_left
                · (intro wx hSw; (try dsimp only at hSw); go_simp; try (with_reducible rfl))
                try simp only [Act.put, List.getElem_toArray, List.getElem_cons_succ, List.getElem_cons_zero, List.setIfInBounds_toArray, List.set_cons_zero, List.set_cons_succ]
                refine wpAnyHF_take (i := 9) (v := ?_) (by kernel_rfl) rfl (by kernel_rfl) (by kernel_rfl) (by kernel_rfl) (fun _ _ _ h => h) (Or.inl ⟨by kernel_rfl, ?_⟩) (fun _ => rfl) (by assumption) ?_
                rotate_left
                · (intro wx hSw; (try dsimp only at hSw); go_simp; try (with_reducible rfl))
                try simp only [Act.put, List.getElem_toArray, List.getElem_cons_succ, List.getElem_cons_zero, List.setIfInBounds_toArray, List.set_cons_zero, List.set_cons_succ]
                refine wpAnyHF_take (i := 10) (v := ?_) (by kernel_rfl) rfl (by kernel_rfl) (by kernel_rfl) (by kernel_rfl) (fun _ _ _ h => h) (Or.inl ⟨by kernel_rfl, ?_⟩) (fun _ => rfl) (by assumption) ?_
                rotate_left
                · (intro wx hSw; (try dsimp only at hSw); go_simp; try (with_reducible rfl))
                try simp only [Act.put, List.getElem_toArray, List.getElem_cons_succ, List.getElem_cons_zero, List.setIfInBounds_toArray, List.set_cons_zero, List.set_cons_succ]
                refine wpAnyHF_take (i := 11) (v := ?_) (by kernel_rfl) rfl (by kernel_rfl) (by kernel_rfl) (by kernel_rfl) (fun _ _ _ h => h) (Or.inl ⟨by kernel_rfl, ?_⟩) (fun _ => rfl) (by assumption) ?_
                rotate_left
                · (intro wx hSw; (try dsimp only at hSw); go_simp; try (with_reducible rfl))
                try simp only [Act.put, List.getElem_toArray, List.getElem_cons_succ, List.getElem_cons_zero, List.setIfInBounds_toArray, List.set_cons_zero, List.set_cons_succ]
                refine wpAnyHF_take (i := 12) (v := ?_) (by kernel_rfl) rfl (by kernel_rfl) (by kernel_rfl) (by kernel_rfl) (fun _ _ _ h => h) (Or.inl ⟨by kernel_rfl, ?_⟩) (fun _ => rfl) (by assumption) ?_
                rotate_left
                · (intro wx hSw; (try dsimp only at hSw); go_simp; try (with_reducible rfl))
                try simp only [Act.put, List.getElem_toArray, List.getElem_cons_succ, List.getElem_cons_zero, List.setIfInBounds_toArray, List.set_cons_zero, List.set_cons_succ]
                refine wpAnyHF_take (i := 13) (v := ?_) (by kernel_rfl) rfl (by kernel_rfl) (by kernel_rfl) (by kernel_rfl) (fun _ _ _ h => h) (Or.inl ⟨by kernel_rfl, ?_⟩) (fun _ => rfl) (by assumption) ?_
                rotate_left
                · (intro wx hSw; (try dsimp only at hSw); go_simp; try (with_reducible rfl))
                try simp only [Act.put, List.getElem_toArray, List.getElem_cons_succ, List.getElem_cons_zero, List.setIfInBounds_toArray, List.set_cons_zero, List.set_cons_succ]
                refine wpAnyHF_ready (rs := [14]) (by kernel_rfl) (by simp) ?_
                refine AllReadyHF.cons rfl (fun K hK => ?_) AllReadyHF.nil
                go_simp
                (gi_wp2; refine ⟨by first | rfl | (intro h; simp [Fence.wide] at h), hR.mono ?_⟩; rintro e4 W4 ⟨K', ST4, hcs⟩; obtain ⟨bb, rfl, hTT, hFF⟩ := split_yield hcs; have TT := Lib.hid hTT; have FF := Lib.hid hFF; clear hcs hTT hFF hR hy)
                try (gi_wp2_with fail)
                refine hK.out _ _ ?_ (fun hHeld => ?_)
                · (first | exact HSH3.out Kp _ ((Turn.of_bl ((Bl.refl _).drew_)).trans ST4.1 (fun i _ h => h)) (fun _ h => h) | exact HSH3.out Kp _ (Turn.of_bl (by repeat' (first | exact Bl.refl _ | with_reducible assumption | with_reducible refine Bl.drew_ ?_ | with_reducible refine Bl.drewN_ ?_ _ | with_reducible refine Bl.alloc_ ?_ _ | with_reducible refine Bl.trans_ ?_ (by assumption) | with_reducible refine Bl.trans_ ?_ (And.left (by assumption))))) (fun _ h => h))
                clear hK K
                try simp only [Act.put, List.getElem_toArray, List.getElem_cons_succ, List.getElem_cons_zero, List.setIfInBounds_toArray, List.set_cons_zero, List.set_cons_succ]
                refine wpAnyHF_take (i := 15) (v := ?_) (by kernel_rfl) rfl (by kernel_rfl) (by kernel_rfl) (by kernel_rfl) (fun _ _ _ h => h) (Or.inl ⟨by kernel_rfl, ?_⟩) (fun _ => rfl) (by assumption) ?_
                rotate_left
                · (intro wx hSw; (try dsimp only at hSw); go_simp; try (with_reducible rfl))
                try simp only [Act.put, List.getElem_toArray, List.getElem_cons_succ, List.getElem_cons_zero, List.setIfInBounds_toArray, List.set_cons_zero, List.set_cons_succ]
                refine wpAnyHF_take (i := 16) (v := ?_) (by kernel_rfl) rfl (by kernel_rfl) (by kernel_rfl) (by kernel_rfl) (fun _ _ _ h => h) (Or.inl ⟨by kernel_rfl, ?_⟩) (fun _ => rfl) (by assumption) ?_
                rotate_left
                · (intro wx hSw; (try dsimp only at hSw); go_simp; try (with_reducible rfl))
                try simp only [Act.put, List.getElem_toArray, List.getElem_cons_succ, List.getElem_cons_zero, List.setIfInBounds_toArray, List.set_cons_zero, List.set_cons_succ]
                refine wpAnyHF_done (by kernel_rfl) ?_ _
                have TURN := Lib.hid (show Turn K Y1 W4 from (Turn.of_bl ((Bl.refl Y1).drew_)).trans ST4.1 (fun i _ h => (KK9.out i).2 (.inl h)))
                have RR5 := Lib.hid ((RR9.out.bl ((Bl.refl Y1).drew_)).step ST4)
                have MON := Lib.hid (show ∀ i, K' i → K i ∨ Y1.heap.size ≤ i from fun i hi => (ST4.2 i hi).imp (fun h => (KK9.out i).2 (.inl h)) (fun h => by simpa using h))
                clear ST4 hHeld
                cases bb with
                | true =>
                  have J5 := Lib.hid (TT.out rfl)
                  clear TT FF
                  gi_wp2_with fail
                  refine ⟨fun i => K' i ∨ i = W.heap.size ∨ i = b3 ∨ i = b5 ∨ i = b6, ⟨TURN.out, fun i hi => ?_⟩, K', fun i => Iff.rfl, ?_, RR5.out⟩
                  · rcases hi with h | h
                    · exact MON.out i h
                    · exact .inl ((KK9.out i).2 (.inr (by rcases h with h | h | h | h <;> simp [h])))
                  · rw [selE_yes (x := (x, y, z)) HYZ.out, ← List.append_assoc]
                    exact J5.out
                | false =>
                  have J5 := Lib.hid (FF.out rfl)
                  clear TT FF
                  gi_wp2_with fail
                  refine ⟨K', ⟨TURN.out, MON.out⟩, rfl, K', fun i h => h, ?_, RR5.out.mon⟩
                  rw [selE_yes (x := (x, y, z)) HYZ.out, ← List.append_assoc]
                  exact J5.out
              · have b1 : (y + z == m) = false := by simpa using hyz
                have HYZ := Lib.hid hyz
                clear hyz SEL2 c0 c1 c2
                gi_wp2_with fail
                refine wpIn_region_heldF (S := fun wx => wx.cell? ⟨xb, 0, none⟩ = some (.int .i64 x) ∧ wx.cell? ⟨xb, 1, none⟩ = some (.int .i64 y) ∧ wx.cell? ⟨xb, 2, none⟩ = some (.int .i64 z) ∧ wx.cell? ⟨b5, 0, none⟩ = some (.int .i64 (s : Int)) ∧ wx.cell? ⟨b6, 0, none⟩ = some (.int .i64 (t : Int)) ∧ wx.cell? ⟨b3, s * 24 + t, none⟩ = some (.int .i64 m) ∧ wx.cell? ⟨W.heap.size, 0, none⟩ = some (.func (.yield l) #[] #[])) (by kernel_rfl) ?_ (fun hHeld => ?_)
                · (exact HSH3.out Kp _ (Turn.of_bl (by repeat' (first | exact Bl.refl _ | with_reducible assumption | with_reducible refine Bl.drew_ ?_ | with_reducible refine Bl.drewN_ ?_ _ | with_reducible refine Bl.alloc_ ?_ _ | with_reducible refine Bl.trans_ ?_ (by assumption) | with_reducible refine Bl.trans_ ?_ (And.left (by assumption))))) (fun _ h => h))
                refine wpAnyHF_take (i := 0) (v := ?_) (by kernel_rfl) rfl (by kernel_rfl) (by kernel_rfl) (by kernel_rfl) (fun _ _ _ h => h) (Or.inl ⟨by kernel_rfl, ?_⟩) (fun _ => rfl) (by assumption) ?_
                rotate_left
                · (intro wx hSw; (try dsimp only at hSw); go_simp; try (with_reducible rfl))
                try simp only [Act.put, List.getElem_toArray, List.getElem_cons_succ, List.getElem_cons_zero, List.setIfInBounds_toArray, List.set_cons_zero, List.set_cons_succ]
                refine wpAnyHF_take (i := 1) (v := ?_) (by kernel_rfl) rfl (by kernel_rfl) (by kernel_rfl) (by kernel_rfl) (fun _ _ _ h => h) (Or.inl ⟨by kernel_rfl, ?_⟩) (fun _ => rfl) (by assumption) ?_
                rotate_left
                · (intro wx hSw; (try dsimp only at hSw); go_simp; try (with_reducible rfl))
                try simp only [Act.put, List.getElem_toArray, List.getElem_cons_succ, List.getElem_cons_zero, List.setIfInBounds_toArray, List.set_cons_zero, List.set_cons_succ]
                refine wpAnyHF_take (i := 2) (v := ?_) (by kernel_rfl) rfl (by kernel_rfl) (by kernel_rfl) (by kernel_rfl) (fun _ _ _ h => h) (Or.inl ⟨by kernel_rfl, ?_⟩) (fun _ => rfl) (by assumption) ?_
                rotate_left
                · (intro wx hSw; (try dsimp only at hSw); go_simp; try (with_reducible rfl))
                try simp only [Act.put, List.getElem_toArray, List.getElem_cons_succ, List.getElem_cons_zero, List.setIfInBounds_toArray, List.set_cons_zero, List.set_cons_succ]
                refine wpAnyHF_take (i := 3) (v := ?_) (by kernel_rfl) rfl (by kernel_rfl) (by kernel_rfl) (by kernel_rfl) (fun _ _ _ h => h) (Or.inl ⟨by kernel_rfl, ?_⟩) (fun _ => rfl) (by assumption) ?_
                rotate_left
                · (intro wx hSw; (try dsimp only at hSw); go_simp; try (with_reducible rfl))
                try simp only [Act.put, List.getElem_toArray, List.getElem_cons_succ, List.getElem_cons_zero, List.setIfInBounds_toArray, List.set_cons_zero, List.set_cons_succ]
                refine wpAnyHF_take (i := 4) (v := ?_) (by kernel_rfl) rfl (by kernel_rfl) (by kernel_rfl) (by kernel_rfl) (fun _ _ _ h => h) (Or.inl ⟨by kernel_rfl, ?_⟩) (fun _ => rfl) (by assumption) ?_
                rotate_left
                · (intro wx hSw; (try dsimp only at hSw); go_simp; try (with_reducible rfl))
                try simp only [Act.put, List.getElem_toArray, List.getElem_cons_succ, List.getElem_cons_zero, List.setIfInBounds_toArray, List.set_cons_zero, List.set_cons_succ]
                refine wpAnyHF_take (i := 5) (v := ?_) (by kernel_rfl) rfl (by kernel_rfl) (by kernel_rfl) (by kernel_rfl) (fun _ _ _ h => h) (Or.inl ⟨by kernel_rfl, ?_⟩) (fun _ => rfl) (by assumption) ?_
                rotate_left
                · (intro wx hSw; (try dsimp only at hSw); go_simp; try (with_reducible rfl))
                try simp only [Act.put, List.getElem_toArray, List.getElem_cons_succ, List.getElem_cons_zero, List.setIfInBounds_toArray, List.set_cons_zero, List.set_cons_succ]
                refine wpAnyHF_take (i := 6) (v := ?_) (by kernel_rfl) rfl (by kernel_rfl) (by kernel_rfl) (by kernel_rfl) (fun _ _ _ h => h) (Or.inl ⟨by kernel_rfl, ?_⟩) (fun _ => rfl) (by assumption) ?_
                rotate_left
                · (intro wx hSw; (try dsimp only at hSw); go_simp; try (with_reducible rfl))
                try simp only [Act.put, List.getElem_toArray, List.getElem_cons_succ, List.getElem_cons_zero, List.setIfInBounds_toArray, List.set_cons_zero, List.set_cons_succ]
                refine wpAnyHF_take (i := 7) (v := ?_) (by kernel_rfl) rfl (by kernel_rfl) (by kernel_rfl) (by kernel_rfl) (fun _ _ _ h => h) (Or.inl ⟨by kernel_rfl, ?_⟩) (fun _ => rfl) (by assumption) ?_
                rotate_left
                · (intro wx hSw; (try dsimp only at hSw); go_simp; try (with_reducible rfl))
                try simp only [Act.put, List.getElem_toArray, List.getElem_cons_succ, List.getElem_cons_zero, List.setIfInBounds_toArray, List.set_cons_zero, List.set_cons_succ]
                refine wpAnyHF_take (i := 8) (v := ?_) (by kernel_rfl) rfl (by kernel_rfl) (by kernel_rfl) (by kernel_rfl) (fun _ _ _ h => h) (Or.inl ⟨by kernel_rfl, ?_⟩) (fun _ => rfl) (by assumption) ?_
                rotate_left
                · (intro wx hSw; (try dsimp only at hSw); go_simp; try (with_reducible rfl))
                try simp only [Act.put, List.getElem_toArray, List.getElem_cons_succ, List.getElem_cons_zero, List.setIfInBounds_toArray, List.set_cons_zero, List.set_cons_succ]
                refine wpAnyHF_take (i := 9) (v := ?_) (by kernel_rfl) rfl (by kernel_rfl) (by kernel_rfl) (by kernel_rfl) (fun _ _ _ h => h) (Or.inl ⟨by kernel_rfl, ?_⟩) (fun _ => rfl) (by assumption) ?_
                rotate_left
                · (intro wx hSw; (try dsimp only at hSw); go_simp; try (with_reducible rfl))
                try simp only [Act.put, List.getElem_toArray, List.getElem_cons_succ, List.getElem_cons_zero, List.setIfInBounds_toArray, List.set_cons_zero, List.set_cons_succ]
                refine wpAnyHF_take (i := 10) (v := ?_) (by kernel_rfl) rfl (by kernel_rfl) (by kernel_rfl) (by kernel_rfl) (fun _ _ _ h => h) (Or.inl ⟨by kernel_rfl, ?_⟩) (fun _ => rfl) (by assumption) ?_
                rotate_left
                · (intro wx hSw; (try dsimp only at hSw); go_simp; try (with_reducible rfl))
                try simp only [Act.put, List.getElem_toArray, List.getElem_cons_succ, List.getElem_cons_zero, List.setIfInBounds_toArray, List.set_cons_zero, List.set_cons_succ]
                refine wpAnyHF_take (i := 11) (v := ?_) (by kernel_rfl) rfl (by kernel_rfl) (by kernel_rfl) (by kernel_rfl) (fun _ _ _ h => h) (Or.inl ⟨by kernel_rfl, ?_⟩) (fun _ => rfl) (by assumption) ?_
                rotate_left
                · (intro wx hSw; (try dsimp only at hSw); go_simp; try (with_reducible rfl))
                try simp only [Act.put, List.getElem_toArray, List.getElem_cons_succ, List.getElem_cons_zero, List.setIfInBounds_toArray, List.set_cons_zero, List.set_cons_succ]
                refine wpAnyHF_take (i := 12) (v := undef) (by kernel_rfl) rfl (by kernel_rfl) (by kernel_rfl) (by kernel_rfl) (fun _ _ _ h => h) (Or.inr ⟨by kernel_rfl, rfl⟩) (fun _ => rfl) (by assumption) ?_
                try simp only [Act.put, List.getElem_toArray, List.getElem_cons_succ, List.getElem_cons_zero, List.setIfInBounds_toArray, List.set_cons_zero, List.set_cons_succ]
                refine wpAnyHF_take (i := 13) (v := undef) (by kernel_rfl) rfl (by kernel_rfl) (by kernel_rfl) (by kernel_rfl) (fun _ _ _ h => h) (Or.inr ⟨by kernel_rfl, rfl⟩) (fun _ => rfl) (by assumption) ?_
                try simp only [Act.put, List.getElem_toArray, List.getElem_cons_succ, List.getElem_cons_zero, List.setIfInBounds_toArray, List.set_cons_zero, List.set_cons_succ]
                refine wpAnyHF_ready (rs := [14]) (by kernel_rfl) (by simp) ?_
                refine AllReadyHF.cons rfl (fun K hK => ?_) AllReadyHF.nil
                go_simp
                first | refine ⟨fun _ _ => trivial, ?_⟩ | skip
                refine hK.out _ _ ?_ (fun hHeld => ?_)
                · (exact HSH3.out Kp _ (Turn.of_bl (by repeat' (first | exact Bl.refl _ | with_reducible assumption | with_reducible refine Bl.drew_ ?_ | with_reducible refine Bl.drewN_ ?_ _ | with_reducible refine Bl.alloc_ ?_ _ | with_reducible refine Bl.trans_ ?_ (by assumption) | with_reducible refine Bl.trans_ ?_ (And.left (by assumption))))) (fun _ h => h))
                clear hK K
                try simp only [Act.put, List.getElem_toArray, List.getElem_cons_succ, List.getElem_cons_zero, List.setIfInBounds_toArray, List.set_cons_zero, List.set_cons_succ]
                refine wpAnyHF_take (i := 15) (v := undef) (by kernel_rfl) rfl (by kernel_rfl) (by kernel_rfl) (by kernel_rfl) (fun _ _ _ h => h) (Or.inr ⟨by kernel_rfl, rfl⟩) (fun _ => rfl) (by assumption) ?_
                try simp only [Act.put, List.getElem_toArray, List.getElem_cons_succ, List.getElem_cons_zero, List.setIfInBounds_toArray, List.set_cons_zero, List.set_cons_succ]
                refine wpAnyHF_take (i := 16) (v := ?_) (by kernel_rfl) rfl (by kernel_rfl) (by kernel_rfl) (by kernel_rfl) (fun _ _ _ h => h) (Or.inl ⟨by kernel_rfl, ?_⟩) (fun _ => rfl) (by assumption) ?_
                rotate_left
                · (intro wx hSw; (try dsimp only at hSw); go_simp; try (with_reducible rfl))
                try simp only [Act.put, List.getElem_toArray, List.getElem_cons_succ, List.getElem_cons_zero, List.setIfInBounds_toArray, List.set_cons_zero, List.set_cons_succ]
                refine wpAnyHF_done (by kernel_rfl) ?_ _
                gi_wp2_with fail
                have BD : Bl Y1 Y1.drew := (Bl.refl Y1).drew_
                refine ⟨fun i => Kp i ∨ i = W.heap.size ∨ i = b3 ∨ i = b5 ∨ i = b6, ⟨Turn.of_bl BD, fun i hi => .inl ((KK9.out i).2 ?_)⟩, Kp, fun i => Iff.rfl, ?_, RR9.out.bl BD⟩
                · rcases hi with h | h
                  · exact .inl h
                  · exact .inr (by rcases h with h | h | h | h <;> simp [h])
                · rw [selE_no (x := (x, y, z)) HYZ.out]
                  exact HJ.out _ _ _ _ JJ9.out (Turn.of_bl BD)
            case done =>
              rintro D xs K Y2 hD hall ⟨Kp, hk, hj, hr⟩ hT hKD hdef
              have HT := Lib.hid hT
              have HD := Lib.hid hdef
              have HDL := Lib.hid hD
              have JJ9 := Lib.hid hj
              have RR9 := Lib.hid hr
              have HKD := Lib.hid (show ¬ Kp D from fun h => hKD ((hk D).2 (.inl h)))
              have HAL := Lib.hid (show selE m xs = selST q L (s : Int) (t : Int) from by rw [SEL.out]; congr 1)
              clear hT hdef hj hr hk hall hKD hpin hD
              gi_wp2_with fail
              gi_roundg (q - (t + 1))
              case rel =>
                have hko := fun D (hD : D ∈ Dt) => (ML.out D hD).2
                have hin := RQ6.out
                have hlD := HDL.out
                have h34 := HB34.out
                refine ⟨t + 1, D :: Dt, Kp, ⟨by omega, rfl, by go_num⟩, ⟨?_, ?_⟩, ?_, Lib.hid ?_, Lib.hid ⟨RR9.out.c5, RR9.out.no.2.2.1⟩⟩
                · refine (MK6.out.turn HT.out (fun E hE h => ?_)).cons HD.out (fun h => by have := MK6.out.lt D h; omega)
                  rcases h with h | h | h | h | h
                  · exact hko E hE h
                  · exact mark_ne MK6.out hE hin.y h
                  · exact mark_ne MK6.out hE (hin.t3.cell 0 (by rw [HTE.out.1]; omega)) h
                  · exact mark_ne MK6.out hE hin.c5 h
                  · exact mark_ne MK6.out hE hin.c6 h
                · intro E hE
                  rcases List.mem_cons.1 hE with rfl | hE
                  · exact ⟨by have := World.block_lt_of_cell? _ _ hin.y; simp only at this; omega, HKD.out⟩
                  · refine ⟨(ML.out E hE).1, fun h => ?_⟩
                    rcases RR9.out.mon E h with h | h
                    · exact hko E hE h
                    · have := MK6.out.lt E hE; omega
                · rw [rowS_succ, ← HAL.out, ← List.append_assoc]
                  exact JJ9.out
                · refine SQ6.out.after HT.out (fun h => ?_) (fun i h hs => ?_) (fun i h => ?_) RR9.out.y RR9.out.t3 (fun i hi => RR9.out.mon i hi)
                  · rcases h with h | h | h | h | h
                    · exact SQ6.out.no.2.2 h
                    · omega
                    · omega
                    · have := LOW1.out; omega
                    · have := LOW1.out; have := B56.out; omega
                  · have hsl := sBlocks_lt HI.out hs
                    have h5 := LOW1.out
                    have h56 := B56.out
                    rcases h with h | h | h | h | h
                    · exact SQ6.out.nb i h hs
                    · omega
                    · omega
                    · omega
                    · omega
                  · have h5 := LOW1.out
                    have h56 := B56.out
                    rcases h with h | h | h | h | h
                    · exact SQ6.out.step.2 i h
                    · exact .inr (by omega)
                    · exact .inr (by omega)
                    · exact .inr (by omega)
                    · exact .inr (by omega)
              case measure => omega
            case stop =>
              rintro D cd pre K Y2 hD ⟨Z, hZ⟩ ⟨rfl, Kp, hkp, hjx, hmon⟩ hT hKD hdef
              have HT := Lib.hid hT
              have HD := Lib.hid hdef
              have JX9 := Lib.hid hjx
              have HKD := Lib.hid (show ¬ Kp D from fun h => hKD (hkp D h))
              have PART := Lib.hid (show PartSP q L (allS q L s ++ rowS q L (s : Int) t ++ selE m pre) from by
                have h1 : selST q L (s : Int) (t : Int) = selE m pre ++ selE m Z := by rw [SEL.out, hZ, selE_append]
                obtain ⟨Z', hZ'⟩ := allS_part (N := (q : Int)) (s := s) (t := t) (by simpa using hlt1) (by simpa using hlt2) h1
                exact ⟨selE m Z ++ Z', hZ'⟩)
              have hko := fun D (hD : D ∈ Dt) => (ML.out D hD).2
              have hin := RQ6.out
              have hMK := (MK6.out.turn HT.out (fun E hE h => by
                  rcases h with h | h | h | h | h
                  · exact hko E hE h
                  · exact mark_ne MK6.out hE hin.y h
                  · exact mark_ne MK6.out hE (hin.t3.cell 0 (by rw [HTE.out.1]; omega)) h
                  · exact mark_ne MK6.out hE hin.c5 h
                  · exact mark_ne MK6.out hE hin.c6 h)).cons HD.out (fun h => by have := MK6.out.lt D h; omega)
              have MKX := Lib.hid hMK
              have hyl := World.block_lt_of_cell? _ _ hin.y
              simp only at hyl
              have MLX := Lib.hid (show ∀ E ∈ D :: Dt, W.heap.size < E ∧ ¬ Kp E from fun E hE => by
                rcases List.mem_cons.1 hE with rfl | hE
                · exact ⟨by omega, HKD.out⟩
                · refine ⟨(ML.out E hE).1, fun h => ?_⟩
                  rcases hmon E h with h | h
                  · exact hko E hE h
                  · have := MK6.out.lt E hE; omega)
              have STEP := Lib.hid (show Step K0 Kp W Y2 from by
                have h5 := LOW1.out
                have h56 := B56.out
                have h34 := HB34.out
                refine ⟨SQ6.out.step.1.trans HT.out (fun i hi h => ?_), fun i hi => ?_⟩
                · rcases h with h | h | h | h | h
                  · exact (SQ6.out.step.2 i h).resolve_right (by omega)
                  · omega
                  · omega
                  · omega
                  · omega
                · rcases hmon i hi with h | h
                  · exact SQ6.out.step.2 i h
                  · exact .inr (by omega))
              clear hT hdef hjx hkp hmon hKD hD hpin hMK hZ hin hko
              gi_wp2_with fail
              refine leaves_marks (D :: Dt) _ _ MKX.out fun w' t' => ?_
              refine ⟨_, by simp [results, Try.results105, go_sem]; rfl, ?_⟩
              exact ⟨⟨_, rfl⟩, Kp, ⟨STEP.out.1.trans t' (fun i hi h => absurd (MLX.out i h).1 (by omega)), STEP.out.2⟩, .inr ⟨_, PART.out, HJX.out _ _ _ _ JX9.out (t'.more fun i _ h => (MLX.out i h).2)⟩⟩
          · obtain rfl : t = q := by omega
            have gq := SQ3.out.inn.size
            gi_wp2_with fail
            gi_roundg (t - (s + 1))
            case rel => exact ⟨s + 1, Dt, Ko, ⟨by omega, rfl, by go_num⟩, ⟨MK.out, ML.out⟩, by rw [allS_succ]; simpa using J3.out, SQ3⟩
            case measure => omega
      · obtain rfl : s = q := by omega
        gi_wp2_with fail
        refine leaves_marks Ds _ _ MK.out fun w' t' => ?_
        refine ⟨_, by simp [results, Try.results105, go_sem]; rfl, ?_⟩
        exact ⟨⟨_, rfl⟩, Ko, ⟨SQ1.out.step.1.trans t' (fun i hi h => absurd (ML.out i h).1 (by omega)), SQ1.out.step.2⟩, .inl ⟨_, by unfold AllSP; simp, HJ.out _ _ _ _ J1.out (t'.more fun i _ h => (ML.out i h).2)⟩⟩


/-- The function that shortestPassings hands back keeps the contract of an iterator. -/
theorem short_stops (q : Nat) (A : Option Addr) (n c gb : Nat) (L : List Arc3) (hn : n = L.length) (hc : n ≤ c) (hm : n ≤ 1048576) (ho : okB q L = true) (w : World) (hI : SIn w gb q A n c L) :
    SeqT Try.prog 105 #[.pointer (some ⟨gb, 0, none⟩)] encP (NextSP q L) (AllSP q L) (PartSP q L) (sBlocks gb A L) w :=
  fun l J Jx K W hb hK hJ hJx hlt hY hJ0 => short_walk q A n c gb L hn hc hm ho l J Jx K W (hI.turn (Turn.of_bl (S := fun _ => False) hb) (fun _ h => h.elim)) hJ hJx hlt hK hY hJ0

end Go.Proofs.Ytpbgnidjgmmebaa
