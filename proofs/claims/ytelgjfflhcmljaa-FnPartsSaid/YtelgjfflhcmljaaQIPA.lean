/-
  What is proved here: impl.PartsOf tells of each node the least of its part. No conditions beyond those that each theorem states.
-/
import Derived.Test.YtelgjfflhcmljaaZG
import Derived.Test.YtelgjfflhcmljaaZS
import Derived.Test.YtelgjfflhcmljaaZT
import Derived.Deep.Cut
import Derived.Deep.CutRange
set_option linter.unusedSimpArgs false
set_option linter.unusedVariables false
namespace Go.Proofs.Ytelgjfflhcmljaa
open Go.RowKit

theorem OwnN.put_ {w : World} {B g q c : Nat} {V : List Int} (h : OwnN w B (.slice (some ⟨g, 0, none⟩) q c) V) (hq : V.length = q) (j : Nat) (x : Int) : OwnN (w.setCell ⟨g, j, none⟩ (.int .i64 x)) B (.slice (some ⟨g, 0, none⟩) q c) (V.set j x) := by
  have h' : Owns 2 1 w B (.slice (some ⟨g, 0, none⟩) q c) q (csI V) := by have := h; unfold OwnN at this; rwa [hq] at this
  have := (h'.stored j (.int .i64 x)).1
  unfold OwnN
  rw [List.length_set, hq, show csI (V.set j x) = (csI V).set j (.int .i64 x) from by simp [csI, List.map_set]]
  exact this
/-- What lies in a list of one's own, and that it may be written. -/
theorem OwnN.at_ {w : World} {B g q c : Nat} {V : List Int} (h : OwnN w B (.slice (some ⟨g, 0, none⟩) q c) V) (hq : V.length = q) (j : Nat) (hj : j < V.length) : w.cell? ⟨g, j, none⟩ = some (.int .i64 V[j]) ∧ w.frozen? ⟨g, j, none⟩ = false := by
  have h' : w.ownsRow B 2 1 (.slice (some ⟨g, 0, none⟩) q c) q (csI V) := by have h2 := h; unfold OwnN Owns at h2; rwa [hq] at h2
  have h1 := World.ownsRow.cellAt h' j (by omega)
  have h3 := World.ownsRow.frozenAt h' j
  refine ⟨?_, by simpa using h3⟩
  rw [h1, List.getElem?_eq_getElem (by rw [csI_len]; exact hj), csI_at]

set_option maxRecDepth 100000 in
set_option maxHeartbeats 40000000 in
theorem implPartsOf_any (N : Int) (A : Option Addr) (n c : Nat) (L : List Arc3) (hn : n = L.length) (hc : n ≤ c) (w : World) (hm : n ≤ 1048576) (H1 : ArcsAt w w.heap.size A L) :
    Calls Try.prog 43 #[.agg #[.int .i64 N, .slice A n c]] w (NumsMade (partsFL N L) w) := by
  have K1 := Lib.hid H1
  have HN := Lib.hid hn
  clear H1 hn
  cases ho : okB N L with
  | false =>
    have HO := Lib.hid ho
    clear ho
    go_enter Try.func43, Try.ntmps43
    go_wp2_with fail
    refine (implOk_any N A n c L HN.out _ (by omega) (K1.out.bl (by repeat' (first | exact Bl.refl _ | with_reducible assumption | with_reducible refine Bl.drew_ ?_ | with_reducible refine Bl.drewN_ ?_ _ | with_reducible refine Bl.alloc_ ?_ _ | with_reducible refine Bl.trans_ ?_ (by assumption) | with_reducible refine Bl.trans_ ?_ (And.left (by assumption)))))).mono ?_
    rintro e w1 ⟨rfl, hb1⟩
    rw [HO.out]
    go_wp2
    go_ret
    exact ⟨_, rfl, by unfold partsFL; rw [HO.out, if_neg (by simp)]; exact OwnN.nil_ _ _, (by repeat' (first | exact Bl.refl _ | with_reducible assumption | with_reducible refine Bl.drew_ ?_ | with_reducible refine Bl.drewN_ ?_ _ | with_reducible refine Bl.alloc_ ?_ _ | with_reducible refine Bl.trans_ ?_ (by assumption) | with_reducible refine Bl.trans_ ?_ (And.left (by assumption))))⟩
  | true =>
    have HO := Lib.hid ho
    have HRO := Lib.hid (revL_ok ho)
    have hN24 := (okB_elim ho).2.1
    have hN1 := (okB_elim ho).1
    have HRL := Lib.hid (revL_len (okB_elim ho).2.2.2.2)
    obtain ⟨q, rfl⟩ : ∃ q : Nat, N = q := ⟨N.toNat, by omega⟩
    clear ho
    go_enter Try.func43, Try.ntmps43
    go_wp2_with fail
    refine (implOk_any q A n c L HN.out _ (by omega) (K1.out.bl (by repeat' (first | exact Bl.refl _ | with_reducible assumption | with_reducible refine Bl.drew_ ?_ | with_reducible refine Bl.drewN_ ?_ _ | with_reducible refine Bl.alloc_ ?_ _ | with_reducible refine Bl.trans_ ?_ (by assumption) | with_reducible refine Bl.trans_ ?_ (And.left (by assumption)))))).mono ?_
    rintro e w1 ⟨rfl, hb1⟩
    rw [HO.out]
    have HB1 := Lib.hid hb1
    obtain ⟨q0, q1⟩ := box2 hb1
    have BW1 := Lib.hid (show Bl w w1 from (Bl.alloc_ (Bl.refl w) _).trans_ hb1)
    clear hb1
    go_wp2_with fail
    refine (implReversed_any q A n c L HN.out _ hm (K1.out.bl BW1.out)).mono ?_
    rintro e w2 ⟨v2, rfl, hv2, hb2⟩
    rw [show revN (q : Int) L = (q : Int) from if_pos HO.out]
    rw [show revG (q : Int) L = revL L from if_pos HO.out] at hv2
    have hcap := OwnA.capp hv2
    obtain ⟨A2, c2, rfl, ha2, -⟩ := hv2.shape
    have hc2' := hcap _ _ _ rfl
    obtain ⟨l2, hl⟩ : ∃ l2, l2 = (revL L).length := ⟨_, rfl⟩
    have L2 := Lib.hid hl
    rw [← hl] at hc2' ⊢
    have hc2 : l2 ≤ c2 := hc2'
    have hl2 : l2 ≤ 1048576 := by have := HRL.out; have := HN.out; omega
    have HA2 := Lib.hid ha2
    have HB2 := Lib.hid (HB1.out.trans_ hb2)
    have BW2 := Lib.hid (BW1.out.trans_ hb2)
    clear q0 q1 hb2 hv2 ha2 hl hcap hc2'
    obtain ⟨q0, q1⟩ := box2 HB2.out
    have hgw : w.heap.size < w2.heap.size := by have := HB2.out.size; simp at this; omega
    go_wp2_with fail
    refine (repeat_any (w2.heap.size + 1) 1 (-1) q (by omega) (by omega) _ (by simp) (by simp [go_sem])).mono ?_
    rintro e w3 ⟨rfl, hO3, hb3⟩
    simp only [World.size_alloc] at hO3
    have O3 := Lib.hid (show OwnN w3 (w2.heap.size + 1 + 1) (.slice (some ⟨w2.heap.size + 1 + 1, 0, none⟩) q q) (partK q L 0) from by rw [partK_zero]; exact hO3)
    have hub3 : w2.heap.size + 1 + 1 < w3.heap.size := by
      obtain ⟨_, _, e0, -, -, -, hlt8⟩ := OwnN.shape hO3
      injection e0 with e1 e2 e3
      subst e1
      exact (hlt8 _ rfl).2
    have HB3 := Lib.hid (show Bl (w2.alloc (.cells #[.int .i64 (q : Int), .slice A2 l2 c2] 29)) w3 from (Bl.alloc_ (Bl.refl _) _).trans_ hb3)
    have B23 := Lib.hid (show Bl w2 w3 from (Bl.alloc_ (Bl.refl w2) _).trans_ HB3.out)
    have T0 := Lib.hid (show ∀ wx, Turn (fun g => g = (w2.heap.size + 1 + 1)) w3 wx →
        (wx.cell? ⟨w.heap.size, 0, none⟩ = some (.int .i64 (q : Int)) ∧ wx.cell? ⟨w.heap.size, 1, none⟩ = some (.slice A n c) ∧
        wx.cell? ⟨w2.heap.size, 0, none⟩ = some (.int .i64 (q : Int)) ∧ wx.cell? ⟨w2.heap.size, 1, none⟩ = some (.slice A2 l2 c2)) ∧ ArcsAt wx wx.heap.size A2 (revL L) ∧ Bl w wx from fun wx t => by
      have g0 := t.cells (g := w.heap.size) (by omega) (by omega)
      have g2 := t.cells (g := w2.heap.size) (by omega) (by omega)
      have b2 := box2 (HB2.out.trans_ B23.out)
      have b3 := box2 HB3.out
      refine ⟨⟨?_, ?_, ?_, ?_⟩, ?_, Turn.to_bl (BW2.out.trans_ B23.out) t (fun i e => by subst e; omega)⟩
      · rw [(g0 0).1]; exact b2.1
      · rw [(g0 1).1]; exact b2.2
      · rw [(g2 0).1]; exact b3.1
      · rw [(g2 1).1]; exact b3.2
      · intro h0
        obtain ⟨g, off, e, hg, hcell⟩ := HA2.out h0
        have gg := t.cells (g := g) (by have := B23.out.size; omega) (by omega)
        have bb := (bcell B23.out).1
        refine ⟨g, off, e, by have := B23.out.size; have := t.size; omega, fun k hk => ?_⟩
        rw [(gg _).1, (gg _).1, (gg _).1, bb _ _ hg, bb _ _ hg, bb _ _ hg]
        exact hcell k hk)
    have q0' := (T0.out _ (Turn.refl _ _)).1.1
    have hg3 : w.heap.size < w3.heap.size := by omega
    clear hO3 hb3 q0 q1
    go_wp2_with fail
    clear q0'
    go_loopw [20] (fun i wr => ∃ k : Nat, k ≤ q ∧ i = .int .i64 k ∧ Turn (fun g => g = (w2.heap.size + 1 + 1)) w3 wr ∧ OwnN wr (w2.heap.size + 1 + 1) (.slice (some ⟨w2.heap.size + 1 + 1, 0, none⟩) q q) (partK q L k)) (fun i _ => q - (intOf i).toNat)
    case atStart => exact ⟨0, by omega, rfl, Turn.refl _ _, O3.out⟩
    case round =>
      obtain ⟨wo, rfl⟩ : ∃ wo : World, wo = wr := ⟨_, rfl⟩
      obtain ⟨k, hk, rfl, hT, hO⟩ := hrel
      obtain ⟨⟨a0, a1, b0, b1⟩, hRA, hBW⟩ := T0.out _ hT
      have TT := Lib.hid hT
      have OO := Lib.hid hO
      have BW := Lib.hid hBW
      have HRA := Lib.hid hRA
      have hsz := hT.size
      clear hT hRA hBW
      by_cases hlt : k < q
      · have j0 : (0 : Int) ≤ (k : Int) := by omega
        have j1 : (k : Int) < (q : Int) := by omega
        obtain ⟨pk, -⟩ := hO.at_ (partK_len q L k) k (by rw [partK_len]; exact hlt)
        rw [partK_at] at pk
        have SK := Lib.hid (fun h => partK_skip (L := L) HO.out hlt h)
        have SA := Lib.hid (fun h => partJ_all (L := L) HO.out hlt h)
        obtain ⟨f, hf⟩ : ∃ f, f = firI q L k k := ⟨_, rfl⟩
        rw [← hf] at pk SK SA
        clear hO hf
        by_cases hf0 : 0 ≤ f
        · have df : decide (0 ≤ f) = true := by simpa using hf0
          have SK' := Lib.hid (SK.out hf0)
          go_wp2
          go_roundw
          case rel => exact ⟨k + 1, by omega, by go_num, TT.out, by rw [SK'.out]; exact OO.out⟩
          case measure => simp [intOf]; omega
        · have df : decide (0 ≤ f) = false := by simpa using hf0
          have SA' := Lib.hid (SA.out (by omega))
          have HSH := Lib.hid (show ∀ wx, Bl wo wx → wx.cell? ⟨w.heap.size, 0, none⟩ = some (.int .i64 (q : Int)) ∧ wx.cell? ⟨w.heap.size, 1, none⟩ = some (.slice A n c) ∧ wx.cell? ⟨w2.heap.size, 0, none⟩ = some (.int .i64 (q : Int)) ∧ wx.cell? ⟨w2.heap.size, 1, none⟩ = some (.slice A2 l2 c2) from fun wx hb => (T0.out _ (TT.out.bl hb)).1)
          clear hf0
          go_upto_region 9 with fail
          go_cut [6, 7] from 28 to 33 (fun x6 x7 wc => ∃ b6 b7 F G, x6 = .pointer (some ⟨b6, 0, none⟩) ∧ x7 = .pointer (some ⟨b7, 0, none⟩) ∧ wo.heap.size ≤ b6 ∧ wo.heap.size ≤ b7 ∧ BoolsAt wc b6 F ∧ BoolsAt wc b7 G ∧ (∀ u : Int, 0 ≤ u → (bT F u = true ↔ 0 ≤ dAt (distL (q : Int) L (k : Int)) u)) ∧ (∀ u : Int, 0 ≤ u → (bT G u = true ↔ 0 ≤ dAt (distL (q : Int) (revL L) (k : Int)) u)) ∧ Bl wo wc)
          case first =>
            clear pk df
            refine wp_region_held_drew (S := fun wx => wx.cell? ⟨w.heap.size, 0, none⟩ = some (.int .i64 (q : Int)) ∧ wx.cell? ⟨w.heap.size, 1, none⟩ = some (.slice A n c) ∧ wx.cell? ⟨w2.heap.size, 0, none⟩ = some (.int .i64 (q : Int)) ∧ wx.cell? ⟨w2.heap.size, 1, none⟩ = some (.slice A2 l2 c2)) (by kernel_rfl) ?_ (fun hHeld => ?_)
            · exact HSH.out _ (Bl.drew_ (Bl.refl wo))
            refine wpAnyH_take (i := 0) (v := ?_) rfl (by kernel_rfl) (by kernel_rfl) (by kernel_rfl) (fun _ _ _ h => h) (Or.inl ⟨by kernel_rfl, ?_⟩) (by assumption) ?_
            rotate_left
            · (intro wx hSw; (try dsimp only at hSw); go_simp; try (with_reducible rfl))
            try simp only [Act.put, List.getElem_toArray, List.getElem_cons_succ, List.getElem_cons_zero, List.setIfInBounds_toArray, List.set_cons_zero, List.set_cons_succ]
            refine wpAnyH_take (i := 1) (v := ?_) rfl (by kernel_rfl) (by kernel_rfl) (by kernel_rfl) (fun _ _ _ h => h) (Or.inl ⟨by kernel_rfl, ?_⟩) (by assumption) ?_
            rotate_left
            · (intro wx hSw; (try dsimp only at hSw); go_simp; try (with_reducible rfl))
            try simp only [Act.put, List.getElem_toArray, List.getElem_cons_succ, List.getElem_cons_zero, List.setIfInBounds_toArray, List.set_cons_zero, List.set_cons_succ]
            refine wpAnyH_take (i := 3) (v := ?_) rfl (by kernel_rfl) (by kernel_rfl) (by kernel_rfl) (fun _ _ _ h => h) (Or.inl ⟨by kernel_rfl, ?_⟩) (by assumption) ?_
            rotate_left
            · (intro wx hSw; (try dsimp only at hSw); go_simp; try (with_reducible rfl))
            try simp only [Act.put, List.getElem_toArray, List.getElem_cons_succ, List.getElem_cons_zero, List.setIfInBounds_toArray, List.set_cons_zero, List.set_cons_succ]
            refine wpAnyH_take (i := 4) (v := ?_) rfl (by kernel_rfl) (by kernel_rfl) (by kernel_rfl) (fun _ _ _ h => h) (Or.inl ⟨by kernel_rfl, ?_⟩) (by assumption) ?_
            rotate_left
            · (intro wx hSw; (try dsimp only at hSw); go_simp; try (with_reducible rfl))
            try simp only [Act.put, List.getElem_toArray, List.getElem_cons_succ, List.getElem_cons_zero, List.setIfInBounds_toArray, List.set_cons_zero, List.set_cons_succ]
            clear hHeld
            refine wpAnyH_ready (rs := [2, 6, 7]) (by kernel_rfl) (by simp) ?_
            refine AllReadyH.cons rfl (fun K hK => ?_) (AllReadyH.cons rfl (fun K hK => ?_) (AllReadyH.cons rfl (fun K hK => ?_) AllReadyH.nil))
            · go_simp
              refine (reachedFrom_any q (k : Int) A n c L HN.out hc hm HO.out j0 j1 _ (K1.out.bl (BW.out.trans_ (Bl.drew_ (Bl.refl wo))))).mono ?_
              rintro e w_1 ⟨F, rfl, hF, hFd, hb⟩
              have FL := Lib.hid hF
              have FD := Lib.hid hFd
              clear hF hFd
              have B_1 := Lib.hid ((Bl.drew_ (Bl.refl wo)).trans_ hb)
              clear hb
              try (go_wp2_with fail)
              refine hK.out _ _ ?_ (fun hHeld => ?_)
              · exact HSH.out _ B_1.out
              clear hK K hHeld
              try simp only [Act.put, List.getElem_toArray, List.getElem_cons_succ, List.getElem_cons_zero, List.setIfInBounds_toArray, List.set_cons_zero, List.set_cons_succ]
              refine wpAnyH_ready (rs := [5, 6, 7]) (by kernel_rfl) (by simp) ?_
              refine AllReadyH.cons rfl (fun K hK => ?_) (AllReadyH.cons rfl (fun K hK => ?_) (AllReadyH.cons rfl (fun K hK => ?_) AllReadyH.nil))
              · go_simp
                refine (reachedFrom_any q (k : Int) A2 l2 c2 (revL L) L2.out hc2 hl2 HRO.out j0 j1 _ (HRA.out.bl B_1.out)).mono ?_
                rintro e w_2 ⟨G, rfl, hG, hGd, hb⟩
                have GL := Lib.hid hG
                have GD := Lib.hid hGd
                clear hG hGd
                have B_2 := Lib.hid (B_1.out.trans_ hb)
                clear hb
                try (go_wp2_with fail)
                refine hK.out _ _ ?_ (fun hHeld => ?_)
                · exact HSH.out _ B_2.out
                clear hK K hHeld
                try simp only [Act.put, List.getElem_toArray, List.getElem_cons_succ, List.getElem_cons_zero, List.setIfInBounds_toArray, List.set_cons_zero, List.set_cons_succ]
                refine wpAnyH_ready (rs := [6, 7]) (by kernel_rfl) (by simp) ?_
                refine AllReadyH.cons rfl (fun K hK => ?_) (AllReadyH.cons rfl (fun K hK => ?_) AllReadyH.nil)
                · go_simp
                  refine hK.out _ _ ?_ (fun hHeld => ?_)
                  · exact HSH.out _ (Bl.alloc_ B_2.out _)
                  clear hK K hHeld
                  try simp only [Act.put, List.getElem_toArray, List.getElem_cons_succ, List.getElem_cons_zero, List.setIfInBounds_toArray, List.set_cons_zero, List.set_cons_succ]
                  generalize hw : World.alloc _ _ = w_3
                  have B_3 := Lib.hid (show Bl wo w_3 from by rw [← hw]; exact Bl.alloc_ B_2.out _)
                  have hb : Bl w_2 w_3 := by rw [← hw]; exact Bl.alloc_ (Bl.refl _) _
                  have Z6_3 := Lib.hid (show BoolsAt w_3 (w_2.heap.size) (List.replicate 24 false) from by rw [← hw]; exact bools_new _)
                  have LO6 := Lib.hid (show wo.heap.size ≤ w_2.heap.size from (B_2.out : Bl wo _).size)
                  clear hw hb
                  refine wpAnyH_ready (rs := [7]) (by kernel_rfl) (by simp) ?_
                  refine AllReadyH.cons rfl (fun K hK => ?_) AllReadyH.nil
                  · go_simp
                    refine hK.out _ _ ?_ (fun hHeld => ?_)
                    · exact HSH.out _ (Bl.alloc_ B_3.out _)
                    clear hK K hHeld
                    try simp only [Act.put, List.getElem_toArray, List.getElem_cons_succ, List.getElem_cons_zero, List.setIfInBounds_toArray, List.set_cons_zero, List.set_cons_succ]
                    generalize hw : World.alloc _ _ = w_4
                    have B_4 := Lib.hid (show Bl wo w_4 from by rw [← hw]; exact Bl.alloc_ B_3.out _)
                    have hb : Bl w_3 w_4 := by rw [← hw]; exact Bl.alloc_ (Bl.refl _) _
                    have Z7_4 := Lib.hid (show BoolsAt w_4 (w_3.heap.size) (List.replicate 24 false) from by rw [← hw]; exact bools_new _)
                    have LO7 := Lib.hid (show wo.heap.size ≤ w_3.heap.size from (B_3.out : Bl wo _).size)
                    have NE := Lib.hid (show w_2.heap.size ≠ w_3.heap.size from Nat.ne_of_lt Z6_3.out.lt)
                    have Z6_4 := Lib.hid (Z6_3.out.bl hb)
                    clear hw hb
                    refine wpAnyH_ready (rs := [8]) (by kernel_rfl) (by simp) ?_
                    refine AllReadyH.cons rfl (fun K hK => ?_) AllReadyH.nil
                    rw [if_pos (by rfl)]
                    refine wp_store_mid _ _ _ rfl (w_2.heap.size) 0 (csB F).toArray rfl rfl (by simpa [csB_len, FL.out] using Z6_4.out.there_) (by simpa [csB_len, FL.out] using size24b) (csB_one _) ?_
                    simp only [Act.put, List.setIfInBounds_toArray, List.set_cons_zero, List.set_cons_succ, List.toList_toArray]
                    refine hK.out _ _ ?_ (fun hHeld => ?_)
                    · exact HSH.out _ (Bl.setCells_ (w_2.heap.size) LO6.out _ _ _ B_4.out)
                    clear hK K hHeld
                    try simp only [Act.put, List.getElem_toArray, List.getElem_cons_succ, List.getElem_cons_zero, List.setIfInBounds_toArray, List.set_cons_zero, List.set_cons_succ]
                    generalize hw : World.setCells _ _ _ _ = w_5_6
                    have B_5_6 := Lib.hid (show Bl wo w_5_6 from by rw [← hw]; exact Bl.setCells_ (w_2.heap.size) LO6.out _ _ _ B_4.out)
                    have Y6 := Lib.hid (show BoolsAt w_5_6 (w_2.heap.size) F from by rw [← hw]; exact BoolsAt.stored Z6_4.out FL.out)
                    have Z7_5 := Lib.hid (show BoolsAt w_5_6 (w_3.heap.size) (List.replicate 24 false) from by rw [← hw]; exact Z7_4.out.turn (Turn.setCells_ (S := fun i => i = w_2.heap.size) (w_2.heap.size) rfl _ _ _ (Turn.refl _ _)) NE.out.symm)
                    clear hw
                    refine wpAnyH_ready (rs := [9]) (by kernel_rfl) (by simp) ?_
                    refine AllReadyH.cons rfl (fun K hK => ?_) AllReadyH.nil
                    rw [if_pos (by rfl)]
                    refine wp_store_mid _ _ _ rfl (w_3.heap.size) 0 (csB G).toArray rfl rfl (by simpa [csB_len, GL.out] using Z7_5.out.there_) (by simpa [csB_len, GL.out] using size24b) (csB_one _) ?_
                    simp only [Act.put, List.setIfInBounds_toArray, List.set_cons_zero, List.set_cons_succ, List.toList_toArray]
                    refine hK.out _ _ ?_ (fun hHeld => ?_)
                    · exact HSH.out _ (Bl.setCells_ (w_3.heap.size) LO7.out _ _ _ B_5_6.out)
                    clear hK K hHeld
                    try simp only [Act.put, List.getElem_toArray, List.getElem_cons_succ, List.getElem_cons_zero, List.setIfInBounds_toArray, List.set_cons_zero, List.set_cons_succ]
                    generalize hw : World.setCells _ _ _ _ = w_5_7
                    have B_5_7 := Lib.hid (show Bl wo w_5_7 from by rw [← hw]; exact Bl.setCells_ (w_3.heap.size) LO7.out _ _ _ B_5_6.out)
                    have Y7 := Lib.hid (show BoolsAt w_5_7 (w_3.heap.size) G from by rw [← hw]; exact BoolsAt.stored Z7_5.out GL.out)
                    have Y6' := Lib.hid (show BoolsAt w_5_7 (w_2.heap.size) F from by rw [← hw]; exact Y6.out.turn (Turn.setCells_ (S := fun i => i = w_3.heap.size) (w_3.heap.size) rfl _ _ _ (Turn.refl _ _)) NE.out)
                    clear hw
                    refine wpAnyH_done (by kernel_rfl) ?_ _
                    go_wp2_with fail
                    go_meet
                    exact ⟨w_2.heap.size, w_3.heap.size, F, G, rfl, rfl, LO6.out, LO7.out, Y6'.out, Y7.out, FD.out, GD.out, B_5_7.out⟩
                · go_simp
                  refine hK.out _ _ ?_ (fun hHeld => ?_)
                  · exact HSH.out _ (Bl.alloc_ B_2.out _)
                  clear hK K hHeld
                  try simp only [Act.put, List.getElem_toArray, List.getElem_cons_succ, List.getElem_cons_zero, List.setIfInBounds_toArray, List.set_cons_zero, List.set_cons_succ]
                  generalize hw : World.alloc _ _ = w_6
                  have B_6 := Lib.hid (show Bl wo w_6 from by rw [← hw]; exact Bl.alloc_ B_2.out _)
                  have hb : Bl w_2 w_6 := by rw [← hw]; exact Bl.alloc_ (Bl.refl _) _
                  have Z7_6 := Lib.hid (show BoolsAt w_6 (w_2.heap.size) (List.replicate 24 false) from by rw [← hw]; exact bools_new _)
                  have LO7 := Lib.hid (show wo.heap.size ≤ w_2.heap.size from (B_2.out : Bl wo _).size)
                  clear hw hb
                  refine wpAnyH_ready (rs := [6]) (by kernel_rfl) (by simp) ?_
                  refine AllReadyH.cons rfl (fun K hK => ?_) AllReadyH.nil
                  · go_simp
                    refine hK.out _ _ ?_ (fun hHeld => ?_)
                    · exact HSH.out _ (Bl.alloc_ B_6.out _)
                    clear hK K hHeld
                    try simp only [Act.put, List.getElem_toArray, List.getElem_cons_succ, List.getElem_cons_zero, List.setIfInBounds_toArray, List.set_cons_zero, List.set_cons_succ]
                    generalize hw : World.alloc _ _ = w_7
                    have B_7 := Lib.hid (show Bl wo w_7 from by rw [← hw]; exact Bl.alloc_ B_6.out _)
                    have hb : Bl w_6 w_7 := by rw [← hw]; exact Bl.alloc_ (Bl.refl _) _
                    have Z6_7 := Lib.hid (show BoolsAt w_7 (w_6.heap.size) (List.replicate 24 false) from by rw [← hw]; exact bools_new _)
                    have LO6 := Lib.hid (show wo.heap.size ≤ w_6.heap.size from (B_6.out : Bl wo _).size)
                    have NE := Lib.hid (show w_2.heap.size ≠ w_6.heap.size from Nat.ne_of_lt Z7_6.out.lt)
                    have Z7_7 := Lib.hid (Z7_6.out.bl hb)
                    clear hw hb
                    refine wpAnyH_ready (rs := [8]) (by kernel_rfl) (by simp) ?_
                    refine AllReadyH.cons rfl (fun K hK => ?_) AllReadyH.nil
                    rw [if_pos (by rfl)]
                    refine wp_store_mid _ _ _ rfl (w_6.heap.size) 0 (csB F).toArray rfl rfl (by simpa [csB_len, FL.out] using Z6_7.out.there_) (by simpa [csB_len, FL.out] using size24b) (csB_one _) ?_
                    simp only [Act.put, List.setIfInBounds_toArray, List.set_cons_zero, List.set_cons_succ, List.toList_toArray]
                    refine hK.out _ _ ?_ (fun hHeld => ?_)
                    · exact HSH.out _ (Bl.setCells_ (w_6.heap.size) LO6.out _ _ _ B_7.out)
                    clear hK K hHeld
                    try simp only [Act.put, List.getElem_toArray, List.getElem_cons_succ, List.getElem_cons_zero, List.setIfInBounds_toArray, List.set_cons_zero, List.set_cons_succ]
                    generalize hw : World.setCells _ _ _ _ = w_8_6
                    have B_8_6 := Lib.hid (show Bl wo w_8_6 from by rw [← hw]; exact Bl.setCells_ (w_6.heap.size) LO6.out _ _ _ B_7.out)
                    have Y6 := Lib.hid (show BoolsAt w_8_6 (w_6.heap.size) F from by rw [← hw]; exact BoolsAt.stored Z6_7.out FL.out)
                    have Z7_8 := Lib.hid (show BoolsAt w_8_6 (w_2.heap.size) (List.replicate 24 false) from by rw [← hw]; exact Z7_7.out.turn (Turn.setCells_ (S := fun i => i = w_6.heap.size) (w_6.heap.size) rfl _ _ _ (Turn.refl _ _)) NE.out)
                    clear hw
                    refine wpAnyH_ready (rs := [9]) (by kernel_rfl) (by simp) ?_
                    refine AllReadyH.cons rfl (fun K hK => ?_) AllReadyH.nil
                    rw [if_pos (by rfl)]
                    refine wp_store_mid _ _ _ rfl (w_2.heap.size) 0 (csB G).toArray rfl rfl (by simpa [csB_len, GL.out] using Z7_8.out.there_) (by simpa [csB_len, GL.out] using size24b) (csB_one _) ?_
                    simp only [Act.put, List.setIfInBounds_toArray, List.set_cons_zero, List.set_cons_succ, List.toList_toArray]
                    refine hK.out _ _ ?_ (fun hHeld => ?_)
                    · exact HSH.out _ (Bl.setCells_ (w_2.heap.size) LO7.out _ _ _ B_8_6.out)
                    clear hK K hHeld
                    try simp only [Act.put, List.getElem_toArray, List.getElem_cons_succ, List.getElem_cons_zero, List.setIfInBounds_toArray, List.set_cons_zero, List.set_cons_succ]
                    generalize hw : World.setCells _ _ _ _ = w_8_7
                    have B_8_7 := Lib.hid (show Bl wo w_8_7 from by rw [← hw]; exact Bl.setCells_ (w_2.heap.size) LO7.out _ _ _ B_8_6.out)
                    have Y7 := Lib.hid (show BoolsAt w_8_7 (w_2.heap.size) G from by rw [← hw]; exact BoolsAt.stored Z7_8.out GL.out)
                    have Y6' := Lib.hid (show BoolsAt w_8_7 (w_6.heap.size) F from by rw [← hw]; exact Y6.out.turn (Turn.setCells_ (S := fun i => i = w_2.heap.size) (w_2.heap.size) rfl _ _ _ (Turn.refl _ _)) NE.out.symm)
                    clear hw
                    refine wpAnyH_done (by kernel_rfl) ?_ _
                    go_wp2_with fail
                    go_meet
                    exact ⟨w_6.heap.size, w_2.heap.size, F, G, rfl, rfl, LO6.out, LO7.out, Y6'.out, Y7.out, FD.out, GD.out, B_8_7.out⟩
              · go_simp
                refine hK.out _ _ ?_ (fun hHeld => ?_)
                · exact HSH.out _ (Bl.alloc_ B_1.out _)
                clear hK K hHeld
                try simp only [Act.put, List.getElem_toArray, List.getElem_cons_succ, List.getElem_cons_zero, List.setIfInBounds_toArray, List.set_cons_zero, List.set_cons_succ]
                generalize hw : World.alloc _ _ = w_9
                have B_9 := Lib.hid (show Bl wo w_9 from by rw [← hw]; exact Bl.alloc_ B_1.out _)
                have hb : Bl w_1 w_9 := by rw [← hw]; exact Bl.alloc_ (Bl.refl _) _
                have Z6_9 := Lib.hid (show BoolsAt w_9 (w_1.heap.size) (List.replicate 24 false) from by rw [← hw]; exact bools_new _)
                have LO6 := Lib.hid (show wo.heap.size ≤ w_1.heap.size from (B_1.out : Bl wo _).size)
                clear hw hb
                refine wpAnyH_ready (rs := [5, 7]) (by kernel_rfl) (by simp) ?_
                refine AllReadyH.cons rfl (fun K hK => ?_) (AllReadyH.cons rfl (fun K hK => ?_) AllReadyH.nil)
                · go_simp
                  refine (reachedFrom_any q (k : Int) A2 l2 c2 (revL L) L2.out hc2 hl2 HRO.out j0 j1 _ (HRA.out.bl B_9.out)).mono ?_
                  rintro e w_10 ⟨G, rfl, hG, hGd, hb⟩
                  have GL := Lib.hid hG
                  have GD := Lib.hid hGd
                  clear hG hGd
                  have B_10 := Lib.hid (B_9.out.trans_ hb)
                  have Z6_10 := Lib.hid (Z6_9.out.bl hb)
                  clear hb
                  try (go_wp2_with fail)
                  refine hK.out _ _ ?_ (fun hHeld => ?_)
                  · exact HSH.out _ B_10.out
                  clear hK K hHeld
                  try simp only [Act.put, List.getElem_toArray, List.getElem_cons_succ, List.getElem_cons_zero, List.setIfInBounds_toArray, List.set_cons_zero, List.set_cons_succ]
                  refine wpAnyH_ready (rs := [7]) (by kernel_rfl) (by simp) ?_
                  refine AllReadyH.cons rfl (fun K hK => ?_) AllReadyH.nil
                  · go_simp
                    refine hK.out _ _ ?_ (fun hHeld => ?_)
                    · exact HSH.out _ (Bl.alloc_ B_10.out _)
                    clear hK K hHeld
                    try simp only [Act.put, List.getElem_toArray, List.getElem_cons_succ, List.getElem_cons_zero, List.setIfInBounds_toArray, List.set_cons_zero, List.set_cons_succ]
                    generalize hw : World.alloc _ _ = w_11
                    have B_11 := Lib.hid (show Bl wo w_11 from by rw [← hw]; exact Bl.alloc_ B_10.out _)
                    have hb : Bl w_10 w_11 := by rw [← hw]; exact Bl.alloc_ (Bl.refl _) _
                    have Z7_11 := Lib.hid (show BoolsAt w_11 (w_10.heap.size) (List.replicate 24 false) from by rw [← hw]; exact bools_new _)
                    have LO7 := Lib.hid (show wo.heap.size ≤ w_10.heap.size from (B_10.out : Bl wo _).size)
                    have NE := Lib.hid (show w_1.heap.size ≠ w_10.heap.size from Nat.ne_of_lt Z6_10.out.lt)
                    have Z6_11 := Lib.hid (Z6_10.out.bl hb)
                    clear hw hb
                    refine wpAnyH_ready (rs := [8]) (by kernel_rfl) (by simp) ?_
                    refine AllReadyH.cons rfl (fun K hK => ?_) AllReadyH.nil
                    rw [if_pos (by rfl)]
                    refine wp_store_mid _ _ _ rfl (w_1.heap.size) 0 (csB F).toArray rfl rfl (by simpa [csB_len, FL.out] using Z6_11.out.there_) (by simpa [csB_len, FL.out] using size24b) (csB_one _) ?_
                    simp only [Act.put, List.setIfInBounds_toArray, List.set_cons_zero, List.set_cons_succ, List.toList_toArray]
                    refine hK.out _ _ ?_ (fun hHeld => ?_)
                    · exact HSH.out _ (Bl.setCells_ (w_1.heap.size) LO6.out _ _ _ B_11.out)
                    clear hK K hHeld
                    try simp only [Act.put, List.getElem_toArray, List.getElem_cons_succ, List.getElem_cons_zero, List.setIfInBounds_toArray, List.set_cons_zero, List.set_cons_succ]
                    generalize hw : World.setCells _ _ _ _ = w_12_6
                    have B_12_6 := Lib.hid (show Bl wo w_12_6 from by rw [← hw]; exact Bl.setCells_ (w_1.heap.size) LO6.out _ _ _ B_11.out)
                    have Y6 := Lib.hid (show BoolsAt w_12_6 (w_1.heap.size) F from by rw [← hw]; exact BoolsAt.stored Z6_11.out FL.out)
                    have Z7_12 := Lib.hid (show BoolsAt w_12_6 (w_10.heap.size) (List.replicate 24 false) from by rw [← hw]; exact Z7_11.out.turn (Turn.setCells_ (S := fun i => i = w_1.heap.size) (w_1.heap.size) rfl _ _ _ (Turn.refl _ _)) NE.out.symm)
                    clear hw
                    refine wpAnyH_ready (rs := [9]) (by kernel_rfl) (by simp) ?_
                    refine AllReadyH.cons rfl (fun K hK => ?_) AllReadyH.nil
                    rw [if_pos (by rfl)]
                    refine wp_store_mid _ _ _ rfl (w_10.heap.size) 0 (csB G).toArray rfl rfl (by simpa [csB_len, GL.out] using Z7_12.out.there_) (by simpa [csB_len, GL.out] using size24b) (csB_one _) ?_
                    simp only [Act.put, List.setIfInBounds_toArray, List.set_cons_zero, List.set_cons_succ, List.toList_toArray]
                    refine hK.out _ _ ?_ (fun hHeld => ?_)
                    · exact HSH.out _ (Bl.setCells_ (w_10.heap.size) LO7.out _ _ _ B_12_6.out)
                    clear hK K hHeld
                    try simp only [Act.put, List.getElem_toArray, List.getElem_cons_succ, List.getElem_cons_zero, List.setIfInBounds_toArray, List.set_cons_zero, List.set_cons_succ]
                    generalize hw : World.setCells _ _ _ _ = w_12_7
                    have B_12_7 := Lib.hid (show Bl wo w_12_7 from by rw [← hw]; exact Bl.setCells_ (w_10.heap.size) LO7.out _ _ _ B_12_6.out)
                    have Y7 := Lib.hid (show BoolsAt w_12_7 (w_10.heap.size) G from by rw [← hw]; exact BoolsAt.stored Z7_12.out GL.out)
                    have Y6' := Lib.hid (show BoolsAt w_12_7 (w_1.heap.size) F from by rw [← hw]; exact Y6.out.turn (Turn.setCells_ (S := fun i => i = w_10.heap.size) (w_10.heap.size) rfl _ _ _ (Turn.refl _ _)) NE.out)
                    clear hw
                    refine wpAnyH_done (by kernel_rfl) ?_ _
                    go_wp2_with fail
                    go_meet
                    exact ⟨w_1.heap.size, w_10.heap.size, F, G, rfl, rfl, LO6.out, LO7.out, Y6'.out, Y7.out, FD.out, GD.out, B_12_7.out⟩
                · go_simp
                  refine hK.out _ _ ?_ (fun hHeld => ?_)
                  · exact HSH.out _ (Bl.alloc_ B_9.out _)
                  clear hK K hHeld
                  try simp only [Act.put, List.getElem_toArray, List.getElem_cons_succ, List.getElem_cons_zero, List.setIfInBounds_toArray, List.set_cons_zero, List.set_cons_succ]
                  generalize hw : World.alloc _ _ = w_13
                  have B_13 := Lib.hid (show Bl wo w_13 from by rw [← hw]; exact Bl.alloc_ B_9.out _)
                  have hb : Bl w_9 w_13 := by rw [← hw]; exact Bl.alloc_ (Bl.refl _) _
                  have Z7_13 := Lib.hid (show BoolsAt w_13 (w_9.heap.size) (List.replicate 24 false) from by rw [← hw]; exact bools_new _)
                  have LO7 := Lib.hid (show wo.heap.size ≤ w_9.heap.size from (B_9.out : Bl wo _).size)
                  have NE := Lib.hid (show w_1.heap.size ≠ w_9.heap.size from Nat.ne_of_lt Z6_9.out.lt)
                  have Z6_13 := Lib.hid (Z6_9.out.bl hb)
                  clear hw hb
                  refine wpAnyH_ready (rs := [5]) (by kernel_rfl) (by simp) ?_
                  refine AllReadyH.cons rfl (fun K hK => ?_) AllReadyH.nil
                  · go_simp
                    refine (reachedFrom_any q (k : Int) A2 l2 c2 (revL L) L2.out hc2 hl2 HRO.out j0 j1 _ (HRA.out.bl B_13.out)).mono ?_
                    rintro e w_14 ⟨G, rfl, hG, hGd, hb⟩
                    have GL := Lib.hid hG
                    have GD := Lib.hid hGd
                    clear hG hGd
                    have B_14 := Lib.hid (B_13.out.trans_ hb)
                    have Z6_14 := Lib.hid (Z6_13.out.bl hb)
                    have Z7_14 := Lib.hid (Z7_13.out.bl hb)
                    clear hb
                    try (go_wp2_with fail)
                    refine hK.out _ _ ?_ (fun hHeld => ?_)
                    · exact HSH.out _ B_14.out
                    clear hK K hHeld
                    try simp only [Act.put, List.getElem_toArray, List.getElem_cons_succ, List.getElem_cons_zero, List.setIfInBounds_toArray, List.set_cons_zero, List.set_cons_succ]
                    refine wpAnyH_ready (rs := [8]) (by kernel_rfl) (by simp) ?_
                    refine AllReadyH.cons rfl (fun K hK => ?_) AllReadyH.nil
                    rw [if_pos (by rfl)]
                    refine wp_store_mid _ _ _ rfl (w_1.heap.size) 0 (csB F).toArray rfl rfl (by simpa [csB_len, FL.out] using Z6_14.out.there_) (by simpa [csB_len, FL.out] using size24b) (csB_one _) ?_
                    simp only [Act.put, List.setIfInBounds_toArray, List.set_cons_zero, List.set_cons_succ, List.toList_toArray]
                    refine hK.out _ _ ?_ (fun hHeld => ?_)
                    · exact HSH.out _ (Bl.setCells_ (w_1.heap.size) LO6.out _ _ _ B_14.out)
                    clear hK K hHeld
                    try simp only [Act.put, List.getElem_toArray, List.getElem_cons_succ, List.getElem_cons_zero, List.setIfInBounds_toArray, List.set_cons_zero, List.set_cons_succ]
                    generalize hw : World.setCells _ _ _ _ = w_15_6
                    have B_15_6 := Lib.hid (show Bl wo w_15_6 from by rw [← hw]; exact Bl.setCells_ (w_1.heap.size) LO6.out _ _ _ B_14.out)
                    have Y6 := Lib.hid (show BoolsAt w_15_6 (w_1.heap.size) F from by rw [← hw]; exact BoolsAt.stored Z6_14.out FL.out)
                    have Z7_15 := Lib.hid (show BoolsAt w_15_6 (w_9.heap.size) (List.replicate 24 false) from by rw [← hw]; exact Z7_14.out.turn (Turn.setCells_ (S := fun i => i = w_1.heap.size) (w_1.heap.size) rfl _ _ _ (Turn.refl _ _)) NE.out.symm)
                    clear hw
                    refine wpAnyH_ready (rs := [9]) (by kernel_rfl) (by simp) ?_
                    refine AllReadyH.cons rfl (fun K hK => ?_) AllReadyH.nil
                    rw [if_pos (by rfl)]
                    refine wp_store_mid _ _ _ rfl (w_9.heap.size) 0 (csB G).toArray rfl rfl (by simpa [csB_len, GL.out] using Z7_15.out.there_) (by simpa [csB_len, GL.out] using size24b) (csB_one _) ?_
                    simp only [Act.put, List.setIfInBounds_toArray, List.set_cons_zero, List.set_cons_succ, List.toList_toArray]
                    refine hK.out _ _ ?_ (fun hHeld => ?_)
                    · exact HSH.out _ (Bl.setCells_ (w_9.heap.size) LO7.out _ _ _ B_15_6.out)
                    clear hK K hHeld
                    try simp only [Act.put, List.getElem_toArray, List.getElem_cons_succ, List.getElem_cons_zero, List.setIfInBounds_toArray, List.set_cons_zero, List.set_cons_succ]
                    generalize hw : World.setCells _ _ _ _ = w_15_7
                    have B_15_7 := Lib.hid (show Bl wo w_15_7 from by rw [← hw]; exact Bl.setCells_ (w_9.heap.size) LO7.out _ _ _ B_15_6.out)
                    have Y7 := Lib.hid (show BoolsAt w_15_7 (w_9.heap.size) G from by rw [← hw]; exact BoolsAt.stored Z7_15.out GL.out)
                    have Y6' := Lib.hid (show BoolsAt w_15_7 (w_1.heap.size) F from by rw [← hw]; exact Y6.out.turn (Turn.setCells_ (S := fun i => i = w_9.heap.size) (w_9.heap.size) rfl _ _ _ (Turn.refl _ _)) NE.out)
                    clear hw
                    refine wpAnyH_done (by kernel_rfl) ?_ _
                    go_wp2_with fail
                    go_meet
                    exact ⟨w_1.heap.size, w_9.heap.size, F, G, rfl, rfl, LO6.out, LO7.out, Y6'.out, Y7.out, FD.out, GD.out, B_15_7.out⟩
              · go_simp
                refine hK.out _ _ ?_ (fun hHeld => ?_)
                · exact HSH.out _ (Bl.alloc_ B_1.out _)
                clear hK K hHeld
                try simp only [Act.put, List.getElem_toArray, List.getElem_cons_succ, List.getElem_cons_zero, List.setIfInBounds_toArray, List.set_cons_zero, List.set_cons_succ]
                generalize hw : World.alloc _ _ = w_16
                have B_16 := Lib.hid (show Bl wo w_16 from by rw [← hw]; exact Bl.alloc_ B_1.out _)
                have hb : Bl w_1 w_16 := by rw [← hw]; exact Bl.alloc_ (Bl.refl _) _
                have Z7_16 := Lib.hid (show BoolsAt w_16 (w_1.heap.size) (List.replicate 24 false) from by rw [← hw]; exact bools_new _)
                have LO7 := Lib.hid (show wo.heap.size ≤ w_1.heap.size from (B_1.out : Bl wo _).size)
                clear hw hb
                refine wpAnyH_ready (rs := [5, 6]) (by kernel_rfl) (by simp) ?_
                refine AllReadyH.cons rfl (fun K hK => ?_) (AllReadyH.cons rfl (fun K hK => ?_) AllReadyH.nil)
                · go_simp
                  refine (reachedFrom_any q (k : Int) A2 l2 c2 (revL L) L2.out hc2 hl2 HRO.out j0 j1 _ (HRA.out.bl B_16.out)).mono ?_
                  rintro e w_17 ⟨G, rfl, hG, hGd, hb⟩
                  have GL := Lib.hid hG
                  have GD := Lib.hid hGd
                  clear hG hGd
                  have B_17 := Lib.hid (B_16.out.trans_ hb)
                  have Z7_17 := Lib.hid (Z7_16.out.bl hb)
                  clear hb
                  try (go_wp2_with fail)
                  refine hK.out _ _ ?_ (fun hHeld => ?_)
                  · exact HSH.out _ B_17.out
                  clear hK K hHeld
                  try simp only [Act.put, List.getElem_toArray, List.getElem_cons_succ, List.getElem_cons_zero, List.setIfInBounds_toArray, List.set_cons_zero, List.set_cons_succ]
                  refine wpAnyH_ready (rs := [6]) (by kernel_rfl) (by simp) ?_
                  refine AllReadyH.cons rfl (fun K hK => ?_) AllReadyH.nil
                  · go_simp
                    refine hK.out _ _ ?_ (fun hHeld => ?_)
                    · exact HSH.out _ (Bl.alloc_ B_17.out _)
                    clear hK K hHeld
                    try simp only [Act.put, List.getElem_toArray, List.getElem_cons_succ, List.getElem_cons_zero, List.setIfInBounds_toArray, List.set_cons_zero, List.set_cons_succ]
                    generalize hw : World.alloc _ _ = w_18
                    have B_18 := Lib.hid (show Bl wo w_18 from by rw [← hw]; exact Bl.alloc_ B_17.out _)
                    have hb : Bl w_17 w_18 := by rw [← hw]; exact Bl.alloc_ (Bl.refl _) _
                    have Z6_18 := Lib.hid (show BoolsAt w_18 (w_17.heap.size) (List.replicate 24 false) from by rw [← hw]; exact bools_new _)
                    have LO6 := Lib.hid (show wo.heap.size ≤ w_17.heap.size from (B_17.out : Bl wo _).size)
                    have NE := Lib.hid (show w_1.heap.size ≠ w_17.heap.size from Nat.ne_of_lt Z7_17.out.lt)
                    have Z7_18 := Lib.hid (Z7_17.out.bl hb)
                    clear hw hb
                    refine wpAnyH_ready (rs := [8]) (by kernel_rfl) (by simp) ?_
                    refine AllReadyH.cons rfl (fun K hK => ?_) AllReadyH.nil
                    rw [if_pos (by rfl)]
                    refine wp_store_mid _ _ _ rfl (w_17.heap.size) 0 (csB F).toArray rfl rfl (by simpa [csB_len, FL.out] using Z6_18.out.there_) (by simpa [csB_len, FL.out] using size24b) (csB_one _) ?_
                    simp only [Act.put, List.setIfInBounds_toArray, List.set_cons_zero, List.set_cons_succ, List.toList_toArray]
                    refine hK.out _ _ ?_ (fun hHeld => ?_)
                    · exact HSH.out _ (Bl.setCells_ (w_17.heap.size) LO6.out _ _ _ B_18.out)
                    clear hK K hHeld
                    try simp only [Act.put, List.getElem_toArray, List.getElem_cons_succ, List.getElem_cons_zero, List.setIfInBounds_toArray, List.set_cons_zero, List.set_cons_succ]
                    generalize hw : World.setCells _ _ _ _ = w_19_6
                    have B_19_6 := Lib.hid (show Bl wo w_19_6 from by rw [← hw]; exact Bl.setCells_ (w_17.heap.size) LO6.out _ _ _ B_18.out)
                    have Y6 := Lib.hid (show BoolsAt w_19_6 (w_17.heap.size) F from by rw [← hw]; exact BoolsAt.stored Z6_18.out FL.out)
                    have Z7_19 := Lib.hid (show BoolsAt w_19_6 (w_1.heap.size) (List.replicate 24 false) from by rw [← hw]; exact Z7_18.out.turn (Turn.setCells_ (S := fun i => i = w_17.heap.size) (w_17.heap.size) rfl _ _ _ (Turn.refl _ _)) NE.out)
                    clear hw
                    refine wpAnyH_ready (rs := [9]) (by kernel_rfl) (by simp) ?_
                    refine AllReadyH.cons rfl (fun K hK => ?_) AllReadyH.nil
                    rw [if_pos (by rfl)]
                    refine wp_store_mid _ _ _ rfl (w_1.heap.size) 0 (csB G).toArray rfl rfl (by simpa [csB_len, GL.out] using Z7_19.out.there_) (by simpa [csB_len, GL.out] using size24b) (csB_one _) ?_
                    simp only [Act.put, List.setIfInBounds_toArray, List.set_cons_zero, List.set_cons_succ, List.toList_toArray]
                    refine hK.out _ _ ?_ (fun hHeld => ?_)
                    · exact HSH.out _ (Bl.setCells_ (w_1.heap.size) LO7.out _ _ _ B_19_6.out)
                    clear hK K hHeld
                    try simp only [Act.put, List.getElem_toArray, List.getElem_cons_succ, List.getElem_cons_zero, List.setIfInBounds_toArray, List.set_cons_zero, List.set_cons_succ]
                    generalize hw : World.setCells _ _ _ _ = w_19_7
                    have B_19_7 := Lib.hid (show Bl wo w_19_7 from by rw [← hw]; exact Bl.setCells_ (w_1.heap.size) LO7.out _ _ _ B_19_6.out)
                    have Y7 := Lib.hid (show BoolsAt w_19_7 (w_1.heap.size) G from by rw [← hw]; exact BoolsAt.stored Z7_19.out GL.out)
                    have Y6' := Lib.hid (show BoolsAt w_19_7 (w_17.heap.size) F from by rw [← hw]; exact Y6.out.turn (Turn.setCells_ (S := fun i => i = w_1.heap.size) (w_1.heap.size) rfl _ _ _ (Turn.refl _ _)) NE.out.symm)
                    clear hw
                    refine wpAnyH_done (by kernel_rfl) ?_ _
                    go_wp2_with fail
                    go_meet
                    exact ⟨w_17.heap.size, w_1.heap.size, F, G, rfl, rfl, LO6.out, LO7.out, Y6'.out, Y7.out, FD.out, GD.out, B_19_7.out⟩
                · go_simp
                  refine hK.out _ _ ?_ (fun hHeld => ?_)
                  · exact HSH.out _ (Bl.alloc_ B_16.out _)
                  clear hK K hHeld
                  try simp only [Act.put, List.getElem_toArray, List.getElem_cons_succ, List.getElem_cons_zero, List.setIfInBounds_toArray, List.set_cons_zero, List.set_cons_succ]
                  generalize hw : World.alloc _ _ = w_20
                  have B_20 := Lib.hid (show Bl wo w_20 from by rw [← hw]; exact Bl.alloc_ B_16.out _)
                  have hb : Bl w_16 w_20 := by rw [← hw]; exact Bl.alloc_ (Bl.refl _) _
                  have Z6_20 := Lib.hid (show BoolsAt w_20 (w_16.heap.size) (List.replicate 24 false) from by rw [← hw]; exact bools_new _)
                  have LO6 := Lib.hid (show wo.heap.size ≤ w_16.heap.size from (B_16.out : Bl wo _).size)
                  have NE := Lib.hid (show w_1.heap.size ≠ w_16.heap.size from Nat.ne_of_lt Z7_16.out.lt)
                  have Z7_20 := Lib.hid (Z7_16.out.bl hb)
                  clear hw hb
                  refine wpAnyH_ready (rs := [5]) (by kernel_rfl) (by simp) ?_
                  refine AllReadyH.cons rfl (fun K hK => ?_) AllReadyH.nil
                  · go_simp
                    refine (reachedFrom_any q (k : Int) A2 l2 c2 (revL L) L2.out hc2 hl2 HRO.out j0 j1 _ (HRA.out.bl B_20.out)).mono ?_
                    rintro e w_21 ⟨G, rfl, hG, hGd, hb⟩
                    have GL := Lib.hid hG
                    have GD := Lib.hid hGd
                    clear hG hGd
                    have B_21 := Lib.hid (B_20.out.trans_ hb)
                    have Z6_21 := Lib.hid (Z6_20.out.bl hb)
                    have Z7_21 := Lib.hid (Z7_20.out.bl hb)
                    clear hb
                    try (go_wp2_with fail)
                    refine hK.out _ _ ?_ (fun hHeld => ?_)
                    · exact HSH.out _ B_21.out
                    clear hK K hHeld
                    try simp only [Act.put, List.getElem_toArray, List.getElem_cons_succ, List.getElem_cons_zero, List.setIfInBounds_toArray, List.set_cons_zero, List.set_cons_succ]
                    refine wpAnyH_ready (rs := [8]) (by kernel_rfl) (by simp) ?_
                    refine AllReadyH.cons rfl (fun K hK => ?_) AllReadyH.nil
                    rw [if_pos (by rfl)]
                    refine wp_store_mid _ _ _ rfl (w_16.heap.size) 0 (csB F).toArray rfl rfl (by simpa [csB_len, FL.out] using Z6_21.out.there_) (by simpa [csB_len, FL.out] using size24b) (csB_one _) ?_
                    simp only [Act.put, List.setIfInBounds_toArray, List.set_cons_zero, List.set_cons_succ, List.toList_toArray]
                    refine hK.out _ _ ?_ (fun hHeld => ?_)
                    · exact HSH.out _ (Bl.setCells_ (w_16.heap.size) LO6.out _ _ _ B_21.out)
                    clear hK K hHeld
                    try simp only [Act.put, List.getElem_toArray, List.getElem_cons_succ, List.getElem_cons_zero, List.setIfInBounds_toArray, List.set_cons_zero, List.set_cons_succ]
                    generalize hw : World.setCells _ _ _ _ = w_22_6
                    have B_22_6 := Lib.hid (show Bl wo w_22_6 from by rw [← hw]; exact Bl.setCells_ (w_16.heap.size) LO6.out _ _ _ B_21.out)
                    have Y6 := Lib.hid (show BoolsAt w_22_6 (w_16.heap.size) F from by rw [← hw]; exact BoolsAt.stored Z6_21.out FL.out)
                    have Z7_22 := Lib.hid (show BoolsAt w_22_6 (w_1.heap.size) (List.replicate 24 false) from by rw [← hw]; exact Z7_21.out.turn (Turn.setCells_ (S := fun i => i = w_16.heap.size) (w_16.heap.size) rfl _ _ _ (Turn.refl _ _)) NE.out)
                    clear hw
                    refine wpAnyH_ready (rs := [9]) (by kernel_rfl) (by simp) ?_
                    refine AllReadyH.cons rfl (fun K hK => ?_) AllReadyH.nil
                    rw [if_pos (by rfl)]
                    refine wp_store_mid _ _ _ rfl (w_1.heap.size) 0 (csB G).toArray rfl rfl (by simpa [csB_len, GL.out] using Z7_22.out.there_) (by simpa [csB_len, GL.out] using size24b) (csB_one _) ?_
                    simp only [Act.put, List.setIfInBounds_toArray, List.set_cons_zero, List.set_cons_succ, List.toList_toArray]
                    refine hK.out _ _ ?_ (fun hHeld => ?_)
                    · exact HSH.out _ (Bl.setCells_ (w_1.heap.size) LO7.out _ _ _ B_22_6.out)
                    clear hK K hHeld
                    try simp only [Act.put, List.getElem_toArray, List.getElem_cons_succ, List.getElem_cons_zero, List.setIfInBounds_toArray, List.set_cons_zero, List.set_cons_succ]
                    generalize hw : World.setCells _ _ _ _ = w_22_7
                    have B_22_7 := Lib.hid (show Bl wo w_22_7 from by rw [← hw]; exact Bl.setCells_ (w_1.heap.size) LO7.out _ _ _ B_22_6.out)
                    have Y7 := Lib.hid (show BoolsAt w_22_7 (w_1.heap.size) G from by rw [← hw]; exact BoolsAt.stored Z7_22.out GL.out)
                    have Y6' := Lib.hid (show BoolsAt w_22_7 (w_16.heap.size) F from by rw [← hw]; exact Y6.out.turn (Turn.setCells_ (S := fun i => i = w_1.heap.size) (w_1.heap.size) rfl _ _ _ (Turn.refl _ _)) NE.out.symm)
                    clear hw
                    refine wpAnyH_done (by kernel_rfl) ?_ _
                    go_wp2_with fail
                    go_meet
                    exact ⟨w_16.heap.size, w_1.heap.size, F, G, rfl, rfl, LO6.out, LO7.out, Y6'.out, Y7.out, FD.out, GD.out, B_22_7.out⟩
            · go_simp
              refine hK.out _ _ ?_ (fun hHeld => ?_)
              · exact HSH.out _ (by first | exact Bl.drew_ (Bl.alloc_ (Bl.refl wo) _) | exact Bl.alloc_ (Bl.drew_ (Bl.refl wo)) _)
              clear hK K hHeld
              try simp only [Act.put, List.getElem_toArray, List.getElem_cons_succ, List.getElem_cons_zero, List.setIfInBounds_toArray, List.set_cons_zero, List.set_cons_succ]
              generalize hw : World.drew (World.alloc _ _) = w_23
              have B_23 := Lib.hid (show Bl wo w_23 from by rw [← hw]; exact Bl.drew_ (Bl.alloc_ (Bl.refl wo) _))
              have hb : Bl wo w_23 := B_23.out
              have Z6_23 := Lib.hid (show BoolsAt w_23 (wo.heap.size) (List.replicate 24 false) from by rw [← hw]; exact (bools_new wo).bl (Bl.drew_ (Bl.refl _)))
              have LO6 := Lib.hid (show wo.heap.size ≤ wo.heap.size from ((Bl.drew_ (Bl.refl wo)) : Bl wo _).size)
              clear hw hb
              refine wpAnyH_ready (rs := [2, 7]) (by kernel_rfl) (by simp) ?_
              refine AllReadyH.cons rfl (fun K hK => ?_) (AllReadyH.cons rfl (fun K hK => ?_) AllReadyH.nil)
              · go_simp
                refine (reachedFrom_any q (k : Int) A n c L HN.out hc hm HO.out j0 j1 _ (K1.out.bl (BW.out.trans_ B_23.out))).mono ?_
                rintro e w_24 ⟨F, rfl, hF, hFd, hb⟩
                have FL := Lib.hid hF
                have FD := Lib.hid hFd
                clear hF hFd
                have B_24 := Lib.hid (B_23.out.trans_ hb)
                have Z6_24 := Lib.hid (Z6_23.out.bl hb)
                clear hb
                try (go_wp2_with fail)
                refine hK.out _ _ ?_ (fun hHeld => ?_)
                · exact HSH.out _ B_24.out
                clear hK K hHeld
                try simp only [Act.put, List.getElem_toArray, List.getElem_cons_succ, List.getElem_cons_zero, List.setIfInBounds_toArray, List.set_cons_zero, List.set_cons_succ]
                refine wpAnyH_ready (rs := [5, 7]) (by kernel_rfl) (by simp) ?_
                refine AllReadyH.cons rfl (fun K hK => ?_) (AllReadyH.cons rfl (fun K hK => ?_) AllReadyH.nil)
                · go_simp
                  refine (reachedFrom_any q (k : Int) A2 l2 c2 (revL L) L2.out hc2 hl2 HRO.out j0 j1 _ (HRA.out.bl B_24.out)).mono ?_
                  rintro e w_25 ⟨G, rfl, hG, hGd, hb⟩
                  have GL := Lib.hid hG
                  have GD := Lib.hid hGd
                  clear hG hGd
                  have B_25 := Lib.hid (B_24.out.trans_ hb)
                  have Z6_25 := Lib.hid (Z6_24.out.bl hb)
                  clear hb
                  try (go_wp2_with fail)
                  refine hK.out _ _ ?_ (fun hHeld => ?_)
                  · exact HSH.out _ B_25.out
                  clear hK K hHeld
                  try simp only [Act.put, List.getElem_toArray, List.getElem_cons_succ, List.getElem_cons_zero, List.setIfInBounds_toArray, List.set_cons_zero, List.set_cons_succ]
                  refine wpAnyH_ready (rs := [7]) (by kernel_rfl) (by simp) ?_
                  refine AllReadyH.cons rfl (fun K hK => ?_) AllReadyH.nil
                  · go_simp
                    refine hK.out _ _ ?_ (fun hHeld => ?_)
                    · exact HSH.out _ (Bl.alloc_ B_25.out _)
                    clear hK K hHeld
                    try simp only [Act.put, List.getElem_toArray, List.getElem_cons_succ, List.getElem_cons_zero, List.setIfInBounds_toArray, List.set_cons_zero, List.set_cons_succ]
                    generalize hw : World.alloc _ _ = w_26
                    have B_26 := Lib.hid (show Bl wo w_26 from by rw [← hw]; exact Bl.alloc_ B_25.out _)
                    have hb : Bl w_25 w_26 := by rw [← hw]; exact Bl.alloc_ (Bl.refl _) _
                    have Z7_26 := Lib.hid (show BoolsAt w_26 (w_25.heap.size) (List.replicate 24 false) from by rw [← hw]; exact bools_new _)
                    have LO7 := Lib.hid (show wo.heap.size ≤ w_25.heap.size from (B_25.out : Bl wo _).size)
                    have NE := Lib.hid (show wo.heap.size ≠ w_25.heap.size from Nat.ne_of_lt Z6_25.out.lt)
                    have Z6_26 := Lib.hid (Z6_25.out.bl hb)
                    clear hw hb
                    refine wpAnyH_ready (rs := [8]) (by kernel_rfl) (by simp) ?_
                    refine AllReadyH.cons rfl (fun K hK => ?_) AllReadyH.nil
                    rw [if_pos (by rfl)]
                    refine wp_store_mid _ _ _ rfl (wo.heap.size) 0 (csB F).toArray rfl rfl (by simpa [csB_len, FL.out] using Z6_26.out.there_) (by simpa [csB_len, FL.out] using size24b) (csB_one _) ?_
                    simp only [Act.put, List.setIfInBounds_toArray, List.set_cons_zero, List.set_cons_succ, List.toList_toArray]
                    refine hK.out _ _ ?_ (fun hHeld => ?_)
                    · exact HSH.out _ (Bl.setCells_ (wo.heap.size) LO6.out _ _ _ B_26.out)
                    clear hK K hHeld
                    try simp only [Act.put, List.getElem_toArray, List.getElem_cons_succ, List.getElem_cons_zero, List.setIfInBounds_toArray, List.set_cons_zero, List.set_cons_succ]
                    generalize hw : World.setCells _ _ _ _ = w_27_6
                    have B_27_6 := Lib.hid (show Bl wo w_27_6 from by rw [← hw]; exact Bl.setCells_ (wo.heap.size) LO6.out _ _ _ B_26.out)
                    have Y6 := Lib.hid (show BoolsAt w_27_6 (wo.heap.size) F from by rw [← hw]; exact BoolsAt.stored Z6_26.out FL.out)
                    have Z7_27 := Lib.hid (show BoolsAt w_27_6 (w_25.heap.size) (List.replicate 24 false) from by rw [← hw]; exact Z7_26.out.turn (Turn.setCells_ (S := fun i => i = wo.heap.size) (wo.heap.size) rfl _ _ _ (Turn.refl _ _)) NE.out.symm)
                    clear hw
                    refine wpAnyH_ready (rs := [9]) (by kernel_rfl) (by simp) ?_
                    refine AllReadyH.cons rfl (fun K hK => ?_) AllReadyH.nil
                    rw [if_pos (by rfl)]
                    refine wp_store_mid _ _ _ rfl (w_25.heap.size) 0 (csB G).toArray rfl rfl (by simpa [csB_len, GL.out] using Z7_27.out.there_) (by simpa [csB_len, GL.out] using size24b) (csB_one _) ?_
                    simp only [Act.put, List.setIfInBounds_toArray, List.set_cons_zero, List.set_cons_succ, List.toList_toArray]
                    refine hK.out _ _ ?_ (fun hHeld => ?_)
                    · exact HSH.out _ (Bl.setCells_ (w_25.heap.size) LO7.out _ _ _ B_27_6.out)
                    clear hK K hHeld
                    try simp only [Act.put, List.getElem_toArray, List.getElem_cons_succ, List.getElem_cons_zero, List.setIfInBounds_toArray, List.set_cons_zero, List.set_cons_succ]
                    generalize hw : World.setCells _ _ _ _ = w_27_7
                    have B_27_7 := Lib.hid (show Bl wo w_27_7 from by rw [← hw]; exact Bl.setCells_ (w_25.heap.size) LO7.out _ _ _ B_27_6.out)
                    have Y7 := Lib.hid (show BoolsAt w_27_7 (w_25.heap.size) G from by rw [← hw]; exact BoolsAt.stored Z7_27.out GL.out)
                    have Y6' := Lib.hid (show BoolsAt w_27_7 (wo.heap.size) F from by rw [← hw]; exact Y6.out.turn (Turn.setCells_ (S := fun i => i = w_25.heap.size) (w_25.heap.size) rfl _ _ _ (Turn.refl _ _)) NE.out)
                    clear hw
                    refine wpAnyH_done (by kernel_rfl) ?_ _
                    go_wp2_with fail
                    go_meet
                    exact ⟨wo.heap.size, w_25.heap.size, F, G, rfl, rfl, LO6.out, LO7.out, Y6'.out, Y7.out, FD.out, GD.out, B_27_7.out⟩
                · go_simp
                  refine hK.out _ _ ?_ (fun hHeld => ?_)
                  · exact HSH.out _ (Bl.alloc_ B_24.out _)
                  clear hK K hHeld
                  try simp only [Act.put, List.getElem_toArray, List.getElem_cons_succ, List.getElem_cons_zero, List.setIfInBounds_toArray, List.set_cons_zero, List.set_cons_succ]
                  generalize hw : World.alloc _ _ = w_28
                  have B_28 := Lib.hid (show Bl wo w_28 from by rw [← hw]; exact Bl.alloc_ B_24.out _)
                  have hb : Bl w_24 w_28 := by rw [← hw]; exact Bl.alloc_ (Bl.refl _) _
                  have Z7_28 := Lib.hid (show BoolsAt w_28 (w_24.heap.size) (List.replicate 24 false) from by rw [← hw]; exact bools_new _)
                  have LO7 := Lib.hid (show wo.heap.size ≤ w_24.heap.size from (B_24.out : Bl wo _).size)
                  have NE := Lib.hid (show wo.heap.size ≠ w_24.heap.size from Nat.ne_of_lt Z6_24.out.lt)
                  have Z6_28 := Lib.hid (Z6_24.out.bl hb)
                  clear hw hb
                  refine wpAnyH_ready (rs := [5]) (by kernel_rfl) (by simp) ?_
                  refine AllReadyH.cons rfl (fun K hK => ?_) AllReadyH.nil
                  · go_simp
                    refine (reachedFrom_any q (k : Int) A2 l2 c2 (revL L) L2.out hc2 hl2 HRO.out j0 j1 _ (HRA.out.bl B_28.out)).mono ?_
                    rintro e w_29 ⟨G, rfl, hG, hGd, hb⟩
                    have GL := Lib.hid hG
                    have GD := Lib.hid hGd
                    clear hG hGd
                    have B_29 := Lib.hid (B_28.out.trans_ hb)
                    have Z6_29 := Lib.hid (Z6_28.out.bl hb)
                    have Z7_29 := Lib.hid (Z7_28.out.bl hb)
                    clear hb
                    try (go_wp2_with fail)
                    refine hK.out _ _ ?_ (fun hHeld => ?_)
                    · exact HSH.out _ B_29.out
                    clear hK K hHeld
                    try simp only [Act.put, List.getElem_toArray, List.getElem_cons_succ, List.getElem_cons_zero, List.setIfInBounds_toArray, List.set_cons_zero, List.set_cons_succ]
                    refine wpAnyH_ready (rs := [8]) (by kernel_rfl) (by simp) ?_
                    refine AllReadyH.cons rfl (fun K hK => ?_) AllReadyH.nil
                    rw [if_pos (by rfl)]
                    refine wp_store_mid _ _ _ rfl (wo.heap.size) 0 (csB F).toArray rfl rfl (by simpa [csB_len, FL.out] using Z6_29.out.there_) (by simpa [csB_len, FL.out] using size24b) (csB_one _) ?_
                    simp only [Act.put, List.setIfInBounds_toArray, List.set_cons_zero, List.set_cons_succ, List.toList_toArray]
                    refine hK.out _ _ ?_ (fun hHeld => ?_)
                    · exact HSH.out _ (Bl.setCells_ (wo.heap.size) LO6.out _ _ _ B_29.out)
                    clear hK K hHeld
                    try simp only [Act.put, List.getElem_toArray, List.getElem_cons_succ, List.getElem_cons_zero, List.setIfInBounds_toArray, List.set_cons_zero, List.set_cons_succ]
                    generalize hw : World.setCells _ _ _ _ = w_30_6
                    have B_30_6 := Lib.hid (show Bl wo w_30_6 from by rw [← hw]; exact Bl.setCells_ (wo.heap.size) LO6.out _ _ _ B_29.out)
                    have Y6 := Lib.hid (show BoolsAt w_30_6 (wo.heap.size) F from by rw [← hw]; exact BoolsAt.stored Z6_29.out FL.out)
                    have Z7_30 := Lib.hid (show BoolsAt w_30_6 (w_24.heap.size) (List.replicate 24 false) from by rw [← hw]; exact Z7_29.out.turn (Turn.setCells_ (S := fun i => i = wo.heap.size) (wo.heap.size) rfl _ _ _ (Turn.refl _ _)) NE.out.symm)
                    clear hw
                    refine wpAnyH_ready (rs := [9]) (by kernel_rfl) (by simp) ?_
                    refine AllReadyH.cons rfl (fun K hK => ?_) AllReadyH.nil
                    rw [if_pos (by rfl)]
                    refine wp_store_mid _ _ _ rfl (w_24.heap.size) 0 (csB G).toArray rfl rfl (by simpa [csB_len, GL.out] using Z7_30.out.there_) (by simpa [csB_len, GL.out] using size24b) (csB_one _) ?_
                    simp only [Act.put, List.setIfInBounds_toArray, List.set_cons_zero, List.set_cons_succ, List.toList_toArray]
                    refine hK.out _ _ ?_ (fun hHeld => ?_)
                    · exact HSH.out _ (Bl.setCells_ (w_24.heap.size) LO7.out _ _ _ B_30_6.out)
                    clear hK K hHeld
                    try simp only [Act.put, List.getElem_toArray, List.getElem_cons_succ, List.getElem_cons_zero, List.setIfInBounds_toArray, List.set_cons_zero, List.set_cons_succ]
                    generalize hw : World.setCells _ _ _ _ = w_30_7
                    have B_30_7 := Lib.hid (show Bl wo w_30_7 from by rw [← hw]; exact Bl.setCells_ (w_24.heap.size) LO7.out _ _ _ B_30_6.out)
                    have Y7 := Lib.hid (show BoolsAt w_30_7 (w_24.heap.size) G from by rw [← hw]; exact BoolsAt.stored Z7_30.out GL.out)
                    have Y6' := Lib.hid (show BoolsAt w_30_7 (wo.heap.size) F from by rw [← hw]; exact Y6.out.turn (Turn.setCells_ (S := fun i => i = w_24.heap.size) (w_24.heap.size) rfl _ _ _ (Turn.refl _ _)) NE.out)
                    clear hw
                    refine wpAnyH_done (by kernel_rfl) ?_ _
                    go_wp2_with fail
                    go_meet
                    exact ⟨wo.heap.size, w_24.heap.size, F, G, rfl, rfl, LO6.out, LO7.out, Y6'.out, Y7.out, FD.out, GD.out, B_30_7.out⟩
              · go_simp
                refine hK.out _ _ ?_ (fun hHeld => ?_)
                · exact HSH.out _ (Bl.alloc_ B_23.out _)
                clear hK K hHeld
                try simp only [Act.put, List.getElem_toArray, List.getElem_cons_succ, List.getElem_cons_zero, List.setIfInBounds_toArray, List.set_cons_zero, List.set_cons_succ]
                generalize hw : World.alloc _ _ = w_31
                have B_31 := Lib.hid (show Bl wo w_31 from by rw [← hw]; exact Bl.alloc_ B_23.out _)
                have hb : Bl w_23 w_31 := by rw [← hw]; exact Bl.alloc_ (Bl.refl _) _
                have Z7_31 := Lib.hid (show BoolsAt w_31 (w_23.heap.size) (List.replicate 24 false) from by rw [← hw]; exact bools_new _)
                have LO7 := Lib.hid (show wo.heap.size ≤ w_23.heap.size from (B_23.out : Bl wo _).size)
                have NE := Lib.hid (show wo.heap.size ≠ w_23.heap.size from Nat.ne_of_lt Z6_23.out.lt)
                have Z6_31 := Lib.hid (Z6_23.out.bl hb)
                clear hw hb
                refine wpAnyH_ready (rs := [2]) (by kernel_rfl) (by simp) ?_
                refine AllReadyH.cons rfl (fun K hK => ?_) AllReadyH.nil
                · go_simp
                  refine (reachedFrom_any q (k : Int) A n c L HN.out hc hm HO.out j0 j1 _ (K1.out.bl (BW.out.trans_ B_31.out))).mono ?_
                  rintro e w_32 ⟨F, rfl, hF, hFd, hb⟩
                  have FL := Lib.hid hF
                  have FD := Lib.hid hFd
                  clear hF hFd
                  have B_32 := Lib.hid (B_31.out.trans_ hb)
                  have Z6_32 := Lib.hid (Z6_31.out.bl hb)
                  have Z7_32 := Lib.hid (Z7_31.out.bl hb)
                  clear hb
                  try (go_wp2_with fail)
                  refine hK.out _ _ ?_ (fun hHeld => ?_)
                  · exact HSH.out _ B_32.out
                  clear hK K hHeld
                  try simp only [Act.put, List.getElem_toArray, List.getElem_cons_succ, List.getElem_cons_zero, List.setIfInBounds_toArray, List.set_cons_zero, List.set_cons_succ]
                  refine wpAnyH_ready (rs := [5]) (by kernel_rfl) (by simp) ?_
                  refine AllReadyH.cons rfl (fun K hK => ?_) AllReadyH.nil
                  · go_simp
                    refine (reachedFrom_any q (k : Int) A2 l2 c2 (revL L) L2.out hc2 hl2 HRO.out j0 j1 _ (HRA.out.bl B_32.out)).mono ?_
                    rintro e w_33 ⟨G, rfl, hG, hGd, hb⟩
                    have GL := Lib.hid hG
                    have GD := Lib.hid hGd
                    clear hG hGd
                    have B_33 := Lib.hid (B_32.out.trans_ hb)
                    have Z6_33 := Lib.hid (Z6_32.out.bl hb)
                    have Z7_33 := Lib.hid (Z7_32.out.bl hb)
                    clear hb
                    try (go_wp2_with fail)
                    refine hK.out _ _ ?_ (fun hHeld => ?_)
                    · exact HSH.out _ B_33.out
                    clear hK K hHeld
                    try simp only [Act.put, List.getElem_toArray, List.getElem_cons_succ, List.getElem_cons_zero, List.setIfInBounds_toArray, List.set_cons_zero, List.set_cons_succ]
                    refine wpAnyH_ready (rs := [8]) (by kernel_rfl) (by simp) ?_
                    refine AllReadyH.cons rfl (fun K hK => ?_) AllReadyH.nil
                    rw [if_pos (by rfl)]
                    refine wp_store_mid _ _ _ rfl (wo.heap.size) 0 (csB F).toArray rfl rfl (by simpa [csB_len, FL.out] using Z6_33.out.there_) (by simpa [csB_len, FL.out] using size24b) (csB_one _) ?_
                    simp only [Act.put, List.setIfInBounds_toArray, List.set_cons_zero, List.set_cons_succ, List.toList_toArray]
                    refine hK.out _ _ ?_ (fun hHeld => ?_)
                    · exact HSH.out _ (Bl.setCells_ (wo.heap.size) LO6.out _ _ _ B_33.out)
                    clear hK K hHeld
                    try simp only [Act.put, List.getElem_toArray, List.getElem_cons_succ, List.getElem_cons_zero, List.setIfInBounds_toArray, List.set_cons_zero, List.set_cons_succ]
                    generalize hw : World.setCells _ _ _ _ = w_34_6
                    have B_34_6 := Lib.hid (show Bl wo w_34_6 from by rw [← hw]; exact Bl.setCells_ (wo.heap.size) LO6.out _ _ _ B_33.out)
                    have Y6 := Lib.hid (show BoolsAt w_34_6 (wo.heap.size) F from by rw [← hw]; exact BoolsAt.stored Z6_33.out FL.out)
                    have Z7_34 := Lib.hid (show BoolsAt w_34_6 (w_23.heap.size) (List.replicate 24 false) from by rw [← hw]; exact Z7_33.out.turn (Turn.setCells_ (S := fun i => i = wo.heap.size) (wo.heap.size) rfl _ _ _ (Turn.refl _ _)) NE.out.symm)
                    clear hw
                    refine wpAnyH_ready (rs := [9]) (by kernel_rfl) (by simp) ?_
                    refine AllReadyH.cons rfl (fun K hK => ?_) AllReadyH.nil
                    rw [if_pos (by rfl)]
                    refine wp_store_mid _ _ _ rfl (w_23.heap.size) 0 (csB G).toArray rfl rfl (by simpa [csB_len, GL.out] using Z7_34.out.there_) (by simpa [csB_len, GL.out] using size24b) (csB_one _) ?_
                    simp only [Act.put, List.setIfInBounds_toArray, List.set_cons_zero, List.set_cons_succ, List.toList_toArray]
                    refine hK.out _ _ ?_ (fun hHeld => ?_)
                    · exact HSH.out _ (Bl.setCells_ (w_23.heap.size) LO7.out _ _ _ B_34_6.out)
                    clear hK K hHeld
                    try simp only [Act.put, List.getElem_toArray, List.getElem_cons_succ, List.getElem_cons_zero, List.setIfInBounds_toArray, List.set_cons_zero, List.set_cons_succ]
                    generalize hw : World.setCells _ _ _ _ = w_34_7
                    have B_34_7 := Lib.hid (show Bl wo w_34_7 from by rw [← hw]; exact Bl.setCells_ (w_23.heap.size) LO7.out _ _ _ B_34_6.out)
                    have Y7 := Lib.hid (show BoolsAt w_34_7 (w_23.heap.size) G from by rw [← hw]; exact BoolsAt.stored Z7_34.out GL.out)
                    have Y6' := Lib.hid (show BoolsAt w_34_7 (wo.heap.size) F from by rw [← hw]; exact Y6.out.turn (Turn.setCells_ (S := fun i => i = w_23.heap.size) (w_23.heap.size) rfl _ _ _ (Turn.refl _ _)) NE.out)
                    clear hw
                    refine wpAnyH_done (by kernel_rfl) ?_ _
                    go_wp2_with fail
                    go_meet
                    exact ⟨wo.heap.size, w_23.heap.size, F, G, rfl, rfl, LO6.out, LO7.out, Y6'.out, Y7.out, FD.out, GD.out, B_34_7.out⟩
            · go_simp
              refine hK.out _ _ ?_ (fun hHeld => ?_)
              · exact HSH.out _ (by first | exact Bl.drew_ (Bl.alloc_ (Bl.refl wo) _) | exact Bl.alloc_ (Bl.drew_ (Bl.refl wo)) _)
              clear hK K hHeld
              try simp only [Act.put, List.getElem_toArray, List.getElem_cons_succ, List.getElem_cons_zero, List.setIfInBounds_toArray, List.set_cons_zero, List.set_cons_succ]
              generalize hw : World.drew (World.alloc _ _) = w_35
              have B_35 := Lib.hid (show Bl wo w_35 from by rw [← hw]; exact Bl.drew_ (Bl.alloc_ (Bl.refl wo) _))
              have hb : Bl wo w_35 := B_35.out
              have Z7_35 := Lib.hid (show BoolsAt w_35 (wo.heap.size) (List.replicate 24 false) from by rw [← hw]; exact (bools_new wo).bl (Bl.drew_ (Bl.refl _)))
              have LO7 := Lib.hid (show wo.heap.size ≤ wo.heap.size from ((Bl.drew_ (Bl.refl wo)) : Bl wo _).size)
              clear hw hb
              refine wpAnyH_ready (rs := [2, 6]) (by kernel_rfl) (by simp) ?_
              refine AllReadyH.cons rfl (fun K hK => ?_) (AllReadyH.cons rfl (fun K hK => ?_) AllReadyH.nil)
              · go_simp
                refine (reachedFrom_any q (k : Int) A n c L HN.out hc hm HO.out j0 j1 _ (K1.out.bl (BW.out.trans_ B_35.out))).mono ?_
                rintro e w_36 ⟨F, rfl, hF, hFd, hb⟩
                have FL := Lib.hid hF
                have FD := Lib.hid hFd
                clear hF hFd
                have B_36 := Lib.hid (B_35.out.trans_ hb)
                have Z7_36 := Lib.hid (Z7_35.out.bl hb)
                clear hb
                try (go_wp2_with fail)
                refine hK.out _ _ ?_ (fun hHeld => ?_)
                · exact HSH.out _ B_36.out
                clear hK K hHeld
                try simp only [Act.put, List.getElem_toArray, List.getElem_cons_succ, List.getElem_cons_zero, List.setIfInBounds_toArray, List.set_cons_zero, List.set_cons_succ]
                refine wpAnyH_ready (rs := [5, 6]) (by kernel_rfl) (by simp) ?_
                refine AllReadyH.cons rfl (fun K hK => ?_) (AllReadyH.cons rfl (fun K hK => ?_) AllReadyH.nil)
                · go_simp
                  refine (reachedFrom_any q (k : Int) A2 l2 c2 (revL L) L2.out hc2 hl2 HRO.out j0 j1 _ (HRA.out.bl B_36.out)).mono ?_
                  rintro e w_37 ⟨G, rfl, hG, hGd, hb⟩
                  have GL := Lib.hid hG
                  have GD := Lib.hid hGd
                  clear hG hGd
                  have B_37 := Lib.hid (B_36.out.trans_ hb)
                  have Z7_37 := Lib.hid (Z7_36.out.bl hb)
                  clear hb
                  try (go_wp2_with fail)
                  refine hK.out _ _ ?_ (fun hHeld => ?_)
                  · exact HSH.out _ B_37.out
                  clear hK K hHeld
                  try simp only [Act.put, List.getElem_toArray, List.getElem_cons_succ, List.getElem_cons_zero, List.setIfInBounds_toArray, List.set_cons_zero, List.set_cons_succ]
                  refine wpAnyH_ready (rs := [6]) (by kernel_rfl) (by simp) ?_
                  refine AllReadyH.cons rfl (fun K hK => ?_) AllReadyH.nil
                  · go_simp
                    refine hK.out _ _ ?_ (fun hHeld => ?_)
                    · exact HSH.out _ (Bl.alloc_ B_37.out _)
                    clear hK K hHeld
                    try simp only [Act.put, List.getElem_toArray, List.getElem_cons_succ, List.getElem_cons_zero, List.setIfInBounds_toArray, List.set_cons_zero, List.set_cons_succ]
                    generalize hw : World.alloc _ _ = w_38
                    have B_38 := Lib.hid (show Bl wo w_38 from by rw [← hw]; exact Bl.alloc_ B_37.out _)
                    have hb : Bl w_37 w_38 := by rw [← hw]; exact Bl.alloc_ (Bl.refl _) _
                    have Z6_38 := Lib.hid (show BoolsAt w_38 (w_37.heap.size) (List.replicate 24 false) from by rw [← hw]; exact bools_new _)
                    have LO6 := Lib.hid (show wo.heap.size ≤ w_37.heap.size from (B_37.out : Bl wo _).size)
                    have NE := Lib.hid (show wo.heap.size ≠ w_37.heap.size from Nat.ne_of_lt Z7_37.out.lt)
                    have Z7_38 := Lib.hid (Z7_37.out.bl hb)
                    clear hw hb
                    refine wpAnyH_ready (rs := [8]) (by kernel_rfl) (by simp) ?_
                    refine AllReadyH.cons rfl (fun K hK => ?_) AllReadyH.nil
                    rw [if_pos (by rfl)]
                    refine wp_store_mid _ _ _ rfl (w_37.heap.size) 0 (csB F).toArray rfl rfl (by simpa [csB_len, FL.out] using Z6_38.out.there_) (by simpa [csB_len, FL.out] using size24b) (csB_one _) ?_
                    simp only [Act.put, List.setIfInBounds_toArray, List.set_cons_zero, List.set_cons_succ, List.toList_toArray]
                    refine hK.out _ _ ?_ (fun hHeld => ?_)
                    · exact HSH.out _ (Bl.setCells_ (w_37.heap.size) LO6.out _ _ _ B_38.out)
                    clear hK K hHeld
                    try simp only [Act.put, List.getElem_toArray, List.getElem_cons_succ, List.getElem_cons_zero, List.setIfInBounds_toArray, List.set_cons_zero, List.set_cons_succ]
                    generalize hw : World.setCells _ _ _ _ = w_39_6
                    have B_39_6 := Lib.hid (show Bl wo w_39_6 from by rw [← hw]; exact Bl.setCells_ (w_37.heap.size) LO6.out _ _ _ B_38.out)
                    have Y6 := Lib.hid (show BoolsAt w_39_6 (w_37.heap.size) F from by rw [← hw]; exact BoolsAt.stored Z6_38.out FL.out)
                    have Z7_39 := Lib.hid (show BoolsAt w_39_6 (wo.heap.size) (List.replicate 24 false) from by rw [← hw]; exact Z7_38.out.turn (Turn.setCells_ (S := fun i => i = w_37.heap.size) (w_37.heap.size) rfl _ _ _ (Turn.refl _ _)) NE.out)
                    clear hw
                    refine wpAnyH_ready (rs := [9]) (by kernel_rfl) (by simp) ?_
                    refine AllReadyH.cons rfl (fun K hK => ?_) AllReadyH.nil
                    rw [if_pos (by rfl)]
                    refine wp_store_mid _ _ _ rfl (wo.heap.size) 0 (csB G).toArray rfl rfl (by simpa [csB_len, GL.out] using Z7_39.out.there_) (by simpa [csB_len, GL.out] using size24b) (csB_one _) ?_
                    simp only [Act.put, List.setIfInBounds_toArray, List.set_cons_zero, List.set_cons_succ, List.toList_toArray]
                    refine hK.out _ _ ?_ (fun hHeld => ?_)
                    · exact HSH.out _ (Bl.setCells_ (wo.heap.size) LO7.out _ _ _ B_39_6.out)
                    clear hK K hHeld
                    try simp only [Act.put, List.getElem_toArray, List.getElem_cons_succ, List.getElem_cons_zero, List.setIfInBounds_toArray, List.set_cons_zero, List.set_cons_succ]
                    generalize hw : World.setCells _ _ _ _ = w_39_7
                    have B_39_7 := Lib.hid (show Bl wo w_39_7 from by rw [← hw]; exact Bl.setCells_ (wo.heap.size) LO7.out _ _ _ B_39_6.out)
                    have Y7 := Lib.hid (show BoolsAt w_39_7 (wo.heap.size) G from by rw [← hw]; exact BoolsAt.stored Z7_39.out GL.out)
                    have Y6' := Lib.hid (show BoolsAt w_39_7 (w_37.heap.size) F from by rw [← hw]; exact Y6.out.turn (Turn.setCells_ (S := fun i => i = wo.heap.size) (wo.heap.size) rfl _ _ _ (Turn.refl _ _)) NE.out.symm)
                    clear hw
                    refine wpAnyH_done (by kernel_rfl) ?_ _
                    go_wp2_with fail
                    go_meet
                    exact ⟨w_37.heap.size, wo.heap.size, F, G, rfl, rfl, LO6.out, LO7.out, Y6'.out, Y7.out, FD.out, GD.out, B_39_7.out⟩
                · go_simp
                  refine hK.out _ _ ?_ (fun hHeld => ?_)
                  · exact HSH.out _ (Bl.alloc_ B_36.out _)
                  clear hK K hHeld
                  try simp only [Act.put, List.getElem_toArray, List.getElem_cons_succ, List.getElem_cons_zero, List.setIfInBounds_toArray, List.set_cons_zero, List.set_cons_succ]
                  generalize hw : World.alloc _ _ = w_40
                  have B_40 := Lib.hid (show Bl wo w_40 from by rw [← hw]; exact Bl.alloc_ B_36.out _)
                  have hb : Bl w_36 w_40 := by rw [← hw]; exact Bl.alloc_ (Bl.refl _) _
                  have Z6_40 := Lib.hid (show BoolsAt w_40 (w_36.heap.size) (List.replicate 24 false) from by rw [← hw]; exact bools_new _)
                  have LO6 := Lib.hid (show wo.heap.size ≤ w_36.heap.size from (B_36.out : Bl wo _).size)
                  have NE := Lib.hid (show wo.heap.size ≠ w_36.heap.size from Nat.ne_of_lt Z7_36.out.lt)
                  have Z7_40 := Lib.hid (Z7_36.out.bl hb)
                  clear hw hb
                  refine wpAnyH_ready (rs := [5]) (by kernel_rfl) (by simp) ?_
                  refine AllReadyH.cons rfl (fun K hK => ?_) AllReadyH.nil
                  · go_simp
                    refine (reachedFrom_any q (k : Int) A2 l2 c2 (revL L) L2.out hc2 hl2 HRO.out j0 j1 _ (HRA.out.bl B_40.out)).mono ?_
                    rintro e w_41 ⟨G, rfl, hG, hGd, hb⟩
                    have GL := Lib.hid hG
                    have GD := Lib.hid hGd
                    clear hG hGd
                    have B_41 := Lib.hid (B_40.out.trans_ hb)
                    have Z6_41 := Lib.hid (Z6_40.out.bl hb)
                    have Z7_41 := Lib.hid (Z7_40.out.bl hb)
                    clear hb
                    try (go_wp2_with fail)
                    refine hK.out _ _ ?_ (fun hHeld => ?_)
                    · exact HSH.out _ B_41.out
                    clear hK K hHeld
                    try simp only [Act.put, List.getElem_toArray, List.getElem_cons_succ, List.getElem_cons_zero, List.setIfInBounds_toArray, List.set_cons_zero, List.set_cons_succ]
                    refine wpAnyH_ready (rs := [8]) (by kernel_rfl) (by simp) ?_
                    refine AllReadyH.cons rfl (fun K hK => ?_) AllReadyH.nil
                    rw [if_pos (by rfl)]
                    refine wp_store_mid _ _ _ rfl (w_36.heap.size) 0 (csB F).toArray rfl rfl (by simpa [csB_len, FL.out] using Z6_41.out.there_) (by simpa [csB_len, FL.out] using size24b) (csB_one _) ?_
                    simp only [Act.put, List.setIfInBounds_toArray, List.set_cons_zero, List.set_cons_succ, List.toList_toArray]
                    refine hK.out _ _ ?_ (fun hHeld => ?_)
                    · exact HSH.out _ (Bl.setCells_ (w_36.heap.size) LO6.out _ _ _ B_41.out)
                    clear hK K hHeld
                    try simp only [Act.put, List.getElem_toArray, List.getElem_cons_succ, List.getElem_cons_zero, List.setIfInBounds_toArray, List.set_cons_zero, List.set_cons_succ]
                    generalize hw : World.setCells _ _ _ _ = w_42_6
                    have B_42_6 := Lib.hid (show Bl wo w_42_6 from by rw [← hw]; exact Bl.setCells_ (w_36.heap.size) LO6.out _ _ _ B_41.out)
                    have Y6 := Lib.hid (show BoolsAt w_42_6 (w_36.heap.size) F from by rw [← hw]; exact BoolsAt.stored Z6_41.out FL.out)
                    have Z7_42 := Lib.hid (show BoolsAt w_42_6 (wo.heap.size) (List.replicate 24 false) from by rw [← hw]; exact Z7_41.out.turn (Turn.setCells_ (S := fun i => i = w_36.heap.size) (w_36.heap.size) rfl _ _ _ (Turn.refl _ _)) NE.out)
                    clear hw
                    refine wpAnyH_ready (rs := [9]) (by kernel_rfl) (by simp) ?_
                    refine AllReadyH.cons rfl (fun K hK => ?_) AllReadyH.nil
                    rw [if_pos (by rfl)]
                    refine wp_store_mid _ _ _ rfl (wo.heap.size) 0 (csB G).toArray rfl rfl (by simpa [csB_len, GL.out] using Z7_42.out.there_) (by simpa [csB_len, GL.out] using size24b) (csB_one _) ?_
                    simp only [Act.put, List.setIfInBounds_toArray, List.set_cons_zero, List.set_cons_succ, List.toList_toArray]
                    refine hK.out _ _ ?_ (fun hHeld => ?_)
                    · exact HSH.out _ (Bl.setCells_ (wo.heap.size) LO7.out _ _ _ B_42_6.out)
                    clear hK K hHeld
                    try simp only [Act.put, List.getElem_toArray, List.getElem_cons_succ, List.getElem_cons_zero, List.setIfInBounds_toArray, List.set_cons_zero, List.set_cons_succ]
                    generalize hw : World.setCells _ _ _ _ = w_42_7
                    have B_42_7 := Lib.hid (show Bl wo w_42_7 from by rw [← hw]; exact Bl.setCells_ (wo.heap.size) LO7.out _ _ _ B_42_6.out)
                    have Y7 := Lib.hid (show BoolsAt w_42_7 (wo.heap.size) G from by rw [← hw]; exact BoolsAt.stored Z7_42.out GL.out)
                    have Y6' := Lib.hid (show BoolsAt w_42_7 (w_36.heap.size) F from by rw [← hw]; exact Y6.out.turn (Turn.setCells_ (S := fun i => i = wo.heap.size) (wo.heap.size) rfl _ _ _ (Turn.refl _ _)) NE.out.symm)
                    clear hw
                    refine wpAnyH_done (by kernel_rfl) ?_ _
                    go_wp2_with fail
                    go_meet
                    exact ⟨w_36.heap.size, wo.heap.size, F, G, rfl, rfl, LO6.out, LO7.out, Y6'.out, Y7.out, FD.out, GD.out, B_42_7.out⟩
              · go_simp
                refine hK.out _ _ ?_ (fun hHeld => ?_)
                · exact HSH.out _ (Bl.alloc_ B_35.out _)
                clear hK K hHeld
                try simp only [Act.put, List.getElem_toArray, List.getElem_cons_succ, List.getElem_cons_zero, List.setIfInBounds_toArray, List.set_cons_zero, List.set_cons_succ]
                generalize hw : World.alloc _ _ = w_43
                have B_43 := Lib.hid (show Bl wo w_43 from by rw [← hw]; exact Bl.alloc_ B_35.out _)
                have hb : Bl w_35 w_43 := by rw [← hw]; exact Bl.alloc_ (Bl.refl _) _
                have Z6_43 := Lib.hid (show BoolsAt w_43 (w_35.heap.size) (List.replicate 24 false) from by rw [← hw]; exact bools_new _)
                have LO6 := Lib.hid (show wo.heap.size ≤ w_35.heap.size from (B_35.out : Bl wo _).size)
                have NE := Lib.hid (show wo.heap.size ≠ w_35.heap.size from Nat.ne_of_lt Z7_35.out.lt)
                have Z7_43 := Lib.hid (Z7_35.out.bl hb)
                clear hw hb
                refine wpAnyH_ready (rs := [2]) (by kernel_rfl) (by simp) ?_
                refine AllReadyH.cons rfl (fun K hK => ?_) AllReadyH.nil
                · go_simp
                  refine (reachedFrom_any q (k : Int) A n c L HN.out hc hm HO.out j0 j1 _ (K1.out.bl (BW.out.trans_ B_43.out))).mono ?_
                  rintro e w_44 ⟨F, rfl, hF, hFd, hb⟩
                  have FL := Lib.hid hF
                  have FD := Lib.hid hFd
                  clear hF hFd
                  have B_44 := Lib.hid (B_43.out.trans_ hb)
                  have Z6_44 := Lib.hid (Z6_43.out.bl hb)
                  have Z7_44 := Lib.hid (Z7_43.out.bl hb)
                  clear hb
                  try (go_wp2_with fail)
                  refine hK.out _ _ ?_ (fun hHeld => ?_)
                  · exact HSH.out _ B_44.out
                  clear hK K hHeld
                  try simp only [Act.put, List.getElem_toArray, List.getElem_cons_succ, List.getElem_cons_zero, List.setIfInBounds_toArray, List.set_cons_zero, List.set_cons_succ]
                  refine wpAnyH_ready (rs := [5]) (by kernel_rfl) (by simp) ?_
                  refine AllReadyH.cons rfl (fun K hK => ?_) AllReadyH.nil
                  · go_simp
                    refine (reachedFrom_any q (k : Int) A2 l2 c2 (revL L) L2.out hc2 hl2 HRO.out j0 j1 _ (HRA.out.bl B_44.out)).mono ?_
                    rintro e w_45 ⟨G, rfl, hG, hGd, hb⟩
                    have GL := Lib.hid hG
                    have GD := Lib.hid hGd
                    clear hG hGd
                    have B_45 := Lib.hid (B_44.out.trans_ hb)
                    have Z6_45 := Lib.hid (Z6_44.out.bl hb)
                    have Z7_45 := Lib.hid (Z7_44.out.bl hb)
                    clear hb
                    try (go_wp2_with fail)
                    refine hK.out _ _ ?_ (fun hHeld => ?_)
                    · exact HSH.out _ B_45.out
                    clear hK K hHeld
                    try simp only [Act.put, List.getElem_toArray, List.getElem_cons_succ, List.getElem_cons_zero, List.setIfInBounds_toArray, List.set_cons_zero, List.set_cons_succ]
                    refine wpAnyH_ready (rs := [8]) (by kernel_rfl) (by simp) ?_
                    refine AllReadyH.cons rfl (fun K hK => ?_) AllReadyH.nil
                    rw [if_pos (by rfl)]
                    refine wp_store_mid _ _ _ rfl (w_35.heap.size) 0 (csB F).toArray rfl rfl (by simpa [csB_len, FL.out] using Z6_45.out.there_) (by simpa [csB_len, FL.out] using size24b) (csB_one _) ?_
                    simp only [Act.put, List.setIfInBounds_toArray, List.set_cons_zero, List.set_cons_succ, List.toList_toArray]
                    refine hK.out _ _ ?_ (fun hHeld => ?_)
                    · exact HSH.out _ (Bl.setCells_ (w_35.heap.size) LO6.out _ _ _ B_45.out)
                    clear hK K hHeld
                    try simp only [Act.put, List.getElem_toArray, List.getElem_cons_succ, List.getElem_cons_zero, List.setIfInBounds_toArray, List.set_cons_zero, List.set_cons_succ]
                    generalize hw : World.setCells _ _ _ _ = w_46_6
                    have B_46_6 := Lib.hid (show Bl wo w_46_6 from by rw [← hw]; exact Bl.setCells_ (w_35.heap.size) LO6.out _ _ _ B_45.out)
                    have Y6 := Lib.hid (show BoolsAt w_46_6 (w_35.heap.size) F from by rw [← hw]; exact BoolsAt.stored Z6_45.out FL.out)
                    have Z7_46 := Lib.hid (show BoolsAt w_46_6 (wo.heap.size) (List.replicate 24 false) from by rw [← hw]; exact Z7_45.out.turn (Turn.setCells_ (S := fun i => i = w_35.heap.size) (w_35.heap.size) rfl _ _ _ (Turn.refl _ _)) NE.out)
                    clear hw
                    refine wpAnyH_ready (rs := [9]) (by kernel_rfl) (by simp) ?_
                    refine AllReadyH.cons rfl (fun K hK => ?_) AllReadyH.nil
                    rw [if_pos (by rfl)]
                    refine wp_store_mid _ _ _ rfl (wo.heap.size) 0 (csB G).toArray rfl rfl (by simpa [csB_len, GL.out] using Z7_46.out.there_) (by simpa [csB_len, GL.out] using size24b) (csB_one _) ?_
                    simp only [Act.put, List.setIfInBounds_toArray, List.set_cons_zero, List.set_cons_succ, List.toList_toArray]
                    refine hK.out _ _ ?_ (fun hHeld => ?_)
                    · exact HSH.out _ (Bl.setCells_ (wo.heap.size) LO7.out _ _ _ B_46_6.out)
                    clear hK K hHeld
                    try simp only [Act.put, List.getElem_toArray, List.getElem_cons_succ, List.getElem_cons_zero, List.setIfInBounds_toArray, List.set_cons_zero, List.set_cons_succ]
                    generalize hw : World.setCells _ _ _ _ = w_46_7
                    have B_46_7 := Lib.hid (show Bl wo w_46_7 from by rw [← hw]; exact Bl.setCells_ (wo.heap.size) LO7.out _ _ _ B_46_6.out)
                    have Y7 := Lib.hid (show BoolsAt w_46_7 (wo.heap.size) G from by rw [← hw]; exact BoolsAt.stored Z7_46.out GL.out)
                    have Y6' := Lib.hid (show BoolsAt w_46_7 (w_35.heap.size) F from by rw [← hw]; exact Y6.out.turn (Turn.setCells_ (S := fun i => i = wo.heap.size) (wo.heap.size) rfl _ _ _ (Turn.refl _ _)) NE.out.symm)
                    clear hw
                    refine wpAnyH_done (by kernel_rfl) ?_ _
                    go_wp2_with fail
                    go_meet
                    exact ⟨w_35.heap.size, wo.heap.size, F, G, rfl, rfl, LO6.out, LO7.out, Y6'.out, Y7.out, FD.out, GD.out, B_46_7.out⟩
          case rest =>
            obtain ⟨b6, b7, F, G, rfl, rfl, hl6, hl7, h6, h7, hF, hG, hbc⟩ := hcut
            have H6 := Lib.hid h6
            have H7 := Lib.hid h7
            have HBC := Lib.hid hbc
            have MUT := Lib.hid (show ∀ u : Nat, u < q → mutB q L k u = (bT F (u : Int) && bT G (u : Int)) from fun u hu => by
              have e1 := hF (u : Int) (by omega)
              have e2 := hG (u : Int) (by omega)
              rw [distL_of_turned HO.out (by omega) (by omega)] at e2
              rw [Bool.eq_iff_iff, mutB_iff, Bool.and_eq_true, e1, e2])
            have hxo := hbc.size
            have hub : w2.heap.size + 1 + 1 < wo.heap.size := by omega
            have TC := Lib.hid (TT.out.bl hbc)
            have OC := Lib.hid (show OwnN wc (w2.heap.size + 1 + 1) (.slice (some ⟨w2.heap.size + 1 + 1, 0, none⟩) q q) (partJ q L k 0) from by rw [partJ_zero]; exact OO.out.bl hbc)
            obtain ⟨⟨q0, q1, -, -⟩, -, -⟩ := T0.out _ TC.out
            have F24 := h6.len
            have G24 := h7.len
            clear a0 a1 b0 b1 pk h6 h7 hF hG hbc
            go_wp2_with fail
            clear q0 q1
            go_loopw [36] (fun i wr => ∃ j : Nat, j ≤ q ∧ i = .int .i64 j ∧ Turn (fun g => g = (w2.heap.size + 1 + 1)) wc wr ∧ OwnN wr (w2.heap.size + 1 + 1) (.slice (some ⟨w2.heap.size + 1 + 1, 0, none⟩) q q) (partJ q L k j)) (fun i _ => q - (intOf i).toNat)
            case atStart => exact ⟨0, by omega, rfl, Turn.refl _ _, OC.out⟩
            case round =>
              obtain ⟨j, hj, rfl, hT, hO⟩ := hrel
              have TJ := Lib.hid hT
              have OJ := Lib.hid hO
              by_cases hlj : j < q
              · have m0 : (0 : Int) ≤ (j : Int) := by omega
                have m1 : (j : Int) < (q : Int) := by omega
                have m2 : (j : Int) < 24 := by omega
                have r6 := (H6.out.turn hT (by omega)).cell j (by omega)
                have r7 := (H7.out.turn hT (by omega)).cell j (by omega)
                obtain ⟨pj, fj⟩ := hO.at_ (partJ_len q L k j) j (by rw [partJ_len]; exact hlj)
                have hM := MUT.out j hlj
                rw [show bT F (j : Int) = F[j]'(by omega) from by unfold bT; simp [F24, show j < 24 from by omega], show bT G (j : Int) = G[j]'(by omega) from by unfold bT; simp [G24, show j < 24 from by omega]] at hM
                have HM := Lib.hid hM
                have PY := Lib.hid (fun h => partJ_yes (q := q) (L := L) (k := k) (j := j) h)
                have PN := Lib.hid (fun h => partJ_no (q := q) (L := L) (k := k) (j := j) h)
                have PU := Lib.hid (OJ.out.put_ (partJ_len q L k j) j (k : Int))
                have TU := Lib.hid (TJ.out.set (p := ⟨w2.heap.size + 1 + 1, j, none⟩) (.inl rfl) (.int .i64 (k : Int)))
                clear hT hO hM
                generalize (partJ q L k j)[j]'(by rw [partJ_len]; exact hlj) = y at pj
                generalize F[j]'(by omega) = x6 at r6 HM
                generalize G[j]'(by omega) = x7 at r7 HM
                cases x6 with
                | true =>
                  cases x7 with
                  | true =>
                    have PP := Lib.hid (PY.out (by rw [HM.out]; rfl))
                    go_wp2
                    go_roundw
                    case rel => exact ⟨j + 1, by omega, by go_num, TU.out, by rw [PP.out]; exact PU.out⟩
                    case measure => simp [intOf]; omega
                  | false =>
                    have PP := Lib.hid (PN.out (by rw [HM.out]; rfl))
                    go_wp2
                    go_roundw
                    case rel => exact ⟨j + 1, by omega, by go_num, TJ.out, by rw [PP.out]; exact OJ.out⟩
                    case measure => simp [intOf]; omega
                | false =>
                  have PP := Lib.hid (PN.out (by rw [HM.out]; rfl))
                  go_wp2
                  go_roundw
                  case rel => exact ⟨j + 1, by omega, by go_num, TJ.out, by rw [PP.out]; exact OJ.out⟩
                  case measure => simp [intOf]; omega
              · obtain rfl : j = q := by omega
                have TZ := Lib.hid (TC.out.trans hT (fun i _ h => h))
                have OZ := Lib.hid (show OwnN wr (w2.heap.size + 1 + 1) (.slice (some ⟨w2.heap.size + 1 + 1, 0, none⟩) j j) (partK j L (k + 1)) from by rw [← SA'.out]; exact hO)
                go_wp2
                go_roundw
                case rel => exact ⟨k + 1, by omega, by go_num, TZ.out, OZ.out⟩
                case measure => simp [intOf]; omega
      · obtain rfl : k = q := by omega
        go_wp2
        go_ret
        refine ⟨_, rfl, ?_, BW.out⟩
        unfold partsFL
        rw [if_pos HO.out, show (k : Int).toNat = k from by omega]
        exact OO.out.low (by omega)

end Go.Proofs.Ytelgjfflhcmljaa
