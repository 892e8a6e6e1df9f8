/-
  What is proved here: the walk of the law FnFromAll: at every code that can be read it returns true and leaves what was there as it was. No conditions beyond those that each theorem states.
-/
import Derived.Test.YtkfladkncfbgmaaSM
set_option linter.unusedSimpArgs false
set_option linter.unusedVariables false
namespace Go.Proofs.Ytkfladkncfbgmaa
open Go.RowKit

theorem distOf_at {N s : Int} {L : List Arc3} {k : Nat} (h : k < (distFromL N L s).length) : distOfI N L s (k : Int) = (distFromL N L s)[k] := by
  unfold distFromL at h
  by_cases h1 : has1 N L s = true
  · have hl := has1_of h1
    have e : distFromL N L s = distL N L s := if_pos h1
    simp only [e]
    rw [if_pos h1, distL_len hl.1 hl.2.1 hl.2.2] at h
    have h2 : has2 N L s (k : Int) = true := by
      unfold has2
      rw [hl.1, Bool.true_and, decide_eq_true_eq]
      omega
    unfold distOfI
    rw [if_pos h2]
    have hk : k < (distL N L s).length := by rw [distL_len hl.1 hl.2.1 hl.2.2]; exact h
    simp [dAt, hk]
  · rw [if_neg h1] at h
    simp at h

set_option maxRecDepth 100000 in
set_option maxHeartbeats 2000000 in
theorem lawFromAll_any (A : Option Addr) (n c : Nat) (w : World) (H : BytesAt w A n) :
    Calls Try.prog 3 #[.slice A n c] w fun e w' => e = .returned (.bool true) ∧ Bl w w' := by
  have K := Lib.hid H
  clear H
  by_cases hbig : (1048576 : Int) < (n : Int)
  · have hb : decide ((1048576 : Int) < (n : Int)) = true := by simpa using hbig
    clear hbig
    go_enter Try.func3, Try.ntmps3
    go_wp2_with (go_at_call 15; refine (big_any _ _ _ _).mono ?_; rintro e w' ⟨rfl, rfl⟩)
    go_ret
    exact ⟨rfl, (by repeat' (first | exact Bl.refl _ | with_reducible assumption | with_reducible refine Bl.drew_ ?_ | with_reducible refine Bl.drewN_ ?_ _ | with_reducible refine Bl.alloc_ ?_ _ | with_reducible refine Bl.trans_ ?_ (by assumption) | with_reducible refine Bl.trans_ ?_ (And.left (by assumption))))⟩
  · have hb : decide ((1048576 : Int) < (n : Int)) = false := by simpa using hbig
    have hn : n ≤ 1099511627776 := by omega
    clear hbig
    go_enter Try.func3, Try.ntmps3
    go_wp2_with fail
    refine (big_any _ _ _ _).mono ?_
    rintro e w1 ⟨rfl, rfl⟩
    go_wp2_with fail
    refine (drawDistFrom_any A n c _ hn K.out).mono ?_
    rintro e w1 ⟨N, A', l, c', L, s, rfl, hd, hs, hb1⟩
    obtain ⟨ha, hlc⟩ := hd.arcs
    have HL := Lib.hid hd.1
    have hl200 := hd.2.1
    have HA := Lib.hid (ha.bl (Bl.alloc_ (Bl.refl w1) (.cells #[.int .i64 N, .slice A' l c'] 26)))
    have B1 := Lib.hid (hb1.alloc_ (.cells #[.int .i64 N, .slice A' l c'] 26))
    clear hd hs hb1 ha
    go_wp2_with fail
    refine (implDistFrom_any N s A' l c' L HL.out hlc _ (by omega) HA.out).mono ?_
    rintro e w2 ⟨v2, rfl, hv2, hb2⟩
    obtain ⟨A2, c2, rfl, -, hi2, -, -⟩ := OwnN.shape hv2
    have I2 := Lib.hid hi2
    obtain ⟨k, hk⟩ : ∃ k, k = (distFromL N L s).length := ⟨_, rfl⟩
    have hk20 : k ≤ 1048576 := by rw [hk]; exact distFromL_len N L s
    rw [← hk]
    have HK := Lib.hid hk
    obtain ⟨q0, q1⟩ := box2 hb2
    clear hv2 hi2 hk
    go_wp2_with fail
    refine (specDistFrom_any N s A' l c' L HL.out hlc _ (by omega) (HA.out.bl hb2)).mono ?_
    rintro e w3 ⟨v3, rfl, hv3, hb3⟩
    obtain ⟨A3, c3, rfl, -, hi3, -, -⟩ := OwnN.shape hv3
    have I3 := Lib.hid hi3
    rw [← HK.out]
    clear hv3 hi3 q0 q1
    go_wp2_with fail
    refine (sameInts_yes A2 A3 c2 c3 _ k HK.out _ (by omega) (I2.out.bl hb3) I3.out).mono ?_
    rintro e w4 ⟨rfl, hb4⟩
    have P4 := Lib.hid (hb2.trans_ (hb3.trans_ hb4))
    have I4 := Lib.hid (I2.out.bl (hb3.trans_ hb4))
    clear hb2 hb3 hb4
    go_wp2_with fail
    go_loopw [6] (fun i wr => ∃ j : Nat, j ≤ k ∧ i = .int .i64 j ∧ Bl w4 wr) (fun i _ => k - (intOf i).toNat)
    case atStart => exact ⟨0, by omega, rfl, Bl.refl _⟩
    case round =>
      obtain ⟨j, hj, rfl, hbl⟩ := hrel
      by_cases hlt : j < k
      · have hjl : j < (distFromL N L s).length := by have := HK.out; omega
        obtain ⟨g2, o2, rfl, hg2, hc2⟩ := I4.out.cell (by omega)
        have p1 := hc2 j hjl
        have HE := Lib.hid (distOf_at hjl)
        generalize (distFromL N L s)[j] = x at p1 HE
        clear hc2
        have i0 : (0 : Int) ≤ (j : Int) := by omega
        have i1 : (j : Int) < (k : Int) := by omega
        have hxx : (x != x) = false := by simp
        have HSH := Lib.hid (show ∀ wx, Bl wr wx → Bl wr wx ∧ wx.cell? ⟨w1.heap.size, 0, none⟩ = some (.int .i64 N) ∧ wx.cell? ⟨w1.heap.size, 1, none⟩ = some (.slice A' l c') ∧ wx.cell? ⟨g2, o2 + j, none⟩ = some (.int .i64 x) from fun wx hb => by
          obtain ⟨y0, y1⟩ := box2 (P4.out.trans_ (hbl.trans_ hb))
          exact ⟨hb, y0, y1, ((bcell (hbl.trans_ hb)).1 _ _ hg2).trans p1⟩)
        clear p1
        go_wp2_with fail
        refine wp_region_held_drew (S := fun wx => Bl wr wx ∧ wx.cell? ⟨w1.heap.size, 0, none⟩ = some (.int .i64 N) ∧ wx.cell? ⟨w1.heap.size, 1, none⟩ = some (.slice A' l c') ∧ wx.cell? ⟨g2, o2 + j, none⟩ = some (.int .i64 x)) (by kernel_rfl) ?_ (fun hHeld => ?_)
        · (exact HSH.out _ (by repeat' (first | exact Bl.refl _ | with_reducible assumption | with_reducible refine Bl.drew_ ?_ | with_reducible refine Bl.drewN_ ?_ _ | with_reducible refine Bl.alloc_ ?_ _ | with_reducible refine Bl.trans_ ?_ (by assumption) | with_reducible refine Bl.trans_ ?_ (And.left (by assumption)))))
        refine wpAnyH_take (i := 0) (v := ?_) rfl (by kernel_rfl) (by kernel_rfl) (by kernel_rfl) (fun _ _ _ h => h) (Or.inl ⟨by kernel_rfl, ?_⟩) (by assumption) ?_
        rotate_left
        · (intro wx hSw; (try dsimp only at hSw); go_simp; try (with_reducible rfl))
        try simp only [Act.put, List.getElem_toArray, List.getElem_cons_succ, List.getElem_cons_zero, List.setIfInBounds_toArray, List.set_cons_zero, List.set_cons_succ]
        refine wpAnyH_take (i := 1) (v := ?_) rfl (by kernel_rfl) (by kernel_rfl) (by kernel_rfl) (fun _ _ _ h => h) (Or.inl ⟨by kernel_rfl, ?_⟩) (by assumption) ?_
        rotate_left
        · (intro wx hSw; (try dsimp only at hSw); go_simp; try (with_reducible rfl))
        try simp only [Act.put, List.getElem_toArray, List.getElem_cons_succ, List.getElem_cons_zero, List.setIfInBounds_toArray, List.set_cons_zero, List.set_cons_succ]
        refine wpAnyH_take (i := 2) (v := ?_) rfl (by kernel_rfl) (by kernel_rfl) (by kernel_rfl) (fun _ _ _ h => h) (Or.inl ⟨by kernel_rfl, ?_⟩) (by assumption) ?_
        rotate_left
        · (intro wx hSw; (try dsimp only at hSw); go_simp; try (with_reducible rfl))
        try simp only [Act.put, List.getElem_toArray, List.getElem_cons_succ, List.getElem_cons_zero, List.setIfInBounds_toArray, List.set_cons_zero, List.set_cons_succ]
        refine wpAnyH_take (i := 4) (v := ?_) rfl (by kernel_rfl) (by kernel_rfl) (by kernel_rfl) (fun _ _ _ h => h) (Or.inl ⟨by kernel_rfl, ?_⟩) (by assumption) ?_
        rotate_left
        · (intro wx hSw; (try dsimp only at hSw); go_simp; try (with_reducible rfl))
        try simp only [Act.put, List.getElem_toArray, List.getElem_cons_succ, List.getElem_cons_zero, List.setIfInBounds_toArray, List.set_cons_zero, List.set_cons_succ]
        refine wpAnyH_take (i := 5) (v := ?_) rfl (by kernel_rfl) (by kernel_rfl) (by kernel_rfl) (fun _ _ _ h => h) (Or.inl ⟨by kernel_rfl, ?_⟩) (by assumption) ?_
        rotate_left
        · (intro wx hSw; (try dsimp only at hSw); go_simp; try (with_reducible rfl))
        try simp only [Act.put, List.getElem_toArray, List.getElem_cons_succ, List.getElem_cons_zero, List.setIfInBounds_toArray, List.set_cons_zero, List.set_cons_succ]
        refine wpAnyH_take (i := 6) (v := ?_) rfl (by kernel_rfl) (by kernel_rfl) (by kernel_rfl) (fun _ _ _ h => h) (Or.inl ⟨by kernel_rfl, ?_⟩) (by assumption) ?_
        rotate_left
        · (intro wx hSw; (try dsimp only at hSw); go_simp; try (with_reducible rfl))
        try simp only [Act.put, List.getElem_toArray, List.getElem_cons_succ, List.getElem_cons_zero, List.setIfInBounds_toArray, List.set_cons_zero, List.set_cons_succ]
        refine wpAnyH_take (i := 7) (v := ?_) rfl (by kernel_rfl) (by kernel_rfl) (by kernel_rfl) (fun _ _ _ h => h) (Or.inl ⟨by kernel_rfl, ?_⟩) (by assumption) ?_
        rotate_left
        · (intro wx hSw; (try dsimp only at hSw); go_simp; try (with_reducible rfl))
        try simp only [Act.put, List.getElem_toArray, List.getElem_cons_succ, List.getElem_cons_zero, List.setIfInBounds_toArray, List.set_cons_zero, List.set_cons_succ]
        refine wpAnyH_ready (rs := [3]) (by kernel_rfl) (by simp) ?_
        refine AllReadyH.cons rfl (fun K hK => ?_) AllReadyH.nil
        go_simp
        (go_at_call 20; refine (implDistOf_any N s j A' l c' L HL.out hlc _ (by omega) (HA.out.bl (P4.out.trans_ (hbl.trans_ (by repeat' (first | exact Bl.refl _ | with_reducible assumption | with_reducible refine Bl.drew_ ?_ | with_reducible refine Bl.drewN_ ?_ _ | with_reducible refine Bl.alloc_ ?_ _ | with_reducible refine Bl.trans_ ?_ (by assumption) | with_reducible refine Bl.trans_ ?_ (And.left (by assumption)))))))).mono ?_; rintro e w5 ⟨rfl, hb5⟩; rw [HE.out])
        try (go_wp2_with fail)
        refine hK.out _ _ ?_ (fun hHeld => ?_)
        · (exact HSH.out _ (by repeat' (first | exact Bl.refl _ | with_reducible assumption | with_reducible refine Bl.drew_ ?_ | with_reducible refine Bl.drewN_ ?_ _ | with_reducible refine Bl.alloc_ ?_ _ | with_reducible refine Bl.trans_ ?_ (by assumption) | with_reducible refine Bl.trans_ ?_ (And.left (by assumption)))))
        clear hK K
        try simp only [Act.put, List.getElem_toArray, List.getElem_cons_succ, List.getElem_cons_zero, List.setIfInBounds_toArray, List.set_cons_zero, List.set_cons_succ]
        refine wpAnyH_take (i := 8) (v := ?_) rfl (by kernel_rfl) (by kernel_rfl) (by kernel_rfl) (fun _ _ _ h => h) (Or.inl ⟨by kernel_rfl, ?_⟩) (by assumption) ?_
        rotate_left
        · (intro wx hSw; (try dsimp only at hSw); go_simp; try (with_reducible rfl))
        try simp only [Act.put, List.getElem_toArray, List.getElem_cons_succ, List.getElem_cons_zero, List.setIfInBounds_toArray, List.set_cons_zero, List.set_cons_succ]
        refine wpAnyH_done (by kernel_rfl) ?_ _
        go_wp2
        go_roundw
        case rel => exact ⟨j + 1, by omega, by go_num, hbl.trans_ (by repeat' (first | exact Bl.refl _ | with_reducible assumption | with_reducible refine Bl.drew_ ?_ | with_reducible refine Bl.drewN_ ?_ _ | with_reducible refine Bl.alloc_ ?_ _ | with_reducible refine Bl.trans_ ?_ (by assumption) | with_reducible refine Bl.trans_ ?_ (And.left (by assumption))))⟩
        case measure => simp [intOf]; omega
      · go_wp2
        go_ret
        exact ⟨rfl, B1.out.trans_ (P4.out.trans_ hbl)⟩

end Go.Proofs.Ytkfladkncfbgmaa
