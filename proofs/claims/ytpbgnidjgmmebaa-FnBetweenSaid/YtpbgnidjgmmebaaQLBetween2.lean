/-
  What is proved here: the walk of the law FnBetween: at every code that can be read it returns true and leaves what was there as it was. No conditions beyond those that each theorem states.
-/
import Derived.Test.YtpbgnidjgmmebaaQHL
import Derived.Test.YtpbgnidjgmmebaaQDB
import Derived.Test.YtpbgnidjgmmebaaQOS
import Derived.Test.YtpbgnidjgmmebaaQOJ
import Derived.Test.YtpbgnidjgmmebaaZP
set_option linter.unusedSimpArgs false
set_option linter.unusedVariables false
namespace Go.Proofs.Ytpbgnidjgmmebaa
open Go.RowKit

set_option maxRecDepth 100000 in
set_option maxHeartbeats 8000000 in
theorem lawBetween2_any (A : Option Addr) (n c : Nat) (w : World) (H : BytesAt w A n) :
    Calls Try.prog 10 #[.slice A n c] w fun e w' => e = .returned (.bool true) ∧ Bl w w' := by
  have K := Lib.hid H
  clear H
  by_cases hbig : (1048576 : Int) < (n : Int)
  · have hb : decide ((1048576 : Int) < (n : Int)) = true := by simpa using hbig
    clear hbig
    go_enter Try.func10, Try.ntmps10
    go_wp2_with (go_at_call 17; refine (big_any _ _ _ _).mono ?_; rintro e w' ⟨rfl, rfl⟩)
    go_ret
    exact ⟨rfl, (by repeat' (first | exact Bl.refl _ | with_reducible assumption | with_reducible refine Bl.drew_ ?_ | with_reducible refine Bl.drewN_ ?_ _ | with_reducible refine Bl.alloc_ ?_ _ | with_reducible refine Bl.trans_ ?_ (by assumption) | with_reducible refine Bl.trans_ ?_ (And.left (by assumption))))⟩
  · have hb : decide ((1048576 : Int) < (n : Int)) = false := by simpa using hbig
    have hn : n ≤ 1099511627776 := by omega
    clear hbig
    go_enter Try.func10, Try.ntmps10
    go_wp2_with fail
    refine (big_any _ _ _ _).mono ?_
    rintro e w1 ⟨rfl, rfl⟩
    go_wp2_with fail
    refine (drawBetween_any A n c _ hn K.out).mono ?_
    rintro e w1 ⟨N, A', l, c', L, s, t, m, rfl, hd, hs, ht, hm, hb1⟩
    obtain ⟨ha, hlc⟩ := hd.arcs
    have HL := Lib.hid hd.1
    have hl200 := hd.2.1
    have HA := Lib.hid (ha.bl (Bl.alloc_ (Bl.refl w1) (.cells #[.int .i64 N, .slice A' l c'] 26)))
    have B1 := Lib.hid (hb1.alloc_ (.cells #[.int .i64 N, .slice A' l c'] 26))
    clear hd hs ht hb1 ha hm
    go_wp2_with fail
    refine (implBetween_any N s t m A' l c' L HL.out hlc _ (by omega) HA.out).mono ?_
    rintro e w2 ⟨v2, rfl, hv2, hb2⟩
    obtain ⟨A2, c2, rfl, -, hi2, -, -⟩ := OwnN.shape hv2
    have I2 := Lib.hid hi2
    obtain ⟨k, hk⟩ : ∃ k, k = (betL N L s t m).length := ⟨_, rfl⟩
    have hk20 : k ≤ 1048576 := by rw [hk]; exact betL_len N L s t m
    rw [← hk]
    have HK := Lib.hid hk
    obtain ⟨q0, q1⟩ := box2 hb2
    clear hv2 hi2 hk
    go_wp2_with fail
    refine (specBetween_any N s t m A' l c' L HL.out hlc _ (by omega) (HA.out.bl hb2)).mono ?_
    rintro e w3 ⟨v3, rfl, hv3, hb3⟩
    obtain ⟨A3, c3, rfl, -, hi3, -, -⟩ := OwnN.shape hv3
    have I3 := Lib.hid hi3
    rw [← HK.out]
    clear hv3 hi3 q0 q1
    go_wp2_with fail
    refine (sameInts_yes A2 A3 c2 c3 _ k HK.out _ (by omega) (I2.out.bl hb3) I3.out).mono ?_
    rintro e w4 ⟨rfl, hb4⟩
    have P4 := Lib.hid (hb2.trans_ (hb3.trans_ hb4))
    have I4 := Lib.hid (I2.out.bl (hb3.trans_ hb4))
    clear hb2 hb3 hb4
    obtain ⟨q0, q1⟩ := box2 P4.out
    go_wp2_with fail
    refine (nodeLaw_any N s A' l c' L HL.out _ (by omega) (HA.out.bl P4.out)).mono ?_
    rintro e w21 ⟨rfl, hb21⟩
    have P21 := Lib.hid (P4.out.trans_ hb21)
    have I21 := Lib.hid (I4.out.bl hb21)
    clear hb21 q0 q1
    obtain ⟨q0, q1⟩ := box2 P21.out
    cases hs1 : has1 N L s with
    | false =>
      clear hs1
      go_wp2_with fail
      refine (specBetween_any N s t m A' l c' L HL.out hlc _ (by omega) (HA.out.bl P21.out)).mono ?_
      rintro e w6 ⟨v6, rfl, hv6, hb6⟩
      obtain ⟨A6, c6, rfl, -, hi6, -, -⟩ := OwnN.shape hv6
      have I6 := Lib.hid hi6
      rw [← HK.out]
      clear hv6 hi6
      go_wp2_with fail
      refine (sameInts_yes A2 A6 c2 c6 _ k HK.out _ (by omega) (I21.out.bl hb6) I6.out).mono ?_
      rintro e w7 ⟨rfl, hb7⟩
      go_wp2
      go_ret
      exact ⟨rfl, B1.out.trans_ (P21.out.trans_ (hb6.trans_ hb7))⟩
    | true =>
      go_wp2_with fail
      refine (nodeLaw_any N t A' l c' L HL.out _ (by omega) (HA.out.bl P21.out)).mono ?_
      rintro e w22 ⟨rfl, hb22⟩
      have P22 := Lib.hid (P21.out.trans_ hb22)
      have I22 := Lib.hid (I21.out.bl hb22)
      clear hb22 q0 q1
      obtain ⟨q0, q1⟩ := box2 P22.out
      cases ht1 : has1 N L t with
      | false =>
        clear ht1
        go_wp2_with fail
        refine (specBetween_any N s t m A' l c' L HL.out hlc _ (by omega) (HA.out.bl P22.out)).mono ?_
        rintro e w6 ⟨v6, rfl, hv6, hb6⟩
        obtain ⟨A6, c6, rfl, -, hi6, -, -⟩ := OwnN.shape hv6
        have I6 := Lib.hid hi6
        rw [← HK.out]
        clear hv6 hi6
        go_wp2_with fail
        refine (sameInts_yes A2 A6 c2 c6 _ k HK.out _ (by omega) (I22.out.bl hb6) I6.out).mono ?_
        rintro e w7 ⟨rfl, hb7⟩
        go_wp2
        go_ret
        exact ⟨rfl, B1.out.trans_ (P22.out.trans_ (hb6.trans_ hb7))⟩
      | true =>
        have hh : has2 N L s t = true := by
          obtain ⟨ho, hs⟩ := has1_of hs1
          obtain ⟨-, ht⟩ := has1_of ht1
          unfold has2
          rw [ho, Bool.true_and, decide_eq_true_eq]
          exact ⟨hs, ht⟩
        clear hs1 ht1
        by_cases hm0 : m < 0
        · have c0 : decide (m < 0) = true := by simpa using hm0
          go_wp2_with fail
          refine (specBetween_any N s t m A' l c' L HL.out hlc _ (by omega) (HA.out.bl P22.out)).mono ?_
          rintro e w6 ⟨v6, rfl, hv6, hb6⟩
          obtain ⟨A6, c6, rfl, -, hi6, -, -⟩ := OwnN.shape hv6
          have I6 := Lib.hid hi6
          rw [← HK.out]
          clear hv6 hi6
          go_wp2_with fail
          refine (sameInts_yes A2 A6 c2 c6 _ k HK.out _ (by omega) (I22.out.bl hb6) I6.out).mono ?_
          rintro e w7 ⟨rfl, hb7⟩
          go_wp2
          go_ret
          exact ⟨rfl, B1.out.trans_ (P22.out.trans_ (hb6.trans_ hb7))⟩
        · have c0 : decide (m < 0) = false := by simpa using hm0
          by_cases hm1 : 24000 < m
          · have c1 : decide (24000 < m) = true := by simpa using hm1
            go_wp2_with fail
            refine (specBetween_any N s t m A' l c' L HL.out hlc _ (by omega) (HA.out.bl P22.out)).mono ?_
            rintro e w6 ⟨v6, rfl, hv6, hb6⟩
            obtain ⟨A6, c6, rfl, -, hi6, -, -⟩ := OwnN.shape hv6
            have I6 := Lib.hid hi6
            rw [← HK.out]
            clear hv6 hi6
            go_wp2_with fail
            refine (sameInts_yes A2 A6 c2 c6 _ k HK.out _ (by omega) (I22.out.bl hb6) I6.out).mono ?_
            rintro e w7 ⟨rfl, hb7⟩
            go_wp2
            go_ret
            exact ⟨rfl, B1.out.trans_ (P22.out.trans_ (hb6.trans_ hb7))⟩
          · have c1 : decide (24000 < m) = false := by simpa using hm1
            have MEM := Lib.hid (fun (v : Int) (hv : 0 ≤ v ∧ v < N) => betL_mem (m := m) (v := v) hh ⟨by omega, by omega⟩ hv)
            have BON := Lib.hid (betL_on hh)
            have hN1 := (okB_elim (has2_of hh).1).1
            have hN24 := (okB_elim (has2_of hh).1).2.1
            obtain ⟨z, rfl⟩ : ∃ z : Nat, N = z := ⟨N.toNat, by omega⟩
            clear hh
            go_wp2_with fail
            clear q0 q1
            go_loopw [8] (fun i wr => ∃ j : Nat, j ≤ z ∧ i = .int .i64 j ∧ Bl w22 wr) (fun i _ => z - (intOf i).toNat)
            case atStart => exact ⟨0, by omega, rfl, Bl.refl _⟩
            case round =>
              obtain ⟨j, hj, rfl, hbl⟩ := hrel
              have hgb := P22.out.trans_ hbl
              obtain ⟨q0, q1⟩ := box2 hgb
              by_cases hlt : j < z
              · have i1 : (j : Int) < (z : Int) := by omega
                have HM := Lib.hid (MEM.out j ⟨by omega, i1⟩)
                have D1 := Lib.hid (distOfI_bounds (N := z) (s := s) (t := j) (L := L))
                have D2 := Lib.hid (distOfI_bounds (N := z) (s := j) (t := t) (L := L))
                go_wp2_with fail
                refine (implDistOf_any z s j A' l c' L HL.out hlc _ (by omega) (HA.out.bl hgb)).mono ?_
                rintro e w8 ⟨rfl, hb8⟩
                have P8 := Lib.hid (hgb.trans_ hb8)
                clear q0 q1
                obtain ⟨q0, q1⟩ := box2 P8.out
                go_wp2_with fail
                refine (implDistOf_any z j t A' l c' L HL.out hlc _ (by omega) (HA.out.bl P8.out)).mono ?_
                rintro e w9 ⟨rfl, hb9⟩
                have Q9 := Lib.hid (hbl.trans_ (hb8.trans_ hb9))
                clear hb8 hb9 q0 q1
                go_wp2_with fail
                refine (hasL_any A2 c2 _ k HK.out j _ (by omega) (I22.out.bl Q9.out)).mono ?_
                rintro e w10 ⟨rfl, hb10⟩
                have QQ := Lib.hid (Q9.out.trans_ hb10)
                rw [show decide ((j : Int) ∈ betL z L s t m) = decide (0 ≤ distOfI z L s j ∧ 0 ≤ distOfI z L j t ∧ distOfI z L s j + distOfI z L j t ≤ m) from by rw [decide_eq_decide]; exact HM.out]
                have d1 := D1.out
                have d2 := D2.out
                generalize distOfI (z : Int) L s j = a at *
                generalize distOfI (z : Int) L j t = b at *
                have j1 : (0 : Int) ≤ (j : Int) := by omega
                have a1 : IntKind.i64.wrap (a + b) = a + b := IntWalk.i64_in _ (by omega)
                clear hb10
                by_cases e1 : 0 ≤ a
                · have b1 : decide (0 ≤ a) = true := by simpa using e1
                  by_cases e2 : 0 ≤ b
                  · have b2 : decide (0 ≤ b) = true := by simpa using e2
                    by_cases e3 : a + b ≤ m
                    · have b3 : decide (a + b ≤ m) = true := by simpa using e3
                      rw [show decide (0 ≤ a ∧ 0 ≤ b ∧ a + b ≤ m) = true from by simp only [decide_eq_true_eq]; omega]
                      go_wp2
                      go_roundw
                      case rel => exact ⟨j + 1, by omega, by go_num, QQ.out⟩
                      case measure => simp [intOf]; omega
                    · have b3 : decide (a + b ≤ m) = false := by simpa using e3
                      rw [show decide (0 ≤ a ∧ 0 ≤ b ∧ a + b ≤ m) = false from by simp only [decide_eq_false_iff_not]; omega]
                      go_wp2
                      go_roundw
                      case rel => exact ⟨j + 1, by omega, by go_num, QQ.out⟩
                      case measure => simp [intOf]; omega
                  · have b2 : decide (0 ≤ b) = false := by simpa using e2
                    rw [show decide (0 ≤ a ∧ 0 ≤ b ∧ a + b ≤ m) = false from by simp only [decide_eq_false_iff_not]; omega]
                    go_wp2
                    go_roundw
                    case rel => exact ⟨j + 1, by omega, by go_num, QQ.out⟩
                    case measure => simp [intOf]; omega
                · have b1 : decide (0 ≤ a) = false := by simpa using e1
                  rw [show decide (0 ≤ a ∧ 0 ≤ b ∧ a + b ≤ m) = false from by simp only [decide_eq_false_iff_not]; omega]
                  go_wp2
                  go_roundw
                  case rel => exact ⟨j + 1, by omega, by go_num, QQ.out⟩
                  case measure => simp [intOf]; omega
              · obtain rfl : j = z := by omega
                have D3 := Lib.hid (distOfI_bounds (N := j) (s := s) (t := t) (L := L))
                go_wp2_with fail
                refine (implDistOf_any j s t A' l c' L HL.out hlc _ (by omega) (HA.out.bl hgb)).mono ?_
                rintro e w8 ⟨rfl, hb8⟩
                have P8 := Lib.hid (hgb.trans_ hb8)
                have d3 := D3.out
                have BON2 := Lib.hid BON.out
                generalize hdd : distOfI (j : Int) L s t = d at *
                clear q0 q1 hdd
                obtain ⟨q0, q1⟩ := box2 P8.out
                have HSH := Lib.hid (show ∀ wx, Bl w8 wx → wx.cell? ⟨w1.heap.size, 0, none⟩ = some (.int .i64 (j : Int)) ∧ wx.cell? ⟨w1.heap.size, 1, none⟩ = some (.slice A' l c') from fun wx hy => box2 (P8.out.trans_ hy))
                obtain ⟨k9, hk9⟩ : ∃ k9, k9 = (onL j L s t).length := ⟨_, rfl⟩
                have hk920 : k9 ≤ 1048576 := by rw [hk9]; exact onL_len j L s t
                have HK9 := Lib.hid hk9
                clear q0 q1 hk9
                by_cases e1 : d < 0
                · have b1 : decide (d < 0) = true := by simpa using e1
                  go_wp2_with fail
                  refine wp_region_held_drew (S := fun wx => wx.cell? ⟨w1.heap.size, 0, none⟩ = some (.int .i64 (j : Int)) ∧ wx.cell? ⟨w1.heap.size, 1, none⟩ = some (.slice A' l c')) (by kernel_rfl) ?_ (fun hHeld => ?_)
                  · (exact HSH.out _ (by repeat' (first | exact Bl.refl _ | with_reducible assumption | with_reducible refine Bl.drew_ ?_ | with_reducible refine Bl.drewN_ ?_ _ | with_reducible refine Bl.alloc_ ?_ _ | with_reducible refine Bl.trans_ ?_ (by assumption) | with_reducible refine Bl.trans_ ?_ (And.left (by assumption)))))
                  refine wpAnyH_take (i := 0) (v := ?_) rfl (by kernel_rfl) (by kernel_rfl) (by kernel_rfl) (fun _ _ _ h => h) (Or.inl ⟨by kernel_rfl, ?_⟩) (by assumption) ?_
                  rotate_left
                  · (intro wx hSw; (try dsimp only at hSw); go_simp; try (with_reducible rfl))
                  try simp only [Act.put, List.getElem_toArray, List.getElem_cons_succ, List.getElem_cons_zero, List.setIfInBounds_toArray, List.set_cons_zero, List.set_cons_succ]
                  refine wpAnyH_take (i := 1) (v := ?_) rfl (by kernel_rfl) (by kernel_rfl) (by kernel_rfl) (fun _ _ _ h => h) (Or.inl ⟨by kernel_rfl, ?_⟩) (by assumption) ?_
                  rotate_left
                  · (intro wx hSw; (try dsimp only at hSw); go_simp; try (with_reducible rfl))
                  try simp only [Act.put, List.getElem_toArray, List.getElem_cons_succ, List.getElem_cons_zero, List.setIfInBounds_toArray, List.set_cons_zero, List.set_cons_succ]
                  refine wpAnyH_take (i := 2) (v := ?_) rfl (by kernel_rfl) (by kernel_rfl) (by kernel_rfl) (fun _ _ _ h => h) (Or.inl ⟨by kernel_rfl, ?_⟩) (by assumption) ?_
                  rotate_left
                  · (intro wx hSw; (try dsimp only at hSw); go_simp; try (with_reducible rfl))
                  try simp only [Act.put, List.getElem_toArray, List.getElem_cons_succ, List.getElem_cons_zero, List.setIfInBounds_toArray, List.set_cons_zero, List.set_cons_succ]
                  refine wpAnyH_take (i := 3) (v := undef) rfl (by kernel_rfl) (by kernel_rfl) (by kernel_rfl) (fun _ _ _ h => h) (Or.inr ⟨by kernel_rfl, rfl⟩) (by assumption) ?_
                  try simp only [Act.put, List.getElem_toArray, List.getElem_cons_succ, List.getElem_cons_zero, List.setIfInBounds_toArray, List.set_cons_zero, List.set_cons_succ]
                  refine wpAnyH_take (i := 4) (v := undef) rfl (by kernel_rfl) (by kernel_rfl) (by kernel_rfl) (fun _ _ _ h => h) (Or.inr ⟨by kernel_rfl, rfl⟩) (by assumption) ?_
                  try simp only [Act.put, List.getElem_toArray, List.getElem_cons_succ, List.getElem_cons_zero, List.setIfInBounds_toArray, List.set_cons_zero, List.set_cons_succ]
                  refine wpAnyH_take (i := 5) (v := undef) rfl (by kernel_rfl) (by kernel_rfl) (by kernel_rfl) (fun _ _ _ h => h) (Or.inr ⟨by kernel_rfl, rfl⟩) (by assumption) ?_
                  try simp only [Act.put, List.getElem_toArray, List.getElem_cons_succ, List.getElem_cons_zero, List.setIfInBounds_toArray, List.set_cons_zero, List.set_cons_succ]
                  refine wpAnyH_take (i := 6) (v := undef) rfl (by kernel_rfl) (by kernel_rfl) (by kernel_rfl) (fun _ _ _ h => h) (Or.inr ⟨by kernel_rfl, rfl⟩) (by assumption) ?_
                  try simp only [Act.put, List.getElem_toArray, List.getElem_cons_succ, List.getElem_cons_zero, List.setIfInBounds_toArray, List.set_cons_zero, List.set_cons_succ]
                  refine wpAnyH_take (i := 8) (v := undef) rfl (by kernel_rfl) (by kernel_rfl) (by kernel_rfl) (fun _ _ _ h => h) (Or.inr ⟨by kernel_rfl, rfl⟩) (by assumption) ?_
                  try simp only [Act.put, List.getElem_toArray, List.getElem_cons_succ, List.getElem_cons_zero, List.setIfInBounds_toArray, List.set_cons_zero, List.set_cons_succ]
                  refine wpAnyH_take (i := 9) (v := undef) rfl (by kernel_rfl) (by kernel_rfl) (by kernel_rfl) (fun _ _ _ h => h) (Or.inr ⟨by kernel_rfl, rfl⟩) (by assumption) ?_
                  try simp only [Act.put, List.getElem_toArray, List.getElem_cons_succ, List.getElem_cons_zero, List.setIfInBounds_toArray, List.set_cons_zero, List.set_cons_succ]
                  refine wpAnyH_take (i := 10) (v := undef) rfl (by kernel_rfl) (by kernel_rfl) (by kernel_rfl) (fun _ _ _ h => h) (Or.inr ⟨by kernel_rfl, rfl⟩) (by assumption) ?_
                  try simp only [Act.put, List.getElem_toArray, List.getElem_cons_succ, List.getElem_cons_zero, List.setIfInBounds_toArray, List.set_cons_zero, List.set_cons_succ]
                  refine wpAnyH_ready (rs := [7]) (by kernel_rfl) (by simp) ?_
                  refine AllReadyH.cons rfl (fun K hK => ?_) AllReadyH.nil
                  go_simp
                  refine hK.out _ _ ?_ (fun hHeld => ?_)
                  · (exact HSH.out _ (by repeat' (first | exact Bl.refl _ | with_reducible assumption | with_reducible refine Bl.drew_ ?_ | with_reducible refine Bl.drewN_ ?_ _ | with_reducible refine Bl.alloc_ ?_ _ | with_reducible refine Bl.trans_ ?_ (by assumption) | with_reducible refine Bl.trans_ ?_ (And.left (by assumption)))))
                  clear hK K
                  try simp only [Act.put, List.getElem_toArray, List.getElem_cons_succ, List.getElem_cons_zero, List.setIfInBounds_toArray, List.set_cons_zero, List.set_cons_succ]
                  refine wpAnyH_ready (rs := [11]) (by kernel_rfl) (by simp) ?_
                  refine AllReadyH.cons rfl (fun K hK => ?_) AllReadyH.nil
                  go_simp
                  refine hK.out _ _ ?_ (fun hHeld => ?_)
                  · (exact HSH.out _ (by repeat' (first | exact Bl.refl _ | with_reducible assumption | with_reducible refine Bl.drew_ ?_ | with_reducible refine Bl.drewN_ ?_ _ | with_reducible refine Bl.alloc_ ?_ _ | with_reducible refine Bl.trans_ ?_ (by assumption) | with_reducible refine Bl.trans_ ?_ (And.left (by assumption)))))
                  clear hK K
                  try simp only [Act.put, List.getElem_toArray, List.getElem_cons_succ, List.getElem_cons_zero, List.setIfInBounds_toArray, List.set_cons_zero, List.set_cons_succ]
                  refine wpAnyH_ready (rs := [12]) (by kernel_rfl) (by simp) ?_
                  refine AllReadyH.cons rfl (fun K hK => ?_) AllReadyH.nil
                  go_simp
                  refine hK.out _ _ ?_ (fun hHeld => ?_)
                  · (exact HSH.out _ (by repeat' (first | exact Bl.refl _ | with_reducible assumption | with_reducible refine Bl.drew_ ?_ | with_reducible refine Bl.drewN_ ?_ _ | with_reducible refine Bl.alloc_ ?_ _ | with_reducible refine Bl.trans_ ?_ (by assumption) | with_reducible refine Bl.trans_ ?_ (And.left (by assumption)))))
                  clear hK K
                  try simp only [Act.put, List.getElem_toArray, List.getElem_cons_succ, List.getElem_cons_zero, List.setIfInBounds_toArray, List.set_cons_zero, List.set_cons_succ]
                  refine wpAnyH_take (i := 13) (v := ?_) rfl (by kernel_rfl) (by kernel_rfl) (by kernel_rfl) (fun _ _ _ h => h) (Or.inl ⟨by kernel_rfl, ?_⟩) (by assumption) ?_
                  rotate_left
                  · (intro wx hSw; (try dsimp only at hSw); go_simp; try (with_reducible rfl))
                  try simp only [Act.put, List.getElem_toArray, List.getElem_cons_succ, List.getElem_cons_zero, List.setIfInBounds_toArray, List.set_cons_zero, List.set_cons_succ]
                  refine wpAnyH_take (i := 14) (v := ?_) rfl (by kernel_rfl) (by kernel_rfl) (by kernel_rfl) (fun _ _ _ h => h) (Or.inl ⟨by kernel_rfl, ?_⟩) (by assumption) ?_
                  rotate_left
                  · (intro wx hSw; (try dsimp only at hSw); go_simp; try (with_reducible rfl))
                  try simp only [Act.put, List.getElem_toArray, List.getElem_cons_succ, List.getElem_cons_zero, List.setIfInBounds_toArray, List.set_cons_zero, List.set_cons_succ]
                  refine wpAnyH_done (by kernel_rfl) ?_ _
                  go_wp2
                  go_ret
                  exact ⟨rfl, B1.out.trans_ (P8.out.trans_ (by repeat' (first | exact Bl.refl _ | with_reducible assumption | with_reducible refine Bl.drew_ ?_ | with_reducible refine Bl.drewN_ ?_ _ | with_reducible refine Bl.alloc_ ?_ _ | with_reducible refine Bl.trans_ ?_ (by assumption) | with_reducible refine Bl.trans_ ?_ (And.left (by assumption)))))⟩
                · have b1 : decide (d < 0) = false := by simpa using e1
                  go_wp2_with fail
                  refine wp_region_held_drew (S := fun wx => wx.cell? ⟨w1.heap.size, 0, none⟩ = some (.int .i64 (j : Int)) ∧ wx.cell? ⟨w1.heap.size, 1, none⟩ = some (.slice A' l c')) (by kernel_rfl) ?_ (fun hHeld => ?_)
                  · (exact HSH.out _ (by repeat' (first | exact Bl.refl _ | with_reducible assumption | with_reducible refine Bl.drew_ ?_ | with_reducible refine Bl.drewN_ ?_ _ | with_reducible refine Bl.alloc_ ?_ _ | with_reducible refine Bl.trans_ ?_ (by assumption) | with_reducible refine Bl.trans_ ?_ (And.left (by assumption)))))
                  refine wpAnyH_take (i := 0) (v := ?_) rfl (by kernel_rfl) (by kernel_rfl) (by kernel_rfl) (fun _ _ _ h => h) (Or.inl ⟨by kernel_rfl, ?_⟩) (by assumption) ?_
                  rotate_left
                  · (intro wx hSw; (try dsimp only at hSw); go_simp; try (with_reducible rfl))
                  try simp only [Act.put, List.getElem_toArray, List.getElem_cons_succ, List.getElem_cons_zero, List.setIfInBounds_toArray, List.set_cons_zero, List.set_cons_succ]
                  refine wpAnyH_take (i := 1) (v := ?_) rfl (by kernel_rfl) (by kernel_rfl) (by kernel_rfl) (fun _ _ _ h => h) (Or.inl ⟨by kernel_rfl, ?_⟩) (by assumption) ?_
                  rotate_left
                  · (intro wx hSw; (try dsimp only at hSw); go_simp; try (with_reducible rfl))
                  try simp only [Act.put, List.getElem_toArray, List.getElem_cons_succ, List.getElem_cons_zero, List.setIfInBounds_toArray, List.set_cons_zero, List.set_cons_succ]
                  refine wpAnyH_take (i := 2) (v := ?_) rfl (by kernel_rfl) (by kernel_rfl) (by kernel_rfl) (fun _ _ _ h => h) (Or.inl ⟨by kernel_rfl, ?_⟩) (by assumption) ?_
                  rotate_left
                  · (intro wx hSw; (try dsimp only at hSw); go_simp; try (with_reducible rfl))
                  try simp only [Act.put, List.getElem_toArray, List.getElem_cons_succ, List.getElem_cons_zero, List.setIfInBounds_toArray, List.set_cons_zero, List.set_cons_succ]
                  refine wpAnyH_take (i := 3) (v := ?_) rfl (by kernel_rfl) (by kernel_rfl) (by kernel_rfl) (fun _ _ _ h => h) (Or.inl ⟨by kernel_rfl, ?_⟩) (by assumption) ?_
                  rotate_left
                  · (intro wx hSw; (try dsimp only at hSw); go_simp; try (with_reducible rfl))
                  try simp only [Act.put, List.getElem_toArray, List.getElem_cons_succ, List.getElem_cons_zero, List.setIfInBounds_toArray, List.set_cons_zero, List.set_cons_succ]
                  refine wpAnyH_take (i := 4) (v := ?_) rfl (by kernel_rfl) (by kernel_rfl) (by kernel_rfl) (fun _ _ _ h => h) (Or.inl ⟨by kernel_rfl, ?_⟩) (by assumption) ?_
                  rotate_left
                  · (intro wx hSw; (try dsimp only at hSw); go_simp; try (with_reducible rfl))
                  try simp only [Act.put, List.getElem_toArray, List.getElem_cons_succ, List.getElem_cons_zero, List.setIfInBounds_toArray, List.set_cons_zero, List.set_cons_succ]
                  refine wpAnyH_take (i := 5) (v := ?_) rfl (by kernel_rfl) (by kernel_rfl) (by kernel_rfl) (fun _ _ _ h => h) (Or.inl ⟨by kernel_rfl, ?_⟩) (by assumption) ?_
                  rotate_left
                  · (intro wx hSw; (try dsimp only at hSw); go_simp; try (with_reducible rfl))
                  try simp only [Act.put, List.getElem_toArray, List.getElem_cons_succ, List.getElem_cons_zero, List.setIfInBounds_toArray, List.set_cons_zero, List.set_cons_succ]
                  refine wpAnyH_take (i := 6) (v := ?_) rfl (by kernel_rfl) (by kernel_rfl) (by kernel_rfl) (fun _ _ _ h => h) (Or.inl ⟨by kernel_rfl, ?_⟩) (by assumption) ?_
                  rotate_left
                  · (intro wx hSw; (try dsimp only at hSw); go_simp; try (with_reducible rfl))
                  try simp only [Act.put, List.getElem_toArray, List.getElem_cons_succ, List.getElem_cons_zero, List.setIfInBounds_toArray, List.set_cons_zero, List.set_cons_succ]
                  refine wpAnyH_take (i := 8) (v := ?_) rfl (by kernel_rfl) (by kernel_rfl) (by kernel_rfl) (fun _ _ _ h => h) (Or.inl ⟨by kernel_rfl, ?_⟩) (by assumption) ?_
                  rotate_left
                  · (intro wx hSw; (try dsimp only at hSw); go_simp; try (with_reducible rfl))
                  try simp only [Act.put, List.getElem_toArray, List.getElem_cons_succ, List.getElem_cons_zero, List.setIfInBounds_toArray, List.set_cons_zero, List.set_cons_succ]
                  refine wpAnyH_take (i := 9) (v := ?_) rfl (by kernel_rfl) (by kernel_rfl) (by kernel_rfl) (fun _ _ _ h => h) (Or.inl ⟨by kernel_rfl, ?_⟩) (by assumption) ?_
                  rotate_left
                  · (intro wx hSw; (try dsimp only at hSw); go_simp; try (with_reducible rfl))
                  try simp only [Act.put, List.getElem_toArray, List.getElem_cons_succ, List.getElem_cons_zero, List.setIfInBounds_toArray, List.set_cons_zero, List.set_cons_succ]
                  refine wpAnyH_take (i := 10) (v := ?_) rfl (by kernel_rfl) (by kernel_rfl) (by kernel_rfl) (fun _ _ _ h => h) (Or.inl ⟨by kernel_rfl, ?_⟩) (by assumption) ?_
                  rotate_left
                  · (intro wx hSw; (try dsimp only at hSw); go_simp; try (with_reducible rfl))
                  try simp only [Act.put, List.getElem_toArray, List.getElem_cons_succ, List.getElem_cons_zero, List.setIfInBounds_toArray, List.set_cons_zero, List.set_cons_succ]
                  refine wpAnyH_ready (rs := [7]) (by kernel_rfl) (by simp) ?_
                  refine AllReadyH.cons rfl (fun K hK => ?_) AllReadyH.nil
                  go_simp
                  (go_at_call 39; refine (implBetween_any j s t d A' l c' L HL.out hlc _ (by omega) (HA.out.bl (P8.out.trans_ (by repeat' (first | exact Bl.refl _ | with_reducible assumption | with_reducible refine Bl.drew_ ?_ | with_reducible refine Bl.drewN_ ?_ _ | with_reducible refine Bl.alloc_ ?_ _ | with_reducible refine Bl.trans_ ?_ (by assumption) | with_reducible refine Bl.trans_ ?_ (And.left (by assumption))))))).mono ?_; rintro e w9 ⟨v9, rfl, hv9, hb9⟩; rw [BON2.out (by omega)] at hv9; obtain ⟨A9, c9, rfl, -, hi9, -, -⟩ := OwnN.shape hv9; rw [← HK9.out]; have I9 := Lib.hid hi9; clear hv9 hi9)
                  try (go_wp2_with fail)
                  refine hK.out _ _ ?_ (fun hHeld => ?_)
                  · (exact HSH.out _ (by repeat' (first | exact Bl.refl _ | with_reducible assumption | with_reducible refine Bl.drew_ ?_ | with_reducible refine Bl.drewN_ ?_ _ | with_reducible refine Bl.alloc_ ?_ _ | with_reducible refine Bl.trans_ ?_ (by assumption) | with_reducible refine Bl.trans_ ?_ (And.left (by assumption)))))
                  clear hK K
                  try simp only [Act.put, List.getElem_toArray, List.getElem_cons_succ, List.getElem_cons_zero, List.setIfInBounds_toArray, List.set_cons_zero, List.set_cons_succ]
                  refine wpAnyH_ready (rs := [11]) (by kernel_rfl) (by simp) ?_
                  refine AllReadyH.cons rfl (fun K hK => ?_) AllReadyH.nil
                  go_simp
                  (go_at_call 35; refine (implOnShortest_any j s t A' l c' L HL.out hlc _ (by omega) (HA.out.bl (P8.out.trans_ (by repeat' (first | exact Bl.refl _ | with_reducible assumption | with_reducible refine Bl.drew_ ?_ | with_reducible refine Bl.drewN_ ?_ _ | with_reducible refine Bl.alloc_ ?_ _ | with_reducible refine Bl.trans_ ?_ (by assumption) | with_reducible refine Bl.trans_ ?_ (And.left (by assumption))))))).mono ?_; rintro e w10 ⟨v10, rfl, hv10, hb10⟩; obtain ⟨A10, c10, rfl, -, hi10, -, -⟩ := OwnN.shape hv10; rw [← HK9.out]; have I10 := Lib.hid hi10; clear hv10 hi10)
                  try (go_wp2_with fail)
                  refine hK.out _ _ ?_ (fun hHeld => ?_)
                  · (exact HSH.out _ (by repeat' (first | exact Bl.refl _ | with_reducible assumption | with_reducible refine Bl.drew_ ?_ | with_reducible refine Bl.drewN_ ?_ _ | with_reducible refine Bl.alloc_ ?_ _ | with_reducible refine Bl.trans_ ?_ (by assumption) | with_reducible refine Bl.trans_ ?_ (And.left (by assumption)))))
                  clear hK K
                  try simp only [Act.put, List.getElem_toArray, List.getElem_cons_succ, List.getElem_cons_zero, List.setIfInBounds_toArray, List.set_cons_zero, List.set_cons_succ]
                  refine wpAnyH_ready (rs := [12]) (by kernel_rfl) (by simp) ?_
                  refine AllReadyH.cons rfl (fun K hK => ?_) AllReadyH.nil
                  go_simp
                  (go_at_call 30; refine (sameInts_yes A9 A10 c9 c10 _ k9 HK9.out _ (by omega) (I9.out.bl (by repeat' (first | exact Bl.refl _ | with_reducible assumption | with_reducible refine Bl.drew_ ?_ | with_reducible refine Bl.drewN_ ?_ _ | with_reducible refine Bl.alloc_ ?_ _ | with_reducible refine Bl.trans_ ?_ (by assumption) | with_reducible refine Bl.trans_ ?_ (And.left (by assumption))))) (I10.out.bl (by repeat' (first | exact Bl.refl _ | with_reducible assumption | with_reducible refine Bl.drew_ ?_ | with_reducible refine Bl.drewN_ ?_ _ | with_reducible refine Bl.alloc_ ?_ _ | with_reducible refine Bl.trans_ ?_ (by assumption) | with_reducible refine Bl.trans_ ?_ (And.left (by assumption)))))).mono ?_; rintro e w11 ⟨rfl, hb11⟩)
                  try (go_wp2_with fail)
                  refine hK.out _ _ ?_ (fun hHeld => ?_)
                  · (exact HSH.out _ (by repeat' (first | exact Bl.refl _ | with_reducible assumption | with_reducible refine Bl.drew_ ?_ | with_reducible refine Bl.drewN_ ?_ _ | with_reducible refine Bl.alloc_ ?_ _ | with_reducible refine Bl.trans_ ?_ (by assumption) | with_reducible refine Bl.trans_ ?_ (And.left (by assumption)))))
                  clear hK K
                  try simp only [Act.put, List.getElem_toArray, List.getElem_cons_succ, List.getElem_cons_zero, List.setIfInBounds_toArray, List.set_cons_zero, List.set_cons_succ]
                  refine wpAnyH_take (i := 13) (v := ?_) rfl (by kernel_rfl) (by kernel_rfl) (by kernel_rfl) (fun _ _ _ h => h) (Or.inl ⟨by kernel_rfl, ?_⟩) (by assumption) ?_
                  rotate_left
                  · (intro wx hSw; (try dsimp only at hSw); go_simp; try (with_reducible rfl))
                  try simp only [Act.put, List.getElem_toArray, List.getElem_cons_succ, List.getElem_cons_zero, List.setIfInBounds_toArray, List.set_cons_zero, List.set_cons_succ]
                  refine wpAnyH_take (i := 14) (v := ?_) rfl (by kernel_rfl) (by kernel_rfl) (by kernel_rfl) (fun _ _ _ h => h) (Or.inl ⟨by kernel_rfl, ?_⟩) (by assumption) ?_
                  rotate_left
                  · (intro wx hSw; (try dsimp only at hSw); go_simp; try (with_reducible rfl))
                  try simp only [Act.put, List.getElem_toArray, List.getElem_cons_succ, List.getElem_cons_zero, List.setIfInBounds_toArray, List.set_cons_zero, List.set_cons_succ]
                  refine wpAnyH_done (by kernel_rfl) ?_ _
                  go_wp2
                  go_ret
                  exact ⟨rfl, B1.out.trans_ (P8.out.trans_ (by repeat' (first | exact Bl.refl _ | with_reducible assumption | with_reducible refine Bl.drew_ ?_ | with_reducible refine Bl.drewN_ ?_ _ | with_reducible refine Bl.alloc_ ?_ _ | with_reducible refine Bl.trans_ ?_ (by assumption) | with_reducible refine Bl.trans_ ?_ (And.left (by assumption)))))⟩

end Go.Proofs.Ytpbgnidjgmmebaa
