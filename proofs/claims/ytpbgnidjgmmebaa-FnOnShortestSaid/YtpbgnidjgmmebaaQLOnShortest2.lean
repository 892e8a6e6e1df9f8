/-
  What is proved here: the walk of the law FnOnShortest: at every code that can be read it returns true and leaves what was there as it was. No conditions beyond those that each theorem states.
-/
import Derived.Test.YtpbgnidjgmmebaaQHL
import Derived.Test.YtpbgnidjgmmebaaQDO
import Derived.Test.YtpbgnidjgmmebaaQOS
import Derived.Test.YtpbgnidjgmmebaaQOJ
import Derived.Test.YtpbgnidjgmmebaaZP
import Derived.Test.YtpbgnidjgmmebaaZS
set_option linter.unusedSimpArgs false
set_option linter.unusedVariables false
namespace Go.Proofs.Ytpbgnidjgmmebaa
open Go.RowKit

/-- There is a path just where there are nodes on one. -/
theorem path_some {N s t : Int} {L : List Arc3} (hh : has2 N L s t = true) : decide (0 < (pathL N L s t).length) = decide (0 < (onL N L s t).length) := by
  rw [decide_eq_decide]
  obtain ⟨ho, hs, ht⟩ := has2_of hh
  by_cases hd : 0 ≤ dAt (distL N (revL L) t) s
  · have hw := way_path hh hd
    have hp := hw.pos
    have hm : s ∈ pathL N L s t := by
      have h2 : (pathL N L s t)[0] ∈ pathL N L s t := List.getElem_mem hp
      rw [hw.head hp] at h2
      exact h2
    have := List.length_pos_of_mem (path_on hm)
    omega
  · have h1 : pathL N L s t = [] := by
      unfold pathL
      rw [if_neg (by rw [Bool.and_eq_true]; intro h; exact hd (of_decide_eq_true h.2))]
    have h2 : onL N L s t = [] := by
      unfold onL
      rw [if_pos hh]
      unfold withinL
      exact withinD_none (by rw [← distL_of_turned ho hs ht]; omega)
    rw [h1, h2]

set_option maxRecDepth 100000 in
set_option maxHeartbeats 8000000 in
theorem lawOnShortest2_any (A : Option Addr) (n c : Nat) (w : World) (H : BytesAt w A n) :
    Calls Try.prog 6 #[.slice A n c] w fun e w' => e = .returned (.bool true) ∧ Bl w w' := by
  have K := Lib.hid H
  clear H
  by_cases hbig : (1048576 : Int) < (n : Int)
  · have hb : decide ((1048576 : Int) < (n : Int)) = true := by simpa using hbig
    clear hbig
    go_enter Try.func6, Try.ntmps6
    go_wp2_with (go_at_call 17; refine (big_any _ _ _ _).mono ?_; rintro e w' ⟨rfl, rfl⟩)
    go_ret
    exact ⟨rfl, (by repeat' (first | exact Bl.refl _ | with_reducible assumption | with_reducible refine Bl.drew_ ?_ | with_reducible refine Bl.drewN_ ?_ _ | with_reducible refine Bl.alloc_ ?_ _ | with_reducible refine Bl.trans_ ?_ (by assumption) | with_reducible refine Bl.trans_ ?_ (And.left (by assumption))))⟩
  · have hb : decide ((1048576 : Int) < (n : Int)) = false := by simpa using hbig
    have hn : n ≤ 1099511627776 := by omega
    clear hbig
    go_enter Try.func6, Try.ntmps6
    go_wp2_with fail
    refine (big_any _ _ _ _).mono ?_
    rintro e w1 ⟨rfl, rfl⟩
    go_wp2_with fail
    refine (drawOnShortest_any A n c _ hn K.out).mono ?_
    rintro e w1 ⟨N, A', l, c', L, s, t, rfl, hd, hs, ht, hb1⟩
    obtain ⟨ha, hlc⟩ := hd.arcs
    have HL := Lib.hid hd.1
    have hl200 := hd.2.1
    have HA := Lib.hid (ha.bl (Bl.alloc_ (Bl.refl w1) (.cells #[.int .i64 N, .slice A' l c'] 26)))
    have B1 := Lib.hid (hb1.alloc_ (.cells #[.int .i64 N, .slice A' l c'] 26))
    clear hd hs ht hb1 ha
    go_wp2_with fail
    refine (implOnShortest_any N s t A' l c' L HL.out hlc _ (by omega) HA.out).mono ?_
    rintro e w2 ⟨v2, rfl, hv2, hb2⟩
    obtain ⟨A2, c2, rfl, -, hi2, -, -⟩ := OwnN.shape hv2
    have I2 := Lib.hid hi2
    obtain ⟨k, hk⟩ : ∃ k, k = (onL N L s t).length := ⟨_, rfl⟩
    have hk20 : k ≤ 1048576 := by rw [hk]; exact onL_len N L s t
    rw [← hk]
    have HK := Lib.hid hk
    obtain ⟨q0, q1⟩ := box2 hb2
    clear hv2 hi2 hk
    go_wp2_with fail
    refine (specOnShortest_any N s t A' l c' L HL.out hlc _ (by omega) (HA.out.bl hb2)).mono ?_
    rintro e w3 ⟨v3, rfl, hv3, hb3⟩
    obtain ⟨A3, c3, rfl, -, hi3, -, -⟩ := OwnN.shape hv3
    have I3 := Lib.hid hi3
    rw [← HK.out]
    clear hv3 hi3 q0 q1
    go_wp2_with fail
    refine (sameInts_yes A2 A3 c2 c3 _ k HK.out _ (by omega) (I2.out.bl hb3) I3.out).mono ?_
    rintro e w4 ⟨rfl, hb4⟩
    have P4 := Lib.hid (hb2.trans_ (hb3.trans_ hb4))
    have I4 := Lib.hid (I2.out.bl (hb3.trans_ hb4))
    clear hb2 hb3 hb4
    obtain ⟨q0, q1⟩ := box2 P4.out
    go_wp2_with fail
    refine (nodeLaw_any N s A' l c' L HL.out _ (by omega) (HA.out.bl P4.out)).mono ?_
    rintro e w21 ⟨rfl, hb21⟩
    have P21 := Lib.hid (P4.out.trans_ hb21)
    have I21 := Lib.hid (I4.out.bl hb21)
    clear hb21 q0 q1
    obtain ⟨q0, q1⟩ := box2 P21.out
    cases hs1 : has1 N L s with
    | false =>
      clear hs1
      go_wp2_with fail
      refine (specOnShortest_any N s t A' l c' L HL.out hlc _ (by omega) (HA.out.bl P21.out)).mono ?_
      rintro e w6 ⟨v6, rfl, hv6, hb6⟩
      obtain ⟨A6, c6, rfl, -, hi6, -, -⟩ := OwnN.shape hv6
      have I6 := Lib.hid hi6
      rw [← HK.out]
      clear hv6 hi6
      go_wp2_with fail
      refine (sameInts_yes A2 A6 c2 c6 _ k HK.out _ (by omega) (I21.out.bl hb6) I6.out).mono ?_
      rintro e w7 ⟨rfl, hb7⟩
      go_wp2
      go_ret
      exact ⟨rfl, B1.out.trans_ (P21.out.trans_ (hb6.trans_ hb7))⟩
    | true =>
      go_wp2_with fail
      refine (nodeLaw_any N t A' l c' L HL.out _ (by omega) (HA.out.bl P21.out)).mono ?_
      rintro e w22 ⟨rfl, hb22⟩
      have P22 := Lib.hid (P21.out.trans_ hb22)
      have I22 := Lib.hid (I21.out.bl hb22)
      clear hb22 q0 q1
      obtain ⟨q0, q1⟩ := box2 P22.out
      cases ht1 : has1 N L t with
      | false =>
        clear ht1
        go_wp2_with fail
        refine (specOnShortest_any N s t A' l c' L HL.out hlc _ (by omega) (HA.out.bl P22.out)).mono ?_
        rintro e w6 ⟨v6, rfl, hv6, hb6⟩
        obtain ⟨A6, c6, rfl, -, hi6, -, -⟩ := OwnN.shape hv6
        have I6 := Lib.hid hi6
        rw [← HK.out]
        clear hv6 hi6
        go_wp2_with fail
        refine (sameInts_yes A2 A6 c2 c6 _ k HK.out _ (by omega) (I22.out.bl hb6) I6.out).mono ?_
        rintro e w7 ⟨rfl, hb7⟩
        go_wp2
        go_ret
        exact ⟨rfl, B1.out.trans_ (P22.out.trans_ (hb6.trans_ hb7))⟩
      | true =>
        have hh : has2 N L s t = true := by
          obtain ⟨ho, hs⟩ := has1_of hs1
          obtain ⟨-, ht⟩ := has1_of ht1
          unfold has2
          rw [ho, Bool.true_and, decide_eq_true_eq]
          exact ⟨hs, ht⟩
        clear hs1 ht1
        have MEM := Lib.hid (fun (v : Int) (hv : 0 ≤ v ∧ v < N) => onL_mem (v := v) hh hv)
        have SOME := Lib.hid (path_some hh)
        have PON := Lib.hid (fun (x : Int) (hx : x ∈ pathL N L s t) => path_on hx)
        have PL := Lib.hid (pathL_len N L s t)
        have hN1 := (okB_elim (has2_of hh).1).1
        have hN24 := (okB_elim (has2_of hh).1).2.1
        obtain ⟨z, rfl⟩ : ∃ z : Nat, N = z := ⟨N.toNat, by omega⟩
        clear hh
        go_wp2_with fail
        refine (implDistOf_any z s t A' l c' L HL.out hlc _ (by omega) (HA.out.bl P22.out)).mono ?_
        rintro e w23 ⟨rfl, hb23⟩
        have P23 := Lib.hid (P22.out.trans_ hb23)
        have I23 := Lib.hid (I22.out.bl hb23)
        have D0 := Lib.hid (distOfI_bounds (N := z) (s := s) (t := t) (L := L))
        clear hb23 q0 q1
        obtain ⟨q0, q1⟩ := box2 P23.out
        generalize distOfI (z : Int) L s t = d at *
        generalize hV : onL (z : Int) L s t = V at *
        generalize hPP : pathL (z : Int) L s t = PP at *
        clear hV
        go_wp2_with fail
        clear q0 q1
        go_loopw [8] (fun i wr => ∃ j : Nat, j ≤ z ∧ i = .int .i64 j ∧ Bl w23 wr) (fun i _ => z - (intOf i).toNat)
        case atStart => exact ⟨0, by omega, rfl, Bl.refl _⟩
        case round =>
          obtain ⟨j, hj, rfl, hbl⟩ := hrel
          have hgb := P23.out.trans_ hbl
          obtain ⟨q0, q1⟩ := box2 hgb
          by_cases hlt : j < z
          · have i1 : (j : Int) < (z : Int) := by omega
            have HM := Lib.hid (MEM.out j ⟨by omega, i1⟩)
            have D1 := Lib.hid (distOfI_bounds (N := z) (s := s) (t := j) (L := L))
            have D2 := Lib.hid (distOfI_bounds (N := z) (s := j) (t := t) (L := L))
            go_wp2_with fail
            refine (implDistOf_any z s j A' l c' L HL.out hlc _ (by omega) (HA.out.bl hgb)).mono ?_
            rintro e w8 ⟨rfl, hb8⟩
            have P8 := Lib.hid (hgb.trans_ hb8)
            clear q0 q1
            obtain ⟨q0, q1⟩ := box2 P8.out
            go_wp2_with fail
            refine (implDistOf_any z j t A' l c' L HL.out hlc _ (by omega) (HA.out.bl P8.out)).mono ?_
            rintro e w9 ⟨rfl, hb9⟩
            have Q9 := Lib.hid (hbl.trans_ (hb8.trans_ hb9))
            clear hb8 hb9 q0 q1
            go_wp2_with fail
            refine (hasL_any A2 c2 V k HK.out j _ (by omega) (I23.out.bl Q9.out)).mono ?_
            rintro e w10 ⟨rfl, hb10⟩
            have QQ := Lib.hid (Q9.out.trans_ hb10)
            rw [show decide ((j : Int) ∈ V) = decide (0 ≤ distOfI z L s j ∧ 0 ≤ distOfI z L j t ∧ distOfI z L s j + distOfI z L j t = d) from by rw [decide_eq_decide]; exact HM.out]
            have d1 := D1.out
            have d2 := D2.out
            generalize distOfI (z : Int) L s j = a at *
            generalize distOfI (z : Int) L j t = b at *
            have j1 : (0 : Int) ≤ (j : Int) := by omega
            have a1 : IntKind.i64.wrap (a + b) = a + b := IntWalk.i64_in _ (by omega)
            clear hb10
            by_cases e1 : 0 ≤ a
            · have b1 : decide (0 ≤ a) = true := by simpa using e1
              by_cases e2 : 0 ≤ b
              · have b2 : decide (0 ≤ b) = true := by simpa using e2
                by_cases e3 : a + b = d
                · have b3 : (a + b == d) = true := by simpa using e3
                  rw [show decide (0 ≤ a ∧ 0 ≤ b ∧ a + b = d) = true from by simp only [decide_eq_true_eq]; omega]
                  go_wp2
                  go_roundw
                  case rel => exact ⟨j + 1, by omega, by go_num, QQ.out⟩
                  case measure => simp [intOf]; omega
                · have b3 : (a + b == d) = false := by simpa using e3
                  rw [show decide (0 ≤ a ∧ 0 ≤ b ∧ a + b = d) = false from by simp only [decide_eq_false_iff_not]; omega]
                  go_wp2
                  go_roundw
                  case rel => exact ⟨j + 1, by omega, by go_num, QQ.out⟩
                  case measure => simp [intOf]; omega
              · have b2 : decide (0 ≤ b) = false := by simpa using e2
                rw [show decide (0 ≤ a ∧ 0 ≤ b ∧ a + b = d) = false from by simp only [decide_eq_false_iff_not]; omega]
                go_wp2
                go_roundw
                case rel => exact ⟨j + 1, by omega, by go_num, QQ.out⟩
                case measure => simp [intOf]; omega
            · have b1 : decide (0 ≤ a) = false := by simpa using e1
              rw [show decide (0 ≤ a ∧ 0 ≤ b ∧ a + b = d) = false from by simp only [decide_eq_false_iff_not]; omega]
              go_wp2
              go_roundw
              case rel => exact ⟨j + 1, by omega, by go_num, QQ.out⟩
              case measure => simp [intOf]; omega
          · obtain rfl : j = z := by omega
            have IV := Lib.hid (I23.out.bl hbl)
            go_wp2_with fail
            refine (implPathOf_any j s t A' l c' L HL.out hlc _ (by omega) (HA.out.bl hgb)).mono ?_
            rintro e w8 ⟨v8, rfl, hv8, hb8⟩
            rw [hPP] at hv8 ⊢
            obtain ⟨A8, c8, rfl, -, hi8, -, -⟩ := OwnN.shape hv8
            obtain ⟨m8, hm8⟩ : ∃ m8, m8 = PP.length := ⟨_, rfl⟩
            have hm820 : m8 ≤ 1048576 := by rw [hm8]; exact PL.out
            rw [← hm8]
            rw [← hm8] at SOME
            have HM8 := Lib.hid hm8
            have I8 := Lib.hid hi8
            have P8 := Lib.hid (hgb.trans_ hb8)
            have J8 := Lib.hid (IV.out.bl hb8)
            rw [← HK.out] at SOME
            clear hv8 hi8 hm8 hb8 q0 q1 hPP
            have bs : (decide (0 < m8) == decide (0 < k)) = true := by rw [SOME.out]; simp
            go_wp2_with fail
            go_loopw [13] (fun i wr => ∃ q : Nat, q ≤ m8 ∧ i = .int .i64 q ∧ Bl w8 wr) (fun i _ => m8 - (intOf i).toNat)
            case atStart => exact ⟨0, by omega, rfl, Bl.refl _⟩
            case round =>
              obtain ⟨q, hq, rfl, hbl⟩ := hrel
              by_cases hlt : q < m8
              · have hql : q < PP.length := by have := HM8.out; omega
                obtain ⟨g1, o1, rfl, hg1, hc1⟩ := (I8.out.bl hbl).cell (by omega)
                have p1 := hc1 q hql
                clear hc1
                have HM := Lib.hid (PON.out _ (List.getElem_mem hql))
                generalize PP[q] = x at p1 HM
                have i1 : (0 : Int) ≤ (q : Int) := by omega
                have i2 : (q : Int) < (m8 : Int) := by omega
                go_wp2_with fail
                refine (hasL_any A2 c2 V k HK.out x _ (by omega) (J8.out.bl hbl)).mono ?_
                rintro e w10 ⟨rfl, hb10⟩
                rw [show decide (x ∈ V) = true from by simpa using HM.out]
                go_wp2
                go_roundw
                case rel => exact ⟨q + 1, by omega, by go_num, hbl.trans_ hb10⟩
                case measure => simp [intOf]; omega
              · obtain rfl : q = m8 := by omega
                go_wp2
                go_ret
                exact ⟨ret_bool (by first | exact bs | simp), B1.out.trans_ (P8.out.trans_ hbl)⟩

end Go.Proofs.Ytpbgnidjgmmebaa
