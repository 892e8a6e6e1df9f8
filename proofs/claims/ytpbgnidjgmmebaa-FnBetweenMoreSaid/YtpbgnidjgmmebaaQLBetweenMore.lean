/-
  What is proved here: the walk of the law FnBetweenMore: at every code that can be read it returns true and leaves what was there as it was. No conditions beyond those that each theorem states.
-/
import Derived.Test.YtpbgnidjgmmebaaQHL
import Derived.Test.YtpbgnidjgmmebaaQDB
import Derived.Test.YtpbgnidjgmmebaaQOS
import Derived.Test.YtpbgnidjgmmebaaQOJ
import Derived.Test.YtpbgnidjgmmebaaZP
set_option linter.unusedSimpArgs false
set_option linter.unusedVariables false
namespace Go.Proofs.Ytpbgnidjgmmebaa
open Go.RowKit

set_option maxRecDepth 100000 in
set_option maxHeartbeats 8000000 in
theorem lawBetweenMore_any (A : Option Addr) (n c : Nat) (w : World) (H : BytesAt w A n) :
    Calls Try.prog 11 #[.slice A n c] w fun e w' => e = .returned (.bool true) ∧ Bl w w' := by
  have K := Lib.hid H
  clear H
  by_cases hbig : (1048576 : Int) < (n : Int)
  · have hb : decide ((1048576 : Int) < (n : Int)) = true := by simpa using hbig
    clear hbig
    go_enter Try.func11, Try.ntmps11
    go_wp2_with (go_at_call 17; refine (big_any _ _ _ _).mono ?_; rintro e w' ⟨rfl, rfl⟩)
    go_ret
    exact ⟨rfl, (by repeat' (first | exact Bl.refl _ | with_reducible assumption | with_reducible refine Bl.drew_ ?_ | with_reducible refine Bl.drewN_ ?_ _ | with_reducible refine Bl.alloc_ ?_ _ | with_reducible refine Bl.trans_ ?_ (by assumption) | with_reducible refine Bl.trans_ ?_ (And.left (by assumption))))⟩
  · have hb : decide ((1048576 : Int) < (n : Int)) = false := by simpa using hbig
    have hn : n ≤ 1099511627776 := by omega
    clear hbig
    go_enter Try.func11, Try.ntmps11
    go_wp2_with fail
    refine (big_any _ _ _ _).mono ?_
    rintro e w1 ⟨rfl, rfl⟩
    go_wp2_with fail
    refine (drawBetween_any A n c _ hn K.out).mono ?_
    rintro e w1 ⟨N, A', l, c', L, s, t, m, rfl, hd, hs, ht, hm, hb1⟩
    obtain ⟨ha, hlc⟩ := hd.arcs
    have HL := Lib.hid hd.1
    have hl200 := hd.2.1
    have HA := Lib.hid (ha.bl (Bl.alloc_ (Bl.refl w1) (.cells #[.int .i64 N, .slice A' l c'] 26)))
    have B1 := Lib.hid (hb1.alloc_ (.cells #[.int .i64 N, .slice A' l c'] 26))
    clear hd hs ht hb1 ha hm
    go_wp2_with fail
    refine (implBetween_any N s t m A' l c' L HL.out hlc _ (by omega) HA.out).mono ?_
    rintro e w2 ⟨v2, rfl, hv2, hb2⟩
    obtain ⟨A2, c2, rfl, -, hi2, -, -⟩ := OwnN.shape hv2
    have I2 := Lib.hid hi2
    obtain ⟨k, hk⟩ : ∃ k, k = (betL N L s t m).length := ⟨_, rfl⟩
    have hk20 : k ≤ 1048576 := by rw [hk]; exact betL_len N L s t m
    rw [← hk]
    have HK := Lib.hid hk
    obtain ⟨q0, q1⟩ := box2 hb2
    clear hv2 hi2 hk
    go_wp2_with fail
    refine (specBetween_any N s t m A' l c' L HL.out hlc _ (by omega) (HA.out.bl hb2)).mono ?_
    rintro e w3 ⟨v3, rfl, hv3, hb3⟩
    obtain ⟨A3, c3, rfl, -, hi3, -, -⟩ := OwnN.shape hv3
    have I3 := Lib.hid hi3
    rw [← HK.out]
    clear hv3 hi3 q0 q1
    go_wp2_with fail
    refine (sameInts_yes A2 A3 c2 c3 _ k HK.out _ (by omega) (I2.out.bl hb3) I3.out).mono ?_
    rintro e w4 ⟨rfl, hb4⟩
    have P4 := Lib.hid (hb2.trans_ (hb3.trans_ hb4))
    have I4 := Lib.hid (I2.out.bl (hb3.trans_ hb4))
    clear hb2 hb3 hb4
    obtain ⟨q0, q1⟩ := box2 P4.out
    go_wp2_with fail
    refine (specOk_any N A' l c' L HL.out _ (by omega) (HA.out.bl P4.out)).mono ?_
    rintro e w5 ⟨rfl, hb5⟩
    have P5 := Lib.hid (P4.out.trans_ hb5)
    have I5 := Lib.hid (I4.out.bl hb5)
    clear hb5 q0 q1
    obtain ⟨q0, q1⟩ := box2 P5.out
    cases ho : okB N L with
    | false =>
      clear ho
      go_wp2_with fail
      refine (specBetween_any N s t m A' l c' L HL.out hlc _ (by omega) (HA.out.bl P5.out)).mono ?_
      rintro e w6 ⟨v6, rfl, hv6, hb6⟩
      obtain ⟨A6, c6, rfl, -, hi6, -, -⟩ := OwnN.shape hv6
      have I6 := Lib.hid hi6
      rw [← HK.out]
      clear hv6 hi6
      go_wp2_with fail
      refine (sameInts_yes A2 A6 c2 c6 _ k HK.out _ (by omega) (I5.out.bl hb6) I6.out).mono ?_
      rintro e w7 ⟨rfl, hb7⟩
      go_wp2
      go_ret
      exact ⟨rfl, B1.out.trans_ (P5.out.trans_ (hb6.trans_ hb7))⟩
    | true =>
      have HO := Lib.hid ho
      by_cases hm0 : m < 0
      · have c0 : decide (m < 0) = true := by simpa using hm0
        go_wp2_with fail
        refine (specBetween_any N s t m A' l c' L HL.out hlc _ (by omega) (HA.out.bl P5.out)).mono ?_
        rintro e w6 ⟨v6, rfl, hv6, hb6⟩
        obtain ⟨A6, c6, rfl, -, hi6, -, -⟩ := OwnN.shape hv6
        have I6 := Lib.hid hi6
        rw [← HK.out]
        clear hv6 hi6
        go_wp2_with fail
        refine (sameInts_yes A2 A6 c2 c6 _ k HK.out _ (by omega) (I5.out.bl hb6) I6.out).mono ?_
        rintro e w7 ⟨rfl, hb7⟩
        go_wp2
        go_ret
        exact ⟨rfl, B1.out.trans_ (P5.out.trans_ (hb6.trans_ hb7))⟩
      · have c0 : decide (m < 0) = false := by simpa using hm0
        by_cases hm1 : 24000 ≤ m
        · have c1 : decide (24000 ≤ m) = true := by simpa using hm1
          go_wp2_with fail
          refine (specBetween_any N s t m A' l c' L HL.out hlc _ (by omega) (HA.out.bl P5.out)).mono ?_
          rintro e w6 ⟨v6, rfl, hv6, hb6⟩
          obtain ⟨A6, c6, rfl, -, hi6, -, -⟩ := OwnN.shape hv6
          have I6 := Lib.hid hi6
          rw [← HK.out]
          clear hv6 hi6
          go_wp2_with fail
          refine (sameInts_yes A2 A6 c2 c6 _ k HK.out _ (by omega) (I5.out.bl hb6) I6.out).mono ?_
          rintro e w7 ⟨rfl, hb7⟩
          go_wp2
          go_ret
          exact ⟨rfl, B1.out.trans_ (P5.out.trans_ (hb6.trans_ hb7))⟩
        · have c1 : decide (24000 ≤ m) = false := by simpa using hm1
          have a1 : IntKind.i64.wrap (m + 1) = m + 1 := IntWalk.i64_in _ (by omega)
          have MORE := Lib.hid (fun v => betL_more (N := N) (L := L) (s := s) (t := t) (m := m) (v := v) (by omega))
          have HRL := Lib.hid (revL_len (okB_elim ho).2.2.2.2)
          have HT := Lib.hid (betL_turned (s := s) (t := t) (m := m) ho)
          clear ho
          go_wp2_with fail
          refine (implBetween_any N s t (m + 1) A' l c' L HL.out hlc _ (by omega) (HA.out.bl P5.out)).mono ?_
          rintro e w6 ⟨v6, rfl, hv6, hb6⟩
          obtain ⟨A6, c6, rfl, -, hi6, -, -⟩ := OwnN.shape hv6
          have I6 := Lib.hid hi6
          obtain ⟨k6, hk6⟩ : ∃ k6, k6 = (betL N L s t (m + 1)).length := ⟨_, rfl⟩
          have hk620 : k6 ≤ 1048576 := by rw [hk6]; exact betL_len N L s t (m + 1)
          rw [← hk6]
          have HK6 := Lib.hid hk6
          have P6 := Lib.hid (P5.out.trans_ hb6)
          have I56 := Lib.hid (I5.out.bl hb6)
          clear hv6 hi6 hk6 hb6 q0 q1
          generalize betL N L s t (m + 1) = U at *
          go_wp2_with fail
          go_loopw [9] (fun i wr => ∃ j : Nat, j ≤ k ∧ i = .int .i64 j ∧ Bl w6 wr) (fun i _ => k - (intOf i).toNat)
          case atStart => exact ⟨0, by omega, rfl, Bl.refl _⟩
          case round =>
            obtain ⟨j, hj, rfl, hbl⟩ := hrel
            by_cases hlt : j < k
            · have hjl : j < (betL N L s t m).length := by have := HK.out; omega
              obtain ⟨g1, o1, rfl, hg1, hc1⟩ := (I56.out.bl hbl).cell (by omega)
              have p1 := hc1 j hjl
              clear hc1
              have HM := Lib.hid (MORE.out _ (List.getElem_mem hjl))
              generalize (betL N L s t m)[j] = x at p1 HM
              have i1 : (0 : Int) ≤ (j : Int) := by omega
              have i2 : (j : Int) < (k : Int) := by omega
              go_wp2_with fail
              refine (hasL_any A6 c6 U k6 HK6.out x _ (by omega) (I6.out.bl hbl)).mono ?_
              rintro e w8 ⟨rfl, hb8⟩
              rw [show decide (x ∈ U) = true from by simpa using HM.out]
              go_wp2
              go_roundw
              case rel => exact ⟨j + 1, by omega, by go_num, hbl.trans_ hb8⟩
              case measure => simp [intOf]; omega
            · obtain rfl : j = k := by omega
              have P7 := Lib.hid (P6.out.trans_ hbl)
              have I7 := Lib.hid (I56.out.bl hbl)
              obtain ⟨q0, q1⟩ := box2 P7.out
              clear hbl
              go_wp2_with fail
              refine (implReversed_any N A' l c' L HL.out _ (by omega) (HA.out.bl P7.out)).mono ?_
              rintro e w8 ⟨v8, rfl, hv8, hb8⟩
              rw [show revN N L = N from if_pos HO.out]
              rw [show revG N L = revL L from if_pos HO.out] at hv8
              have hcap := OwnA.cap' hv8
              obtain ⟨A8, c8, rfl, ha8, -⟩ := hv8.shape
              have V8 := Lib.hid ha8
              have HC8 := Lib.hid (hcap _ _ _ rfl)
              have P8 := Lib.hid (P7.out.trans_ hb8)
              have I8 := Lib.hid (I7.out.bl hb8)
              clear hv8 hcap ha8 q0 q1 hb8
              go_wp2_with fail
              refine (implBetween_any N t s m A8 (revL L).length c8 (revL L) rfl HC8.out _ (by rw [HRL.out]; have := HL.out; omega) V8.out).mono ?_
              rintro e w9 ⟨v9, rfl, hv9, hb9⟩
              rw [HT.out] at hv9
              obtain ⟨A9, c9, rfl, -, hi9, -, -⟩ := OwnN.shape hv9
              have I9 := Lib.hid hi9
              have P9 := Lib.hid (P8.out.trans_ hb9)
              have I89 := Lib.hid (I8.out.bl hb9)
              rw [← HK.out]
              clear hv9 hi9 hb9
              have hkk : ((j : Int) == (j : Int)) = true := by simp
              generalize betL N L s t m = V at *
              go_wp2_with fail
              go_loopw [11] (fun i wr => ∃ q : Nat, q ≤ j ∧ i = .int .i64 q ∧ Bl w9 wr) (fun i _ => j - (intOf i).toNat)
              case atStart => exact ⟨0, by omega, rfl, Bl.refl _⟩
              case round =>
                obtain ⟨q, hq, rfl, hbl⟩ := hrel
                by_cases hlt : q < j
                · have hjl : q < V.length := by have := HK.out; omega
                  obtain ⟨g1, o1, rfl, hg1, hc1⟩ := (I9.out.bl hbl).cell (by omega)
                  have p1 := hc1 q hjl
                  clear hc1
                  have HM := Lib.hid (List.getElem_mem hjl)
                  generalize V[q] = x at p1 HM
                  have i1 : (0 : Int) ≤ (q : Int) := by omega
                  have i2 : (q : Int) < (j : Int) := by omega
                  go_wp2_with fail
                  refine (hasL_any A2 c2 V j HK.out x _ (by omega) (I89.out.bl hbl)).mono ?_
                  rintro e w10 ⟨rfl, hb10⟩
                  rw [show decide (x ∈ V) = true from by simpa using HM.out]
                  go_wp2
                  go_roundw
                  case rel => exact ⟨q + 1, by omega, by go_num, hbl.trans_ hb10⟩
                  case measure => simp [intOf]; omega
                · obtain rfl : q = j := by omega
                  go_wp2
                  go_ret
                  exact ⟨rfl, B1.out.trans_ (P9.out.trans_ hbl)⟩

end Go.Proofs.Ytpbgnidjgmmebaa
