/-
  What is proved here: the walk of the law FnOutsTurned: at every code that can be read it returns true and leaves what was there as it was. No conditions beyond those that each theorem states.
-/
import Derived.Test.YtpbgnidjgmmebaaQSM
import Derived.Test.YtpbgnidjgmmebaaZP
import Derived.Test.YtpbgnidjgmmebaaZS
set_option linter.unusedSimpArgs false
set_option linter.unusedVariables false
namespace Go.Proofs.Ytpbgnidjgmmebaa
open Go.RowKit

theorem outsL_len3 (N : Int) (L : List Arc3) (u : Int) : (outsL N L u).length ≤ L.length := by
  unfold outsL
  split
  · exact List.length_filter_le _ _
  · simp
theorem intoN_succ {L : List Arc3} {v : Int} {k : Nat} (h : k < L.length) : intoN L v (k + 1) = intoN L v k + (if L[k].2.1 = v then 1 else 0) := by
  unfold intoN
  rw [List.take_succ_eq_append_getElem h, List.filter_append, List.length_append]
  congr 1
  simp only [List.filter_cons, List.filter_nil, beq_iff_eq]
  split <;> rfl
theorem intoN_le (L : List Arc3) (v : Int) (k : Nat) : intoN L v k ≤ k := by
  unfold intoN
  exact Nat.le_trans (List.length_filter_le _ _) (List.length_take_le _ _)

set_option maxRecDepth 100000 in
set_option maxHeartbeats 4000000 in
theorem lawOutsTurned_any (A : Option Addr) (n c : Nat) (w : World) (H : BytesAt w A n) :
    Calls Try.prog 3 #[.slice A n c] w fun e w' => e = .returned (.bool true) ∧ Bl w w' := by
  have K := Lib.hid H
  clear H
  by_cases hbig : (1048576 : Int) < (n : Int)
  · have hb : decide ((1048576 : Int) < (n : Int)) = true := by simpa using hbig
    clear hbig
    go_enter Try.func3, Try.ntmps3
    go_wp2_with (go_at_call 17; refine (big_any _ _ _ _).mono ?_; rintro e w' ⟨rfl, rfl⟩)
    go_ret
    exact ⟨rfl, (by repeat' (first | exact Bl.refl _ | with_reducible assumption | with_reducible refine Bl.drew_ ?_ | with_reducible refine Bl.drewN_ ?_ _ | with_reducible refine Bl.alloc_ ?_ _ | with_reducible refine Bl.trans_ ?_ (by assumption) | with_reducible refine Bl.trans_ ?_ (And.left (by assumption))))⟩
  · have hb : decide ((1048576 : Int) < (n : Int)) = false := by simpa using hbig
    have hn : n ≤ 1099511627776 := by omega
    clear hbig
    go_enter Try.func3, Try.ntmps3
    go_wp2_with fail
    refine (big_any _ _ _ _).mono ?_
    rintro e w1 ⟨rfl, rfl⟩
    go_wp2_with fail
    refine (drawOuts_any A n c _ hn K.out).mono ?_
    rintro e w1 ⟨N, A', l, c', L, v, rfl, hd, hs, hb1⟩
    obtain ⟨ha, hlc⟩ := hd.arcs
    have HL := Lib.hid hd.1
    have hl200 := hd.2.1
    have HA := Lib.hid (ha.bl (Bl.alloc_ (Bl.refl w1) (.cells #[.int .i64 N, .slice A' l c'] 26)))
    have B1 := Lib.hid (hb1.alloc_ (.cells #[.int .i64 N, .slice A' l c'] 26))
    clear hd hs hb1 ha
    go_wp2_with fail
    refine (implOuts_any N v A' l c' L HL.out hlc _ (by omega) HA.out).mono ?_
    rintro e w2 ⟨v2, rfl, hv2, hb2⟩
    obtain ⟨A2, c2, rfl, ha2, -⟩ := hv2.shape
    have V2 := Lib.hid ha2
    obtain ⟨k, hk⟩ : ∃ k, k = (outsL N L v).length := ⟨_, rfl⟩
    have hk200 : k ≤ 200 := by rw [hk]; have := outsL_len3 N L v; have := HL.out; omega
    rw [← hk]
    have HK := Lib.hid hk
    obtain ⟨q0, q1⟩ := box2 hb2
    clear hv2 ha2 hk
    go_wp2_with fail
    refine (specOuts_any N v A' l c' L HL.out _ (by omega) (HA.out.bl hb2)).mono ?_
    rintro e w3 ⟨v3, rfl, hv3, hb3⟩
    obtain ⟨A3, c3, rfl, ha3, -⟩ := hv3.shape
    have V3 := Lib.hid ha3
    rw [← HK.out]
    clear hv3 ha3
    go_wp2_with fail
    refine (sameArcs_yes A2 A3 c2 c3 _ k HK.out _ (by omega) (V2.out.bl hb3) V3.out).mono ?_
    rintro e w4 ⟨rfl, hb4⟩
    have P4 := Lib.hid (hb2.trans_ (hb3.trans_ hb4))
    have V4 := Lib.hid (V2.out.bl (hb3.trans_ hb4))
    obtain ⟨q0, q1⟩ := box2 P4.out
    clear hb2 hb3 hb4
    go_wp2_with fail
    refine (specOk_any N A' l c' L HL.out _ (by omega) (HA.out.bl P4.out)).mono ?_
    rintro e w5 ⟨rfl, hb5⟩
    have P5 := Lib.hid (P4.out.trans_ hb5)
    have V5 := Lib.hid (V4.out.bl hb5)
    obtain ⟨q0, q1⟩ := box2 P5.out
    cases ho : okB N L with
    | false =>
      have HO := Lib.hid ho
      clear ho hb5
      go_wp2_with fail
      refine (specOuts_any N v A' l c' L HL.out _ (by omega) (HA.out.bl P5.out)).mono ?_
      rintro e w6 ⟨v6, rfl, hv6, hb6⟩
      obtain ⟨A6, c6, rfl, ha6, -⟩ := hv6.shape
      have V6 := Lib.hid ha6
      rw [← HK.out]
      clear hv6 ha6
      go_wp2_with fail
      refine (sameArcs_yes A2 A6 c2 c6 _ k HK.out _ (by omega) (V5.out.bl hb6) V6.out).mono ?_
      rintro e w7 ⟨rfl, hb7⟩
      go_wp2
      go_ret
      exact ⟨rfl, B1.out.trans_ (P5.out.trans_ (hb6.trans_ hb7))⟩
    | true =>
      have HO := Lib.hid ho
      have hN24 := (okB_elim ho).2.1
      have hN1 := (okB_elim ho).1
      have HP := Lib.hid (okB_elim ho).2.2.2.2
      have HRO := Lib.hid (revL_ok ho)
      have HRL := Lib.hid (revL_len (okB_elim ho).2.2.2.2)
      have HU := Lib.hid (show ∀ u, outsL N (revL L) u = fromL u (revL L) from fun u => if_pos (revL_ok ho))
      clear ho hb5
      obtain ⟨m, rfl⟩ : ∃ m : Nat, N = m := ⟨N.toNat, by omega⟩
      go_wp2_with fail
      refine (implReversed_any m A' l c' L HL.out _ (by omega) (HA.out.bl P5.out)).mono ?_
      rintro e w6 ⟨v6, rfl, hv6, hb6⟩
      have hv6' : OwnA w6 w5.heap.size v6 (revL L) := by
        have : revG m L = revL L := if_pos HO.out
        rwa [this] at hv6
      rw [show revN (m : Int) L = (m : Int) from if_pos HO.out]
      obtain ⟨A6, c6, rfl, ha6, -⟩ := hv6'.shape
      have V6 := Lib.hid ha6
      obtain ⟨-, hc6⟩ := Drawn.arcs (B := w5.heap.size) (w := w6) (N := 0) (A' := A6) (l := (revL L).length) (c' := c6) (L := revL L) ⟨rfl, by rw [HRL.out]; have := HL.out; omega, ⟨by omega, by omega⟩, hv6'⟩
      have P6 := Lib.hid (P5.out.trans_ hb6)
      have X6 := Lib.hid (P6.out.alloc_ (.cells #[.int .i64 (m : Int), .slice A6 (revL L).length c6] 26))
      have VA6 := Lib.hid (V6.out.bl (Bl.alloc_ (Bl.refl w6) (.cells #[.int .i64 (m : Int), .slice A6 (revL L).length c6] 26)))
      clear hv6 hv6' ha6 hb6 q0 q1
      have HI := Lib.hid (fun u : Int => intoN_all HP.out u)
      go_wp2_with fail
      go_loopw [7] (fun i wr => ∃ u : Nat, u ≤ m ∧ i = .int .i64 u ∧ Bl (w6.alloc (.cells #[.int .i64 (m : Int), .slice A6 (revL L).length c6] 26)) wr) (fun i _ => m - (intOf i).toNat)
      case atStart => exact ⟨0, by omega, rfl, Bl.refl _⟩
      case round =>
        obtain ⟨u, hu, rfl, hbl⟩ := hrel
        obtain ⟨q0, q1⟩ := box2 (X6.out.trans_ hbl)
        by_cases hlt : u < m
        · have i1 : (u : Int) < (m : Int) := by omega
          go_wp2_with fail
          clear q0 q1
          go_loopw [8, 9] (fun cn i wx => ∃ j : Nat, j ≤ l ∧ i = .int .i64 j ∧ cn = .int .i64 (intoN L u j : Nat) ∧ Bl (w6.alloc (.cells #[.int .i64 (m : Int), .slice A6 (revL L).length c6] 26)) wx) (fun _ i _ => l - (intOf i).toNat)
          case atStart => exact ⟨0, by omega, rfl, by simp [intoN], hbl⟩
          case round =>
            obtain ⟨j, hj, rfl, rfl, hb2⟩ := hrel
            have hgb := X6.out.trans_ hb2
            obtain ⟨q0, q1⟩ := box2 hgb
            have hle := intoN_le L u j
            by_cases hlt2 : j < l
            · have hjl : j < L.length := by have := HL.out; omega
              obtain ⟨g2, o2, rfl, hg2, hc2⟩ := (HA.out.bl hgb) (by omega)
              obtain ⟨-, p2, -⟩ := hc2 j hjl
              have IS := Lib.hid (intoN_succ (v := (u : Int)) hjl)
              generalize L[j].2.1 = y at p2 IS
              clear hc2
              have j0 : (0 : Int) ≤ (j : Int) := by omega
              have j1 : (j : Int) < (l : Int) := by omega
              by_cases e : y = (u : Int)
              · have b1 : (y == (u : Int)) = true := by simp [e]
                have IS2 := Lib.hid (show intoN L u (j + 1) = intoN L u j + 1 from by rw [IS.out, if_pos e])
                generalize intoN L u j = q at *
                clear e IS
                go_wp2
                go_roundw
                case rel => exact ⟨j + 1, by omega, by go_num, by rw [IS2.out]; go_num, hb2⟩
                case measure => simp [intOf]; omega
              · have b1 : (y == (u : Int)) = false := by simp [e]
                have IS2 := Lib.hid (show intoN L u (j + 1) = intoN L u j from by rw [IS.out, if_neg e]; rfl)
                clear e IS
                go_wp2
                go_roundw
                case rel => exact ⟨j + 1, by omega, by go_num, by rw [IS2.out], hb2⟩
                case measure => simp [intOf]; omega
            · obtain rfl : j = l := by omega
              obtain ⟨r0, r1⟩ := box2 hb2
              have HIU := Lib.hid (show (fromL (u : Int) (revL L)).length = intoN L u j from by rw [HI.out, HL.out])
              go_wp2_with fail
              refine (implOuts_any m u A6 (revL L).length c6 (revL L) rfl hc6 _ (by rw [HRL.out]; have := HL.out; omega) (VA6.out.bl hb2)).mono ?_
              rintro e w9 ⟨v9, rfl, hv9, hb9⟩
              rw [HU.out] at hv9
              obtain ⟨A9, c9, rfl, -, -⟩ := hv9.shape
              rw [HIU.out]
              clear hv9
              generalize intoN L u j = q at *
              have hqq : ((q : Int) != (q : Int)) = false := by simp
              go_wp2
              go_roundw
              case rel => exact ⟨u + 1, by omega, by go_num, hb2.trans_ hb9⟩
              case measure => simp [intOf]; omega
        · go_wp2
          go_ret
          exact ⟨rfl, B1.out.trans_ (X6.out.trans_ hbl)⟩

end Go.Proofs.Ytpbgnidjgmmebaa
