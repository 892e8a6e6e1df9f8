/-
  What is proved here: the nodes by way of which it is at most so far, as the model tells them. No conditions beyond those that each theorem states.
-/
import Derived.Test.YtpbgnidjgmmebaaZN
import Derived.Test.YtpbgnidjgmmebaaZG
import Derived.Test.YtpbgnidjgmmebaaZP
set_option linter.unusedSimpArgs false
set_option linter.unusedVariables false
namespace Go.Proofs.Ytpbgnidjgmmebaa
open Go.RowKit

theorem cell_new_drewN (w : World) (n : Nat) (v : Value) (t : TypeId) : ((w.drewN n).alloc (.cells #[v] t)).cell? ⟨w.heap.size, 0, none⟩ = some v := by
  have h : ∀ wz : World, (wz.alloc (.cells #[v] t)).cell? ⟨wz.heap.size, 0, none⟩ = some v := fun wz => by simp [go_sem]
  exact h (w.drewN n)
theorem withinK_len' (D E : List Int) (m : Int) (k : Nat) : (withinK D E m k).length ≤ k := withinK_len D E m k
theorem byB_at {D E : List Int} {m : Int} {k : Nat} (h : k < D.length) (h' : k < E.length) : byB D E m (k : Int) = decide (0 ≤ D[k] ∧ 0 ≤ E[k] ∧ D[k] + E[k] ≤ m) := by
  unfold byB
  rw [dAt_at h, dAt_at h']

set_option maxRecDepth 100000 in
set_option maxHeartbeats 4000000 in
theorem specBetween_any (N s t m : Int) (A : Option Addr) (n c : Nat) (L : List Arc3) (hn : n = L.length) (hc : n ≤ c) (w : World) (hm : n ≤ 1048576) (H1 : ArcsAt w w.heap.size A L) :
    Calls Try.prog 40 #[.agg #[.int .i64 N, .slice A n c], .int .i64 s, .int .i64 t, .int .i64 m] w (NumsMade (betL N L s t m) w) := by
  obtain ⟨i0, hi, hz0, hz1, hz2⟩ := info_parts infoInt
  have I0 := Lib.hid hi
  have I1 := Lib.hid hz0
  have I2 := Lib.hid hz1
  have I3 := Lib.hid hz2
  have K1 := Lib.hid H1
  have HN := Lib.hid hn
  have O0 := Lib.hid (show ∀ wx, Bl ((w.alloc (.cells #[.int .i64 N, .slice A n c] 26)).alloc (.cells #[] 2)) wx → OwnN wx (w.heap.size + 1) (.slice (some ⟨w.heap.size + 1, 0, none⟩) 0 0) [] from fun wx hb => by
    have h := World.ownsRow_made (base := w.heap.size + 1) (e := 2) (size := 1) (w.alloc (.cells #[.int .i64 N, .slice A n c] 26)) #[] 0 (by simp) (by unfold maxLen; omega) rfl
    rw [World.size_alloc] at h
    exact OwnN.bl h hb)
  have BX := Lib.hid (show ∀ wx, Bl ((w.alloc (.cells #[.int .i64 N, .slice A n c] 26)).alloc (.cells #[] 2)) wx → wx.cell? ⟨w.heap.size, 0, none⟩ = some (.int .i64 N) ∧ wx.cell? ⟨w.heap.size, 1, none⟩ = some (.slice A n c) from fun wx hb => box2 ((Bl.alloc_ (Bl.refl (w.alloc (.cells #[.int .i64 N, .slice A n c] 26))) _).trans_ hb))
  have BW := Lib.hid (show ∀ wx, Bl ((w.alloc (.cells #[.int .i64 N, .slice A n c] 26)).alloc (.cells #[] 2)) wx → Bl w wx from fun wx hb => (Bl.alloc_ (Bl.alloc_ (Bl.refl w) _) _).trans_ hb)
  clear H1 hn hi hz0 hz1 hz2
  cases ho : okB N L with
  | false =>
    have HO := Lib.hid ho
    clear ho
    go_enter Try.func40, Try.ntmps40
    go_wp2_with fail
    refine (specOk_any N A n c L HN.out _ (by omega) (K1.out.bl (by repeat' (first | exact Bl.refl _ | with_reducible assumption | with_reducible refine Bl.drew_ ?_ | with_reducible refine Bl.drewN_ ?_ _ | with_reducible refine Bl.alloc_ ?_ _ | with_reducible refine Bl.trans_ ?_ (by assumption) | with_reducible refine Bl.trans_ ?_ (And.left (by assumption)))))).mono ?_
    rintro e w1 ⟨rfl, hb1⟩
    rw [HO.out]
    go_wp2
    go_ret
    refine ⟨_, rfl, ?_, BW.out _ hb1⟩
    rw [show betL N L s t m = [] from by unfold betL has2; rw [HO.out]; rfl]
    exact (O0.out _ hb1).low (by omega)
  | true =>
    have HO := Lib.hid ho
    have HNS := Lib.hid (nodeB_ok (v := s) ho)
    have HNT := Lib.hid (nodeB_ok (v := t) ho)
    by_cases hs : 0 ≤ s ∧ s < N
    · have hsd : decide (0 ≤ s ∧ s < N) = true := by simpa using hs
      have HS := Lib.hid hsd
      by_cases ht : 0 ≤ t ∧ t < N
      · have htd : decide (0 ≤ t ∧ t < N) = true := by simpa using ht
        have HT := Lib.hid htd
        clear hsd htd
        by_cases hmm : 0 ≤ m ∧ m ≤ 24000
        · have HI := Lib.hid (show inB m 0 24000 = true from by unfold inB; simpa using hmm)
          go_enter Try.func40, Try.ntmps40
          go_wp2_with fail
          refine (specOk_any N A n c L HN.out _ (by omega) (K1.out.bl (by repeat' (first | exact Bl.refl _ | with_reducible assumption | with_reducible refine Bl.drew_ ?_ | with_reducible refine Bl.drewN_ ?_ _ | with_reducible refine Bl.alloc_ ?_ _ | with_reducible refine Bl.trans_ ?_ (by assumption) | with_reducible refine Bl.trans_ ?_ (And.left (by assumption)))))).mono ?_
          rintro e w1 ⟨rfl, hb1⟩
          rw [HO.out]
          obtain ⟨q0, q1⟩ := BX.out _ hb1
          go_wp2_with fail
          refine (l1Node_any N s _ _).mono ?_
          rintro e w2 ⟨rfl, hb2⟩
          rw [HNS.out, HS.out]
          have hb2 := hb1.trans_ hb2
          obtain ⟨q0, q1⟩ := BX.out _ hb2
          go_wp2_with fail
          refine (l1Node_any N t _ _).mono ?_
          rintro e w3 ⟨rfl, hb3⟩
          rw [HNT.out, HT.out]
          have hb3 := hb2.trans_ hb3
          obtain ⟨q0, q1⟩ := BX.out _ hb3
          go_wp2_with fail
          refine (l1In_any m 0 24000 _).mono ?_
          rintro e w4 ⟨rfl, rfl⟩
          rw [HI.out]
          have hN24 := (okB_elim ho).2.1
          have hL150 := (okB_elim ho).2.2.1
          have HRO := Lib.hid (revL_ok ho)
          have HRL := Lib.hid (revL_len (okB_elim ho).2.2.2.2)
          have HD := Lib.hid (distL_is (s := s) (arcsIn_of_ok ho) hN24 hs.1 hs.2)
          have HE := Lib.hid (distL_is (s := t) (arcsIn_of_ok (revL_ok ho)) hN24 ht.1 ht.2)
          have HDT := Lib.hid (fun v => distL_top (s := s) ho hs.1 hs.2 v)
          have HET := Lib.hid (fun v => distL_top (s := t) (revL_ok ho) ht.1 ht.2 v)
          have HDl := Lib.hid (show (distL N L s).length = N.toNat from distL_len ho hs.1 hs.2)
          have HEl := Lib.hid (show (distL N (revL L) t).length = N.toNat from distL_len (revL_ok ho) ht.1 ht.2)
          have HV := Lib.hid (show betL N L s t m = withinD N (distL N L s) (distL N (revL L) t) m from by
            unfold betL withinL
            rw [if_pos (by rw [Bool.and_eq_true]; exact ⟨by unfold has2; rw [HO.out, Bool.true_and, decide_eq_true_eq]; exact ⟨hs, ht⟩, by simpa using hmm⟩)])
          go_wp2_with fail
          refine (l3Dist_any N s A n c L HN.out HO.out hs.1 hs.2 _ hm (K1.out.bl (BW.out _ hb3))).mono ?_
          rintro e w4 ⟨v4, rfl, hv4, hb4⟩
          obtain ⟨A4, c4, rfl, -, hi4, -, lo4⟩ := OwnN.shape hv4
          have LO4 := Lib.hid (show ∀ g, blockOf A4 = some g → w.heap.size + 1 < g from fun g hg => by have := lo4 g hg; have := hb3.size; simp at this; omega)
          have J4 := Lib.hid hi4
          have hb4 := hb3.trans_ hb4
          obtain ⟨q0, q1⟩ := BX.out _ hb4
          clear hv4 hi4
          go_wp2_with fail
          refine (l1Reverse_any N A n c L HN.out _ hm (K1.out.bl (BW.out _ hb4))).mono ?_
          rintro e w5 ⟨v5, rfl, hv5, hb5⟩
          obtain ⟨A5, c5, rfl, ha5, -⟩ := hv5.shape
          have J5 := Lib.hid ha5
          have JJ5 := Lib.hid (J4.out.bl hb5)
          have hb5 := hb4.trans_ hb5
          clear hv5 ha5
          go_wp2_with fail
          refine (l3Dist_any N t A5 (revL L).length c5 (revL L) rfl HRO.out ht.1 ht.2 _ (by rw [HRL.out]; omega) J5.out).mono ?_
          rintro e w6 ⟨v6, rfl, hv6, hb6⟩
          obtain ⟨A6, c6, rfl, -, hi6, -, lo6⟩ := OwnN.shape hv6
          have LO6 := Lib.hid (show ∀ g, blockOf A6 = some g → w.heap.size + 1 < g from fun g hg => by have := lo6 g hg; have := hb5.size; simp at this; omega)
          have J6 := Lib.hid hi6
          have JJ6 := Lib.hid (JJ5.out.bl hb6)
          have hb6 := hb5.trans_ hb6
          have O6 := Lib.hid (O0.out _ hb6)
          have P6 := Lib.hid hb6
          clear hv6 hi6 q0 q1 hb1 hb2 hb3 hb4 hb5 hb6 ho
          obtain ⟨k, rfl⟩ : ∃ k : Nat, N = k := ⟨N.toNat, by omega⟩
          have hDl := HDl.out
          have hEl := HEl.out
          rw [Int.toNat_natCast] at hDl hEl
          obtain ⟨q, rfl⟩ : ∃ q : Nat, t = q := ⟨t.toNat, by omega⟩
          have hqk : q < k := by omega
          rw [hDl, hEl]
          generalize distL k L s = D at *
          generalize distL k (revL L) q = E at *
          go_wp2_with fail
          go_loopw [9, 12] (fun vv i wr => ∃ (j : Nat) (v : Value), j ≤ k ∧ v = vv ∧ i = .int .i64 j ∧ OwnN wr (w.heap.size + 1) v (withinK D E m j) ∧ Turn (fun i => i = w.heap.size + 1) w6 wr ∧ ∀ g, v.ownBlock = some g → g = w.heap.size + 1 ∨ w6.heap.size ≤ g) (fun _ i _ => k - (intOf i).toNat)
          case atStart => exact ⟨0, _, by omega, rfl, rfl, by rw [withinK_zero]; exact O6.out, Turn.refl _ _, fun g hg => by simp [Value.ownBlock] at hg; omega⟩
          case round =>
            obtain ⟨j, v, hj, rfl, rfl, hO, hT, hVO⟩ := hrel
            have O := Lib.hid hO
            have hG : Bl (w.alloc (.cells #[.int .i64 (k : Int), .slice A n c] 26)) wr := Turn.to_bl ((Bl.alloc_ (Bl.refl _) _).trans_ P6.out) hT (fun i e => by simp; omega)
            obtain ⟨q0, q1⟩ := box2 hG
            have T := Lib.hid hT
            have VO := Lib.hid hVO
            have hsz := hG.size
            simp only [World.size_alloc] at hsz
            have hszT := hT.size
            have hs6 := P6.out.size
            simp only [World.size_alloc] at hs6
            have hwl := withinK_len D E m j
            clear hO
            by_cases hlt : j < k
            · have i1 : (j : Int) < (k : Int) := by omega
              have hjD : j < D.length := by omega
              have hjE : j < E.length := by omega
              obtain ⟨g1, o1, rfl, hg1, hc1⟩ := (show IntsAt wr w6.heap.size A4 D from CellsAt.turn JJ6.out (Nat.le_refl _) hT (fun g hg _ e => by have := LO4.out g hg; omega)).cell (by omega)
              obtain ⟨g2, o2, rfl, hg2, hc2⟩ := (show IntsAt wr w6.heap.size A6 E from CellsAt.turn J6.out (Nat.le_refl _) hT (fun g hg _ e => by have := LO6.out g hg; omega)).cell (by omega)
              have p1 := hc1 j hjD
              have p2 := hc2 j hjE
              clear hc1 hc2
              have BY := Lib.hid (byB_at (m := m) hjD hjE)
              have YES := Lib.hid (fun h => withinK_yes (D := D) (E := E) (m := m) (k := j) h)
              have NO := Lib.hid (fun h => withinK_no (D := D) (E := E) (m := m) (k := j) h)
              have hd0 := HDT.out j
              have he0 := HET.out j
              rw [dAt_at hjD] at hd0
              rw [dAt_at hjE] at he0
              generalize D[j] = d at *
              generalize E[j] = e at *
              have j0 : (0 : Int) ≤ (j : Int) := by omega
              have a1 : IntKind.i64.wrap (d + e) = d + e := IntWalk.i64_in _ (by omega)
              clear hd0 he0
              by_cases h1 : 0 ≤ d
              · have b1 : decide (0 ≤ d) = true := by simpa using h1
                by_cases h2 : 0 ≤ e
                · have b2 : decide (0 ≤ e) = true := by simpa using h2
                  by_cases h3 : d + e ≤ m
                  · have b3 : decide (d + e ≤ m) = true := by simpa using h3
                    have HY := Lib.hid (YES.out (by rw [BY.out, decide_eq_true_eq]; exact ⟨h1, h2, h3⟩))
                    clear YES NO BY
                    go_wp2
                    go_quiet (fail)
                    go_wp2_with (at_builtin; refine wpList_append_any _ rfl (.tmp 73) (.tmp 75) _ rfl (w.heap.size + 1) 2 i0 _ 1 8 Try.underlying37 I0.out I1.out I2.out I3.out rfl (by decide) _ (withinK D E m j).length (csI (withinK D E m j)) rfl (World.ownsRow.alloc (OwnN.bl O.out (by first | exact Bl.refl _ | exact (Bl.refl _).drew_ | exact (Bl.refl _).drewN_ _)) _) (wr.heap.size + 1) (some ⟨wr.heap.size, 0, none⟩) 1 1 [.int .i64 (j : Int)] rfl ?c0 (by simp [Value.oneCell']) ?c3 ?c4 ?c5 ?_)
                    case c0 =>
                      refine ⟨rfl, fun _ => ⟨_, rfl, by show wr.heap.size < wr.heap.size + 1; omega, fun x u hj => ?_⟩⟩
                      match x, hj with
                      | 0, hj => simp at hj; subst hj; (try simp [Addr.add, go_sem]); (try exact cell_new_drewN _ _ _ _)
                      | (x + 1), hj => simp at hj
                    case c3 => unfold maxLen; omega
                    case c4 => omega
                    case c5 => simp; omega
                    intro v' w7 hown' hgrow hwh
                    have O7 := Lib.hid (OwnN.snoc (V := withinK D E m j) (x := (j : Int)) (n := (withinK D E m j).length) rfl (by simpa using hown'))
                    rw [← HY.out] at O7
                    have T7 : Hid (Turn (fun i => i = w.heap.size + 1) w6 w7) := by
                      refine Lib.hid (Turn.trans (T.out.bl ?_) (Turn.of_grown (S := fun i => v.ownBlock = some i) hgrow (fun i e => e)) (fun i hi e => by rcases VO.out i e with h | h; exact h; omega))
                      first | exact (Bl.refl wr).alloc_ _ | exact ((Bl.refl wr).alloc_ _).drew_ | exact ((Bl.refl wr).alloc_ _).drewN_ _
                    have VO7 := Lib.hid (show ∀ g, v'.ownBlock = some g → g = w.heap.size + 1 ∨ w6.heap.size ≤ g from fun g hg => by
                      rcases hwh with h | h
                      · exact VO.out g (by rw [← h]; exact hg)
                      · right; rw [h] at hg; injection hg with hg; have := T.out.size; (try simp only [World.size_alloc] at hg); first | omega | (have h2 : wr.heap.size + 1 = g := hg; omega))
                    clear hown' hgrow hwh
                    go_wp2
                    go_roundw
                    case rel => exact ⟨j + 1, _, by omega, rfl, by go_num, O7.out, T7.out, VO7.out⟩
                    case measure => simp [intOf]; omega
                  · have b3 : decide (d + e ≤ m) = false := by simpa using h3
                    have HY := Lib.hid (NO.out (by rw [BY.out, decide_eq_false_iff_not]; omega))
                    clear YES NO BY
                    go_wp2
                    go_quiet (fail)
                    go_wp2
                    go_roundw
                    case rel => exact ⟨j + 1, _, by omega, rfl, by go_num, by rw [HY.out]; exact OwnN.bl O.out (by repeat' (first | exact Bl.refl _ | with_reducible assumption | with_reducible refine Bl.drew_ ?_ | with_reducible refine Bl.drewN_ ?_ _ | with_reducible refine Bl.alloc_ ?_ _ | with_reducible refine Bl.trans_ ?_ (by assumption) | with_reducible refine Bl.trans_ ?_ (And.left (by assumption)))), T.out.bl (by repeat' (first | exact Bl.refl _ | with_reducible assumption | with_reducible refine Bl.drew_ ?_ | with_reducible refine Bl.drewN_ ?_ _ | with_reducible refine Bl.alloc_ ?_ _ | with_reducible refine Bl.trans_ ?_ (by assumption) | with_reducible refine Bl.trans_ ?_ (And.left (by assumption)))), VO.out⟩
                    case measure => simp [intOf]; omega
                · have b2 : decide (0 ≤ e) = false := by simpa using h2
                  have HY := Lib.hid (NO.out (by rw [BY.out, decide_eq_false_iff_not]; omega))
                  clear YES NO BY
                  go_wp2
                  go_quiet (fail)
                  go_wp2
                  go_roundw
                  case rel => exact ⟨j + 1, _, by omega, rfl, by go_num, by rw [HY.out]; exact OwnN.bl O.out (by repeat' (first | exact Bl.refl _ | with_reducible assumption | with_reducible refine Bl.drew_ ?_ | with_reducible refine Bl.drewN_ ?_ _ | with_reducible refine Bl.alloc_ ?_ _ | with_reducible refine Bl.trans_ ?_ (by assumption) | with_reducible refine Bl.trans_ ?_ (And.left (by assumption)))), T.out.bl (by repeat' (first | exact Bl.refl _ | with_reducible assumption | with_reducible refine Bl.drew_ ?_ | with_reducible refine Bl.drewN_ ?_ _ | with_reducible refine Bl.alloc_ ?_ _ | with_reducible refine Bl.trans_ ?_ (by assumption) | with_reducible refine Bl.trans_ ?_ (And.left (by assumption)))), VO.out⟩
                  case measure => simp [intOf]; omega
              · have b1 : decide (0 ≤ d) = false := by simpa using h1
                have HY := Lib.hid (NO.out (by rw [BY.out, decide_eq_false_iff_not]; omega))
                clear YES NO BY
                go_wp2
                go_quiet (fail)
                go_wp2
                go_roundw
                case rel => exact ⟨j + 1, _, by omega, rfl, by go_num, by rw [HY.out]; exact OwnN.bl O.out (by repeat' (first | exact Bl.refl _ | with_reducible assumption | with_reducible refine Bl.drew_ ?_ | with_reducible refine Bl.drewN_ ?_ _ | with_reducible refine Bl.alloc_ ?_ _ | with_reducible refine Bl.trans_ ?_ (by assumption) | with_reducible refine Bl.trans_ ?_ (And.left (by assumption)))), T.out.bl (by repeat' (first | exact Bl.refl _ | with_reducible assumption | with_reducible refine Bl.drew_ ?_ | with_reducible refine Bl.drewN_ ?_ _ | with_reducible refine Bl.alloc_ ?_ _ | with_reducible refine Bl.trans_ ?_ (by assumption) | with_reducible refine Bl.trans_ ?_ (And.left (by assumption)))), VO.out⟩
                case measure => simp [intOf]; omega
            · obtain rfl : j = k := by omega
              go_wp2
              go_ret
              refine ⟨_, rfl, ?_, (Bl.alloc_ (Bl.refl w) _).trans_ hG⟩
              rw [HV.out, show withinD (j : Int) D E m = withinK D E m j from by rw [← withinK_all]; simp]
              exact O.out.low (by omega)
        · have HI := Lib.hid (show inB m 0 24000 = false from by unfold inB; simpa using hmm)
          go_enter Try.func40, Try.ntmps40
          go_wp2_with fail
          refine (specOk_any N A n c L HN.out _ (by omega) (K1.out.bl (by repeat' (first | exact Bl.refl _ | with_reducible assumption | with_reducible refine Bl.drew_ ?_ | with_reducible refine Bl.drewN_ ?_ _ | with_reducible refine Bl.alloc_ ?_ _ | with_reducible refine Bl.trans_ ?_ (by assumption) | with_reducible refine Bl.trans_ ?_ (And.left (by assumption)))))).mono ?_
          rintro e w1 ⟨rfl, hb1⟩
          rw [HO.out]
          obtain ⟨q0, q1⟩ := BX.out _ hb1
          go_wp2_with fail
          refine (l1Node_any N s _ _).mono ?_
          rintro e w2 ⟨rfl, hb2⟩
          rw [HNS.out, HS.out]
          have hb2 := hb1.trans_ hb2
          obtain ⟨q0, q1⟩ := BX.out _ hb2
          go_wp2_with fail
          refine (l1Node_any N t _ _).mono ?_
          rintro e w3 ⟨rfl, hb3⟩
          rw [HNT.out, HT.out]
          have hb3 := hb2.trans_ hb3
          obtain ⟨q0, q1⟩ := BX.out _ hb3
          go_wp2_with fail
          refine (l1In_any m 0 24000 _).mono ?_
          rintro e w4 ⟨rfl, rfl⟩
          rw [HI.out]
          go_wp2
          go_ret
          refine ⟨_, rfl, ?_, BW.out _ hb3⟩
          rw [show betL N L s t m = [] from by unfold betL; rw [if_neg (by rw [Bool.and_eq_true]; intro h; exact hmm (by simpa using h.2))]]
          exact (O0.out _ hb3).low (by omega)
      · have htd : decide (0 ≤ t ∧ t < N) = false := by simpa using ht
        have HT := Lib.hid htd
        clear hsd htd
        go_enter Try.func40, Try.ntmps40
        go_wp2_with fail
        refine (specOk_any N A n c L HN.out _ (by omega) (K1.out.bl (by repeat' (first | exact Bl.refl _ | with_reducible assumption | with_reducible refine Bl.drew_ ?_ | with_reducible refine Bl.drewN_ ?_ _ | with_reducible refine Bl.alloc_ ?_ _ | with_reducible refine Bl.trans_ ?_ (by assumption) | with_reducible refine Bl.trans_ ?_ (And.left (by assumption)))))).mono ?_
        rintro e w1 ⟨rfl, hb1⟩
        rw [HO.out]
        obtain ⟨q0, q1⟩ := BX.out _ hb1
        go_wp2_with fail
        refine (l1Node_any N s _ _).mono ?_
        rintro e w2 ⟨rfl, hb2⟩
        rw [HNS.out, HS.out]
        have hb2 := hb1.trans_ hb2
        obtain ⟨q0, q1⟩ := BX.out _ hb2
        go_wp2_with fail
        refine (l1Node_any N t _ _).mono ?_
        rintro e w3 ⟨rfl, hb3⟩
        rw [HNT.out, HT.out]
        have hb3 := hb2.trans_ hb3
        obtain ⟨q0, q1⟩ := BX.out _ hb3
        go_wp2
        go_ret
        refine ⟨_, rfl, ?_, BW.out _ hb3⟩
        rw [show betL N L s t m = [] from by unfold betL; rw [if_neg (by rw [Bool.and_eq_true]; intro h; exact ht (has2_of h.1).2.2)]]
        exact (O0.out _ hb3).low (by omega)
    · have hsd : decide (0 ≤ s ∧ s < N) = false := by simpa using hs
      have HS := Lib.hid hsd
      clear hsd
      go_enter Try.func40, Try.ntmps40
      go_wp2_with fail
      refine (specOk_any N A n c L HN.out _ (by omega) (K1.out.bl (by repeat' (first | exact Bl.refl _ | with_reducible assumption | with_reducible refine Bl.drew_ ?_ | with_reducible refine Bl.drewN_ ?_ _ | with_reducible refine Bl.alloc_ ?_ _ | with_reducible refine Bl.trans_ ?_ (by assumption) | with_reducible refine Bl.trans_ ?_ (And.left (by assumption)))))).mono ?_
      rintro e w1 ⟨rfl, hb1⟩
      rw [HO.out]
      obtain ⟨q0, q1⟩ := BX.out _ hb1
      go_wp2_with fail
      refine (l1Node_any N s _ _).mono ?_
      rintro e w2 ⟨rfl, hb2⟩
      rw [HNS.out, HS.out]
      have hb2 := hb1.trans_ hb2
      obtain ⟨q0, q1⟩ := BX.out _ hb2
      go_wp2
      go_ret
      refine ⟨_, rfl, ?_, BW.out _ hb2⟩
      rw [show betL N L s t m = [] from by unfold betL; rw [if_neg (by rw [Bool.and_eq_true]; intro h; exact hs (has2_of h.1).2.1)]]
      exact (O0.out _ hb2).low (by omega)

set_option maxRecDepth 100000 in
set_option maxHeartbeats 4000000 in
theorem specOnShortest_any (N s t : Int) (A : Option Addr) (n c : Nat) (L : List Arc3) (hn : n = L.length) (hc : n ≤ c) (w : World) (hm : n ≤ 1048576) (H1 : ArcsAt w w.heap.size A L) :
    Calls Try.prog 36 #[.agg #[.int .i64 N, .slice A n c], .int .i64 s, .int .i64 t] w (NumsMade (onL N L s t) w) := by
  obtain ⟨i0, hi, hz0, hz1, hz2⟩ := info_parts infoInt
  have I0 := Lib.hid hi
  have I1 := Lib.hid hz0
  have I2 := Lib.hid hz1
  have I3 := Lib.hid hz2
  have K1 := Lib.hid H1
  have HN := Lib.hid hn
  have O0 := Lib.hid (show ∀ wx, Bl ((w.alloc (.cells #[.int .i64 N, .slice A n c] 26)).alloc (.cells #[] 2)) wx → OwnN wx (w.heap.size + 1) (.slice (some ⟨w.heap.size + 1, 0, none⟩) 0 0) [] from fun wx hb => by
    have h := World.ownsRow_made (base := w.heap.size + 1) (e := 2) (size := 1) (w.alloc (.cells #[.int .i64 N, .slice A n c] 26)) #[] 0 (by simp) (by unfold maxLen; omega) rfl
    rw [World.size_alloc] at h
    exact OwnN.bl h hb)
  have BX := Lib.hid (show ∀ wx, Bl ((w.alloc (.cells #[.int .i64 N, .slice A n c] 26)).alloc (.cells #[] 2)) wx → wx.cell? ⟨w.heap.size, 0, none⟩ = some (.int .i64 N) ∧ wx.cell? ⟨w.heap.size, 1, none⟩ = some (.slice A n c) from fun wx hb => box2 ((Bl.alloc_ (Bl.refl (w.alloc (.cells #[.int .i64 N, .slice A n c] 26))) _).trans_ hb))
  have BW := Lib.hid (show ∀ wx, Bl ((w.alloc (.cells #[.int .i64 N, .slice A n c] 26)).alloc (.cells #[] 2)) wx → Bl w wx from fun wx hb => (Bl.alloc_ (Bl.alloc_ (Bl.refl w) _) _).trans_ hb)
  clear H1 hn hi hz0 hz1 hz2
  cases ho : okB N L with
  | false =>
    have HO := Lib.hid ho
    clear ho
    go_enter Try.func36, Try.ntmps36
    go_wp2_with fail
    refine (specOk_any N A n c L HN.out _ (by omega) (K1.out.bl (by repeat' (first | exact Bl.refl _ | with_reducible assumption | with_reducible refine Bl.drew_ ?_ | with_reducible refine Bl.drewN_ ?_ _ | with_reducible refine Bl.alloc_ ?_ _ | with_reducible refine Bl.trans_ ?_ (by assumption) | with_reducible refine Bl.trans_ ?_ (And.left (by assumption)))))).mono ?_
    rintro e w1 ⟨rfl, hb1⟩
    rw [HO.out]
    go_wp2
    go_ret
    refine ⟨_, rfl, ?_, BW.out _ hb1⟩
    rw [show onL N L s t = [] from by unfold onL has2; rw [HO.out]; rfl]
    exact (O0.out _ hb1).low (by omega)
  | true =>
    have HO := Lib.hid ho
    have HNS := Lib.hid (nodeB_ok (v := s) ho)
    have HNT := Lib.hid (nodeB_ok (v := t) ho)
    by_cases hs : 0 ≤ s ∧ s < N
    · have hsd : decide (0 ≤ s ∧ s < N) = true := by simpa using hs
      have HS := Lib.hid hsd
      by_cases ht : 0 ≤ t ∧ t < N
      · have htd : decide (0 ≤ t ∧ t < N) = true := by simpa using ht
        have HT := Lib.hid htd
        clear hsd htd
        go_enter Try.func36, Try.ntmps36
        go_wp2_with fail
        refine (specOk_any N A n c L HN.out _ (by omega) (K1.out.bl (by repeat' (first | exact Bl.refl _ | with_reducible assumption | with_reducible refine Bl.drew_ ?_ | with_reducible refine Bl.drewN_ ?_ _ | with_reducible refine Bl.alloc_ ?_ _ | with_reducible refine Bl.trans_ ?_ (by assumption) | with_reducible refine Bl.trans_ ?_ (And.left (by assumption)))))).mono ?_
        rintro e w1 ⟨rfl, hb1⟩
        rw [HO.out]
        obtain ⟨q0, q1⟩ := BX.out _ hb1
        go_wp2_with fail
        refine (l1Node_any N s _ _).mono ?_
        rintro e w2 ⟨rfl, hb2⟩
        rw [HNS.out, HS.out]
        have hb2 := hb1.trans_ hb2
        obtain ⟨q0, q1⟩ := BX.out _ hb2
        go_wp2_with fail
        refine (l1Node_any N t _ _).mono ?_
        rintro e w3 ⟨rfl, hb3⟩
        rw [HNT.out, HT.out]
        have hb3 := hb2.trans_ hb3
        obtain ⟨q0, q1⟩ := BX.out _ hb3
        have hN24 := (okB_elim ho).2.1
        have hL150 := (okB_elim ho).2.2.1
        have HRO := Lib.hid (revL_ok ho)
        have HRL := Lib.hid (revL_len (okB_elim ho).2.2.2.2)
        have HD := Lib.hid (distL_is (s := s) (arcsIn_of_ok ho) hN24 hs.1 hs.2)
        have HE := Lib.hid (distL_is (s := t) (arcsIn_of_ok (revL_ok ho)) hN24 ht.1 ht.2)
        have HDT := Lib.hid (fun v => distL_top (s := s) ho hs.1 hs.2 v)
        have HET := Lib.hid (fun v => distL_top (s := t) (revL_ok ho) ht.1 ht.2 v)
        have HDl := Lib.hid (show (distL N L s).length = N.toNat from distL_len ho hs.1 hs.2)
        have HEl := Lib.hid (show (distL N (revL L) t).length = N.toNat from distL_len (revL_ok ho) ht.1 ht.2)
        have HV := Lib.hid (show onL N L s t = withinD N (distL N L s) (distL N (revL L) t) (dAt (distL N L s) t) from by
          unfold onL withinL
          rw [if_pos (by unfold has2; rw [HO.out, Bool.true_and, decide_eq_true_eq]; exact ⟨hs, ht⟩)])
        go_wp2_with fail
        refine (l3Dist_any N s A n c L HN.out HO.out hs.1 hs.2 _ hm (K1.out.bl (BW.out _ hb3))).mono ?_
        rintro e w4 ⟨v4, rfl, hv4, hb4⟩
        obtain ⟨A4, c4, rfl, -, hi4, -, lo4⟩ := OwnN.shape hv4
        have LO4 := Lib.hid (show ∀ g, blockOf A4 = some g → w.heap.size + 1 < g from fun g hg => by have := lo4 g hg; have := hb3.size; simp at this; omega)
        have J4 := Lib.hid hi4
        have hb4 := hb3.trans_ hb4
        obtain ⟨q0, q1⟩ := BX.out _ hb4
        clear hv4 hi4
        go_wp2_with fail
        refine (l1Reverse_any N A n c L HN.out _ hm (K1.out.bl (BW.out _ hb4))).mono ?_
        rintro e w5 ⟨v5, rfl, hv5, hb5⟩
        obtain ⟨A5, c5, rfl, ha5, -⟩ := hv5.shape
        have J5 := Lib.hid ha5
        have JJ5 := Lib.hid (J4.out.bl hb5)
        have hb5 := hb4.trans_ hb5
        clear hv5 ha5
        go_wp2_with fail
        refine (l3Dist_any N t A5 (revL L).length c5 (revL L) rfl HRO.out ht.1 ht.2 _ (by rw [HRL.out]; omega) J5.out).mono ?_
        rintro e w6 ⟨v6, rfl, hv6, hb6⟩
        obtain ⟨A6, c6, rfl, -, hi6, -, lo6⟩ := OwnN.shape hv6
        have LO6 := Lib.hid (show ∀ g, blockOf A6 = some g → w.heap.size + 1 < g from fun g hg => by have := lo6 g hg; have := hb5.size; simp at this; omega)
        have J6 := Lib.hid hi6
        have JJ6 := Lib.hid (JJ5.out.bl hb6)
        have hb6 := hb5.trans_ hb6
        have O6 := Lib.hid (O0.out _ hb6)
        have P6 := Lib.hid hb6
        clear hv6 hi6 q0 q1 hb1 hb2 hb3 hb4 hb5 hb6 ho
        obtain ⟨k, rfl⟩ : ∃ k : Nat, N = k := ⟨N.toNat, by omega⟩
        have hDl := HDl.out
        have hEl := HEl.out
        rw [Int.toNat_natCast] at hDl hEl
        obtain ⟨q, rfl⟩ : ∃ q : Nat, t = q := ⟨t.toNat, by omega⟩
        have hqk : q < k := by omega
        rw [hDl, hEl]
        generalize distL k L s = D at *
        generalize distL k (revL L) q = E at *
        have hqD : q < D.length := by omega
        have hdq := dAt_at hqD
        obtain ⟨dt, hdt'⟩ : ∃ dt, D[q] = dt := ⟨_, rfl⟩
        have hDT := Lib.hid hdt'
        rw [hdq, hdt'] at HV
        have BON := Lib.hid (show ∀ j : Nat, (j : Int) < (k : Int) → byB D E dt (j : Int) = decide (0 ≤ dAt D j ∧ 0 ≤ dAt E j ∧ dAt D j + dAt E j = dt) from fun j hj => by
          have := byB_on HO.out HD.out HE.out (v := (j : Int)) (by omega) hj
          rw [hdq, hdt'] at this
          exact this)
        clear hdq hdt'
        by_cases hdt : 0 ≤ dt
        · go_wp2_with fail
          go_loopw [7, 10] (fun vv i wr => ∃ (j : Nat) (v : Value), j ≤ k ∧ v = vv ∧ i = .int .i64 j ∧ OwnN wr (w.heap.size + 1) v (withinK D E dt j) ∧ Turn (fun i => i = w.heap.size + 1) w6 wr ∧ ∀ g, v.ownBlock = some g → g = w.heap.size + 1 ∨ w6.heap.size ≤ g) (fun _ i _ => k - (intOf i).toNat)
          case atStart => exact ⟨0, _, by omega, rfl, rfl, by rw [withinK_zero]; exact O6.out, Turn.refl _ _, fun g hg => by simp [Value.ownBlock] at hg; omega⟩
          case round =>
            obtain ⟨j, v, hj, rfl, rfl, hO, hT, hVO⟩ := hrel
            have O := Lib.hid hO
            have hG : Bl (w.alloc (.cells #[.int .i64 (k : Int), .slice A n c] 26)) wr := Turn.to_bl ((Bl.alloc_ (Bl.refl _) _).trans_ P6.out) hT (fun i e => by simp; omega)
            obtain ⟨q0, q1⟩ := box2 hG
            have T := Lib.hid hT
            have VO := Lib.hid hVO
            have hsz := hG.size
            simp only [World.size_alloc] at hsz
            have hszT := hT.size
            have hs6 := P6.out.size
            simp only [World.size_alloc] at hs6
            have hwl := withinK_len D E dt j
            clear hO
            by_cases hlt : j < k
            · have i1 : (j : Int) < (k : Int) := by omega
              have hjD : j < D.length := by omega
              have hjE : j < E.length := by omega
              obtain ⟨g1, o1, rfl, hg1, hc1⟩ := (show IntsAt wr w6.heap.size A4 D from CellsAt.turn JJ6.out (Nat.le_refl _) hT (fun g hg _ e => by have := LO4.out g hg; omega)).cell (by omega)
              obtain ⟨g2, o2, rfl, hg2, hc2⟩ := (show IntsAt wr w6.heap.size A6 E from CellsAt.turn J6.out (Nat.le_refl _) hT (fun g hg _ e => by have := LO6.out g hg; omega)).cell (by omega)
              have p1 := hc1 j hjD
              have p2 := hc2 j hjE
              have p3 := hc1 q hqD
              rw [hDT.out] at p3
              have BY := Lib.hid (show byB D E dt (j : Int) = decide (0 ≤ D[j] ∧ 0 ≤ E[j] ∧ D[j] + E[j] = dt) from by rw [BON.out j i1, dAt_at hjD, dAt_at hjE])
              clear hc1 hc2
              have YES := Lib.hid (fun h => withinK_yes (D := D) (E := E) (m := dt) (k := j) h)
              have NO := Lib.hid (fun h => withinK_no (D := D) (E := E) (m := dt) (k := j) h)
              have hd0 := HDT.out j
              have he0 := HET.out j
              rw [dAt_at hjD] at hd0
              rw [dAt_at hjE] at he0
              generalize D[j] = d at *
              generalize E[j] = e at *
              have j0 : (0 : Int) ≤ (j : Int) := by omega
              have q2 : (0 : Int) ≤ (q : Int) := by omega
              have q3 : (q : Int) < (k : Int) := by omega
              have q4 : q < k := by omega
              have bt : decide (0 ≤ dt) = true := by simpa using hdt
              have a1 : IntKind.i64.wrap (d + e) = d + e := IntWalk.i64_in _ (by omega)
              clear hd0 he0
              by_cases h1 : 0 ≤ d
              · have b1 : decide (0 ≤ d) = true := by simpa using h1
                by_cases h2 : 0 ≤ e
                · have b2 : decide (0 ≤ e) = true := by simpa using h2
                  by_cases h3 : d + e = dt
                  · have b3 : ((d + e) == dt) = true := by simpa using h3
                    have a2 : IntKind.i64.wrap dt = dt := by rw [← h3]; exact a1
                    have b4 : (dt == dt) = true := by simp
                    have HY := Lib.hid (YES.out (by rw [BY.out, decide_eq_true_eq]; exact ⟨h1, h2, h3⟩))
                    clear YES NO BY
                    go_wp2
                    go_quiet (fail)
                    go_wp2_with (at_builtin; refine wpList_append_any _ rfl (.tmp 76) (.tmp 78) _ rfl (w.heap.size + 1) 2 i0 _ 1 8 Try.underlying37 I0.out I1.out I2.out I3.out rfl (by decide) _ (withinK D E dt j).length (csI (withinK D E dt j)) rfl (World.ownsRow.alloc (OwnN.bl O.out (by first | exact Bl.refl _ | exact (Bl.refl _).drew_ | exact (Bl.refl _).drewN_ _)) _) (wr.heap.size + 1) (some ⟨wr.heap.size, 0, none⟩) 1 1 [.int .i64 (j : Int)] rfl ?c0 (by simp [Value.oneCell']) ?c3 ?c4 ?c5 ?_)
                    case c0 =>
                      refine ⟨rfl, fun _ => ⟨_, rfl, by show wr.heap.size < wr.heap.size + 1; omega, fun x u hj => ?_⟩⟩
                      match x, hj with
                      | 0, hj => simp at hj; subst hj; (try simp [Addr.add, go_sem]); (try exact cell_new_drewN _ _ _ _)
                      | (x + 1), hj => simp at hj
                    case c3 => unfold maxLen; omega
                    case c4 => omega
                    case c5 => simp; omega
                    intro v' w7 hown' hgrow hwh
                    have O7 := Lib.hid (OwnN.snoc (V := withinK D E dt j) (x := (j : Int)) (n := (withinK D E dt j).length) rfl (by simpa using hown'))
                    rw [← HY.out] at O7
                    have T7 : Hid (Turn (fun i => i = w.heap.size + 1) w6 w7) := by
                      refine Lib.hid (Turn.trans (T.out.bl ?_) (Turn.of_grown (S := fun i => v.ownBlock = some i) hgrow (fun i e => e)) (fun i hi e => by rcases VO.out i e with h | h; exact h; omega))
                      first | exact (Bl.refl wr).alloc_ _ | exact ((Bl.refl wr).alloc_ _).drew_ | exact ((Bl.refl wr).alloc_ _).drewN_ _
                    have VO7 := Lib.hid (show ∀ g, v'.ownBlock = some g → g = w.heap.size + 1 ∨ w6.heap.size ≤ g from fun g hg => by
                      rcases hwh with h | h
                      · exact VO.out g (by rw [← h]; exact hg)
                      · right; rw [h] at hg; injection hg with hg; have := T.out.size; (try simp only [World.size_alloc] at hg); first | omega | (have h2 : wr.heap.size + 1 = g := hg; omega))
                    clear hown' hgrow hwh
                    go_wp2
                    go_roundw
                    case rel => exact ⟨j + 1, _, by omega, rfl, by go_num, O7.out, T7.out, VO7.out⟩
                    case measure => simp [intOf]; omega
                  · have b3 : ((d + e) == dt) = false := by simpa using h3
                    have HY := Lib.hid (NO.out (by rw [BY.out, decide_eq_false_iff_not]; omega))
                    clear YES NO BY
                    go_wp2
                    go_quiet (fail)
                    go_wp2
                    go_roundw
                    case rel => exact ⟨j + 1, _, by omega, rfl, by go_num, by rw [HY.out]; exact OwnN.bl O.out (by repeat' (first | exact Bl.refl _ | with_reducible assumption | with_reducible refine Bl.drew_ ?_ | with_reducible refine Bl.drewN_ ?_ _ | with_reducible refine Bl.alloc_ ?_ _ | with_reducible refine Bl.trans_ ?_ (by assumption) | with_reducible refine Bl.trans_ ?_ (And.left (by assumption)))), T.out.bl (by repeat' (first | exact Bl.refl _ | with_reducible assumption | with_reducible refine Bl.drew_ ?_ | with_reducible refine Bl.drewN_ ?_ _ | with_reducible refine Bl.alloc_ ?_ _ | with_reducible refine Bl.trans_ ?_ (by assumption) | with_reducible refine Bl.trans_ ?_ (And.left (by assumption)))), VO.out⟩
                    case measure => simp [intOf]; omega
                · have b2 : decide (0 ≤ e) = false := by simpa using h2
                  have HY := Lib.hid (NO.out (by rw [BY.out, decide_eq_false_iff_not]; omega))
                  clear YES NO BY
                  go_wp2
                  go_quiet (fail)
                  go_wp2
                  go_roundw
                  case rel => exact ⟨j + 1, _, by omega, rfl, by go_num, by rw [HY.out]; exact OwnN.bl O.out (by repeat' (first | exact Bl.refl _ | with_reducible assumption | with_reducible refine Bl.drew_ ?_ | with_reducible refine Bl.drewN_ ?_ _ | with_reducible refine Bl.alloc_ ?_ _ | with_reducible refine Bl.trans_ ?_ (by assumption) | with_reducible refine Bl.trans_ ?_ (And.left (by assumption)))), T.out.bl (by repeat' (first | exact Bl.refl _ | with_reducible assumption | with_reducible refine Bl.drew_ ?_ | with_reducible refine Bl.drewN_ ?_ _ | with_reducible refine Bl.alloc_ ?_ _ | with_reducible refine Bl.trans_ ?_ (by assumption) | with_reducible refine Bl.trans_ ?_ (And.left (by assumption)))), VO.out⟩
                  case measure => simp [intOf]; omega
              · have b1 : decide (0 ≤ d) = false := by simpa using h1
                have HY := Lib.hid (NO.out (by rw [BY.out, decide_eq_false_iff_not]; omega))
                clear YES NO BY
                go_wp2
                go_quiet (fail)
                go_wp2
                go_roundw
                case rel => exact ⟨j + 1, _, by omega, rfl, by go_num, by rw [HY.out]; exact OwnN.bl O.out (by repeat' (first | exact Bl.refl _ | with_reducible assumption | with_reducible refine Bl.drew_ ?_ | with_reducible refine Bl.drewN_ ?_ _ | with_reducible refine Bl.alloc_ ?_ _ | with_reducible refine Bl.trans_ ?_ (by assumption) | with_reducible refine Bl.trans_ ?_ (And.left (by assumption)))), T.out.bl (by repeat' (first | exact Bl.refl _ | with_reducible assumption | with_reducible refine Bl.drew_ ?_ | with_reducible refine Bl.drewN_ ?_ _ | with_reducible refine Bl.alloc_ ?_ _ | with_reducible refine Bl.trans_ ?_ (by assumption) | with_reducible refine Bl.trans_ ?_ (And.left (by assumption)))), VO.out⟩
                case measure => simp [intOf]; omega
            · obtain rfl : j = k := by omega
              go_wp2
              go_ret
              refine ⟨_, rfl, ?_, (Bl.alloc_ (Bl.refl w) _).trans_ hG⟩
              rw [HV.out, show withinD (j : Int) D E dt = withinK D E dt j from by rw [← withinK_all]; simp]
              exact O.out.low (by omega)
        · have bt : decide (0 ≤ dt) = false := by simpa using hdt
          have HVN := Lib.hid (withinD_none (N := (k : Int)) (D := D) (E := E) (m := dt) (by omega))
          go_wp2_with fail
          go_loopw [7, 10] (fun vv i wr => vv = .slice (some ⟨w.heap.size + 1, 0, none⟩) 0 0 ∧ i = .int .i64 0 ∧ wr = w6) (fun _ i _ => k - (intOf i).toNat)
          case atStart => exact ⟨rfl, rfl, rfl⟩
          case round =>
            obtain ⟨rfl, rfl, rfl⟩ := hrel
            obtain ⟨q0, q1⟩ := BX.out _ P6.out
            obtain ⟨g1, o1, rfl, hg1, hc1⟩ := JJ6.out.cell (by omega)
            have p3 := hc1 q hqD
            rw [hDT.out] at p3
            clear hc1
            have i1 : (0 : Int) < (k : Int) := by omega
            have q2 : (0 : Int) ≤ (q : Int) := by omega
            have q3 : (q : Int) < (k : Int) := by omega
            have q4 : q < k := by omega
            go_wp2
            go_ret
            refine ⟨_, rfl, ?_, BW.out _ P6.out⟩
            rw [HV.out, HVN.out]
            exact (O0.out _ P6.out).low (by omega)
      · have htd : decide (0 ≤ t ∧ t < N) = false := by simpa using ht
        have HT := Lib.hid htd
        clear hsd htd
        go_enter Try.func36, Try.ntmps36
        go_wp2_with fail
        refine (specOk_any N A n c L HN.out _ (by omega) (K1.out.bl (by repeat' (first | exact Bl.refl _ | with_reducible assumption | with_reducible refine Bl.drew_ ?_ | with_reducible refine Bl.drewN_ ?_ _ | with_reducible refine Bl.alloc_ ?_ _ | with_reducible refine Bl.trans_ ?_ (by assumption) | with_reducible refine Bl.trans_ ?_ (And.left (by assumption)))))).mono ?_
        rintro e w1 ⟨rfl, hb1⟩
        rw [HO.out]
        obtain ⟨q0, q1⟩ := BX.out _ hb1
        go_wp2_with fail
        refine (l1Node_any N s _ _).mono ?_
        rintro e w2 ⟨rfl, hb2⟩
        rw [HNS.out, HS.out]
        have hb2 := hb1.trans_ hb2
        obtain ⟨q0, q1⟩ := BX.out _ hb2
        go_wp2_with fail
        refine (l1Node_any N t _ _).mono ?_
        rintro e w3 ⟨rfl, hb3⟩
        rw [HNT.out, HT.out]
        have hb3 := hb2.trans_ hb3
        obtain ⟨q0, q1⟩ := BX.out _ hb3
        go_wp2
        go_ret
        refine ⟨_, rfl, ?_, BW.out _ hb3⟩
        rw [show onL N L s t = [] from by unfold onL; rw [if_neg (by intro h; exact ht (has2_of h).2.2)]]
        exact (O0.out _ hb3).low (by omega)
    · have hsd : decide (0 ≤ s ∧ s < N) = false := by simpa using hs
      have HS := Lib.hid hsd
      clear hsd
      go_enter Try.func36, Try.ntmps36
      go_wp2_with fail
      refine (specOk_any N A n c L HN.out _ (by omega) (K1.out.bl (by repeat' (first | exact Bl.refl _ | with_reducible assumption | with_reducible refine Bl.drew_ ?_ | with_reducible refine Bl.drewN_ ?_ _ | with_reducible refine Bl.alloc_ ?_ _ | with_reducible refine Bl.trans_ ?_ (by assumption) | with_reducible refine Bl.trans_ ?_ (And.left (by assumption)))))).mono ?_
      rintro e w1 ⟨rfl, hb1⟩
      rw [HO.out]
      obtain ⟨q0, q1⟩ := BX.out _ hb1
      go_wp2_with fail
      refine (l1Node_any N s _ _).mono ?_
      rintro e w2 ⟨rfl, hb2⟩
      rw [HNS.out, HS.out]
      have hb2 := hb1.trans_ hb2
      obtain ⟨q0, q1⟩ := BX.out _ hb2
      go_wp2
      go_ret
      refine ⟨_, rfl, ?_, BW.out _ hb2⟩
      rw [show onL N L s t = [] from by unfold onL; rw [if_neg (by intro h; exact hs (has2_of h).2.1)]]
      exact (O0.out _ hb2).low (by omega)

end Go.Proofs.Ytpbgnidjgmmebaa
