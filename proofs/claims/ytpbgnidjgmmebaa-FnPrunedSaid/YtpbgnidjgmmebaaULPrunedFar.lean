/-
  What is proved here: the walk of the law on graphs that are pruned: at every code it returns true, and leaves what was there as it was. No conditions beyond those that each theorem states.
-/
import Derived.Test.YtpbgnidjgmmebaaUG15
import Derived.Test.YtpbgnidjgmmebaaUG18
import Derived.Test.YtpbgnidjgmmebaaUG19
import Derived.Test.YtpbgnidjgmmebaaUG20
set_option linter.unusedSimpArgs false
set_option linter.unusedVariables false
namespace Go.Proofs.Ytpbgnidjgmmebaa
open Go.RowKit

theorem OwnA.caps {w : World} {B : Nat} {v : Value} {L : List Arc3} (h : OwnA w B v L) : ∀ A l c, v = .slice A l c → L.length ≤ c ∧ c ≤ 9223372036854775807 := fun A l c ev => by
  subst ev
  have h' : w.ownsRow B 34 3 (.slice A l c) L.length (cs3 L) := h
  rcases h'.2 with ⟨e, h0⟩ | ⟨g, cap, cur, e, hB, hg, hnc, hcm, -⟩
  · injection e with e1 e2 e3
    omega
  · injection e with e1 e2 e3
    unfold maxLen at hcm
    omega
set_option maxRecDepth 100000 in
set_option maxHeartbeats 6000000 in
theorem lawPrunedFar_any (A : Option Addr) (n c : Nat) (w : World) (H : BytesAt w A n) :
    Calls Try.prog 15 #[.slice A n c] w fun e w' => e = .returned (.bool true) ∧ Bl w w' := by
  obtain ⟨i0, hi, hz0, hz1, hz2⟩ := info_parts infoArc
  have I0 := Lib.hid hi
  have I1 := Lib.hid hz0
  have I2 := Lib.hid hz1
  have I3 := Lib.hid hz2
  clear hi hz0 hz1 hz2
  have K := Lib.hid H
  clear H
  by_cases hbig : (1048576 : Int) < (n : Int)
  · have hb : decide ((1048576 : Int) < (n : Int)) = true := by simpa using hbig
    clear hbig
    go_enter Try.func15, Try.ntmps15
    go_wp2_with (go_at_call 17; refine (big_any _ _ _ _).mono ?_; rintro e w' ⟨rfl, rfl⟩)
    go_ret
    exact ⟨rfl, (by repeat' (first | exact Bl.refl _ | with_reducible assumption | with_reducible refine Bl.drew_ ?_ | with_reducible refine Bl.drewN_ ?_ _ | with_reducible refine Bl.alloc_ ?_ _ | with_reducible refine Bl.trans_ ?_ (by assumption) | with_reducible refine Bl.trans_ ?_ (And.left (by assumption))))⟩
  · have hb : decide ((1048576 : Int) < (n : Int)) = false := by simpa using hbig
    have hn : n ≤ 1099511627776 := by omega
    clear hbig
    go_enter Try.func15, Try.ntmps15
    go_wp2_with fail
    refine (big_any _ _ _ _).mono ?_
    rintro e w1 ⟨rfl, rfl⟩
    go_wp2_with fail
    refine (drawPruned_any A n c _ hn K.out).mono ?_
    rintro e w1 ⟨N, A', l, c', L, A3, k, c3, V, s, t, rfl, hd, hk, hk20, ho, hb1⟩
    obtain ⟨ha, hlc⟩ := hd.arcs
    obtain ⟨A3', c3', ev, -, hi3, -, -⟩ := OwnN.shape ho
    injection ev with e1 e2 e3
    subst e1 e3
    have HL := Lib.hid hd.1
    have HK := Lib.hid hk
    have hl200 := hd.2.1
    have HA := Lib.hid (ha.bl (Bl.alloc_ (Bl.refl w1) (.cells #[.int .i64 N, .slice A' l c'] 26)))
    have HV := Lib.hid (hi3.bl (Bl.alloc_ (Bl.refl w1) (.cells #[.int .i64 N, .slice A' l c'] 26)))
    have B1 := Lib.hid (hb1.alloc_ (.cells #[.int .i64 N, .slice A' l c'] 26))
    clear hd ho hb1 ha hi3 e2 hk
    go_wp2_with fail
    refine (implPruned_any N s t A' l c' L HL.out A3 k c3 V HK.out hlc _ (by omega) hk20 HA.out HV.out).mono ?_
    rintro e w2 ⟨v2, rfl, hv2, hb2⟩
    obtain ⟨A4, c4, rfl, -, hi4, -, -⟩ := OwnN.shape hv2
    obtain ⟨P, hP⟩ : ∃ P, P = prunedL N L V s t := ⟨_, rfl⟩
    have hp20 : P.length ≤ 1048576 := by rw [hP]; exact prunedL_len N L V s t
    have HP := Lib.hid hP
    rw [← hP] at hi4 ⊢
    obtain ⟨kp, hkp⟩ : ∃ kp, kp = P.length := ⟨_, rfl⟩
    rw [← hkp] at hp20 ⊢
    have HKP := Lib.hid hkp
    have IP := Lib.hid hi4
    have P2 := Lib.hid hb2
    obtain ⟨gb, hgb⟩ : ∃ gb, gb = w1.heap.size := ⟨_, rfl⟩
    have HSH := Lib.hid (show ∀ wx, Bl w2 wx → Bl w2 wx ∧ wx.cell? ⟨gb, 0, none⟩ = some (.int .i64 N) ∧ wx.cell? ⟨gb, 1, none⟩ = some (.slice A' l c') from fun wx hb => by
      subst hgb
      exact ⟨hb, box2 (P2.out.trans_ hb)⟩)
    rw [← hgb]
    clear hv2 hi4 hP hkp hb2 hgb
    obtain ⟨-, q0, q1⟩ := HSH.out _ (Bl.refl w2)
    go_wp2_with fail
    refine (specPruned_any N s t A' l c' L HL.out A3 k c3 V HK.out _ (by omega) hk20 (HA.out.bl P2.out) (HV.out.bl P2.out)).mono ?_
    rintro e w4 ⟨v4, rfl, hv4, hb4⟩
    obtain ⟨A5, c5, rfl, -, hi5, -, -⟩ := OwnN.shape hv4
    rw [← HP.out] at hi5 ⊢
    rw [← HKP.out]
    go_wp2_with fail
    refine (sameInts_yes A4 A5 c4 c5 P kp HKP.out _ (by omega) (IP.out.bl ((Bl.refl w2).trans_ hb4)) hi5).mono ?_
    rintro e w5 ⟨rfl, hb5⟩
    have C5 := Lib.hid (hb4.trans_ hb5)
    clear hv4 hi5 hb4 hb5
    clear q0 q1
    obtain ⟨-, q0, q1⟩ := HSH.out _ C5.out
    go_wp2_with fail
    refine (specReachOk_any N A' l c' L HL.out A3 k c3 V HK.out _ (by omega) hk20 (HA.out.bl (P2.out.trans_ C5.out)) (HV.out.bl (P2.out.trans_ C5.out))).mono ?_
    rintro e w6 ⟨rfl, hb6⟩
    have C6 := Lib.hid (C5.out.trans_ hb6)
    clear q0 q1 hb6 C5
    cases hr : reachB N L V
    case' false =>
      have B9 := Lib.hid C6.out
      clear C6
      obtain ⟨W, rfl⟩ : ∃ W : World, W = w6 := ⟨_, rfl⟩
    case' true =>
      obtain ⟨-, q0, q1⟩ := HSH.out _ C6.out
      go_wp2_with fail
      refine (nodeLaw_any N s A' l c' L HL.out _ (by omega) (HA.out.bl (P2.out.trans_ C6.out))).mono ?_
      rintro e w7 ⟨rfl, hb7⟩
      have C7 := Lib.hid (C6.out.trans_ hb7)
      clear q0 q1 hb7 C6
      cases h1 : has1 N L s
      case' false =>
        have B9 := Lib.hid C7.out
        clear C7
        obtain ⟨W, rfl⟩ : ∃ W : World, W = w7 := ⟨_, rfl⟩
      case' true =>
        obtain ⟨-, q0, q1⟩ := HSH.out _ C7.out
        go_wp2_with fail
        refine (nodeLaw_any N t A' l c' L HL.out _ (by omega) (HA.out.bl (P2.out.trans_ C7.out))).mono ?_
        rintro e w8 ⟨rfl, hb8⟩
        have B9 := Lib.hid (C7.out.trans_ hb8)
        clear q0 q1 hb8 C7
        obtain ⟨W, rfl⟩ : ∃ W : World, W = w8 := ⟨_, rfl⟩
        cases h2 : has1 N L t
        rotate_left
        · have HASK := Lib.hid (show askB N L V s t = true from by
            obtain ⟨x1, x2⟩ := has1_of h1
            obtain ⟨-, x3⟩ := has1_of h2
            exact askB_yes hr (by simpa using x2) (by simpa using x3))
          have P9 := Lib.hid (P2.out.trans_ B9.out)
          have HSH2 := Lib.hid (show ∀ wx, Bl W wx → wx.cell? ⟨gb, 0, none⟩ = some (.int .i64 N) ∧ wx.cell? ⟨gb, 1, none⟩ = some (.slice A' l c') from fun wx hb => (HSH.out wx (B9.out.trans_ hb)).2)
          clear HSH
          obtain ⟨q0, q1⟩ := HSH2.out _ (Bl.refl W)
          go_wp2_with fail
          refine (implOnShortest_any N s t A' l c' L HL.out hlc _ (by omega) (HA.out.bl P9.out)).mono ?_
          rintro e w9 ⟨v9, rfl, hv9, hb9⟩
          obtain ⟨A9, c9, rfl, -, hi9, -, -⟩ := OwnN.shape hv9
          obtain ⟨O, hO⟩ : ∃ O, O = onL N L s t := ⟨_, rfl⟩
          have hol : O.length ≤ 1048576 := by rw [hO]; exact onL_len N L s t
          have ONP := Lib.hid (show ∀ x ∈ O, x ∈ P from fun x hx => by rw [HP.out]; exact on_pruned HASK.out (by rw [← hO]; exact hx))
          rw [← hO] at hi9 ⊢
          obtain ⟨ko, hko⟩ : ∃ ko, ko = O.length := ⟨_, rfl⟩
          rw [← hko] at hol ⊢
          have HKO := Lib.hid hko
          have IO := Lib.hid hi9
          have Q9 := Lib.hid (P9.out.trans_ hb9)
          have IP9 := Lib.hid (IP.out.bl (B9.out.trans_ hb9))
          have HSH3 := Lib.hid (show ∀ wx, Bl w9 wx → wx.cell? ⟨gb, 0, none⟩ = some (.int .i64 N) ∧ wx.cell? ⟨gb, 1, none⟩ = some (.slice A' l c') from fun wx hb => HSH2.out wx (hb9.trans_ hb))
          clear hv9 hi9 hb9 hO hko HSH2 q0 q1
          go_wp2_with fail
          go_loopw [9] (fun iv wr => ∃ i : Nat, i ≤ ko ∧ iv = .int .i64 (i : Int) ∧ Bl w9 wr) (fun iv _ => ko - (intOf iv).toNat)
          case atStart => exact ⟨0, by omega, rfl, Bl.refl _⟩
          case round =>
            obtain ⟨i, hi, rfl, hbl⟩ := hrel
            by_cases hlt : i < ko
            · have hil : i < O.length := by have := HKO.out; omega
              obtain ⟨g5, o5, rfl, hg5, hc5⟩ := (IO.out.bl hbl).cell (by omega)
              have p1 := hc5 i hil
              have hm : decide (O[i] ∈ P) = true := by rw [decide_eq_true_eq]; exact ONP.out _ (List.getElem_mem hil)
              generalize O[i] = x at p1 hm
              have i0' : (0 : Int) ≤ (i : Int) := by omega
              have i1' : (i : Int) < (ko : Int) := by omega
              clear hc5
              go_wp2_with fail
              refine (hasL_any A4 c4 P kp HKP.out x _ (by omega) (IP9.out.bl hbl)).mono ?_
              rintro e w6 ⟨rfl, hb6⟩
              rw [hm]
              go_wp2
              go_roundw
              case rel => exact ⟨i + 1, by omega, by go_num, hbl.trans_ (by repeat' (first | exact Bl.refl _ | with_reducible assumption | with_reducible refine Bl.drew_ ?_ | with_reducible refine Bl.drewN_ ?_ _ | with_reducible refine Bl.alloc_ ?_ _ | with_reducible refine Bl.trans_ ?_ (by assumption) | with_reducible refine Bl.trans_ ?_ (And.left (by assumption))))⟩
              case measure => simp [intOf]; omega
            · obtain rfl : i = ko := by omega
              clear hlt hi
              obtain ⟨wz, rfl⟩ : ∃ wz : World, wz = wr := ⟨_, rfl⟩
              have Z8 := Lib.hid hbl
              obtain ⟨y0, y1⟩ := HSH3.out _ hbl
              have PZ := Lib.hid (PS.new wz N)
              have BZ := Lib.hid (Bl.alloc_ (Bl.refl wz) (.cells #[.int .i64 N, .slice none 0 0] 26))
              obtain ⟨c0, c1, f0, f1⟩ := PZ.out.box.facts
              obtain ⟨y2, y3⟩ := HSH3.out _ (hbl.trans_ BZ.out)
              clear hbl
              go_wp2_with fail
              obtain ⟨pb, hpb⟩ : ∃ pb, pb = wz.heap.size := ⟨_, rfl⟩
              rw [← hpb] at PZ ⊢
              have HPB := Lib.hid hpb
              clear y0 y1 y2 y3 c0 c1 f0 f1 hpb
              go_loopw [11] (fun iv wr => ∃ (i : Nat) (q : Value), i ≤ l ∧ iv = .int .i64 (i : Int) ∧ PS wz pb N q (amongL P (L.take i)) wr) (fun iv _ => l - (intOf iv).toNat)
              case atStart => exact ⟨0, _, by omega, rfl, by rw [amongK_zero]; exact PZ.out⟩
              case round =>
                obtain ⟨i, q, hi, rfl, hT⟩ := hrel
                have T := Lib.hid hT
                have Z9 := Lib.hid (Z8.out.trans_ hT.bl)
                obtain ⟨y0, y1⟩ := HSH3.out _ Z9.out
                by_cases hlt : i < l
                · have hil : i < L.length := by have := HL.out; omega
                  obtain ⟨g1, o1, rfl, hg1, hc1⟩ := (HA.out.bl (Q9.out.trans_ Z9.out)) (by omega)
                  obtain ⟨p1, p2, p3⟩ := hc1 i hil
                  have FYES := Lib.hid (fun hk => amongK_yes (P := P) hil hk)
                  have FNO := Lib.hid (fun hk => amongK_no (P := P) hil hk)
                  have hlen := amongK_len P L i
                  clear hc1 hT
                  generalize hx1 : L[i].1 = x1 at p1
                  generalize hy1 : L[i].2.1 = yy at p2
                  generalize hz1 : L[i].2.2 = zz at p3
                  have HX := Lib.hid hx1
                  have HY := Lib.hid hy1
                  have HZ := Lib.hid hz1
                  have u1 : (0 : Int) ≤ (i : Int) := by omega
                  have u2 : (i : Int) < (l : Int) := by omega
                  have HSH5 := Lib.hid (show ∀ wx, Bl wr wx → Bl wr wx ∧ (wx.cell? ⟨gb, 0, none⟩ = some (.int .i64 N) ∧ wx.cell? ⟨gb, 1, none⟩ = some (.slice (some ⟨g1, o1, none⟩) l c')) ∧ wx.cell? ⟨g1, o1 + i * 3, none⟩ = some (.int .i64 x1) ∧ wx.cell? ⟨g1, o1 + i * 3 + 1, none⟩ = some (.int .i64 yy) from fun wx hb => ⟨hb, HSH3.out wx (Z9.out.trans_ hb), ((bcell hb).1 _ _ hg1).trans p1, ((bcell hb).1 _ _ hg1).trans p2⟩)
                  cases hx : decide (x1 ∈ P) with
                  | false =>
                    go_wp2_with fail
                    refine (hasL_any A4 c4 P kp HKP.out x1 _ (by omega) (IP9.out.bl Z9.out)).mono ?_
                    rintro e w11 ⟨rfl, hb11⟩
                    rw [hx]
                    clear y0 y1
                    go_wp2
                    go_roundw
                    case rel => exact ⟨i + 1, q, by omega, by go_num, by rw [FNO.out (by simp [keepB, HX.out, of_decide_eq_false hx])]; exact T.out.bl_ (by repeat' (first | exact Bl.refl _ | with_reducible assumption | with_reducible refine Bl.drew_ ?_ | with_reducible refine Bl.drewN_ ?_ _ | with_reducible refine Bl.alloc_ ?_ _ | with_reducible refine Bl.trans_ ?_ (by assumption) | with_reducible refine Bl.trans_ ?_ (And.left (by assumption))))⟩
                    case measure => simp [intOf]; omega
                  | true =>
                    cases hy : decide (yy ∈ P) with
                    | false =>
                      go_wp2_with fail
                      refine (hasL_any A4 c4 P kp HKP.out x1 _ (by omega) (IP9.out.bl Z9.out)).mono ?_
                      rintro e w11 ⟨rfl, hb11⟩
                      rw [hx]
                      obtain ⟨-, ⟨y0, y1⟩, z0, z1⟩ := HSH5.out _ hb11
                      go_wp2_with fail
                      refine (hasL_any A4 c4 P kp HKP.out yy _ (by omega) (IP9.out.bl (Z9.out.trans_ hb11))).mono ?_
                      rintro e w12 ⟨rfl, hb12⟩
                      rw [hy]
                      clear y0 y1
                      go_wp2
                      go_roundw
                      case rel => exact ⟨i + 1, q, by omega, by go_num, by rw [FNO.out (by simp [keepB, HY.out, of_decide_eq_false hy])]; exact T.out.bl_ (by repeat' (first | exact Bl.refl _ | with_reducible assumption | with_reducible refine Bl.drew_ ?_ | with_reducible refine Bl.drewN_ ?_ _ | with_reducible refine Bl.alloc_ ?_ _ | with_reducible refine Bl.trans_ ?_ (by assumption) | with_reducible refine Bl.trans_ ?_ (And.left (by assumption))))⟩
                      case measure => simp [intOf]; omega
                    | true =>
                      go_wp2_with fail
                      refine (hasL_any A4 c4 P kp HKP.out x1 _ (by omega) (IP9.out.bl Z9.out)).mono ?_
                      rintro e w11 ⟨rfl, hb11⟩
                      rw [hx]
                      obtain ⟨-, ⟨y0, y1⟩, z0, z1⟩ := HSH5.out _ hb11
                      go_wp2_with fail
                      refine (hasL_any A4 c4 P kp HKP.out yy _ (by omega) (IP9.out.bl (Z9.out.trans_ hb11))).mono ?_
                      rintro e w12 ⟨rfl, hb12⟩
                      rw [hy]
                      have T2 := Lib.hid (T.out.bl_ (hb11.trans_ hb12))
                      have P1 := Lib.hid p1
                      obtain ⟨-, ⟨y0, y1⟩, z0, z1⟩ := HSH5.out w12 (hb11.trans_ hb12)
                      have z2 := ((bcell (hb11.trans_ hb12)).1 _ _ hg1).trans p3
                      obtain ⟨c0, c1, f0, f1⟩ := T2.out.box.facts
                      have hpb := World.rowIs.lt T2.out.box
                      have HF := Lib.hid (FYES.out (by simp [keepB, HX.out, HY.out, of_decide_eq_true hx, of_decide_eq_true hy]))
                      have hsz := T2.out.lo
                      clear p1 p2 p3 HSH5 hb11 hb12
                      generalize amongL P (L.take i) = F at hlen HF T T2
                      go_wp2_with fail
                      go_region_law (refine step_append_own _ rfl (.tmp 105) (.tmp 111) 24 rfl (pb + 1) 34 i0 _ 3 24 Try.underlying24 I0.out I1.out I2.out I3.out rfl (by decide) _ F.length (cs3 F) rfl (World.ownsRow.alloc T2.out.own _) ⟨w12.heap.size, 0, none⟩ 1 1 [.int .i64 x1, .int .i64 yy, .int .i64 zz] rfl rfl (new3 _ _ _ _ _) (one3 _ _ _) (by unfold maxLen; omega) (by omega) (show pb + 1 ≤ (w12.alloc (.cells #[.int .i64 x1, .int .i64 yy, .int .i64 zz] 34)).heap.size from by simp; omega) ?_; intro v2 w13 hown2 hg2; have O2 := Lib.hid (own_snoc (a := L[i]) (by rw [HX.out, HY.out, HZ.out]; exact hown2)); have U := Lib.hid ((T2.out.bl_ (by repeat' (first | exact Bl.refl _ | with_reducible assumption | with_reducible refine Bl.drew_ ?_ | with_reducible refine Bl.drewN_ ?_ _ | with_reducible refine Bl.alloc_ ?_ _ | with_reducible refine Bl.trans_ ?_ (by assumption) | with_reducible refine Bl.trans_ ?_ (And.left (by assumption))))).app hg2 O2.out); have b00 := (T2.out.bl_ (by repeat' (first | exact Bl.refl _ | with_reducible assumption | with_reducible refine Bl.drew_ ?_ | with_reducible refine Bl.drewN_ ?_ _ | with_reducible refine Bl.alloc_ ?_ _ | with_reducible refine Bl.trans_ ?_ (by assumption) | with_reducible refine Bl.trans_ ?_ (And.left (by assumption))))).grown_ hg2; obtain ⟨b0, -⟩ := b00; obtain ⟨AA, cc, rfl, _, _⟩ := O2.out.shape; obtain ⟨d0, d1, k0, k1⟩ := b0.facts; clear hown2 hg2 b0)
                      all_goals (go_wp2; go_roundw)
                      all_goals (first | (case measure => (simp [intOf]; omega)) | skip)
                      all_goals (have hl2 : (F ++ [L[i]]).length = F.length + 1 := by simp)
                      all_goals (rw [hl2] at U)
                      all_goals (refine ⟨i + 1, .slice AA (F.length + 1) cc, by omega, by go_num, ?_⟩; rw [HF.out]; exact U.out)
                · obtain rfl : i = l := by omega
                  have hm1 : amongL P (L.take i) = amongL P L := by have := HL.out; rw [this]; exact amongK_all P L
                  obtain ⟨AQ, cq, rfl, ha, -⟩ := hT.own.shape
                  have hcap := (hT.own.caps _ _ _ rfl).1
                  rw [hm1] at ha hcap T
                  have hm2 : (amongL P L).length ≤ i := by rw [← hm1]; exact amongK_len P L i
                  have HD := Lib.hid (show distOfI N (amongL P L) s t = distOfI N L s t from by rw [HP.out]; exact pruned_dist HASK.out)
                  clear hm1 hT
                  have HAP := Lib.hid ha
                  clear ha
                  obtain ⟨m, hm⟩ : ∃ m, m = (amongL P L).length := ⟨_, rfl⟩
                  have HM := Lib.hid hm
                  rw [← hm] at hcap hm2 T
                  clear hm
                  obtain ⟨c0, c1, f0, f1⟩ := T.out.box.facts
                  have HSH6 := Lib.hid (show ∀ wx, Bl wr wx → Bl wr wx ∧ (wx.cell? ⟨gb, 0, none⟩ = some (.int .i64 N) ∧ wx.cell? ⟨gb, 1, none⟩ = some (.slice A' i c')) ∧ wx.cell? ⟨pb, 0, none⟩ = some (.int .i64 N) ∧ wx.cell? ⟨pb, 1, none⟩ = some (.slice AQ m cq) from fun wx hb => by
                    obtain ⟨e0, e1, -, -⟩ := (T.out.bl_ hb).box.facts
                    exact ⟨hb, HSH3.out wx (Z9.out.trans_ hb), e0, e1⟩)
                  go_wp2_with fail
                  refine wp_region_held_drew (S := fun wx => Bl wr wx ∧ (wx.cell? ⟨gb, 0, none⟩ = some (.int .i64 N) ∧ wx.cell? ⟨gb, 1, none⟩ = some (.slice A' i c')) ∧ wx.cell? ⟨pb, 0, none⟩ = some (.int .i64 N) ∧ wx.cell? ⟨pb, 1, none⟩ = some (.slice AQ m cq)) (by kernel_rfl) ?_ (fun hHeld => ?_)
                  · (exact HSH6.out _ (by repeat' (first | exact Bl.refl _ | with_reducible assumption | with_reducible refine Bl.drew_ ?_ | with_reducible refine Bl.drewN_ ?_ _ | with_reducible refine Bl.alloc_ ?_ _ | with_reducible refine Bl.trans_ ?_ (by assumption) | with_reducible refine Bl.trans_ ?_ (And.left (by assumption)))))
                  refine wpAnyH_take (i := 0) (v := ?_) rfl (by kernel_rfl) (by kernel_rfl) (by kernel_rfl) (fun _ _ _ h => h) (Or.inl ⟨by kernel_rfl, ?_⟩) (by assumption) ?_
                  rotate_left
                  · (intro wx hSw; (try dsimp only at hSw); go_simp; try (with_reducible rfl))
                  try simp only [Act.put, List.getElem_toArray, List.getElem_cons_succ, List.getElem_cons_zero, List.setIfInBounds_toArray, List.set_cons_zero, List.set_cons_succ]
                  refine wpAnyH_take (i := 1) (v := ?_) rfl (by kernel_rfl) (by kernel_rfl) (by kernel_rfl) (fun _ _ _ h => h) (Or.inl ⟨by kernel_rfl, ?_⟩) (by assumption) ?_
                  rotate_left
                  · (intro wx hSw; (try dsimp only at hSw); go_simp; try (with_reducible rfl))
                  try simp only [Act.put, List.getElem_toArray, List.getElem_cons_succ, List.getElem_cons_zero, List.setIfInBounds_toArray, List.set_cons_zero, List.set_cons_succ]
                  refine wpAnyH_take (i := 2) (v := ?_) rfl (by kernel_rfl) (by kernel_rfl) (by kernel_rfl) (fun _ _ _ h => h) (Or.inl ⟨by kernel_rfl, ?_⟩) (by assumption) ?_
                  rotate_left
                  · (intro wx hSw; (try dsimp only at hSw); go_simp; try (with_reducible rfl))
                  try simp only [Act.put, List.getElem_toArray, List.getElem_cons_succ, List.getElem_cons_zero, List.setIfInBounds_toArray, List.set_cons_zero, List.set_cons_succ]
                  refine wpAnyH_take (i := 4) (v := ?_) rfl (by kernel_rfl) (by kernel_rfl) (by kernel_rfl) (fun _ _ _ h => h) (Or.inl ⟨by kernel_rfl, ?_⟩) (by assumption) ?_
                  rotate_left
                  · (intro wx hSw; (try dsimp only at hSw); go_simp; try (with_reducible rfl))
                  try simp only [Act.put, List.getElem_toArray, List.getElem_cons_succ, List.getElem_cons_zero, List.setIfInBounds_toArray, List.set_cons_zero, List.set_cons_succ]
                  refine wpAnyH_take (i := 5) (v := ?_) rfl (by kernel_rfl) (by kernel_rfl) (by kernel_rfl) (fun _ _ _ h => h) (Or.inl ⟨by kernel_rfl, ?_⟩) (by assumption) ?_
                  rotate_left
                  · (intro wx hSw; (try dsimp only at hSw); go_simp; try (with_reducible rfl))
                  try simp only [Act.put, List.getElem_toArray, List.getElem_cons_succ, List.getElem_cons_zero, List.setIfInBounds_toArray, List.set_cons_zero, List.set_cons_succ]
                  refine wpAnyH_take (i := 6) (v := ?_) rfl (by kernel_rfl) (by kernel_rfl) (by kernel_rfl) (fun _ _ _ h => h) (Or.inl ⟨by kernel_rfl, ?_⟩) (by assumption) ?_
                  rotate_left
                  · (intro wx hSw; (try dsimp only at hSw); go_simp; try (with_reducible rfl))
                  try simp only [Act.put, List.getElem_toArray, List.getElem_cons_succ, List.getElem_cons_zero, List.setIfInBounds_toArray, List.set_cons_zero, List.set_cons_succ]
                  refine wpAnyH_ready (rs := [3]) (by kernel_rfl) (by simp) ?_
                  refine AllReadyH.cons rfl (fun K hK => ?_) AllReadyH.nil
                  go_simp
                  (go_at_call 31; refine (implDistOf_any N s t AQ m cq (amongL P L) HM.out hcap _ (by omega) (HAP.out.bl (by repeat' (first | exact Bl.refl _ | with_reducible assumption | with_reducible refine Bl.drew_ ?_ | with_reducible refine Bl.drewN_ ?_ _ | with_reducible refine Bl.alloc_ ?_ _ | with_reducible refine Bl.trans_ ?_ (by assumption) | with_reducible refine Bl.trans_ ?_ (And.left (by assumption)))))).mono ?_; rintro e w14 ⟨rfl, hb14⟩; rw [HD.out])
                  try (go_wp2_with fail)
                  refine hK.out _ _ ?_ (fun hHeld => ?_)
                  · (exact HSH6.out _ (by repeat' (first | exact Bl.refl _ | with_reducible assumption | with_reducible refine Bl.drew_ ?_ | with_reducible refine Bl.drewN_ ?_ _ | with_reducible refine Bl.alloc_ ?_ _ | with_reducible refine Bl.trans_ ?_ (by assumption) | with_reducible refine Bl.trans_ ?_ (And.left (by assumption)))))
                  clear hK K
                  try simp only [Act.put, List.getElem_toArray, List.getElem_cons_succ, List.getElem_cons_zero, List.setIfInBounds_toArray, List.set_cons_zero, List.set_cons_succ]
                  refine wpAnyH_ready (rs := [7]) (by kernel_rfl) (by simp) ?_
                  refine AllReadyH.cons rfl (fun K hK => ?_) AllReadyH.nil
                  go_simp
                  (go_at_call 31; refine (implDistOf_any N s t A' i c' L HL.out hlc _ (by omega) (HA.out.bl (Q9.out.trans_ (Z9.out.trans_ (by repeat' (first | exact Bl.refl _ | with_reducible assumption | with_reducible refine Bl.drew_ ?_ | with_reducible refine Bl.drewN_ ?_ _ | with_reducible refine Bl.alloc_ ?_ _ | with_reducible refine Bl.trans_ ?_ (by assumption) | with_reducible refine Bl.trans_ ?_ (And.left (by assumption)))))))).mono ?_; rintro e w15 ⟨rfl, hb15⟩)
                  try (go_wp2_with fail)
                  refine hK.out _ _ ?_ (fun hHeld => ?_)
                  · (exact HSH6.out _ (by repeat' (first | exact Bl.refl _ | with_reducible assumption | with_reducible refine Bl.drew_ ?_ | with_reducible refine Bl.drewN_ ?_ _ | with_reducible refine Bl.alloc_ ?_ _ | with_reducible refine Bl.trans_ ?_ (by assumption) | with_reducible refine Bl.trans_ ?_ (And.left (by assumption)))))
                  clear hK K
                  try simp only [Act.put, List.getElem_toArray, List.getElem_cons_succ, List.getElem_cons_zero, List.setIfInBounds_toArray, List.set_cons_zero, List.set_cons_succ]
                  refine wpAnyH_take (i := 8) (v := ?_) rfl (by kernel_rfl) (by kernel_rfl) (by kernel_rfl) (fun _ _ _ h => h) (Or.inl ⟨by kernel_rfl, ?_⟩) (by assumption) ?_
                  rotate_left
                  · (intro wx hSw; (try dsimp only at hSw); go_simp; try (with_reducible rfl))
                  try simp only [Act.put, List.getElem_toArray, List.getElem_cons_succ, List.getElem_cons_zero, List.setIfInBounds_toArray, List.set_cons_zero, List.set_cons_succ]
                  refine wpAnyH_take (i := 9) (v := ?_) rfl (by kernel_rfl) (by kernel_rfl) (by kernel_rfl) (fun _ _ _ h => h) (Or.inl ⟨by kernel_rfl, ?_⟩) (by assumption) ?_
                  rotate_left
                  · (intro wx hSw; (try dsimp only at hSw); go_simp; try (with_reducible rfl))
                  try simp only [Act.put, List.getElem_toArray, List.getElem_cons_succ, List.getElem_cons_zero, List.setIfInBounds_toArray, List.set_cons_zero, List.set_cons_succ]
                  refine wpAnyH_done (by kernel_rfl) ?_ _
                  go_wp2
                  go_ret
                  exact ⟨rfl, B1.out.trans_ (Q9.out.trans_ (Z9.out.trans_ (by repeat' (first | exact Bl.refl _ | with_reducible assumption | with_reducible refine Bl.drew_ ?_ | with_reducible refine Bl.drewN_ ?_ _ | with_reducible refine Bl.alloc_ ?_ _ | with_reducible refine Bl.trans_ ?_ (by assumption) | with_reducible refine Bl.trans_ ?_ (And.left (by assumption))))))⟩
    all_goals
      have P9 := Lib.hid (P2.out.trans_ B9.out)
      obtain ⟨-, q0, q1⟩ := HSH.out _ B9.out
      go_wp2_with fail
      refine (specPruned_any N s t A' l c' L HL.out A3 k c3 V HK.out _ (by omega) hk20 (HA.out.bl P9.out) (HV.out.bl P9.out)).mono ?_
      rintro e w4 ⟨v4, rfl, hv4, hb4⟩
      obtain ⟨A5, c5, rfl, -, hi5, -, -⟩ := OwnN.shape hv4
      rw [← HP.out] at hi5 ⊢
      rw [← HKP.out]
      go_wp2_with fail
      refine (sameInts_yes A4 A5 c4 c5 P kp HKP.out _ (by omega) (IP.out.bl (B9.out.trans_ hb4)) hi5).mono ?_
      rintro e w5 ⟨rfl, hb5⟩
      have C5 := Lib.hid (hb4.trans_ hb5)
      clear hv4 hi5 hb4 hb5
      go_wp2
      go_ret
      exact ⟨rfl, B1.out.trans_ (P9.out.trans_ C5.out)⟩

end Go.Proofs.Ytpbgnidjgmmebaa
