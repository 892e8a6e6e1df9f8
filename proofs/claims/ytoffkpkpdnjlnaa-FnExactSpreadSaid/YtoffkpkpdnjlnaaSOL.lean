/-
  What is proved here: how many nodes are reached from one, and how far the farthest is, as the model reckons it; Spread and Center of the model. No conditions beyond those that each theorem states.
-/
import Derived.Test.YtoffkpkpdnjlnaaNS2
import Derived.Test.YtoffkpkpdnjlnaaPO
import Derived.Lib.MinMax
set_option linter.unusedSimpArgs false
set_option linter.unusedVariables false
namespace Go.Proofs.Ytoffkpkpdnjlnaa
open Go.RowKit

theorem maxD_dist {N s : Int} {L : List Arc3} (ho : okB N L = true) (h0 : 0 ≤ s) (h1 : s < N) (k : Nat) : 0 ≤ maxD ((distL N L s).take k) ∧ maxD ((distL N L s).take k) ≤ 24000 :=
  maxD_bounds fun d hd => by
    obtain ⟨i, hi, rfl⟩ := List.mem_iff_getElem.1 (List.mem_of_mem_take hd)
    rw [← dAt_el hi]
    have := (distL_top ho h0 h1 (i : Int)).2
    omega

set_option maxRecDepth 100000 in
set_option maxHeartbeats 4000000 in
theorem l10Spread_any (N s : Int) (A : Option Addr) (n c : Nat) (L : List Arc3) (hn : n = L.length) (ho : okB N L = true) (h0 : 0 ≤ s) (h1 : s < N) (w : World) (hm : n ≤ 1048576) (H1 : ArcsAt w w.heap.size A L) :
    Calls Try.prog 99 #[.agg #[.int .i64 N, .slice A n c], .int .i64 s] w fun e w' => e = .returned (.tuple #[.int .i64 (maxD (distL N L s)), .int .i64 (cntD (distL N L s) : Nat)]) ∧ Bl w w' := by
  have K1 := Lib.hid H1
  have HN := Lib.hid hn
  have HO := Lib.hid ho
  have HMB := Lib.hid (maxD_dist ho h0 h1)
  have HDT := Lib.hid (distL_top ho h0 h1)
  have HDL := Lib.hid (distL_len ho h0 h1)
  have hN24 := (okB_elim ho).2.1
  clear H1 hn ho
  go_enter Try.func99, Try.ntmps99
  go_wp2_with fail
  refine (l3Dist_any N s A n c L HN.out HO.out h0 h1 _ hm (K1.out.bl (by repeat' (first | exact Bl.refl _ | with_reducible assumption | with_reducible refine Bl.drew_ ?_ | with_reducible refine Bl.drewN_ ?_ _ | with_reducible refine Bl.alloc_ ?_ _ | with_reducible refine Bl.trans_ ?_ (by assumption) | with_reducible refine Bl.trans_ ?_ (And.left (by assumption)))))).mono ?_
  rintro e w1 ⟨v1, rfl, hv1, hb1⟩
  obtain ⟨A5, c5, rfl, hc5, hi5, -, hl5⟩ := OwnN.shape hv1
  have HI := Lib.hid hi5
  have B1 := Lib.hid (show Bl w w1 from (Bl.alloc_ (Bl.refl w) _).trans_ hb1)
  clear hv1 hi5 hl5 hb1
  obtain ⟨D, hD⟩ : ∃ D, D = distL N L s := ⟨_, rfl⟩
  rw [← hD] at HMB HDT HDL HI hc5 ⊢
  obtain ⟨m, hmm⟩ : ∃ m, m = D.length := ⟨_, rfl⟩
  have HM := Lib.hid hmm
  have hm24 : m ≤ 24 := by rw [hmm, HDL.out]; omega
  rw [← hmm] at hc5 ⊢
  have HD := Lib.hid hD
  clear hD hmm
  go_wp2_with fail
  go_loopw [7, 8, 9] (fun f y i wr => ∃ k : Nat, k ≤ m ∧ i = .int .i64 k ∧ f = .int .i64 (maxD (D.take k)) ∧ y = .int .i64 (cntD (D.take k) : Nat) ∧ Bl w1 wr) (fun _ _ i _ => m - (intOf i).toNat)
  case atStart => exact ⟨0, by omega, rfl, rfl, rfl, Bl.refl _⟩
  case round =>
    obtain ⟨k, hk, rfl, rfl, rfl, hbl⟩ := hrel
    have BB := Lib.hid hbl
    clear hbl
    by_cases hlt : k < m
    · have hkl : k < D.length := by have := HM.out; omega
      obtain ⟨g2, o2, rfl, hg2, hc2⟩ := (HI.out.bl BB.out).cell (by omega)
      have p1 := hc2 k hkl
      have MS := Lib.hid (maxD_step hkl)
      have CY := Lib.hid (fun h => cntD_yes hkl h)
      have CN := Lib.hid (fun h => cntD_no hkl h)
      have hmx := HMB.out k
      have hcl := Nat.le_trans (cntD_le (D.take k)) (Nat.le_trans (List.length_take_le _ _) hk)
      have htp : D[k] ≤ 23000 := by rw [← dAt_el hkl]; exact (HDT.out _).2
      obtain ⟨mk, hmk⟩ : ∃ x, x = maxD (D.take k) := ⟨_, rfl⟩
      obtain ⟨ck, hck⟩ : ∃ x, x = cntD (D.take k) := ⟨_, rfl⟩
      rw [← hmk] at hmx MS ⊢
      rw [← hck] at hcl CY CN ⊢
      generalize D[k] = x at *
      have i0 : (0 : Int) ≤ (k : Int) := by omega
      have i1 : (k : Int) < (m : Int) := by omega
      clear hc2 hmk hck
      by_cases hx : 0 ≤ x
      · have b0 : decide (0 ≤ x) = true := by simpa using hx
        have CYY := Lib.hid (CY.out hx)
        clear CY CN
        go_wp2_with fail
        go_roundw
        case rel => exact ⟨k + 1, by omega, by go_num, by rw [MS.out], by rw [CYY.out]; go_num, BB.out.trans_ (by repeat' (first | exact Bl.refl _ | with_reducible assumption | with_reducible refine Bl.drew_ ?_ | with_reducible refine Bl.drewN_ ?_ _ | with_reducible refine Bl.alloc_ ?_ _ | with_reducible refine Bl.trans_ ?_ (by assumption) | with_reducible refine Bl.trans_ ?_ (And.left (by assumption))))⟩
        case measure => simp [intOf]; omega
      · have b0 : decide (0 ≤ x) = false := by simpa using hx
        have CNN := Lib.hid (CN.out hx)
        clear CY CN
        go_wp2_with fail
        go_roundw
        case rel => exact ⟨k + 1, by omega, by go_num, by rw [MS.out], by rw [CNN.out], BB.out.trans_ (by repeat' (first | exact Bl.refl _ | with_reducible assumption | with_reducible refine Bl.drew_ ?_ | with_reducible refine Bl.drewN_ ?_ _ | with_reducible refine Bl.alloc_ ?_ _ | with_reducible refine Bl.trans_ ?_ (by assumption) | with_reducible refine Bl.trans_ ?_ (And.left (by assumption))))⟩
        case measure => simp [intOf]; omega
    · have HT := Lib.hid (show D.take k = D from List.take_of_length_le (by have := HM.out; omega))
      go_wp2
      go_ret2
      exact ⟨by rw [HT.out, HD.out]; rfl, B1.out.trans_ BB.out⟩

/-- How far the farthest one is that is reached; -1, where there is no such node or the graph is not right. -/
def spreadI (N : Int) (L : List Arc3) (v : Int) : Int := if has1 N L v = true then maxD (distL N L v) else -1
def centerI (N : Int) (L : List Arc3) : Int := if okB N L = true then ((topB (lookI N L) N.toNat : Nat) : Int) else -1

set_option maxRecDepth 100000 in
set_option maxHeartbeats 1000000 in
theorem specSpread_any (N s : Int) (A : Option Addr) (n c : Nat) (L : List Arc3) (hn : n = L.length) (hc : n ≤ c) (w : World) (hm : n ≤ 1048576) (H1 : ArcsAt w w.heap.size A L) :
    Calls Try.prog 52 #[.agg #[.int .i64 N, .slice A n c], .int .i64 s] w fun e w' => e = .returned (.int .i64 (spreadI N L s)) ∧ Bl w w' := by
  have K1 := Lib.hid H1
  have HN := Lib.hid hn
  clear H1 hn
  cases ho : okB N L with
  | false =>
    have HO := Lib.hid ho
    clear ho
    go_enter Try.func52, Try.ntmps52
    go_wp2_with fail
    refine (specOk_any N A n c L HN.out _ (by omega) (K1.out.bl (by repeat' (first | exact Bl.refl _ | with_reducible assumption | with_reducible refine Bl.drew_ ?_ | with_reducible refine Bl.drewN_ ?_ _ | with_reducible refine Bl.alloc_ ?_ _ | with_reducible refine Bl.trans_ ?_ (by assumption) | with_reducible refine Bl.trans_ ?_ (And.left (by assumption)))))).mono ?_
    rintro e w1 ⟨rfl, hb1⟩
    rw [HO.out]
    go_wp2
    go_ret
    refine ⟨ret_int ?_, (by repeat' (first | exact Bl.refl _ | with_reducible assumption | with_reducible refine Bl.drew_ ?_ | with_reducible refine Bl.drewN_ ?_ _ | with_reducible refine Bl.alloc_ ?_ _ | with_reducible refine Bl.trans_ ?_ (by assumption) | with_reducible refine Bl.trans_ ?_ (And.left (by assumption))))⟩
    unfold spreadI has1
    rw [HO.out, Bool.false_and, if_neg (by simp)]
  | true =>
    have HO := Lib.hid ho
    have HNB := Lib.hid (nodeB_ok (v := s) ho)
    clear ho
    by_cases hh : 0 ≤ s ∧ s < N
    · have h1 : decide (0 ≤ s ∧ s < N) = true := by simpa using hh
      have H1 := Lib.hid h1
      obtain ⟨hs0, hs1⟩ := hh
      clear h1
      go_enter Try.func52, Try.ntmps52
      go_wp2_with fail
      refine (specOk_any N A n c L HN.out _ (by omega) (K1.out.bl (by repeat' (first | exact Bl.refl _ | with_reducible assumption | with_reducible refine Bl.drew_ ?_ | with_reducible refine Bl.drewN_ ?_ _ | with_reducible refine Bl.alloc_ ?_ _ | with_reducible refine Bl.trans_ ?_ (by assumption) | with_reducible refine Bl.trans_ ?_ (And.left (by assumption)))))).mono ?_
      rintro e w1 ⟨rfl, hb1⟩
      rw [HO.out]
      obtain ⟨q0, q1⟩ := box2 hb1
      go_wp2_with fail
      refine (l1Node_any N s _ _).mono ?_
      rintro e w2 ⟨rfl, hb2⟩
      rw [HNB.out, H1.out]
      have hb12 := hb1.trans_ hb2
      clear q0 q1
      obtain ⟨q0, q1⟩ := box2 hb12
      have hbw : Bl w w2 := (Bl.alloc_ (Bl.refl w) _).trans_ hb12
      clear hb12
      go_wp2_with fail
      refine (l10Spread_any N s A n c L HN.out HO.out hs0 hs1 _ hm (K1.out.bl hbw)).mono ?_
      rintro e w3 ⟨rfl, hb3⟩
      have E := Lib.hid (show maxD (distL N L s) = spreadI N L s from by unfold spreadI has1; rw [HO.out, H1.out]; rfl)
      rw [E.out]
      go_wp2
      go_ret
      exact ⟨ret_int rfl, hbw.trans_ hb3⟩
    · have h1 : decide (0 ≤ s ∧ s < N) = false := by simpa using hh
      have H1 := Lib.hid h1
      clear h1 hh
      go_enter Try.func52, Try.ntmps52
      go_wp2_with fail
      refine (specOk_any N A n c L HN.out _ (by omega) (K1.out.bl (by repeat' (first | exact Bl.refl _ | with_reducible assumption | with_reducible refine Bl.drew_ ?_ | with_reducible refine Bl.drewN_ ?_ _ | with_reducible refine Bl.alloc_ ?_ _ | with_reducible refine Bl.trans_ ?_ (by assumption) | with_reducible refine Bl.trans_ ?_ (And.left (by assumption)))))).mono ?_
      rintro e w1 ⟨rfl, hb1⟩
      rw [HO.out]
      obtain ⟨q0, q1⟩ := box2 hb1
      go_wp2_with fail
      refine (l1Node_any N s _ _).mono ?_
      rintro e w2 ⟨rfl, hb2⟩
      rw [HNB.out, H1.out]
      have hb12 := hb1.trans_ hb2
      have hbw : Bl w w2 := (Bl.alloc_ (Bl.refl w) _).trans_ hb12
      clear hb12
      go_wp2
      go_ret
      refine ⟨ret_int ?_, hbw⟩
      unfold spreadI has1
      rw [H1.out, Bool.and_false, if_neg (by simp)]

set_option maxRecDepth 100000 in
set_option maxHeartbeats 4000000 in
theorem specCenter_any (N : Int) (A : Option Addr) (n c : Nat) (L : List Arc3) (hn : n = L.length) (hc : n ≤ c) (w : World) (hm : n ≤ 1048576) (H1 : ArcsAt w w.heap.size A L) :
    Calls Try.prog 54 #[.agg #[.int .i64 N, .slice A n c]] w fun e w' => e = .returned (.int .i64 (centerI N L)) ∧ Bl w w' := by
  have K1 := Lib.hid H1
  have HN := Lib.hid hn
  clear H1 hn
  cases ho : okB N L with
  | false =>
    have HO := Lib.hid ho
    clear ho
    go_enter Try.func54, Try.ntmps54
    go_wp2_with fail
    refine (specOk_any N A n c L HN.out _ (by omega) (K1.out.bl (by repeat' (first | exact Bl.refl _ | with_reducible assumption | with_reducible refine Bl.drew_ ?_ | with_reducible refine Bl.drewN_ ?_ _ | with_reducible refine Bl.alloc_ ?_ _ | with_reducible refine Bl.trans_ ?_ (by assumption) | with_reducible refine Bl.trans_ ?_ (And.left (by assumption)))))).mono ?_
    rintro e w1 ⟨rfl, hb1⟩
    rw [HO.out]
    go_wp2
    go_ret
    refine ⟨ret_int ?_, (by repeat' (first | exact Bl.refl _ | with_reducible assumption | with_reducible refine Bl.drew_ ?_ | with_reducible refine Bl.drewN_ ?_ _ | with_reducible refine Bl.alloc_ ?_ _ | with_reducible refine Bl.trans_ ?_ (by assumption) | with_reducible refine Bl.trans_ ?_ (And.left (by assumption))))⟩
    unfold centerI
    rw [HO.out, if_neg (by simp)]
  | true =>
    have HO := Lib.hid ho
    have hN1 := (okB_elim ho).1
    have hN24 := (okB_elim ho).2.1
    clear ho
    obtain ⟨q, rfl⟩ : ∃ q : Nat, N = q := ⟨N.toNat, by omega⟩
    have z0 : (0 : Int) < (q : Int) := by omega
    go_enter Try.func54, Try.ntmps54
    go_wp2_with fail
    refine (specOk_any q A n c L HN.out _ (by omega) (K1.out.bl (by repeat' (first | exact Bl.refl _ | with_reducible assumption | with_reducible refine Bl.drew_ ?_ | with_reducible refine Bl.drewN_ ?_ _ | with_reducible refine Bl.alloc_ ?_ _ | with_reducible refine Bl.trans_ ?_ (by assumption) | with_reducible refine Bl.trans_ ?_ (And.left (by assumption)))))).mono ?_
    rintro e w1 ⟨rfl, hb1⟩
    rw [HO.out]
    obtain ⟨q0, q1⟩ := box2 hb1
    go_wp2_with fail
    refine (l10Spread_any q 0 A n c L HN.out HO.out (by omega) z0 _ hm (K1.out.bl (by repeat' (first | exact Bl.refl _ | with_reducible assumption | with_reducible refine Bl.drew_ ?_ | with_reducible refine Bl.drewN_ ?_ _ | with_reducible refine Bl.alloc_ ?_ _ | with_reducible refine Bl.trans_ ?_ (by assumption) | with_reducible refine Bl.trans_ ?_ (And.left (by assumption)))))).mono ?_
    rintro e w2 ⟨rfl, hb2⟩
    have hb2 := hb1.trans_ hb2
    clear q0 q1 hb1
    have F0 := Lib.hid (show lookI q L (topB (lookI q L) 1) = (((cntD (distL q L 0) : Nat) : Int), maxD (distL q L 0)) from by rw [topB_one]; rfl)
    go_wp2_with fail
    go_loopw [3, 4, 5, 6] (fun b f y i wr => ∃ k : Nat, 1 ≤ k ∧ k ≤ q ∧ i = .int .i64 k ∧ b = .int .i64 ((topB (lookI q L) k : Nat) : Int) ∧ f = .int .i64 (lookI q L (topB (lookI q L) k)).2 ∧ y = .int .i64 (lookI q L (topB (lookI q L) k)).1 ∧ Bl (w.alloc (.cells #[.int .i64 (q : Int), .slice A n c] 33)) wr) (fun _ _ _ i _ => q - (intOf i).toNat)
    case atStart => exact ⟨1, by omega, by omega, rfl, by rw [topB_one]; rfl, by rw [F0.out], by rw [F0.out], hb2⟩
    case round =>
      obtain ⟨k, hk1, hk, rfl, rfl, rfl, rfl, hbl⟩ := hrel
      have BB := Lib.hid hbl
      obtain ⟨q0, q1⟩ := box2 hbl
      clear hbl F0 hb2
      by_cases hlt : k < q
      · have i0 : (0 : Int) ≤ (k : Int) := by omega
        have i1 : (k : Int) < (q : Int) := by omega
        have TY := Lib.hid (fun h => topB_yes (f := lookI q L) (k := k) h)
        have TN := Lib.hid (fun h => topB_no (f := lookI q L) (k := k) h)
        have FK := Lib.hid (show lookI q L k = (((cntD (distL q L (k : Int)) : Nat) : Int), maxD (distL q L (k : Int))) from rfl)
        obtain ⟨tk, htk⟩ : ∃ x, x = topB (lookI q L) k := ⟨_, rfl⟩
        have TK := Lib.hid htk
        rw [← htk] at TY TN ⊢
        obtain ⟨bb, bs⟩ : ∃ x, x = lookI q L tk := ⟨_, rfl⟩
        rw [← bs] at TY TN ⊢
        have BS := Lib.hid bs
        obtain ⟨b1, b2⟩ := bb
        clear htk bs
        go_wp2_with fail
        refine (l10Spread_any q k A n c L HN.out HO.out i0 i1 _ hm (K1.out.bl (((Bl.alloc_ (Bl.refl w) _).trans_ BB.out).trans_ (by repeat' (first | exact Bl.refl _ | with_reducible assumption | with_reducible refine Bl.drew_ ?_ | with_reducible refine Bl.drewN_ ?_ _ | with_reducible refine Bl.alloc_ ?_ _ | with_reducible refine Bl.trans_ ?_ (by assumption) | with_reducible refine Bl.trans_ ?_ (And.left (by assumption))))))).mono ?_
        rintro e w3 ⟨rfl, hb3⟩
        have B3 := Lib.hid (BB.out.trans_ hb3)
        clear hb3 q0 q1
        generalize cntD (distL q L (k : Int)) = ck at FK ⊢
        generalize maxD (distL q L (k : Int)) = mk at FK ⊢
        rw [FK.out] at TY TN
        simp only
        by_cases h1 : b1 < (ck : Int)
        · have d1 : decide (b1 < (ck : Int)) = true := by simpa using h1
          have TT := Lib.hid (TY.out (by simp [betterB]; omega))
          clear TY TN
          go_wp2_with fail
          go_roundw
          case rel => exact ⟨k + 1, by omega, by omega, by go_num, by rw [TT.out], by rw [TT.out, FK.out], (by rw [TT.out, FK.out]), B3.out.trans_ (by repeat' (first | exact Bl.refl _ | with_reducible assumption | with_reducible refine Bl.drew_ ?_ | with_reducible refine Bl.drewN_ ?_ _ | with_reducible refine Bl.alloc_ ?_ _ | with_reducible refine Bl.trans_ ?_ (by assumption) | with_reducible refine Bl.trans_ ?_ (And.left (by assumption))))⟩
          case measure => simp [intOf]; omega
        · have d1 : decide (b1 < (ck : Int)) = false := by simpa using h1
          by_cases h2 : (ck : Int) = b1
          · have d2 : ((ck : Int) == b1) = true := by simpa using h2
            by_cases h3 : mk < b2
            · have d3 : decide (mk < b2) = true := by simpa using h3
              have TT := Lib.hid (TY.out (by simp [betterB]; omega))
              clear TY TN
              go_wp2_with fail
              go_roundw
              case rel => exact ⟨k + 1, by omega, by omega, by go_num, by rw [TT.out], by rw [TT.out, FK.out], (by rw [TT.out, FK.out]; simp [h2]), B3.out.trans_ (by repeat' (first | exact Bl.refl _ | with_reducible assumption | with_reducible refine Bl.drew_ ?_ | with_reducible refine Bl.drewN_ ?_ _ | with_reducible refine Bl.alloc_ ?_ _ | with_reducible refine Bl.trans_ ?_ (by assumption) | with_reducible refine Bl.trans_ ?_ (And.left (by assumption))))⟩
              case measure => simp [intOf]; omega
            · have d3 : decide (mk < b2) = false := by simpa using h3
              have TT := Lib.hid (TN.out (by simp [betterB]; omega))
              clear TY TN
              go_wp2_with fail
              go_roundw
              case rel => exact ⟨k + 1, by omega, by omega, by go_num, by rw [TT.out], by rw [TT.out, ← BS.out], by rw [TT.out, ← BS.out], B3.out.trans_ (by repeat' (first | exact Bl.refl _ | with_reducible assumption | with_reducible refine Bl.drew_ ?_ | with_reducible refine Bl.drewN_ ?_ _ | with_reducible refine Bl.alloc_ ?_ _ | with_reducible refine Bl.trans_ ?_ (by assumption) | with_reducible refine Bl.trans_ ?_ (And.left (by assumption))))⟩
              case measure => simp [intOf]; omega
          · have d2 : ((ck : Int) == b1) = false := by simpa using h2
            have TT := Lib.hid (TN.out (by simp [betterB]; omega))
            clear TY TN
            go_wp2_with fail
            go_roundw
            case rel => exact ⟨k + 1, by omega, by omega, by go_num, by rw [TT.out], by rw [TT.out, ← BS.out], by rw [TT.out, ← BS.out], B3.out.trans_ (by repeat' (first | exact Bl.refl _ | with_reducible assumption | with_reducible refine Bl.drew_ ?_ | with_reducible refine Bl.drewN_ ?_ _ | with_reducible refine Bl.alloc_ ?_ _ | with_reducible refine Bl.trans_ ?_ (by assumption) | with_reducible refine Bl.trans_ ?_ (And.left (by assumption))))⟩
            case measure => simp [intOf]; omega
      · have HF := Lib.hid (show ((topB (lookI q L) k : Nat) : Int) = centerI q L from by
          unfold centerI
          rw [if_pos HO.out]
          congr 2
          simp
          omega)
        rw [HF.out]
        go_wp2
        go_ret
        exact ⟨ret_int rfl, (Bl.alloc_ (Bl.refl w) _).trans_ BB.out⟩

end Go.Proofs.Ytoffkpkpdnjlnaa
