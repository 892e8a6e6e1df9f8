/-
  What is proved here: Spread and Center of the code. No conditions beyond those that each theorem states.
-/
import Derived.Test.YtoffkpkpdnjlnaaIOL
import Derived.Test.YtoffkpkpdnjlnaaSOL
import Derived.BigRegion
set_option linter.unusedSimpArgs false
set_option linter.unusedVariables false
namespace Go.Proofs.Ytoffkpkpdnjlnaa
open Go.RowKit

theorem field_spread (x y : Int) (w : World) : (Instr.field 121 (.agg #[.int .i64 x, .int .i64 y]) 1).run Try.prog w = .ok (.int .i64 y) w := by kernel_rfl

set_option maxRecDepth 100000 in
set_option maxHeartbeats 1000000 in
theorem implSpread_any (N s : Int) (A : Option Addr) (n c : Nat) (L : List Arc3) (hn : n = L.length) (hc : n ≤ c) (w : World) (hm : n ≤ 1048576) (H1 : ArcsAt w w.heap.size A L) :
    Calls Try.prog 53 #[.agg #[.int .i64 N, .slice A n c], .int .i64 s] w fun e w' => e = .returned (.int .i64 (spreadI N L s)) ∧ Bl w w' := by
  have K1 := Lib.hid H1
  have HN := Lib.hid hn
  clear H1 hn
  cases hh : has1 N L s with
  | false =>
    have HH := Lib.hid hh
    clear hh
    go_enter Try.func53, Try.ntmps53
    go_wp2_with fail
    refine (hasNodes_1 N s A n c L HN.out (w.heap.size + 1) 1 _ (by omega) (K1.out.bl (by repeat' (first | exact Bl.refl _ | with_reducible assumption | with_reducible refine Bl.drew_ ?_ | with_reducible refine Bl.drewN_ ?_ _ | with_reducible refine Bl.alloc_ ?_ _ | with_reducible refine Bl.trans_ ?_ (by assumption) | with_reducible refine Bl.trans_ ?_ (And.left (by assumption))))) (by simp) (by simp [go_sem])).mono ?_
    rintro e w1 ⟨rfl, hb1⟩
    rw [HH.out]
    go_wp2
    go_ret
    exact ⟨ret_int (by unfold spreadI; rw [if_neg (by rw [HH.out]; simp)]), (by repeat' (first | exact Bl.refl _ | with_reducible assumption | with_reducible refine Bl.drew_ ?_ | with_reducible refine Bl.drewN_ ?_ _ | with_reducible refine Bl.alloc_ ?_ _ | with_reducible refine Bl.trans_ ?_ (by assumption) | with_reducible refine Bl.trans_ ?_ (And.left (by assumption))))⟩
  | true =>
    have HH := Lib.hid hh
    obtain ⟨ho, hs0, hs1⟩ := has1_of hh
    have HO := Lib.hid ho
    clear hh ho
    go_enter Try.func53, Try.ntmps53
    go_wp2_with fail
    refine (hasNodes_1 N s A n c L HN.out (w.heap.size + 1) 1 _ (by omega) (K1.out.bl (by repeat' (first | exact Bl.refl _ | with_reducible assumption | with_reducible refine Bl.drew_ ?_ | with_reducible refine Bl.drewN_ ?_ _ | with_reducible refine Bl.alloc_ ?_ _ | with_reducible refine Bl.trans_ ?_ (by assumption) | with_reducible refine Bl.trans_ ?_ (And.left (by assumption))))) (by simp) (by simp [go_sem])).mono ?_
    rintro e w1 ⟨rfl, hb1⟩
    rw [HH.out]
    have hx := (bcell hb1).1
    have q0 : w1.cell? ⟨w.heap.size, 0, none⟩ = some (.int .i64 N) := (hx _ _ (by simp; omega)).trans (by simp [go_sem])
    have q1 : w1.cell? ⟨w.heap.size, 1, none⟩ = some (.slice A n c) := (hx _ _ (by simp; omega)).trans (by simp [go_sem])
    have hbw : Bl w w1 := (((Bl.refl w).alloc_ _).alloc_ _).trans_ hb1
    clear hx hb1
    go_wp2_with fail
    refine (outlook_any N s A n c L HN.out hc HO.out hs0 hs1 _ (K1.out.bl hbw)).mono ?_
    rintro e w2 ⟨rfl, hb2⟩
    have E := Lib.hid (show maxD (distL N L s) = spreadI N L s from by unfold spreadI; rw [if_pos HH.out])
    rw [E.out]
    have hfd := field_spread (((cntD (distL N L s) : Nat) : Int)) (spreadI N L s) w2
    go_wp2
    go_ret
    exact ⟨ret_int rfl, hbw.trans_ hb2⟩

set_option maxRecDepth 100000 in
set_option maxHeartbeats 4000000 in
theorem implCenter_any (N : Int) (A : Option Addr) (n c : Nat) (L : List Arc3) (hn : n = L.length) (hc : n ≤ c) (w : World) (hm : n ≤ 1048576) (H1 : ArcsAt w w.heap.size A L) :
    Calls Try.prog 55 #[.agg #[.int .i64 N, .slice A n c]] w fun e w' => e = .returned (.int .i64 (centerI N L)) ∧ Bl w w' := by
  have K1 := Lib.hid H1
  have HN := Lib.hid hn
  clear H1 hn
  cases ho : okB N L with
  | false =>
    have HO := Lib.hid ho
    clear ho
    go_enter Try.func55, Try.ntmps55
    go_wp2_with fail
    refine (implOk_any N A n c L HN.out _ (by omega) (K1.out.bl (by repeat' (first | exact Bl.refl _ | with_reducible assumption | with_reducible refine Bl.drew_ ?_ | with_reducible refine Bl.drewN_ ?_ _ | with_reducible refine Bl.alloc_ ?_ _ | with_reducible refine Bl.trans_ ?_ (by assumption) | with_reducible refine Bl.trans_ ?_ (And.left (by assumption)))))).mono ?_
    rintro e w1 ⟨rfl, hb1⟩
    rw [HO.out]
    go_wp2
    go_ret
    exact ⟨ret_int (by unfold centerI; rw [HO.out, if_neg (by simp)]), (by repeat' (first | exact Bl.refl _ | with_reducible assumption | with_reducible refine Bl.drew_ ?_ | with_reducible refine Bl.drewN_ ?_ _ | with_reducible refine Bl.alloc_ ?_ _ | with_reducible refine Bl.trans_ ?_ (by assumption) | with_reducible refine Bl.trans_ ?_ (And.left (by assumption))))⟩
  | true =>
    have HO := Lib.hid ho
    have hN1 := (okB_elim ho).1
    have hN24 := (okB_elim ho).2.1
    clear ho
    obtain ⟨q, rfl⟩ : ∃ q : Nat, N = q := ⟨N.toNat, by omega⟩
    have z0 : (0 : Int) < (q : Int) := by omega
    have HF0 := Lib.hid (show 0 < (lookI q L 0).1 from by
      have h := distL_is (arcsIn_of_ok HO.out) hN24 (show (0 : Int) ≤ 0 by omega) z0
      have hl := distL_len HO.out (show (0 : Int) ≤ 0 by omega) z0
      have h2 : 0 ≤ (distL q L 0)[0]'(by rw [hl]; omega) := by
        rw [← dAt_el (by rw [hl]; omega)]
        show (0 : Int) ≤ dAt (distL q L 0) ((0 : Nat) : Int)
        rw [show ((0 : Nat) : Int) = 0 from rfl, h.start]
        exact Int.le_refl _
      have h3 := cntD_yes (D := distL q L 0) (j := 0) (by rw [hl]; omega) h2
      have h4 : cntD ((distL q L 0).take (0 + 1)) ≤ cntD (distL q L 0) := by
        unfold cntD
        exact (List.take_sublist _ _ |>.filter _).length_le
      unfold lookI
      simp only [Int.natCast_zero] at *
      show (0 : Int) < ((cntD (distL q L ((0 : Nat) : Int)) : Nat) : Int)
      have : ((0 : Nat) : Int) = 0 := rfl
      rw [this]
      omega)
    go_enter Try.func55, Try.ntmps55
    go_wp2_with fail
    refine (implOk_any q A n c L HN.out _ (by omega) (K1.out.bl (by repeat' (first | exact Bl.refl _ | with_reducible assumption | with_reducible refine Bl.drew_ ?_ | with_reducible refine Bl.drewN_ ?_ _ | with_reducible refine Bl.alloc_ ?_ _ | with_reducible refine Bl.trans_ ?_ (by assumption) | with_reducible refine Bl.trans_ ?_ (And.left (by assumption)))))).mono ?_
    rintro e w1 ⟨rfl, hb1⟩
    rw [HO.out]
    obtain ⟨q0, q1⟩ := box2 hb1
    have s1 := hb1.size
    simp only [World.size_alloc] at s1
    have s2 : w.heap.size < w1.heap.size := by omega
    go_wp2_with fail
    have B1 := Lib.hid (show Bl w w1 from (Bl.alloc_ (Bl.refl w) _).trans_ hb1)
    clear q0 q1
    go_loopw [3, 12] (fun b i wr => ∃ k : Nat, k ≤ q ∧ i = .int .i64 k ∧ b = .int .i64 ((topB (lookI q L) k : Nat) : Int) ∧ PairAt wr w1.heap.size (bestA (lookI q L) k).1 (bestA (lookI q L) k).2 ∧ Bl (w.alloc (.cells #[.int .i64 (q : Int), .slice A n c] 33)) wr) (fun _ i _ => q - (intOf i).toNat)
    case atStart => exact ⟨0, by omega, rfl, rfl, by refine ⟨?_, ?_, ?_, ?_, ?_⟩ <;> simp [go_sem, bestA], hb1.alloc_ _⟩
    case round =>
      obtain ⟨k, hk, rfl, rfl, hp, hbl⟩ := hrel
      have BB := Lib.hid hbl
      have PP := Lib.hid hp
      obtain ⟨q0, q1⟩ := box2 hbl
      have hlt0 := hp.lt
      clear hbl hp
      by_cases hlt : k < q
      · have i0 : (0 : Int) ≤ (k : Int) := by omega
        have i1 : (k : Int) < (q : Int) := by omega
        have TY := Lib.hid (fun h => best_yes (f := lookI q L) (j := k) h)
        have TN := Lib.hid (fun h => best_no (f := lookI q L) (j := k) HF0.out h)
        have FK := Lib.hid (show lookI q L k = (((cntD (distL q L (k : Int)) : Nat) : Int), maxD (distL q L (k : Int))) from rfl)
        obtain ⟨bb, bs⟩ : ∃ x, x = bestA (lookI q L) k := ⟨_, rfl⟩
        rw [← bs] at TY TN PP
        have BS := Lib.hid bs
        obtain ⟨b1, b2⟩ := bb
        simp only at PP
        clear bs
        go_wp2_with fail
        refine (outlook_any q k A n c L HN.out hc HO.out i0 i1 _ (K1.out.bl (((Bl.alloc_ (Bl.refl w) _).trans_ BB.out).trans_ (by repeat' (first | exact Bl.refl _ | with_reducible assumption | with_reducible refine Bl.drew_ ?_ | with_reducible refine Bl.drewN_ ?_ _ | with_reducible refine Bl.alloc_ ?_ _ | with_reducible refine Bl.trans_ ?_ (by assumption) | with_reducible refine Bl.trans_ ?_ (And.left (by assumption))))))).mono ?_
        rintro e w3 ⟨rfl, hb3⟩
        have B3 := Lib.hid (BB.out.trans_ hb3)
        have P3 := Lib.hid (PP.out.bl hb3)
        have c0 := P3.out.c0
        have c1 := P3.out.c1
        have f0 := P3.out.f0
        have f1 := P3.out.f1
        have hl3 := P3.out.lt
        clear hb3 q0 q1
        generalize cntD (distL q L (k : Int)) = ck at FK ⊢
        generalize maxD (distL q L (k : Int)) = mk at FK ⊢
        rw [FK.out] at TY TN
        go_wp2_with fail
        refine (betterThan_any (ck : Int) mk b1 b2 _).mono ?_
        rintro e w4 ⟨rfl, hb4⟩
        have C4 := Lib.hid (bcell hb4)
        have hs4 := hb4.size
        simp only [World.size_setCell, World.size_alloc] at hs4
        have d0 : w4.cell? ⟨w3.heap.size, 0, none⟩ = some (.int .i64 (ck : Int)) := (C4.out.1 _ _ (by simp)).trans (by simp [go_sem])
        have d1 : w4.cell? ⟨w3.heap.size, 1, none⟩ = some (.int .i64 mk) := (C4.out.1 _ _ (by simp)).trans (by simp [go_sem])
        have P4 := Lib.hid (P3.out.bl (show Bl w3 w4 from (by repeat' (first | exact Bl.refl _ | with_reducible assumption | with_reducible refine Bl.drew_ ?_ | with_reducible refine Bl.drewN_ ?_ _ | with_reducible refine Bl.alloc_ ?_ _ | with_reducible refine Bl.trans_ ?_ (by assumption) | with_reducible refine Bl.trans_ ?_ (And.left (by assumption))))))
        have B4 := Lib.hid (B3.out.trans_ (show Bl w3 w4 from (by repeat' (first | exact Bl.refl _ | with_reducible assumption | with_reducible refine Bl.drew_ ?_ | with_reducible refine Bl.drewN_ ?_ _ | with_reducible refine Bl.alloc_ ?_ _ | with_reducible refine Bl.trans_ ?_ (by assumption) | with_reducible refine Bl.trans_ ?_ (And.left (by assumption))))))
        have c0 := P4.out.c0
        have c1 := P4.out.c1
        have f0 := P4.out.f0
        have f1 := P4.out.f1
        clear hb4
        cases hb : betterB ((ck : Int), mk) (b1, b2) with
        | true =>
          have HY := Lib.hid (TY.out hb)
          clear TY TN hb
          go_wp2_with fail
          go_region
          go_wp2
          go_roundw
          case rel => exact ⟨k + 1, by omega, by go_num, by rw [HY.out.1], by rw [HY.out.2]; exact ((P4.out.set0 (ck : Int)).set1 mk).bl (Bl.drew_ (Bl.refl _)), Bl.drew_ (Bl.set_ (Bl.set_ B4.out (by simp; omega) _) (by simp; omega) _)⟩
          case measure => simp [intOf]; omega
        | false =>
          have HY := Lib.hid (TN.out hb)
          clear TY TN hb
          go_wp2
          go_roundw
          case rel => exact ⟨k + 1, by omega, by go_num, by rw [HY.out.1], by rw [HY.out.2]; exact P4.out, B4.out⟩
          case measure => simp [intOf]; omega
      · have HF := Lib.hid (show ((topB (lookI q L) k : Nat) : Int) = centerI q L from by
          unfold centerI
          rw [if_pos HO.out]
          congr 2
          simp
          omega)
        rw [HF.out]
        go_wp2
        go_ret
        exact ⟨ret_int rfl, (Bl.alloc_ (Bl.refl w) _).trans_ BB.out⟩

end Go.Proofs.Ytoffkpkpdnjlnaa
