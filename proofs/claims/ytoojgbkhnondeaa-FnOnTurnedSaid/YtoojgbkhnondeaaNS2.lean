/-
  What is proved here: DistFrom and DistOf of the model. No conditions beyond those that each theorem states.
-/
import Derived.Test.YtoojgbkhnondeaaNS1
import Derived.Test.YtoojgbkhnondeaaNF4
set_option linter.unusedSimpArgs false
set_option linter.unusedVariables false
namespace Go.Proofs.Ytoojgbkhnondeaa
open Go.RowKit

theorem nodeB_ok {N v : Int} {L : List Arc3} (ho : okB N L = true) : nodeB N v = decide (0 ≤ v ∧ v < N) := by
  obtain ⟨h1, h2, -⟩ := okB_elim ho
  unfold nodeB inB
  have : wrap64 (N - 1) = N - 1 := by unfold wrap64; omega
  rw [this, Bool.eq_iff_iff]
  simp only [decide_eq_true_eq]
  omega
theorem distFromL_len (N : Int) (L : List Arc3) (s : Int) : (distFromL N L s).length ≤ 1048576 := by
  unfold distFromL
  split
  · obtain ⟨ho, h0, h1⟩ := has1_of ‹_›
    have := (okB_elim ho).2.1
    rw [distL_len ho h0 h1]
    omega
  · simp

set_option maxHeartbeats 1000000 in
theorem specDistFrom_any (N s : Int) (A : Option Addr) (n c : Nat) (L : List Arc3) (hn : n = L.length) (hc : n ≤ c) (w : World) (hm : n ≤ 1048576) (H1 : ArcsAt w w.heap.size A L) :
    Calls Try.prog 11 #[.agg #[.int .i64 N, .slice A n c], .int .i64 s] w (NumsMade (distFromL N L s) w) := by
  have K1 := Lib.hid H1
  have HN := Lib.hid hn
  clear H1 hn
  cases ho : okB N L with
  | false =>
    have HO := Lib.hid ho
    clear ho
    go_enter Try.func11, Try.ntmps11
    go_wp2_with fail
    refine (specOk_any N A n c L HN.out _ (by omega) (K1.out.bl (by repeat' (first | exact Bl.refl _ | with_reducible assumption | with_reducible refine Bl.drew_ ?_ | with_reducible refine Bl.drewN_ ?_ _ | with_reducible refine Bl.alloc_ ?_ _ | with_reducible refine Bl.trans_ ?_ (by assumption) | with_reducible refine Bl.trans_ ?_ (And.left (by assumption)))))).mono ?_
    rintro e w1 ⟨rfl, hb1⟩
    rw [HO.out]
    go_wp2
    go_ret
    refine ⟨_, rfl, ?_, (by repeat' (first | exact Bl.refl _ | with_reducible assumption | with_reducible refine Bl.drew_ ?_ | with_reducible refine Bl.drewN_ ?_ _ | with_reducible refine Bl.alloc_ ?_ _ | with_reducible refine Bl.trans_ ?_ (by assumption) | with_reducible refine Bl.trans_ ?_ (And.left (by assumption))))⟩
    unfold distFromL has1
    rw [HO.out, Bool.false_and, if_neg (by simp)]
    exact World.ownsRow_made (base := w.heap.size) (e := 2) (size := 1) w1 #[] 0 (by have := hb1.size; simp at this; omega) (by unfold maxLen; omega) rfl
  | true =>
    have HO := Lib.hid ho
    have HNB := Lib.hid (nodeB_ok (v := s) ho)
    clear ho
    by_cases hh : 0 ≤ s ∧ s < N
    · have h1 : decide (0 ≤ s ∧ s < N) = true := by simpa using hh
      have H1 := Lib.hid h1
      obtain ⟨hs0, hs1⟩ := hh
      clear h1
      go_enter Try.func11, Try.ntmps11
      go_wp2_with fail
      refine (specOk_any N A n c L HN.out _ (by omega) (K1.out.bl (by repeat' (first | exact Bl.refl _ | with_reducible assumption | with_reducible refine Bl.drew_ ?_ | with_reducible refine Bl.drewN_ ?_ _ | with_reducible refine Bl.alloc_ ?_ _ | with_reducible refine Bl.trans_ ?_ (by assumption) | with_reducible refine Bl.trans_ ?_ (And.left (by assumption)))))).mono ?_
      rintro e w1 ⟨rfl, hb1⟩
      rw [HO.out]
      obtain ⟨q0, q1⟩ := box2 hb1
      go_wp2_with fail
      refine (l1Node_any N s _ _).mono ?_
      rintro e w2 ⟨rfl, hb2⟩
      rw [HNB.out, H1.out]
      have hb12 := hb1.trans_ hb2
      clear q0 q1
      obtain ⟨q0, q1⟩ := box2 hb12
      have hbw : Bl w w2 := (Bl.alloc_ (Bl.refl w) _).trans_ hb12
      clear hb12
      go_wp2_with fail
      refine (l3Dist_any N s A n c L HN.out HO.out hs0 hs1 _ hm (K1.out.bl hbw)).mono ?_
      rintro e w3 ⟨v, rfl, hv, hb3⟩
      have V := Lib.hid (hv.low (B := w.heap.size) hbw.size)
      clear hv
      go_wp2
      go_ret
      refine ⟨v, rfl, ?_, hbw.trans_ hb3⟩
      unfold distFromL has1
      rw [HO.out, H1.out]
      exact V.out
    · have h1 : decide (0 ≤ s ∧ s < N) = false := by simpa using hh
      have H1 := Lib.hid h1
      clear h1 hh
      go_enter Try.func11, Try.ntmps11
      go_wp2_with fail
      refine (specOk_any N A n c L HN.out _ (by omega) (K1.out.bl (by repeat' (first | exact Bl.refl _ | with_reducible assumption | with_reducible refine Bl.drew_ ?_ | with_reducible refine Bl.drewN_ ?_ _ | with_reducible refine Bl.alloc_ ?_ _ | with_reducible refine Bl.trans_ ?_ (by assumption) | with_reducible refine Bl.trans_ ?_ (And.left (by assumption)))))).mono ?_
      rintro e w1 ⟨rfl, hb1⟩
      rw [HO.out]
      obtain ⟨q0, q1⟩ := box2 hb1
      go_wp2_with fail
      refine (l1Node_any N s _ _).mono ?_
      rintro e w2 ⟨rfl, hb2⟩
      rw [HNB.out, H1.out]
      have hb12 := hb1.trans_ hb2
      have hbw : Bl w w2 := (Bl.alloc_ (Bl.refl w) _).trans_ hb12
      clear hb12
      go_wp2
      go_ret
      refine ⟨_, rfl, ?_, hbw.alloc_ _⟩
      unfold distFromL has1
      rw [H1.out, Bool.and_false, if_neg (by simp)]
      exact World.ownsRow_made (base := w.heap.size) (e := 2) (size := 1) w2 #[] 0 hbw.size (by unfold maxLen; omega) rfl

set_option maxHeartbeats 1000000 in
theorem specDistOf_any (N s t : Int) (A : Option Addr) (n c : Nat) (L : List Arc3) (hn : n = L.length) (hc : n ≤ c) (w : World) (hm : n ≤ 1048576) (H1 : ArcsAt w w.heap.size A L) :
    Calls Try.prog 15 #[.agg #[.int .i64 N, .slice A n c], .int .i64 s, .int .i64 t] w fun e w' => e = .returned (.int .i64 (distOfI N L s t)) ∧ Bl w w' := by
  have K1 := Lib.hid H1
  have HN := Lib.hid hn
  clear H1 hn
  cases ho : okB N L with
  | false =>
    have HO := Lib.hid ho
    clear ho
    go_enter Try.func15, Try.ntmps15
    go_wp2_with fail
    refine (specOk_any N A n c L HN.out _ (by omega) (K1.out.bl (by repeat' (first | exact Bl.refl _ | with_reducible assumption | with_reducible refine Bl.drew_ ?_ | with_reducible refine Bl.drewN_ ?_ _ | with_reducible refine Bl.alloc_ ?_ _ | with_reducible refine Bl.trans_ ?_ (by assumption) | with_reducible refine Bl.trans_ ?_ (And.left (by assumption)))))).mono ?_
    rintro e w1 ⟨rfl, hb1⟩
    rw [HO.out]
    go_wp2
    go_ret
    refine ⟨ret_int ?_, (by repeat' (first | exact Bl.refl _ | with_reducible assumption | with_reducible refine Bl.drew_ ?_ | with_reducible refine Bl.drewN_ ?_ _ | with_reducible refine Bl.alloc_ ?_ _ | with_reducible refine Bl.trans_ ?_ (by assumption) | with_reducible refine Bl.trans_ ?_ (And.left (by assumption))))⟩
    unfold distOfI has2
    rw [HO.out, Bool.false_and, if_neg (by simp)]
  | true =>
    have HO := Lib.hid ho
    have HNB := Lib.hid (nodeB_ok (v := s) ho)
    have HNT := Lib.hid (nodeB_ok (v := t) ho)
    clear ho
    by_cases hh : 0 ≤ s ∧ s < N
    · have h1 : decide (0 ≤ s ∧ s < N) = true := by simpa using hh
      have H1 := Lib.hid h1
      obtain ⟨hs0, hs1⟩ := hh
      clear h1
      by_cases hk : 0 ≤ t ∧ t < N
      · have h2 : decide (0 ≤ t ∧ t < N) = true := by simpa using hk
        have H2 := Lib.hid h2
        obtain ⟨ht0, ht1⟩ := hk
        clear h2
        obtain ⟨u, rfl⟩ : ∃ u : Nat, t = u := ⟨t.toNat, by omega⟩
        go_enter Try.func15, Try.ntmps15
        go_wp2_with fail
        refine (specOk_any N A n c L HN.out _ (by omega) (K1.out.bl (by repeat' (first | exact Bl.refl _ | with_reducible assumption | with_reducible refine Bl.drew_ ?_ | with_reducible refine Bl.drewN_ ?_ _ | with_reducible refine Bl.alloc_ ?_ _ | with_reducible refine Bl.trans_ ?_ (by assumption) | with_reducible refine Bl.trans_ ?_ (And.left (by assumption)))))).mono ?_
        rintro e w1 ⟨rfl, hb1⟩
        rw [HO.out]
        obtain ⟨q0, q1⟩ := box2 hb1
        go_wp2_with fail
        refine (l1Node_any N s _ _).mono ?_
        rintro e w2 ⟨rfl, hb2⟩
        rw [HNB.out, H1.out]
        have hb2 := hb1.trans_ hb2
        clear q0 q1
        obtain ⟨q0, q1⟩ := box2 hb2
        go_wp2_with fail
        refine (l1Node_any N u _ _).mono ?_
        rintro e w3 ⟨rfl, hb3⟩
        rw [HNT.out, H2.out]
        have hb3 := hb2.trans_ hb3
        clear q0 q1
        obtain ⟨q0, q1⟩ := box2 hb3
        have hbw : Bl w w3 := (Bl.alloc_ (Bl.refl w) _).trans_ hb3
        clear hb1 hb2 hb3
        go_wp2_with fail
        refine (l3Dist_any N s A n c L HN.out HO.out hs0 hs1 _ hm (K1.out.bl hbw)).mono ?_
        rintro e w4 ⟨v, rfl, hv, hb4⟩
        have hl : (distL N L s).length = N.toNat := distL_len HO.out hs0 hs1
        obtain ⟨A5, c5, rfl, hc5, hi5, -, -⟩ := OwnN.shape hv
        obtain ⟨g5, o5, rfl, hg5, hcell⟩ := hi5.cell (by omega)
        have p := hcell u (by omega)
        have e1 : (distL N L s)[u]'(by omega) = distOfI N L s u := by
          unfold distOfI has2
          rw [HO.out, Bool.true_and, if_pos (by simp; omega)]
          unfold dAt
          simp [hl]
          rw [List.getElem?_eq_getElem (by omega)]
          rfl
        rw [e1] at p
        have i1 : (0 : Int) ≤ (u : Int) := by omega
        have i2 : (u : Int) < ((distL N L s).length : Int) := by omega
        clear hcell hv hi5 e1 hl q0 q1
        generalize (distL N L s).length = dl at *
        go_wp2
        go_ret
        exact ⟨ret_int rfl, hbw.trans_ hb4⟩
      · have h2 : decide (0 ≤ t ∧ t < N) = false := by simpa using hk
        have H2 := Lib.hid h2
        clear h2
        go_enter Try.func15, Try.ntmps15
        go_wp2_with fail
        refine (specOk_any N A n c L HN.out _ (by omega) (K1.out.bl (by repeat' (first | exact Bl.refl _ | with_reducible assumption | with_reducible refine Bl.drew_ ?_ | with_reducible refine Bl.drewN_ ?_ _ | with_reducible refine Bl.alloc_ ?_ _ | with_reducible refine Bl.trans_ ?_ (by assumption) | with_reducible refine Bl.trans_ ?_ (And.left (by assumption)))))).mono ?_
        rintro e w1 ⟨rfl, hb1⟩
        rw [HO.out]
        obtain ⟨q0, q1⟩ := box2 hb1
        go_wp2_with fail
        refine (l1Node_any N s _ _).mono ?_
        rintro e w2 ⟨rfl, hb2⟩
        rw [HNB.out, H1.out]
        have hb2 := hb1.trans_ hb2
        clear q0 q1
        obtain ⟨q0, q1⟩ := box2 hb2
        go_wp2_with fail
        refine (l1Node_any N t _ _).mono ?_
        rintro e w3 ⟨rfl, hb3⟩
        rw [HNT.out, H2.out]
        have hb3 := hb2.trans_ hb3
        have hbw : Bl w w3 := (Bl.alloc_ (Bl.refl w) _).trans_ hb3
        clear hb1 hb2 hb3 q0 q1
        go_wp2
        go_ret
        refine ⟨ret_int ?_, hbw⟩
        unfold distOfI has2
        rw [if_neg]
        intro h
        simp at h
        exact hk h.2.2
    · have h1 : decide (0 ≤ s ∧ s < N) = false := by simpa using hh
      have H1 := Lib.hid h1
      clear h1
      go_enter Try.func15, Try.ntmps15
      go_wp2_with fail
      refine (specOk_any N A n c L HN.out _ (by omega) (K1.out.bl (by repeat' (first | exact Bl.refl _ | with_reducible assumption | with_reducible refine Bl.drew_ ?_ | with_reducible refine Bl.drewN_ ?_ _ | with_reducible refine Bl.alloc_ ?_ _ | with_reducible refine Bl.trans_ ?_ (by assumption) | with_reducible refine Bl.trans_ ?_ (And.left (by assumption)))))).mono ?_
      rintro e w1 ⟨rfl, hb1⟩
      rw [HO.out]
      obtain ⟨q0, q1⟩ := box2 hb1
      go_wp2_with fail
      refine (l1Node_any N s _ _).mono ?_
      rintro e w2 ⟨rfl, hb2⟩
      rw [HNB.out, H1.out]
      have hb2 := hb1.trans_ hb2
      have hbw : Bl w w2 := (Bl.alloc_ (Bl.refl w) _).trans_ hb2
      clear hb1 hb2 q0 q1
      go_wp2
      go_ret
      refine ⟨ret_int ?_, hbw⟩
      unfold distOfI has2
      rw [if_neg]
      intro h
      simp at h
      exact hh h.2.1

end Go.Proofs.Ytoojgbkhnondeaa
