/-
  What is proved here: ReachedFrom of the model. No conditions beyond those that each theorem states.
-/
import Derived.Test.YtoffkpkpdnjlnaaIRE
set_option linter.unusedSimpArgs false
set_option linter.unusedVariables false
namespace Go.Proofs.Ytoffkpkpdnjlnaa
open Go.RowKit

set_option maxRecDepth 100000 in
set_option maxHeartbeats 4000000 in
theorem l11Reach_any (q : Nat) (s : Int) (A : Option Addr) (n c : Nat) (L : List Arc3) (hn : n = L.length) (ho : okB (q : Int) L = true) (h0 : 0 ≤ s) (h1 : s < q) (w : World) (hm : n ≤ 1048576) (H1 : ArcsAt w w.heap.size A L) :
    Calls Try.prog 102 #[.agg #[.int .i64 (q : Int), .slice A n c], .int .i64 s] w (NumsMade (reachL (distL q L s) q) w) := by
  obtain ⟨i0, hi, hz0, hz1, hz2⟩ := info_parts infoInt
  have I0 := Lib.hid hi
  have I1 := Lib.hid hz0
  have I2 := Lib.hid hz1
  have I3 := Lib.hid hz2
  have K1 := Lib.hid H1
  have HN := Lib.hid hn
  have HO := Lib.hid ho
  have hN24 := (okB_elim ho).2.1
  have hdl : (distL q L s).length = q := by rw [distL_len ho h0 h1]; simp
  clear H1 hn ho hi hz0 hz1 hz2
  go_enter Try.func102, Try.ntmps102
  go_wp2_with fail
  refine (l3Dist_any q s A n c L HN.out HO.out h0 h1 _ hm (K1.out.bl (by repeat' (first | exact Bl.refl _ | with_reducible assumption | with_reducible refine Bl.drew_ ?_ | with_reducible refine Bl.drewN_ ?_ _ | with_reducible refine Bl.alloc_ ?_ _ | with_reducible refine Bl.trans_ ?_ (by assumption) | with_reducible refine Bl.trans_ ?_ (And.left (by assumption)))))).mono ?_
  rintro e w1 ⟨v1, rfl, hv1, hb1⟩
  obtain ⟨A5, c5, rfl, hc5, hi5, -, hl5⟩ := OwnN.shape hv1
  obtain ⟨D, hD⟩ : ∃ D, D = distL q L s := ⟨_, rfl⟩
  rw [← hD] at hdl hi5 hc5 ⊢
  have HDD := Lib.hid hD
  have DL := Lib.hid hdl
  rw [hdl] at hc5 ⊢
  have HI := Lib.hid hi5
  have hbx := hb1
  have HB1 := Lib.hid hb1
  have B1 := Lib.hid (show Bl w w1 from (Bl.alloc_ (Bl.refl w) _).trans_ hb1)
  have s1 := B1.out.size
  have hsw : w.heap.size < w1.heap.size := by have := hb1.size; simp at this; omega
  obtain ⟨q0, q1⟩ := box2 hbx
  clear hv1 hi5 hl5 hb1 hD hdl hbx
  go_wp2_with fail
  clear q0 q1
  go_loopw [6, 7] (fun v i wr => ∃ k : Nat, k ≤ q ∧ i = .int .i64 k ∧ OwnN wr w1.heap.size v (reachL D k) ∧ Bl w1 wr) (fun _ i _ => q - (intOf i).toNat)
  case atStart =>
    refine ⟨0, by omega, rfl, ?_, Bl.alloc_ (Bl.refl _) _⟩
    exact World.ownsRow_made (base := w1.heap.size) (e := 2) (size := 1) w1 #[] 0 (Nat.le_refl _) (by unfold maxLen; omega) rfl
  case round =>
    obtain ⟨k, hk, rfl, hO, hbl⟩ := hrel
    have OO := Lib.hid hO
    have BB := Lib.hid hbl
    have s2 := hbl.size
    obtain ⟨q0, q1⟩ := box2 (HB1.out.trans_ hbl)
    clear hO hbl
    by_cases hlt : k < q
    · obtain ⟨g5, o5, rfl, hg5, hc5'⟩ := (HI.out.bl BB.out).cell (by rw [DL.out]; omega)
      have p1 := hc5' k (by rw [DL.out]; exact hlt)
      rw [show D[k]'(by rw [DL.out]; exact hlt) = dAt D (k : Int) from by simp [dAt, DL.out, hlt]] at p1
      have i0' : (0 : Int) ≤ (k : Int) := by omega
      have i1' : (k : Int) < (q : Int) := by omega
      clear hc5'
      obtain ⟨x, hx⟩ : ∃ x, x = dAt D (k : Int) := ⟨_, rfl⟩
      have RY := Lib.hid (fun h => reachL_yes (D := D) (k := k) h)
      have RN := Lib.hid (fun h => reachL_no (D := D) (k := k) h)
      rw [← hx] at p1 RY RN
      clear hx
      by_cases hd : 0 ≤ x
      · have b0 : decide (0 ≤ x) = true := by simpa using hd
        have RY2 := Lib.hid (RY.out hd)
        obtain ⟨m, hm9⟩ : ∃ m, m = (reachL D k).length := ⟨_, rfl⟩
        have HM := Lib.hid hm9
        have hmk : m ≤ 24 := by rw [hm9]; exact Nat.le_trans (reachL_len D k) (by omega)
        have OW := Lib.hid (show wr.ownsRow w1.heap.size 2 1 u6 m (csI (reachL D k)) from by rw [hm9]; exact OO.out)
        clear hm9 RY RN
        go_wp2_with (at_builtin; refine wpList_append_any _ rfl (.tmp 23) (.tmp 25) _ rfl w1.heap.size 2 i0 _ 1 8 Try.underlying26 I0.out I1.out I2.out I3.out rfl (by decide) _ m (csI (reachL D k)) rfl (World.ownsRow.alloc OW.out _) (wr.heap.size + 1) (some ⟨wr.heap.size, 0, none⟩) 1 1 [.int .i64 (k : Int)] rfl ?c0 (by simp [Value.oneCell']) ?c3 ?c4 ?c5 ?_)
        case c0 =>
          refine ⟨rfl, fun _ => ⟨_, rfl, by show wr.heap.size < wr.heap.size + 1; omega, fun x u hj => ?_⟩⟩
          match x, hj with
          | 0, hj => simp at hj; subst hj; simp [Addr.add, go_sem]
          | (x + 1), hj => simp at hj
        case c3 => unfold maxLen; omega
        case c4 => omega
        case c5 => first | omega | (simp; omega)
        intro v' w8 hown' hgrow hwh
        have O8 := Lib.hid (OwnN.snoc (V := reachL D k) (x := (k : Int)) (n := m) HM.out hown')
        rw [← RY2.out] at O8
        have hol := fun g h => (Owns.lt OO.out g h).1
        have B8 := Lib.hid (show Bl w1 w8 from (BB.out.alloc_ _).grown_ hgrow (fun g hg => hol g hg))
        clear hown' hgrow hwh q0 q1
        go_wp2
        go_roundw
        case rel => exact ⟨k + 1, by omega, by go_num, O8.out, B8.out⟩
        case measure => simp [intOf]; omega
      · have b0 : decide (0 ≤ x) = false := by simpa using hd
        have RN2 := Lib.hid (RN.out hd)
        clear RY RN
        go_wp2
        go_roundw
        case rel => exact ⟨k + 1, by omega, by go_num, by rw [RN2.out]; exact OO.out, BB.out⟩
        case measure => simp [intOf]; omega
    · obtain rfl : k = q := by omega
      go_wp2
      go_ret
      exact ⟨_, rfl, by rw [← HDD.out]; exact OO.out.low s1, B1.out.trans_ BB.out⟩

set_option maxRecDepth 100000 in
set_option maxHeartbeats 1000000 in
theorem specReachedFrom_any (N s : Int) (A : Option Addr) (n c : Nat) (L : List Arc3) (hn : n = L.length) (hc : n ≤ c) (w : World) (hm : n ≤ 1048576) (H1 : ArcsAt w w.heap.size A L) :
    Calls Try.prog 56 #[.agg #[.int .i64 N, .slice A n c], .int .i64 s] w (NumsMade (reachFL N L s) w) := by
  have K1 := Lib.hid H1
  have HN := Lib.hid hn
  clear H1 hn
  cases ho : okB N L with
  | false =>
    have HO := Lib.hid ho
    clear ho
    go_enter Try.func56, Try.ntmps56
    go_wp2_with fail
    refine (specOk_any N A n c L HN.out _ (by omega) (K1.out.bl (by repeat' (first | exact Bl.refl _ | with_reducible assumption | with_reducible refine Bl.drew_ ?_ | with_reducible refine Bl.drewN_ ?_ _ | with_reducible refine Bl.alloc_ ?_ _ | with_reducible refine Bl.trans_ ?_ (by assumption) | with_reducible refine Bl.trans_ ?_ (And.left (by assumption)))))).mono ?_
    rintro e w1 ⟨rfl, hb1⟩
    rw [HO.out]
    go_wp2
    go_ret
    refine ⟨_, rfl, ?_, (by repeat' (first | exact Bl.refl _ | with_reducible assumption | with_reducible refine Bl.drew_ ?_ | with_reducible refine Bl.drewN_ ?_ _ | with_reducible refine Bl.alloc_ ?_ _ | with_reducible refine Bl.trans_ ?_ (by assumption) | with_reducible refine Bl.trans_ ?_ (And.left (by assumption))))⟩
    unfold reachFL has1
    rw [HO.out, Bool.false_and, if_neg (by simp)]
    exact World.ownsRow_made (base := w.heap.size) (e := 2) (size := 1) w1 #[] 0 (by have := hb1.size; simp at this; omega) (by unfold maxLen; omega) rfl
  | true =>
    have HO := Lib.hid ho
    have HNB := Lib.hid (nodeB_ok (v := s) ho)
    have hN1 := (okB_elim ho).1
    clear ho
    by_cases hh : 0 ≤ s ∧ s < N
    · have h1 : decide (0 ≤ s ∧ s < N) = true := by simpa using hh
      have H1 := Lib.hid h1
      obtain ⟨q, rfl⟩ : ∃ q : Nat, N = q := ⟨N.toNat, by omega⟩
      obtain ⟨hs0, hs1⟩ := hh
      clear h1
      go_enter Try.func56, Try.ntmps56
      go_wp2_with fail
      refine (specOk_any q A n c L HN.out _ (by omega) (K1.out.bl (by repeat' (first | exact Bl.refl _ | with_reducible assumption | with_reducible refine Bl.drew_ ?_ | with_reducible refine Bl.drewN_ ?_ _ | with_reducible refine Bl.alloc_ ?_ _ | with_reducible refine Bl.trans_ ?_ (by assumption) | with_reducible refine Bl.trans_ ?_ (And.left (by assumption)))))).mono ?_
      rintro e w1 ⟨rfl, hb1⟩
      rw [HO.out]
      obtain ⟨q0, q1⟩ := box2 hb1
      go_wp2_with fail
      refine (l1Node_any q s _ _).mono ?_
      rintro e w2 ⟨rfl, hb2⟩
      rw [HNB.out, H1.out]
      have hb12 := hb1.trans_ hb2
      clear q0 q1
      obtain ⟨q0, q1⟩ := box2 hb12
      have hbw : Bl w w2 := (Bl.alloc_ (Bl.refl w) _).trans_ hb12
      clear hb12
      go_wp2_with fail
      refine (l11Reach_any q s A n c L HN.out HO.out hs0 hs1 _ hm (K1.out.bl hbw)).mono ?_
      rintro e w3 ⟨v, rfl, hv, hb3⟩
      have V := Lib.hid (hv.low (B := w.heap.size) hbw.size)
      clear hv
      go_wp2
      go_ret
      refine ⟨v, rfl, ?_, hbw.trans_ hb3⟩
      unfold reachFL has1
      rw [HO.out, H1.out]
      exact V.out
    · have h1 : decide (0 ≤ s ∧ s < N) = false := by simpa using hh
      have H1 := Lib.hid h1
      clear h1 hh
      go_enter Try.func56, Try.ntmps56
      go_wp2_with fail
      refine (specOk_any N A n c L HN.out _ (by omega) (K1.out.bl (by repeat' (first | exact Bl.refl _ | with_reducible assumption | with_reducible refine Bl.drew_ ?_ | with_reducible refine Bl.drewN_ ?_ _ | with_reducible refine Bl.alloc_ ?_ _ | with_reducible refine Bl.trans_ ?_ (by assumption) | with_reducible refine Bl.trans_ ?_ (And.left (by assumption)))))).mono ?_
      rintro e w1 ⟨rfl, hb1⟩
      rw [HO.out]
      obtain ⟨q0, q1⟩ := box2 hb1
      go_wp2_with fail
      refine (l1Node_any N s _ _).mono ?_
      rintro e w2 ⟨rfl, hb2⟩
      rw [HNB.out, H1.out]
      have hb12 := hb1.trans_ hb2
      have hbw : Bl w w2 := (Bl.alloc_ (Bl.refl w) _).trans_ hb12
      clear hb12
      go_wp2
      go_ret
      refine ⟨_, rfl, ?_, hbw.alloc_ _⟩
      unfold reachFL has1
      rw [H1.out, Bool.and_false, if_neg (by simp)]
      exact World.ownsRow_made (base := w.heap.size) (e := 2) (size := 1) w2 #[] 0 hbw.size (by unfold maxLen; omega) rfl

end Go.Proofs.Ytoffkpkpdnjlnaa
