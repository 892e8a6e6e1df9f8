/-
  What is proved here: spec.Weighed answers as the code does. No conditions beyond those that each theorem states.
-/
import Derived.Test.YtkjbnhkhnmjpmaaG3
set_option linter.unusedSimpArgs false
set_option linter.unusedVariables false
namespace Go.Proofs.Ytkjbnhkhnmjpmaa
open Go.RowKit

theorem pair_eq {N u v : Int} {L : List Arc3} (h : okB N L = true) : pairB N u v = (nodeB N u && nodeB N v && !(u == v)) := by
  obtain ⟨h1, h2, _⟩ := okB_elim h
  have hw : wrap64 (N - 1) = N - 1 := IntWalk.wrap64_in _ (by omega)
  unfold pairB nodeB inB
  rw [hw, Bool.eq_iff_iff]
  simp
  omega
theorem weighed_len (u v x : Int) (L : List Arc3) : (weighedL u v x L).length ≤ L.length + 1 := by
  have h : (restL u v L).length ≤ L.length := by unfold restL; exact List.length_filter_le _ _
  unfold weighedL
  split
  · exact Nat.le_trans (putL_len _ _) (by omega)
  · omega

set_option maxRecDepth 100000 in
set_option maxHeartbeats 8000000 in
theorem specWeighed_any (N u v x : Int) (A : Option Addr) (n c : Nat) (L : List Arc3) (hn : n = L.length) (w : World) (hm : n ≤ 1048576) (H1 : ArcsAt w w.heap.size A L) :
    Calls Try.prog 29 #[.agg #[.int .i64 N, .slice A n c], .int .i64 u, .int .i64 v, .int .i64 x] w (WRes (weighedB N L u v x) N (weighedL u v x L) w) := by
  have K1 := Lib.hid H1
  have HN := Lib.hid hn
  clear H1 hn
  by_cases b1 : okB N L = true
  · have PE := Lib.hid (pair_eq (u := u) (v := v) b1)
    by_cases b2 : nodeB N u = true
    · by_cases b3 : nodeB N v = true
      · by_cases b4 : (u == v) = true
        · skip
          go_enter Try.func29, Try.ntmps29
          go_wp2_with fail
          refine (specOk_any N A n c L HN.out _ (by omega) (K1.out.bl (by repeat' (first | exact Bl.refl _ | with_reducible assumption | with_reducible refine Bl.drew_ ?_ | with_reducible refine Bl.drewN_ ?_ _ | with_reducible refine Bl.alloc_ ?_ _ | with_reducible refine Bl.trans_ ?_ (by assumption) | with_reducible refine Bl.trans_ ?_ (And.left (by assumption)))))).mono ?_
          rintro e w1 ⟨rfl, hb1⟩
          obtain ⟨h00, h01, h10, h11, f10, f11, hsz⟩ := box22 hb1
          go_wp2_with fail
          refine (l1Node_any N u _ _).mono ?_
          rintro e w2 ⟨rfl, hb2⟩
          have hb2 := hb1.trans_ hb2
          clear h00 h01 h10 h11 f10 f11 hsz
          obtain ⟨h00, h01, h10, h11, f10, f11, hsz⟩ := box22 hb2
          go_wp2_with fail
          refine (l1Node_any N v _ _).mono ?_
          rintro e w3 ⟨rfl, hb3⟩
          have hb3 := hb2.trans_ hb3
          clear h00 h01 h10 h11 f10 f11 hsz
          obtain ⟨h00, h01, h10, h11, f10, f11, hsz⟩ := box22 hb3
          go_wp2
          refine bodyPost_ret (v := .tuple #[.agg #[.int .i64 0, .slice none 0 0], .bool false]) (by simp [results, Try.results29, go_sem, h10, h11, f10, f11]) rfl (WRes.no (by unfold weighedB; rw [PE.out, b2, b3, b4]; simp) ?_)
          exact Bl.set_ (Bl.set_ ((Bl.alloc_ (Bl.alloc_ (Bl.refl w) _) _).trans_ hb3) (Nat.le_succ _) _) (Nat.le_succ _) _
        · have b4' : (u == v) = false := by simpa using b4
          clear b4
          by_cases b5 : inB x 0 1000 = true
          · have HWL := weighed_len u v x L
            have hlm : (weighedL u v x L).length ≤ 1048577 := by have := HN.out; omega
            clear HWL
            by_cases b6 : okB N (weighedL u v x L) = true
            · have HW := Lib.hid (show weighedB N L u v x = true from by unfold weighedB; rw [PE.out, b1, b2, b3, b4', b5, b6]; rfl)
              go_enter Try.func29, Try.ntmps29
              go_wp2_with fail
              refine (specOk_any N A n c L HN.out _ (by omega) (K1.out.bl (by repeat' (first | exact Bl.refl _ | with_reducible assumption | with_reducible refine Bl.drew_ ?_ | with_reducible refine Bl.drewN_ ?_ _ | with_reducible refine Bl.alloc_ ?_ _ | with_reducible refine Bl.trans_ ?_ (by assumption) | with_reducible refine Bl.trans_ ?_ (And.left (by assumption)))))).mono ?_
              rintro e w1 ⟨rfl, hb1⟩
              obtain ⟨h00, h01, h10, h11, f10, f11, hsz⟩ := box22 hb1
              go_wp2_with fail
              refine (l1Node_any N u _ _).mono ?_
              rintro e w2 ⟨rfl, hb2⟩
              have hb2 := hb1.trans_ hb2
              clear h00 h01 h10 h11 f10 f11 hsz
              obtain ⟨h00, h01, h10, h11, f10, f11, hsz⟩ := box22 hb2
              go_wp2_with fail
              refine (l1Node_any N v _ _).mono ?_
              rintro e w3 ⟨rfl, hb3⟩
              have hb3 := hb2.trans_ hb3
              clear h00 h01 h10 h11 f10 f11 hsz
              obtain ⟨h00, h01, h10, h11, f10, f11, hsz⟩ := box22 hb3
              go_wp2_with (go_at_call 46; refine (l1In_any _ _ _ _).mono ?_; rintro e w' ⟨rfl, rfl⟩)
              refine (l1Weigh_any N u v x A n c L HN.out _ hm (K1.out.bl (by repeat' (first | exact Bl.refl _ | with_reducible assumption | with_reducible refine Bl.drew_ ?_ | with_reducible refine Bl.drewN_ ?_ _ | with_reducible refine Bl.alloc_ ?_ _ | with_reducible refine Bl.trans_ ?_ (by assumption) | with_reducible refine Bl.trans_ ?_ (And.left (by assumption)))))).mono ?_
              rintro e w4 ⟨vv, rfl, hv, hb4⟩
              obtain ⟨AA, cc, rfl, hAA, _⟩ := hv.shape
              have V := Lib.hid (hv.low (B := w.heap.size + 2) (by have := hsz; omega))
              have HA := Lib.hid hAA
              clear hv hAA
              have hb4 := hb3.trans_ hb4
              clear h00 h01 h10 h11 f10 f11 hsz
              obtain ⟨h00, h01, h10, h11, f10, f11, hsz⟩ := box22 hb4
              go_wp2_with fail
              refine (specOk_any N AA _ cc (weighedL u v x L) rfl _ (by omega) (HA.out.bl (by repeat' (first | exact Bl.refl _ | with_reducible assumption | with_reducible refine Bl.drew_ ?_ | with_reducible refine Bl.drewN_ ?_ _ | with_reducible refine Bl.alloc_ ?_ _ | with_reducible refine Bl.trans_ ?_ (by assumption) | with_reducible refine Bl.trans_ ?_ (And.left (by assumption)))))).mono ?_
              rintro e w5 ⟨rfl, hb5⟩
              obtain ⟨x0, x1⟩ := box2 hb5
              have B5 : Bl w4 w5 := (Bl.alloc_ (Bl.refl w4) _).trans_ hb5
              have hb5' := hb4.trans_ B5
              clear h00 h01 h10 h11 f10 f11 hsz
              obtain ⟨h00, h01, h10, h11, f10, f11, hsz⟩ := box22 hb5'
              have Q5 : Bl w w5 := (Bl.alloc_ (Bl.alloc_ (Bl.refl w) _) _).trans_ hb5'
              go_wp2
              refine bodyPost_ret (v := .tuple #[.agg #[.int .i64 N, .slice AA (weighedL u v x L).length cc], .bool true]) (by simp [results, Try.results29, go_sem, h10, h11, f10, f11]) rfl ?_
              refine ⟨_, by rw [HW.out]; rfl, ?_, Bl.set_ (Bl.set_ Q5 (Nat.le_succ _) _) (Nat.le_succ _) _⟩
              rw [HW.out, if_pos rfl]
              exact (OwnA.set_ (OwnA.set_ (V.out.bl B5) (by show w.heap.size + 1 < _; omega) _) (by show w.heap.size + 1 < _; omega) _).low (by omega)
            · have b6' : okB N (weighedL u v x L) = false := by simpa using b6
              clear b6
              have HW := Lib.hid (show weighedB N L u v x = false from by unfold weighedB; rw [b6', Bool.and_false])
              go_enter Try.func29, Try.ntmps29
              go_wp2_with fail
              refine (specOk_any N A n c L HN.out _ (by omega) (K1.out.bl (by repeat' (first | exact Bl.refl _ | with_reducible assumption | with_reducible refine Bl.drew_ ?_ | with_reducible refine Bl.drewN_ ?_ _ | with_reducible refine Bl.alloc_ ?_ _ | with_reducible refine Bl.trans_ ?_ (by assumption) | with_reducible refine Bl.trans_ ?_ (And.left (by assumption)))))).mono ?_
              rintro e w1 ⟨rfl, hb1⟩
              obtain ⟨h00, h01, h10, h11, f10, f11, hsz⟩ := box22 hb1
              go_wp2_with fail
              refine (l1Node_any N u _ _).mono ?_
              rintro e w2 ⟨rfl, hb2⟩
              have hb2 := hb1.trans_ hb2
              clear h00 h01 h10 h11 f10 f11 hsz
              obtain ⟨h00, h01, h10, h11, f10, f11, hsz⟩ := box22 hb2
              go_wp2_with fail
              refine (l1Node_any N v _ _).mono ?_
              rintro e w3 ⟨rfl, hb3⟩
              have hb3 := hb2.trans_ hb3
              clear h00 h01 h10 h11 f10 f11 hsz
              obtain ⟨h00, h01, h10, h11, f10, f11, hsz⟩ := box22 hb3
              go_wp2_with (go_at_call 46; refine (l1In_any _ _ _ _).mono ?_; rintro e w' ⟨rfl, rfl⟩)
              refine (l1Weigh_any N u v x A n c L HN.out _ hm (K1.out.bl (by repeat' (first | exact Bl.refl _ | with_reducible assumption | with_reducible refine Bl.drew_ ?_ | with_reducible refine Bl.drewN_ ?_ _ | with_reducible refine Bl.alloc_ ?_ _ | with_reducible refine Bl.trans_ ?_ (by assumption) | with_reducible refine Bl.trans_ ?_ (And.left (by assumption)))))).mono ?_
              rintro e w4 ⟨vv, rfl, hv, hb4⟩
              obtain ⟨AA, cc, rfl, hAA, _⟩ := hv.shape
              have V := Lib.hid (hv.low (B := w.heap.size + 2) (by have := hsz; omega))
              have HA := Lib.hid hAA
              clear hv hAA
              have hb4 := hb3.trans_ hb4
              clear h00 h01 h10 h11 f10 f11 hsz
              obtain ⟨h00, h01, h10, h11, f10, f11, hsz⟩ := box22 hb4
              go_wp2_with fail
              refine (specOk_any N AA _ cc (weighedL u v x L) rfl _ (by omega) (HA.out.bl (by repeat' (first | exact Bl.refl _ | with_reducible assumption | with_reducible refine Bl.drew_ ?_ | with_reducible refine Bl.drewN_ ?_ _ | with_reducible refine Bl.alloc_ ?_ _ | with_reducible refine Bl.trans_ ?_ (by assumption) | with_reducible refine Bl.trans_ ?_ (And.left (by assumption)))))).mono ?_
              rintro e w5 ⟨rfl, hb5⟩
              obtain ⟨x0, x1⟩ := box2 hb5
              have B5 : Bl w4 w5 := (Bl.alloc_ (Bl.refl w4) _).trans_ hb5
              have hb5' := hb4.trans_ B5
              clear h00 h01 h10 h11 f10 f11 hsz
              obtain ⟨h00, h01, h10, h11, f10, f11, hsz⟩ := box22 hb5'
              have Q5 : Bl w w5 := (Bl.alloc_ (Bl.alloc_ (Bl.refl w) _) _).trans_ hb5'
              go_wp2
              refine bodyPost_ret (v := .tuple #[.agg #[.int .i64 0, .slice none 0 0], .bool false]) (by simp [results, Try.results29, go_sem, h10, h11, f10, f11]) rfl (WRes.no HW.out ?_)
              exact Bl.set_ (Bl.set_ Q5 (Nat.le_succ _) _) (Nat.le_succ _) _
          · have b5' : inB x 0 1000 = false := by simpa using b5
            clear b5
            go_enter Try.func29, Try.ntmps29
            go_wp2_with fail
            refine (specOk_any N A n c L HN.out _ (by omega) (K1.out.bl (by repeat' (first | exact Bl.refl _ | with_reducible assumption | with_reducible refine Bl.drew_ ?_ | with_reducible refine Bl.drewN_ ?_ _ | with_reducible refine Bl.alloc_ ?_ _ | with_reducible refine Bl.trans_ ?_ (by assumption) | with_reducible refine Bl.trans_ ?_ (And.left (by assumption)))))).mono ?_
            rintro e w1 ⟨rfl, hb1⟩
            obtain ⟨h00, h01, h10, h11, f10, f11, hsz⟩ := box22 hb1
            go_wp2_with fail
            refine (l1Node_any N u _ _).mono ?_
            rintro e w2 ⟨rfl, hb2⟩
            have hb2 := hb1.trans_ hb2
            clear h00 h01 h10 h11 f10 f11 hsz
            obtain ⟨h00, h01, h10, h11, f10, f11, hsz⟩ := box22 hb2
            go_wp2_with fail
            refine (l1Node_any N v _ _).mono ?_
            rintro e w3 ⟨rfl, hb3⟩
            have hb3 := hb2.trans_ hb3
            clear h00 h01 h10 h11 f10 f11 hsz
            obtain ⟨h00, h01, h10, h11, f10, f11, hsz⟩ := box22 hb3
            go_wp2_with (go_at_call 46; refine (l1In_any _ _ _ _).mono ?_; rintro e w' ⟨rfl, rfl⟩)
            refine bodyPost_ret (v := .tuple #[.agg #[.int .i64 0, .slice none 0 0], .bool false]) (by simp [results, Try.results29, go_sem, h10, h11, f10, f11]) rfl (WRes.no (by unfold weighedB; rw [b5', Bool.and_false, Bool.false_and]) ?_)
            exact Bl.set_ (Bl.set_ ((Bl.alloc_ (Bl.alloc_ (Bl.refl w) _) _).trans_ hb3) (Nat.le_succ _) _) (Nat.le_succ _) _
      · have b3' : nodeB N v = false := by simpa using b3
        clear b3
        go_enter Try.func29, Try.ntmps29
        go_wp2_with fail
        refine (specOk_any N A n c L HN.out _ (by omega) (K1.out.bl (by repeat' (first | exact Bl.refl _ | with_reducible assumption | with_reducible refine Bl.drew_ ?_ | with_reducible refine Bl.drewN_ ?_ _ | with_reducible refine Bl.alloc_ ?_ _ | with_reducible refine Bl.trans_ ?_ (by assumption) | with_reducible refine Bl.trans_ ?_ (And.left (by assumption)))))).mono ?_
        rintro e w1 ⟨rfl, hb1⟩
        obtain ⟨h00, h01, h10, h11, f10, f11, hsz⟩ := box22 hb1
        go_wp2_with fail
        refine (l1Node_any N u _ _).mono ?_
        rintro e w2 ⟨rfl, hb2⟩
        have hb2 := hb1.trans_ hb2
        clear h00 h01 h10 h11 f10 f11 hsz
        obtain ⟨h00, h01, h10, h11, f10, f11, hsz⟩ := box22 hb2
        go_wp2_with fail
        refine (l1Node_any N v _ _).mono ?_
        rintro e w3 ⟨rfl, hb3⟩
        have hb3 := hb2.trans_ hb3
        clear h00 h01 h10 h11 f10 f11 hsz
        obtain ⟨h00, h01, h10, h11, f10, f11, hsz⟩ := box22 hb3
        go_wp2
        refine bodyPost_ret (v := .tuple #[.agg #[.int .i64 0, .slice none 0 0], .bool false]) (by simp [results, Try.results29, go_sem, h10, h11, f10, f11]) rfl (WRes.no (by unfold weighedB; rw [PE.out, b3']; simp) ?_)
        exact Bl.set_ (Bl.set_ ((Bl.alloc_ (Bl.alloc_ (Bl.refl w) _) _).trans_ hb3) (Nat.le_succ _) _) (Nat.le_succ _) _
    · have b2' : nodeB N u = false := by simpa using b2
      clear b2
      go_enter Try.func29, Try.ntmps29
      go_wp2_with fail
      refine (specOk_any N A n c L HN.out _ (by omega) (K1.out.bl (by repeat' (first | exact Bl.refl _ | with_reducible assumption | with_reducible refine Bl.drew_ ?_ | with_reducible refine Bl.drewN_ ?_ _ | with_reducible refine Bl.alloc_ ?_ _ | with_reducible refine Bl.trans_ ?_ (by assumption) | with_reducible refine Bl.trans_ ?_ (And.left (by assumption)))))).mono ?_
      rintro e w1 ⟨rfl, hb1⟩
      obtain ⟨h00, h01, h10, h11, f10, f11, hsz⟩ := box22 hb1
      go_wp2_with fail
      refine (l1Node_any N u _ _).mono ?_
      rintro e w2 ⟨rfl, hb2⟩
      have hb2 := hb1.trans_ hb2
      clear h00 h01 h10 h11 f10 f11 hsz
      obtain ⟨h00, h01, h10, h11, f10, f11, hsz⟩ := box22 hb2
      go_wp2
      refine bodyPost_ret (v := .tuple #[.agg #[.int .i64 0, .slice none 0 0], .bool false]) (by simp [results, Try.results29, go_sem, h10, h11, f10, f11]) rfl (WRes.no (by unfold weighedB; rw [PE.out, b2']; simp) ?_)
      exact Bl.set_ (Bl.set_ ((Bl.alloc_ (Bl.alloc_ (Bl.refl w) _) _).trans_ hb2) (Nat.le_succ _) _) (Nat.le_succ _) _
  · have b1' : okB N L = false := by simpa using b1
    clear b1
    go_enter Try.func29, Try.ntmps29
    go_wp2_with fail
    refine (specOk_any N A n c L HN.out _ (by omega) (K1.out.bl (by repeat' (first | exact Bl.refl _ | with_reducible assumption | with_reducible refine Bl.drew_ ?_ | with_reducible refine Bl.drewN_ ?_ _ | with_reducible refine Bl.alloc_ ?_ _ | with_reducible refine Bl.trans_ ?_ (by assumption) | with_reducible refine Bl.trans_ ?_ (And.left (by assumption)))))).mono ?_
    rintro e w1 ⟨rfl, hb1⟩
    obtain ⟨h00, h01, h10, h11, f10, f11, hsz⟩ := box22 hb1
    go_wp2
    refine bodyPost_ret (v := .tuple #[.agg #[.int .i64 0, .slice none 0 0], .bool false]) (by simp [results, Try.results29, go_sem, h10, h11, f10, f11]) rfl (WRes.no (by unfold weighedB; rw [b1']; simp) ?_)
    exact Bl.set_ (Bl.set_ ((Bl.alloc_ (Bl.alloc_ (Bl.refl w) _) _).trans_ hb1) (Nat.le_succ _) _) (Nat.le_succ _) _

end Go.Proofs.Ytkjbnhkhnmjpmaa
