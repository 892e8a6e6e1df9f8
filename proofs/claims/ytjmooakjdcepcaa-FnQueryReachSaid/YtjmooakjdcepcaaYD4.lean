/-
  What is proved here: which numbers are right as reaches, told; the model's ReachOk; spec.Reversed turns the arcs of a right graph and puts them in order, as the model does; which nodes reaches leave, told; the model's Pruned and QueryReach; plain facts: among the nodes that reaches leave it is as far from the one to the other; a graph and reaches that are drawn by a code; a graph, reaches and two nodes that are drawn by a code; the code's ReachOk; impl.leftBy tells the nodes that reaches leave; impl.reachAsked; the code's reachAsked and Pruned; the code's among and QueryReach, the model's QueryReach. No conditions beyond those that each theorem states.
-/
import Derived.Test.YtjmooakjdcepcaaYD1
import Derived.Test.YtjmooakjdcepcaaTW
import Derived.Test.YtjmooakjdcepcaaYA
import Derived.Test.YtjmooakjdcepcaaYD3
import Derived.Test.YtjmooakjdcepcaaYD2
set_option linter.unusedSimpArgs false
set_option linter.unusedVariables false
namespace Go.Proofs.Ytjmooakjdcepcaa
open Go.RowKit

/-- The first k of these numbers are none of them less than the reaches. -/
def notLess (N : Int) (L : List Arc3) (V : List Int) (k : Nat) : Bool := (List.range k).all fun i => decide ((reachL N L).getD i 0 ≤ V.getD i 0)
theorem notLess_zero (N : Int) (L : List Arc3) (V : List Int) : notLess N L V 0 = true := rfl
theorem notLess_succ (N : Int) (L : List Arc3) (V : List Int) (k : Nat) : notLess N L V (k + 1) = (notLess N L V k && decide ((reachL N L).getD k 0 ≤ V.getD k 0)) := by
  unfold notLess
  rw [List.range_succ, List.all_append]
  simp
theorem notLess_false {N : Int} {L : List Arc3} {V : List Int} {k : Nat} (h : notLess N L V k = false) : ∀ m, notLess N L V (k + m) = false
  | 0 => h
  | m + 1 => by rw [show k + (m + 1) = (k + m) + 1 from by omega, notLess_succ, notLess_false h m, Bool.false_and]
/-- Are these numbers right as reaches? -/
def reachB (N : Int) (L : List Arc3) (V : List Int) : Bool := okB N L && decide ((V.length : Int) = N) && notLess N L V V.length
theorem reachB_ok {N : Int} {L : List Arc3} {V : List Int} (h : reachB N L V = true) : okB N L = true ∧ (V.length : Int) = N := by
  unfold reachB at h
  simp only [Bool.and_eq_true, decide_eq_true_eq] at h
  exact h.1
theorem reachL_ok {q : Nat} {L : List Arc3} (h : okB (q : Int) L = true) : reachL q L = reachS q (allS q L q) := by
  unfold reachL
  rw [if_pos h]
  simp
theorem reachL_q {q : Nat} {L : List Arc3} (h : okB (q : Int) L = true) : (reachL q L).length = q := by rw [reachL_ok h, reachS_len]
theorem ret_boolw {a b : Bool} (h : a = b) : Ending.returned (.bool a) = .returned (.bool b) := by rw [h]

set_option maxRecDepth 100000 in
set_option maxHeartbeats 1000000 in
theorem specReachOk_any (N : Int) (A : Option Addr) (n c : Nat) (L : List Arc3) (hn : n = L.length) (A2 : Option Addr) (k c2 : Nat) (V : List Int) (hk : k = V.length) (w : World) (hm : n ≤ 1048576) (hkm : k ≤ 1048576) (H1 : ArcsAt w w.heap.size A L) (H2 : IntsAt w w.heap.size A2 V) :
    Calls Try.prog 71 #[.agg #[.int .i64 N, .slice A n c], .slice A2 k c2] w fun e w' => e = .returned (.bool (reachB N L V)) ∧ Bl w w' := by
  have K1 := Lib.hid H1
  have K2 := Lib.hid H2
  have HN := Lib.hid hn
  have HK := Lib.hid hk
  clear H1 H2 hn hk
  cases ho : okB N L with
  | false =>
    have HR := Lib.hid (show reachB N L V = false from by unfold reachB; rw [ho, Bool.false_and, Bool.false_and])
    have HO := Lib.hid ho
    clear ho
    go_enter Try.func71, Try.ntmps71
    go_wp2_with fail
    refine (specOk_any N A n c L HN.out _ (by omega) (K1.out.bl (by repeat' (first | exact Bl.refl _ | with_reducible assumption | with_reducible refine Bl.drew_ ?_ | with_reducible refine Bl.drewN_ ?_ _ | with_reducible refine Bl.alloc_ ?_ _ | with_reducible refine Bl.trans_ ?_ (by assumption) | with_reducible refine Bl.trans_ ?_ (And.left (by assumption)))))).mono ?_
    rintro e w1 ⟨rfl, hb1⟩
    rw [HO.out]
    go_wp2
    go_ret
    exact ⟨ret_boolw HR.out.symm, (by repeat' (first | exact Bl.refl _ | with_reducible assumption | with_reducible refine Bl.drew_ ?_ | with_reducible refine Bl.drewN_ ?_ _ | with_reducible refine Bl.alloc_ ?_ _ | with_reducible refine Bl.trans_ ?_ (by assumption) | with_reducible refine Bl.trans_ ?_ (And.left (by assumption))))⟩
  | true =>
    have HO := Lib.hid ho
    have hN1 := (okB_elim ho).1
    have hN24 := (okB_elim ho).2.1
    clear ho
    by_cases hkN : (k : Int) = N
    · subst hkN
      have hne : ((k : Int) != (k : Int)) = false := by simp
      go_enter Try.func71, Try.ntmps71
      go_wp2_with fail
      refine (specOk_any (k : Int) A n c L HN.out _ (by omega) (K1.out.bl (by repeat' (first | exact Bl.refl _ | with_reducible assumption | with_reducible refine Bl.drew_ ?_ | with_reducible refine Bl.drewN_ ?_ _ | with_reducible refine Bl.alloc_ ?_ _ | with_reducible refine Bl.trans_ ?_ (by assumption) | with_reducible refine Bl.trans_ ?_ (And.left (by assumption)))))).mono ?_
      rintro e w1 ⟨rfl, hb1⟩
      rw [HO.out]
      obtain ⟨q0, q1⟩ := box2 hb1
      have BB := Lib.hid (show Bl w w1 from (by repeat' (first | exact Bl.refl _ | with_reducible assumption | with_reducible refine Bl.drew_ ?_ | with_reducible refine Bl.drewN_ ?_ _ | with_reducible refine Bl.alloc_ ?_ _ | with_reducible refine Bl.trans_ ?_ (by assumption) | with_reducible refine Bl.trans_ ?_ (And.left (by assumption)))))
      go_wp2_with fail
      refine (l5Reach_any k A n c L HN.out HO.out _ (by omega) (K1.out.bl (by repeat' (first | exact Bl.refl _ | with_reducible assumption | with_reducible refine Bl.drew_ ?_ | with_reducible refine Bl.drewN_ ?_ _ | with_reducible refine Bl.alloc_ ?_ _ | with_reducible refine Bl.trans_ ?_ (by assumption) | with_reducible refine Bl.trans_ ?_ (And.left (by assumption)))))).mono ?_
      rintro e w2 ⟨v, rfl, hv, hb2⟩
      rw [← reachL_ok HO.out] at hv
      obtain ⟨A3, c3, rfl, -, hA3, -, -⟩ := OwnN.shape hv
      rw [reachL_q HO.out]
      have V3 := Lib.hid hA3
      have B2 := Lib.hid (show Bl w w2 from (by repeat' (first | exact Bl.refl _ | with_reducible assumption | with_reducible refine Bl.drew_ ?_ | with_reducible refine Bl.drewN_ ?_ _ | with_reducible refine Bl.alloc_ ?_ _ | with_reducible refine Bl.trans_ ?_ (by assumption) | with_reducible refine Bl.trans_ ?_ (And.left (by assumption)))))
      have RQ := Lib.hid (reachL_q HO.out)
      clear hv hA3 q0 q1 hb2
      go_wp2_with fail
      go_loopw [6] (fun i wr => ∃ j : Nat, j ≤ k ∧ i = .int .i64 j ∧ Bl w2 wr ∧ notLess k L V j = true) (fun i _ => k - (intOf i).toNat)
      case atStart => exact ⟨0, by omega, rfl, Bl.refl _, rfl⟩
      case round =>
        obtain ⟨j, hj, rfl, hbl, hnl⟩ := hrel
        have NL := Lib.hid hnl
        clear hnl
        by_cases hlt : j < k
        · have hj1 : j < V.length := by have := HK.out; omega
          have hj2 : j < (reachL k L).length := by rw [RQ.out]; exact hlt
          obtain ⟨g2, o2, rfl, hg2, hc2⟩ := K2.out.cell (by omega)
          obtain ⟨g3, o3, rfl, hg3, hc3⟩ := V3.out.cell (by omega)
          have p2 := hc2 j hj1
          have p3 := hc3 j hj2
          have e2 : V.getD j 0 = V[j] := by simp [hj1]
          have e3 : (reachL k L).getD j 0 = (reachL k L)[j] := by simp [hj2]
          have NS := Lib.hid (notLess_succ k L V j)
          have NF := Lib.hid (show notLess k L V (j + 1) = false → reachB k L V = false from fun h => by
            have := notLess_false h (V.length - (j + 1))
            rw [show j + 1 + (V.length - (j + 1)) = V.length from by omega] at this
            unfold reachB
            rw [this, Bool.and_false])
          rw [e2, e3, NL.out, Bool.true_and] at NS
          generalize V[j] = a at *
          generalize (reachL (k : Int) L)[j] = b at *
          have HSH := Lib.hid (show ∀ wx, Bl wr wx → Bl wr wx ∧ wx.cell? ⟨g2, o2 + j, none⟩ = some (.int .i64 a) ∧ wx.cell? ⟨g3, o3 + j, none⟩ = some (.int .i64 b) from fun wx hb =>
            ⟨hb, ((bcell ((B2.out.trans_ hbl).trans_ hb)).1 _ _ hg2).trans p2, ((bcell (hbl.trans_ hb)).1 _ _ hg3).trans p3⟩)
          have hj0 : (0 : Int) ≤ (j : Int) := by omega
          have hj3 : (j : Int) < (k : Int) := by omega
          clear hc2 hc3 p2 p3 e2 e3
          go_wp2_with fail
          refine wp_region_held_drew (S := fun wx => Bl wr wx ∧ wx.cell? ⟨g2, o2 + j, none⟩ = some (.int .i64 a) ∧ wx.cell? ⟨g3, o3 + j, none⟩ = some (.int .i64 b)) (by kernel_rfl) ?_ (fun hHeld => ?_)
          · (exact HSH.out _ (by repeat' (first | exact Bl.refl _ | with_reducible assumption | with_reducible refine Bl.drew_ ?_ | with_reducible refine Bl.drewN_ ?_ _ | with_reducible refine Bl.alloc_ ?_ _ | with_reducible refine Bl.trans_ ?_ (by assumption) | with_reducible refine Bl.trans_ ?_ (And.left (by assumption)))))
          refine wpAnyH_take (i := 0) (v := ?_) rfl (by kernel_rfl) (by kernel_rfl) (by kernel_rfl) (fun _ _ _ h => h) (Or.inl ⟨by kernel_rfl, ?_⟩) (by assumption) ?_
          rotate_left
          · (intro wx hSw; (try dsimp only at hSw); go_simp; try (with_reducible rfl))
          try simp only [Act.put, List.getElem_toArray, List.getElem_cons_succ, List.getElem_cons_zero, List.setIfInBounds_toArray, List.set_cons_zero, List.set_cons_succ]
          refine wpAnyH_take (i := 1) (v := ?_) rfl (by kernel_rfl) (by kernel_rfl) (by kernel_rfl) (fun _ _ _ h => h) (Or.inl ⟨by kernel_rfl, ?_⟩) (by assumption) ?_
          rotate_left
          · (intro wx hSw; (try dsimp only at hSw); go_simp; try (with_reducible rfl))
          try simp only [Act.put, List.getElem_toArray, List.getElem_cons_succ, List.getElem_cons_zero, List.setIfInBounds_toArray, List.set_cons_zero, List.set_cons_succ]
          refine wpAnyH_take (i := 2) (v := ?_) rfl (by kernel_rfl) (by kernel_rfl) (by kernel_rfl) (fun _ _ _ h => h) (Or.inl ⟨by kernel_rfl, ?_⟩) (by assumption) ?_
          rotate_left
          · (intro wx hSw; (try dsimp only at hSw); go_simp; try (with_reducible rfl))
          try simp only [Act.put, List.getElem_toArray, List.getElem_cons_succ, List.getElem_cons_zero, List.setIfInBounds_toArray, List.set_cons_zero, List.set_cons_succ]
          refine wpAnyH_take (i := 3) (v := ?_) rfl (by kernel_rfl) (by kernel_rfl) (by kernel_rfl) (fun _ _ _ h => h) (Or.inl ⟨by kernel_rfl, ?_⟩) (by assumption) ?_
          rotate_left
          · (intro wx hSw; (try dsimp only at hSw); go_simp; try (with_reducible rfl))
          try simp only [Act.put, List.getElem_toArray, List.getElem_cons_succ, List.getElem_cons_zero, List.setIfInBounds_toArray, List.set_cons_zero, List.set_cons_succ]
          refine wpAnyH_take (i := 4) (v := ?_) rfl (by kernel_rfl) (by kernel_rfl) (by kernel_rfl) (fun _ _ _ h => h) (Or.inl ⟨by kernel_rfl, ?_⟩) (by assumption) ?_
          rotate_left
          · (intro wx hSw; (try dsimp only at hSw); go_simp; try (with_reducible rfl))
          try simp only [Act.put, List.getElem_toArray, List.getElem_cons_succ, List.getElem_cons_zero, List.setIfInBounds_toArray, List.set_cons_zero, List.set_cons_succ]
          refine wpAnyH_take (i := 5) (v := ?_) rfl (by kernel_rfl) (by kernel_rfl) (by kernel_rfl) (fun _ _ _ h => h) (Or.inl ⟨by kernel_rfl, ?_⟩) (by assumption) ?_
          rotate_left
          · (intro wx hSw; (try dsimp only at hSw); go_simp; try (with_reducible rfl))
          try simp only [Act.put, List.getElem_toArray, List.getElem_cons_succ, List.getElem_cons_zero, List.setIfInBounds_toArray, List.set_cons_zero, List.set_cons_succ]
          refine wpAnyH_take (i := 6) (v := ?_) rfl (by kernel_rfl) (by kernel_rfl) (by kernel_rfl) (fun _ _ _ h => h) (Or.inl ⟨by kernel_rfl, ?_⟩) (by assumption) ?_
          rotate_left
          · (intro wx hSw; (try dsimp only at hSw); go_simp; try (with_reducible rfl))
          try simp only [Act.put, List.getElem_toArray, List.getElem_cons_succ, List.getElem_cons_zero, List.setIfInBounds_toArray, List.set_cons_zero, List.set_cons_succ]
          refine wpAnyH_take (i := 7) (v := ?_) rfl (by kernel_rfl) (by kernel_rfl) (by kernel_rfl) (fun _ _ _ h => h) (Or.inl ⟨by kernel_rfl, ?_⟩) (by assumption) ?_
          rotate_left
          · (intro wx hSw; (try dsimp only at hSw); go_simp; try (with_reducible rfl))
          try simp only [Act.put, List.getElem_toArray, List.getElem_cons_succ, List.getElem_cons_zero, List.setIfInBounds_toArray, List.set_cons_zero, List.set_cons_succ]
          refine wpAnyH_take (i := 8) (v := ?_) rfl (by kernel_rfl) (by kernel_rfl) (by kernel_rfl) (fun _ _ _ h => h) (Or.inl ⟨by kernel_rfl, ?_⟩) (by assumption) ?_
          rotate_left
          · (intro wx hSw; (try dsimp only at hSw); go_simp; try (with_reducible rfl))
          try simp only [Act.put, List.getElem_toArray, List.getElem_cons_succ, List.getElem_cons_zero, List.setIfInBounds_toArray, List.set_cons_zero, List.set_cons_succ]
          refine wpAnyH_done (by kernel_rfl) ?_ _
          by_cases hab : a < b
          · have hd : decide (b ≤ a) = false := by simp; omega
            have RB := Lib.hid (NF.out (by rw [NS.out, hd]))
            go_wp2
            go_ret
            exact ⟨ret_boolw RB.out.symm, (B2.out.trans_ hbl).trans_ (by repeat' (first | exact Bl.refl _ | with_reducible assumption | with_reducible refine Bl.drew_ ?_ | with_reducible refine Bl.drewN_ ?_ _ | with_reducible refine Bl.alloc_ ?_ _ | with_reducible refine Bl.trans_ ?_ (by assumption) | with_reducible refine Bl.trans_ ?_ (And.left (by assumption))))⟩
          · have hd : decide (b ≤ a) = true := by simp; omega
            have NT := Lib.hid (show notLess k L V (j + 1) = true from by rw [NS.out, hd])
            go_wp2
            go_roundw
            case rel => exact ⟨j + 1, by omega, by go_num, hbl.trans_ (by repeat' (first | exact Bl.refl _ | with_reducible assumption | with_reducible refine Bl.drew_ ?_ | with_reducible refine Bl.drewN_ ?_ _ | with_reducible refine Bl.alloc_ ?_ _ | with_reducible refine Bl.trans_ ?_ (by assumption) | with_reducible refine Bl.trans_ ?_ (And.left (by assumption)))), NT.out⟩
            case measure => simp [intOf]; omega
        · have RB := Lib.hid (show reachB k L V = true from by
            unfold reachB
            rw [HO.out, show V.length = j from by have := HK.out; omega, NL.out]
            simp; omega)
          go_wp2
          go_ret
          exact ⟨ret_boolw RB.out.symm, B2.out.trans_ hbl⟩
    · have hne : ((k : Int) != N) = true := by simpa using hkN
      have HR := Lib.hid (show reachB N L V = false from by unfold reachB; rw [show decide ((V.length : Int) = N) = false from by rw [← HK.out]; simpa using hkN, Bool.and_false, Bool.false_and])
      go_enter Try.func71, Try.ntmps71
      go_wp2_with fail
      refine (specOk_any N A n c L HN.out _ (by omega) (K1.out.bl (by repeat' (first | exact Bl.refl _ | with_reducible assumption | with_reducible refine Bl.drew_ ?_ | with_reducible refine Bl.drewN_ ?_ _ | with_reducible refine Bl.alloc_ ?_ _ | with_reducible refine Bl.trans_ ?_ (by assumption) | with_reducible refine Bl.trans_ ?_ (And.left (by assumption)))))).mono ?_
      rintro e w1 ⟨rfl, hb1⟩
      rw [HO.out]
      obtain ⟨q0, q1⟩ := box2 hb1
      go_wp2
      go_ret
      exact ⟨ret_boolw HR.out.symm, (by repeat' (first | exact Bl.refl _ | with_reducible assumption | with_reducible refine Bl.drew_ ?_ | with_reducible refine Bl.drewN_ ?_ _ | with_reducible refine Bl.alloc_ ?_ _ | with_reducible refine Bl.trans_ ?_ (by assumption) | with_reducible refine Bl.trans_ ?_ (And.left (by assumption))))⟩

end Go.Proofs.Ytjmooakjdcepcaa

set_option linter.unusedSimpArgs false
set_option linter.unusedVariables false
namespace Go.Proofs.Ytjmooakjdcepcaa
open Go.RowKit

set_option maxRecDepth 100000 in
set_option maxHeartbeats 4000000 in
theorem l1Reverse_any (N : Int) (A : Option Addr) (n c : Nat) (L : List Arc3) (hn : n = L.length) (w : World) (hm : n ≤ 1048576) (H1 : ArcsAt w w.heap.size A L) :
    Calls Try.prog 63 #[.agg #[.int .i64 N, .slice A n c]] w (GraphMade1 N (revL L) w) := by
  have K1 := Lib.hid H1
  have HN := Lib.hid hn
  clear H1 hn
  have T0 := Lib.hid (show TS w (.cells #[.int .i64 N, .slice A n c] 26) (w.heap.size + 1) (w.heap.size + 2) N (.slice none 0 0) [] (((w.alloc (.cells #[.int .i64 N, .slice A n c] 26)).alloc (.cells #[.int .i64 0, .slice none 0 0] 26)).alloc (.cells #[.int .i64 N, .slice none 0 0] 26)) from by
    refine ⟨?_, ?_, OwnA.nil_ _ _, (by repeat' (first | exact Bl.refl _ | with_reducible assumption | with_reducible refine Bl.drew_ ?_ | with_reducible refine Bl.drewN_ ?_ _ | with_reducible refine Bl.alloc_ ?_ _ | with_reducible refine Bl.trans_ ?_ (by assumption) | with_reducible refine Bl.trans_ ?_ (And.left (by assumption)))), by omega, by omega⟩
    · have := Two.new ((w.alloc (.cells #[.int .i64 N, .slice A n c] 26)).alloc (.cells #[.int .i64 0, .slice none 0 0] 26)) (.int .i64 N) (.slice none 0 0)
      simpa using this
    · have := Two.new (w.alloc (.cells #[.int .i64 N, .slice A n c] 26)) (.int .i64 0) (.slice none 0 0)
      have := this.bl (Bl.alloc_ (Bl.refl _) (.cells #[.int .i64 N, .slice none 0 0] 26))
      simpa using this)
  go_enter Try.func63, Try.ntmps63
  go_wp2_with fail
  go_loopw [4] (fun i wr => ∃ (k : Nat) (q : Value), k ≤ n ∧ i = .int .i64 k ∧ TS w (.cells #[.int .i64 N, .slice A n c] 26) (w.heap.size + 1) (w.heap.size + 2) N q (revK L k) wr) (fun i _ => n - (intOf i).toNat)
  case atStart => exact ⟨0, _, by omega, rfl, T0.out⟩
  case round =>
    obtain ⟨k, q, hk, rfl, hT⟩ := hrel
    obtain ⟨h00, h01⟩ := box2 hT.bl
    obtain ⟨c0, c1, f0, f1⟩ := hT.box.facts
    obtain ⟨AQ, cq, rfl, hAQ, -⟩ := hT.own.shape
    have T := Lib.hid hT
    have Q := Lib.hid hAQ
    have hbw : Bl w wr := (Bl.alloc_ (Bl.refl w) _).trans_ hT.bl
    have HB := Lib.hid hbw
    clear hT hAQ T0
    by_cases hlt : k < n
    · have hkl : k < L.length := by have := HN.out; omega
      obtain ⟨g1, o1, rfl, hg1, hc1⟩ := K1.out (by omega)
      obtain ⟨p1, p2, p3⟩ := hc1 k hkl
      clear hc1
      rw [← (bcell hbw).1 _ _ hg1] at p1 p2 p3
      have RK := Lib.hid (revK_succ hkl)
      have hlen := revK_len L k (by omega)
      generalize hx : L[k].1 = x at p1
      generalize hy : L[k].2.1 = y at p2
      generalize hz : L[k].2.2 = z at p3
      have HE := Lib.hid (show turnA L[k] = (y, x, z) from by unfold turnA; rw [hx, hy, hz])
      clear hx hy hz hbw
      obtain ⟨l, hl⟩ : ∃ l, l = (revK L k).length := ⟨_, rfl⟩
      rw [← hl] at hlen c1 T
      have HL := Lib.hid hl
      clear hl
      have u1 : (0 : Int) ≤ (k : Int) := by omega
      have u2 : (k : Int) < (n : Int) := by omega
      go_wp2_with fail
      have TD := Lib.hid (T.out.bl_ (show Bl wr wr.drew from (by repeat' (first | exact Bl.refl _ | with_reducible assumption | with_reducible refine Bl.drew_ ?_ | with_reducible refine Bl.drewN_ ?_ _ | with_reducible refine Bl.alloc_ ?_ _ | with_reducible refine Bl.trans_ ?_ (by assumption) | with_reducible refine Bl.trans_ ?_ (And.left (by assumption))))))
      have e0 := (TD.out.box.facts).1
      go_still_tail 21, (by kernel_rfl)
      change wpList _ _ _ _ _ wr.drew
      go_wp2_with fail
      refine (l1Put_any y x z AQ l cq (revK L k) HL.out _ (by omega) (Q.out.bl (by repeat' (first | exact Bl.refl _ | with_reducible assumption | with_reducible refine Bl.drew_ ?_ | with_reducible refine Bl.drewN_ ?_ _ | with_reducible refine Bl.alloc_ ?_ _ | with_reducible refine Bl.trans_ ?_ (by assumption) | with_reducible refine Bl.trans_ ?_ (And.left (by assumption)))))).mono ?_
      rintro e w9 ⟨v4, rfl, ho, hb⟩
      obtain ⟨AB, cb, rfl, -, -⟩ := ho.shape
      have hlen2 := putL_len (y, x, z) (revK L k)
      have U4 := Lib.hid (TD.out.bl_ hb)
      have O4 := Lib.hid (U4.out.put (q2 := _) (L2 := putL (y, x, z) (revK L k)) (ho.low (World.rowIs.lt TD.out.box)))
      obtain ⟨d0, d1, k0, k1⟩ := U4.out.box.facts
      clear ho c0 c1 f0 f1 e0
      go_wp2
      go_roundw
      case rel => exact ⟨k + 1, _, by omega, by go_num, by rw [RK.out, HE.out]; exact O4.out⟩
      case measure => simp [intOf]; omega
    · obtain rfl : k = n := by omega
      have RA := Lib.hid (show revK L k = revL L from by rw [HN.out]; exact revK_all L)
      obtain ⟨r0, r1, fr0, fr1⟩ := T.out.res.facts
      go_wp2
      refine bodyPost_ret (v := .agg #[.int .i64 N, .slice AQ (revK L k).length cq]) (by simp [results, Try.results63, go_sem, r0, r1, fr0, fr1]) rfl ?_
      have := T.out.fin (.int .i64 N) (.slice AQ (revK L k).length cq)
      rw [RA.out] at this ⊢
      exact ⟨_, rfl, this.1, this.2⟩

set_option maxRecDepth 100000 in
set_option maxHeartbeats 1000000 in
theorem specReversed_any (N : Int) (A : Option Addr) (n c : Nat) (L : List Arc3) (hn : n = L.length) (w : World) (hm : n ≤ 1048576) (H1 : ArcsAt w w.heap.size A L) :
    Calls Try.prog 31 #[.agg #[.int .i64 N, .slice A n c]] w (GraphMade1 (revN N L) (revG N L) w) := by
  have K1 := Lib.hid H1
  have HN := Lib.hid hn
  clear H1 hn
  cases ho : okB N L with
  | false =>
    have HO := Lib.hid ho
    clear ho
    go_enter Try.func31, Try.ntmps31
    go_wp2_with fail
    refine (specOk_any N A n c L HN.out _ (by omega) (K1.out.bl (by repeat' (first | exact Bl.refl _ | with_reducible assumption | with_reducible refine Bl.drew_ ?_ | with_reducible refine Bl.drewN_ ?_ _ | with_reducible refine Bl.alloc_ ?_ _ | with_reducible refine Bl.trans_ ?_ (by assumption) | with_reducible refine Bl.trans_ ?_ (And.left (by assumption)))))).mono ?_
    rintro e w1 ⟨rfl, hb1⟩
    rw [HO.out]
    obtain ⟨h00, h01, h10, h11, f10, f11, hsz⟩ := box22 hb1
    go_wp2
    refine bodyPost_ret (v := .agg #[.int .i64 0, .slice none 0 0]) (by simp [results, Try.results31, go_sem, h10, h11, f10, f11]) rfl ?_
    refine ⟨.slice none 0 0, by unfold revN; rw [HO.out]; rfl, by unfold revG; rw [HO.out, if_neg (by simp)]; exact OwnA.nil_ _ _, ?_⟩
    exact Bl.set_ (Bl.set_ ((Bl.alloc_ (Bl.alloc_ (Bl.refl w) _) _).trans_ hb1) (Nat.le_succ _) _) (Nat.le_succ _) _
  | true =>
    have HO := Lib.hid ho
    clear ho
    go_enter Try.func31, Try.ntmps31
    go_wp2_with fail
    refine (specOk_any N A n c L HN.out _ (by omega) (K1.out.bl (by repeat' (first | exact Bl.refl _ | with_reducible assumption | with_reducible refine Bl.drew_ ?_ | with_reducible refine Bl.drewN_ ?_ _ | with_reducible refine Bl.alloc_ ?_ _ | with_reducible refine Bl.trans_ ?_ (by assumption) | with_reducible refine Bl.trans_ ?_ (And.left (by assumption)))))).mono ?_
    rintro e w1 ⟨rfl, hb1⟩
    rw [HO.out]
    obtain ⟨h00, h01, h10, h11, f10, f11, hsz⟩ := box22 hb1
    go_wp2_with fail
    refine (l1Reverse_any N A n c L HN.out _ hm (K1.out.bl (by repeat' (first | exact Bl.refl _ | with_reducible assumption | with_reducible refine Bl.drew_ ?_ | with_reducible refine Bl.drewN_ ?_ _ | with_reducible refine Bl.alloc_ ?_ _ | with_reducible refine Bl.trans_ ?_ (by assumption) | with_reducible refine Bl.trans_ ?_ (And.left (by assumption)))))).mono ?_
    rintro e w2 ⟨v, rfl, hv, hb2⟩
    have HV := Lib.hid hv
    have hb2 := hb1.trans_ hb2
    obtain ⟨A2, c2, rfl, -, -⟩ := hv.shape
    clear hv h00 h01 h10 h11 f10 f11
    obtain ⟨h00, h01, h10, h11, f10, f11, hsz2⟩ := box22 hb2
    go_wp2
    refine bodyPost_ret (v := .agg #[.int .i64 N, .slice A2 (revL L).length c2]) (by simp [results, Try.results31, go_sem, h10, h11, f10, f11]) rfl ?_
    refine ⟨_, by unfold revN; rw [HO.out]; rfl, ?_, Bl.set_ (Bl.set_ ((Bl.alloc_ (Bl.alloc_ (Bl.refl w) _) _).trans_ hb2) (Nat.le_succ _) _) (Nat.le_succ _) _⟩
    unfold revG
    rw [HO.out, if_pos rfl]
    exact ((HV.out.set_ (by show w.heap.size + 1 < _; omega) _).set_ (by show w.heap.size + 1 < _; omega) _).low (by omega)

end Go.Proofs.Ytjmooakjdcepcaa

set_option linter.unusedSimpArgs false
set_option linter.unusedVariables false
namespace Go.Proofs.Ytjmooakjdcepcaa
open Go.RowKit

def leftB (D E V : List Int) (v : Int) : Bool := decide (0 ≤ dAt D v ∧ 0 ≤ dAt E v ∧ min (dAt D v) (dAt E v) ≤ V.getD v.toNat 0)
/-- The nodes below k that reaches leave. -/
def leftK (D E V : List Int) (k : Nat) : List Int := ((List.range k).map Int.ofNat).filter (leftB D E V)
theorem leftK_zero (D E V : List Int) : leftK D E V 0 = [] := rfl
theorem leftK_yes {D E V : List Int} {k : Nat} (h : leftB D E V (k : Int) = true) : leftK D E V (k + 1) = leftK D E V k ++ [(k : Int)] := by
  unfold leftK
  rw [List.range_succ, List.map_append, List.filter_append]
  simp [h]
theorem leftK_no {D E V : List Int} {k : Nat} (h : leftB D E V (k : Int) = false) : leftK D E V (k + 1) = leftK D E V k := by
  unfold leftK
  rw [List.range_succ, List.map_append, List.filter_append]
  simp [h]
theorem leftK_len (D E V : List Int) (k : Nat) : (leftK D E V k).length ≤ k := by
  unfold leftK
  have := List.length_filter_le (leftB D E V) ((List.range k).map Int.ofNat)
  simp at this
  exact this
theorem leftB_at {D E V : List Int} {k : Nat} (h : k < D.length) (h' : k < E.length) (h2 : k < V.length) : leftB D E V (k : Int) = decide (0 ≤ D[k] ∧ 0 ≤ E[k] ∧ min D[k] E[k] ≤ V[k]) := by
  unfold leftB
  rw [dAt_at h, dAt_at h']
  simp [h2]
theorem leftK_same {D E D' E' V : List Int} {k : Nat} (hD : ∀ v : Int, 0 ≤ v → v < k → dAt D v = dAt D' v) (hE : ∀ v : Int, 0 ≤ v → v < k → dAt E v = dAt E' v) : leftK D E V k = leftK D' E' V k := by
  unfold leftK
  refine List.filter_congr fun v hv => ?_
  obtain ⟨j, hj, rfl⟩ := List.mem_map.1 hv
  rw [List.mem_range] at hj
  have h0 : (0 : Int) ≤ Int.ofNat j := Int.natCast_nonneg j
  have h1 : Int.ofNat j < (k : Int) := by show (j : Int) < (k : Int); omega
  unfold leftB
  rw [hD _ h0 h1, hE _ h0 h1]
/-- Are reaches asked as they should be? -/
def askB (N : Int) (L : List Arc3) (V : List Int) (s t : Int) : Bool := reachB N L V && (decide (0 ≤ s ∧ s < N) && decide (0 ≤ t ∧ t < N))
theorem askB_no1 {N s t : Int} {L : List Arc3} {V : List Int} (h : reachB N L V = false) : askB N L V s t = false := by unfold askB; rw [h, Bool.false_and]
theorem askB_no2 {N s t : Int} {L : List Arc3} {V : List Int} (h : decide (0 ≤ s ∧ s < N) = false) : askB N L V s t = false := by unfold askB; rw [h, Bool.false_and, Bool.and_false]
theorem askB_no3 {N s t : Int} {L : List Arc3} {V : List Int} (h : decide (0 ≤ t ∧ t < N) = false) : askB N L V s t = false := by unfold askB; rw [h, Bool.and_false, Bool.and_false]
theorem askB_yes {N s t : Int} {L : List Arc3} {V : List Int} (h : reachB N L V = true) (hs : decide (0 ≤ s ∧ s < N) = true) (ht : decide (0 ≤ t ∧ t < N) = true) : askB N L V s t = true := by unfold askB; rw [h, hs, ht]; rfl
theorem askB_elim {N s t : Int} {L : List Arc3} {V : List Int} (h : askB N L V s t = true) : reachB N L V = true ∧ (0 ≤ s ∧ s < N) ∧ (0 ≤ t ∧ t < N) := by
  unfold askB at h
  simp only [Bool.and_eq_true, decide_eq_true_eq] at h
  exact h
def prunedL (N : Int) (L : List Arc3) (V : List Int) (s t : Int) : List Int := if askB N L V s t = true then leftK (distL N L s) (distL N (revL L) t) V N.toNat else []
theorem prunedL_no {N s t : Int} {L : List Arc3} {V : List Int} (h : askB N L V s t = false) : prunedL N L V s t = [] := if_neg (by rw [h]; simp)
theorem prunedL_len (N : Int) (L : List Arc3) (V : List Int) (s t : Int) : (prunedL N L V s t).length ≤ 1048576 := by
  unfold prunedL
  split
  · rename_i h
    have h1 := (okB_elim (reachB_ok (askB_elim h).1).1).2.1
    have h2 := leftK_len (distL N L s) (distL N (revL L) t) V N.toNat
    omega
  · simp

-- (specPruned_any left out)

end Go.Proofs.Ytjmooakjdcepcaa

set_option linter.unusedSimpArgs false
set_option linter.unusedVariables false
namespace Go.Proofs.Ytjmooakjdcepcaa
open Go.RowKit

/-- Does the arc lead from one of these nodes to another one? -/
def keepB (P : List Int) (a : Arc3) : Bool := decide (a.1 ∈ P) && decide (a.2.1 ∈ P)
def amongL (P : List Int) (L : List Arc3) : List Arc3 := L.filter (keepB P)
theorem amongL_ok {N : Int} {P : List Int} {L : List Arc3} (h : okB N L = true) : okB N (amongL P L) = true := by
  obtain ⟨h1, h2, h3, h4, h5⟩ := okB_elim h
  have hl : (amongL P L).length ≤ L.length := List.length_filter_le _ _
  exact okB_intro h1 h2 (by omega) (fun a ha => h4 a (List.mem_filter.1 ha).1) (h5.sublist (List.filter_sublist))
theorem mem_amongL {P : List Int} {L : List Arc3} {a : Arc3} : a ∈ amongL P L ↔ a ∈ L ∧ a.1 ∈ P ∧ a.2.1 ∈ P := by
  unfold amongL keepB
  rw [List.mem_filter, Bool.and_eq_true, decide_eq_true_eq, decide_eq_true_eq]
theorem mem_leftK {D E V : List Int} {k : Nat} {v : Int} : v ∈ leftK D E V k ↔ (0 ≤ v ∧ v < k) ∧ leftB D E V v = true := by
  unfold leftK
  rw [List.mem_filter, List.mem_map]
  constructor
  · rintro ⟨⟨j, hj, rfl⟩, h⟩
    rw [List.mem_range] at hj
    exact ⟨⟨Int.natCast_nonneg j, by show (j : Int) < (k : Int); omega⟩, h⟩
  · rintro ⟨⟨h0, h1⟩, h⟩
    exact ⟨⟨v.toNat, List.mem_range.2 (by omega), by show ((v.toNat : Nat) : Int) = v; omega⟩, h⟩

/-- A node on a shortest path is one of those that are left. -/
theorem on_left {N s t v : Int} {L : List Arc3} {V : List Int} (h : askB N L V s t = true) (hv : 0 ≤ v ∧ v < N) (ha : 0 ≤ dAt (distL N L s) v) (hb : 0 ≤ dAt (distL N (revL L) t) v) (hs : dAt (distL N L s) v + dAt (distL N (revL L) t) v = dAt (distL N L s) t) :
    v ∈ leftK (distL N L s) (distL N (revL L) t) V N.toNat := by
  obtain ⟨hr, hsN, htN⟩ := askB_elim h
  obtain ⟨ho, hVN⟩ := reachB_ok hr
  refine mem_leftK.2 ⟨⟨hv.1, by omega⟩, ?_⟩
  obtain ⟨q, rfl⟩ : ∃ q : Nat, N = q := ⟨N.toNat, by omega⟩
  obtain ⟨u, rfl⟩ : ∃ u : Nat, v = u := ⟨v.toNat, by omega⟩
  obtain ⟨s', rfl⟩ : ∃ s' : Nat, s = s' := ⟨s.toNat, by omega⟩
  obtain ⟨t', rfl⟩ : ∃ t' : Nat, t = t' := ⟨t.toNat, by omega⟩
  have hu : u < q := by omega
  have ht' := distL_of_turned (s := (u : Int)) (t := (t' : Int)) ho ⟨by omega, by omega⟩ htN
  have hm := (reach_max ho (v := u) (by omega)).2.2 (min (dAt (distL q L s') (u : Int)) (dAt (distL q L u) (t' : Int))) ⟨s', t', by simp; omega, by simp; omega, ha, by rw [← ht']; exact hb, by rw [← ht']; exact hs, rfl⟩
  have hn : notLess q L V (u + 1) = true := by
    cases e : notLess q L V (u + 1) with
    | true => rfl
    | false =>
      have := notLess_false e (V.length - (u + 1))
      rw [show u + 1 + (V.length - (u + 1)) = V.length from by omega] at this
      unfold reachB at hr
      rw [this, Bool.and_false] at hr
      cases hr
  rw [notLess_succ, Bool.and_eq_true, decide_eq_true_eq, reachL_ok ho] at hn
  simp only [Int.toNat_natCast] at hm
  unfold leftB
  rw [decide_eq_true_eq]
  refine ⟨ha, hb, ?_⟩
  rw [ht', Int.toNat_natCast]
  omega

theorem among_near {N s t : Int} {L : List Arc3} {V : List Int} (h : askB N L V s t = true) :
    ∀ (n : Nat) (v : Int), 0 ≤ v → v < N → (dAt (distL N L s) v).toNat = n → 0 ≤ dAt (distL N L s) v → 0 ≤ dAt (distL N (revL L) t) v → dAt (distL N L s) v + dAt (distL N (revL L) t) v = dAt (distL N L s) t →
      0 ≤ dAt (distL N (amongL (leftK (distL N L s) (distL N (revL L) t) V N.toNat) L) s) v ∧ dAt (distL N (amongL (leftK (distL N L s) (distL N (revL L) t) V N.toNat) L) s) v ≤ dAt (distL N L s) v := by
  obtain ⟨hr, hsN, htN⟩ := askB_elim h
  obtain ⟨ho, hVN⟩ := reachB_ok hr
  have hN24 := (okB_elim ho).2.1
  have hin := arcsIn_of_ok ho
  have hp := (okB_elim ho).2.2.2.2
  have hD := distL_is (s := s) hin hN24 hsN.1 hsN.2
  have hE := distL_is (s := t) (arcsIn_of_ok (revL_ok ho)) hN24 htN.1 htN.2
  have on := fun v hv ha hb hs => on_left (v := v) h hv ha hb hs
  obtain ⟨P, hP⟩ : ∃ P, P = leftK (distL N L s) (distL N (revL L) t) V N.toNat := ⟨_, rfl⟩
  rw [← hP] at on ⊢
  have hM := distL_is (s := s) (arcsIn_of_ok (amongL_ok (P := P) ho)) hN24 hsN.1 hsN.2
  intro n
  induction n using Nat.strongRecOn with
  | ind n ih =>
    intro v h0 h1 hn ha hb hs
    rcases hD.back v h0 h1 ha with rfl | ⟨a, haL, rfl, hu, he⟩
    · rw [hM.start, hD.start]; omega
    · obtain ⟨a0, a1, a2, a3, a4, a5⟩ := hin a haL
      have hrev : turnA a ∈ revL L := (revL_mem hp).2 (by show turnA (turnA a) ∈ L; exact haL)
      have e1 := hE.arc _ hrev (by show 0 ≤ dAt _ a.2.1; exact hb)
      have e2 : 0 ≤ dAt (distL N (revL L) t) a.1 ∧ dAt (distL N (revL L) t) a.1 ≤ dAt (distL N (revL L) t) a.2.1 + a.2.2 := e1
      have e3 := hD.tri ho hE _ a.1 a0 a1 rfl e2.1 hu
      have hs1 : dAt (distL N L s) a.1 + dAt (distL N (revL L) t) a.1 = dAt (distL N L s) t := by omega
      obtain ⟨x, y⟩ := ih (dAt (distL N L s) a.1).toNat (by omega) a.1 a0 a1 rfl hu e2.1 hs1
      have hin2 : a ∈ amongL P L := mem_amongL.2 ⟨haL, on a.1 ⟨a0, a1⟩ hu e2.1 hs1, on a.2.1 ⟨a2, a3⟩ ha hb hs⟩
      obtain ⟨z, z2⟩ := hM.arc a hin2 x
      omega

/-- Among the nodes that are left it is as far. -/
theorem among_dist {N s t : Int} {L : List Arc3} {V : List Int} (h : askB N L V s t = true) :
    dAt (distL N (amongL (leftK (distL N L s) (distL N (revL L) t) V N.toNat) L) s) t = dAt (distL N L s) t := by
  obtain ⟨hr, hsN, htN⟩ := askB_elim h
  obtain ⟨ho, hVN⟩ := reachB_ok hr
  have hN24 := (okB_elim ho).2.1
  have hin := arcsIn_of_ok ho
  have hD := distL_is (s := s) hin hN24 hsN.1 hsN.2
  have hE := distL_is (s := t) (arcsIn_of_ok (revL_ok ho)) hN24 htN.1 htN.2
  have near := fun p => among_near h _ t htN.1 htN.2 rfl p (by rw [hE.start]; omega) (by rw [hE.start]; omega)
  obtain ⟨P, hP⟩ : ∃ P, P = leftK (distL N L s) (distL N (revL L) t) V N.toNat := ⟨_, rfl⟩
  rw [← hP] at near ⊢
  have hM := distL_is (s := s) (arcsIn_of_ok (amongL_ok (P := P) ho)) hN24 hsN.1 hsN.2
  have low : ∀ (n : Nat) (v : Int), 0 ≤ v → v < N → (dAt (distL N (amongL P L) s) v).toNat = n → 0 ≤ dAt (distL N (amongL P L) s) v → 0 ≤ dAt (distL N L s) v ∧ dAt (distL N L s) v ≤ dAt (distL N (amongL P L) s) v := by
    intro n
    induction n using Nat.strongRecOn with
    | ind n ih =>
      intro v h0 h1 hn hp
      rcases hM.back v h0 h1 hp with rfl | ⟨a, ha, rfl, hu, he⟩
      · rw [hM.start, hD.start]; omega
      · have haL := (mem_amongL.1 ha).1
        obtain ⟨a0, a1, a2, a3, a4, a5⟩ := hin a haL
        obtain ⟨x, y⟩ := ih (dAt (distL N (amongL P L) s) a.1).toNat (by omega) a.1 a0 a1 rfl hu
        obtain ⟨z, z2⟩ := hD.arc a haL x
        omega
  have l1 := hD.low t
  have l2 := hM.low t
  by_cases p : 0 ≤ dAt (distL N L s) t
  · obtain ⟨x, y⟩ := near p
    obtain ⟨z, z2⟩ := low _ t htN.1 htN.2 rfl x
    omega
  · by_cases p2 : 0 ≤ dAt (distL N (amongL P L) s) t
    · obtain ⟨z, z2⟩ := low _ t htN.1 htN.2 rfl p2
      omega
    · omega
/-- How far it is, where reaches are asked as they should be. -/
def qreachI (N : Int) (L : List Arc3) (V : List Int) (s t : Int) : Int := if askB N L V s t = true then dAt (distL N L s) t else -1
theorem qreachI_no {N s t : Int} {L : List Arc3} {V : List Int} (h : askB N L V s t = false) : qreachI N L V s t = -1 := if_neg (by rw [h]; simp)

end Go.Proofs.Ytjmooakjdcepcaa

set_option linter.unusedSimpArgs false
set_option linter.unusedVariables false
namespace Go.Proofs.Ytjmooakjdcepcaa
open Go.RowKit

/-- A graph and a row of numbers of its own that are drawn by a code. -/
def DrawnGV (w : World) (e : Ending) (w' : World) : Prop :=
  ∃ (N : Int) (A' : Option Addr) (l c' : Nat) (L : List Arc3) (A3 : Option Addr) (k c3 : Nat) (V : List Int), e = .returned (.tuple #[.agg #[.int .i64 N, .slice A' l c'], .slice A3 k c3]) ∧ Drawn w.heap.size w' N A' l c' L ∧ k = V.length ∧ k ≤ 1048576 ∧ OwnN w' w.heap.size (.slice A3 k c3) V ∧ Bl w w'

/-- The state while reaches are drawn. -/
structure RS (w : World) (rd : Nat) (A : Option Addr) (n c g0 gb b1 : Nat) (N : Int) (A' : Option Addr) (l c' : Nat) (L : List Arc3) (A3 : Option Addr) (k c3 : Nat) (V : List Int) (wx : World) : Prop where
  len : k = V.length
  box : Two wx gb (.int .i64 N) (.slice A' l c')
  res : Two wx g0 (.int .i64 0) (.slice none 0 0)
  own : OwnN wx (gb + 1) (.slice A3 k c3) V
  gra : OwnA wx b1 (.slice A' l c') L
  glt : ∀ g, (Value.slice A' l c').ownBlock = some g → g < gb
  rdr : RdAny wx rd A n c
  bl : Bl w wx
  lo0 : w.heap.size ≤ g0
  lo1 : g0 < rd
  lo2 : rd < b1
  lo3 : b1 ≤ gb
  alt : 0 < n → ∀ g off, A = some ⟨g, off, none⟩ → g < w.heap.size
section
variable {w wr w2 : World} {rd : Nat} {A : Option Addr} {n c g0 gb b1 : Nat} {N : Int} {A' : Option Addr} {l c' : Nat} {L : List Arc3} {A3 : Option Addr} {k c3 : Nat} {V : List Int}
theorem RS.rd_ (h : RS w rd A n c g0 gb b1 N A' l c' L A3 k c3 V wr) (hr : RdAny w2 rd A n c) (hg : wr.grownBy w2 (some rd)) : RS w rd A n c g0 gb b1 N A' l c' L A3 k c3 V w2 := by
  have h0 := h.lo0; have h1 := h.lo1; have h2 := h.lo2; have h3 := h.lo3
  exact ⟨h.len, h.box.grown_ hg (fun e => by injection e with e; omega), h.res.grown_ hg (fun e => by injection e with e; omega), Owns.grown_ h.own hg (fun g hg' e => by
      injection e with e
      have := (Owns.lt h.own g hg').1
      omega), h.gra.grown_ hg (fun g e => by injection e with e; omega), h.glt, hr, h.bl.grown_ hg (fun g e => by injection e with e; omega), h0, h1, h2, h3, h.alt⟩
theorem RS.bl_ (h : RS w rd A n c g0 gb b1 N A' l c' L A3 k c3 V wr) (hb : Bl wr w2) : RS w rd A n c g0 gb b1 N A' l c' L A3 k c3 V w2 :=
  ⟨h.len, h.box.bl hb, h.res.bl hb, h.own.bl hb, h.gra.bl hb, h.glt, h.rdr.bl hb, h.bl.trans_ hb, h.lo0, h.lo1, h.lo2, h.lo3, h.alt⟩
theorem RS.put {g3 : Nat} (h : RS w rd A n c g0 gb b1 N A' l c' L (some ⟨g3, 0, none⟩) k c3 V wr) (d : Nat) (x : Int) : RS w rd A n c g0 gb b1 N A' l c' L (some ⟨g3, 0, none⟩) k c3 (V.set d x) (wr.setCell ⟨g3, d, none⟩ (.int .i64 x)) := by
  have h0 := h.lo0; have h1 := h.lo1; have h2 := h.lo2; have h3 := h.lo3
  have h4 := (Owns.lt h.own g3 rfl).1
  exact ⟨by rw [List.length_set]; exact h.len, h.box.far (by show gb ≠ g3; omega) _, h.res.far (by show g0 ≠ g3; omega) _, OwnN.put_ h.own h.len d x, Owns.setOther h.gra (fun g hg e => by
      have h5 := h.glt g hg
      have h6 : g = g3 := e
      omega) _, h.glt, h.rdr.set_ (by show g3 ≠ rd; omega) (fun h0 g off e => by have := h.alt h0 g off e; show g ≠ g3; omega) _, h.bl.set_ (by show w.heap.size ≤ g3; omega) _, h0, h1, h2, h3, h.alt⟩
theorem RS.fin (h : RS w rd A n c g0 gb b1 N A' l c' L A3 k c3 V wr) (hN : In64 N) (hl : l = L.length) (hl2 : l ≤ 200) (hk : k ≤ 1048576) (x y : Value) :
    DrawnGV w (.returned (.tuple #[.agg #[.int .i64 N, .slice A' l c'], .slice A3 k c3])) ((wr.setCell ⟨g0, 0, none⟩ x).setCell ⟨g0, 1, none⟩ y) := by
  have h0 := h.lo0; have h1 := h.lo1; have h2 := h.lo2; have h3 := h.lo3
  have hne : ∀ g, (Value.slice A3 k c3).ownBlock = some g → g ≠ g0 := fun g hg e => by have := (Owns.lt h.own g hg).1; omega
  exact ⟨N, A', l, c', L, A3, k, c3, V, rfl, ⟨hl, hl2, hN, ((h.gra.set_ (by show g0 < b1; omega) _).set_ (by show g0 < b1; omega) _).low (by omega)⟩, h.len, hk,
    OwnN.low (Owns.setOther (Owns.setOther h.own (p := ⟨g0, 0, none⟩) hne _) (p := ⟨g0, 1, none⟩) hne _) (by omega), (h.bl.set_ h0 _).set_ h0 _⟩
theorem RS.some_ (h : RS w rd A n c g0 gb b1 N A' l c' L A3 k c3 V wr) (hk : 0 < k) : ∃ g3, A3 = some ⟨g3, 0, none⟩ ∧ gb < g3 := by
  have hl := h.len
  have hO := h.own
  subst hl
  obtain ⟨g, cc, e, hB, -, -⟩ := OwnN.toRow hO (by omega)
  injection e with e1 e2 e3
  exact ⟨g, e1, hB⟩
theorem RS.at_ {g3 : Nat} (h : RS w rd A n c g0 gb b1 N A' l c' L (some ⟨g3, 0, none⟩) k c3 V wr) {d : Nat} (hd : d < k) : (∃ x : Int, wr.cell? ⟨g3, d, none⟩ = some (.int .i64 x)) ∧ wr.frozen? ⟨g3, d, none⟩ = false ∧ g3 < wr.heap.size := by
  have hl := h.len
  obtain ⟨h1, h2, h3⟩ := OwnN.cell_ h.own hl (d := d) (by omega)
  exact ⟨⟨_, h1⟩, h2, h3⟩
end

set_option maxRecDepth 100000 in
set_option maxHeartbeats 4000000 in
theorem drawReachOk_any (A : Option Addr) (n c : Nat) (w : World) (hn : n ≤ 1099511627776) (H : BytesAt w A n) :
    Calls Try.prog 91 #[.slice A n c] w (DrawnGV w) := by
  have K := Lib.hid H
  clear H
  go_enter Try.func91, Try.ntmps91
  go_wp2_with fail
  refine (open_any A n c _ (K.out.bl (by repeat' (first | exact Bl.refl _ | with_reducible assumption | with_reducible refine Bl.drew_ ?_ | with_reducible refine Bl.drewN_ ?_ _ | with_reducible refine Bl.alloc_ ?_ _ | with_reducible refine Bl.trans_ ?_ (by assumption) | with_reducible refine Bl.trans_ ?_ (And.left (by assumption)))))).mono ?_
  rintro e w1 ⟨rfl, hr, hb, hlt⟩
  have R1 := Lib.hid (show RdAny w1 (w.heap.size + 1) A n c from by rw [World.size_alloc] at hr; exact hr)
  have B1 := Lib.hid hb
  have s1 := hb.size
  simp only [World.size_alloc] at s1 hlt
  clear hr hb
  go_wp2_with fail
  refine (graph_any 8 (w.heap.size + 1) A n c _ hn (by omega) (by omega) R1.out (fun h0 g off e => by have := K.out.lt' h0 g off e; omega)).mono ?_
  rintro e w2 ⟨N, A', l, c', L, rfl, hd, hr, hg⟩
  obtain ⟨ha, hlc⟩ := hd.arcs
  have HL := Lib.hid hd.1
  have hl200 := hd.2.1
  have HN := Lib.hid hd.2.2.1
  have s2 := hg.size
  have B2 := Lib.hid (show Bl (w.alloc (.cells #[.int .i64 0, .slice none 0 0] 26)) w2 from B1.out.grown_ hg (fun g e => by injection e with e; simp; omega))
  have O2 := Lib.hid hd.2.2.2
  have R2 := Lib.hid hr
  obtain ⟨X, hX⟩ : ∃ X, X = w2.alloc (.cells #[.int .i64 N, .slice A' l c'] 26) := ⟨_, rfl⟩
  have BX := Lib.hid (show Bl w2 X from by rw [hX]; exact Bl.alloc_ (Bl.refl w2) _)
  have TX := Lib.hid (show Two X w2.heap.size (.int .i64 N) (.slice A' l c') from by rw [hX]; exact Two.new _ _ _)
  have SX := Lib.hid (show X.heap.size = w2.heap.size + 1 from by rw [hX, World.size_alloc])
  have HA := Lib.hid (show ArcsAt X X.heap.size A' L from ha.bl BX.out)
  clear hd hr hg ha
  go_wp2_with fail
  rw [← hX]
  clear hX
  refine (specReachOf_any N A' l c' L HL.out _ (by omega) HA.out).mono ?_
  rintro e w3 ⟨v3, rfl, hv3, hb3⟩
  have O3 := Lib.hid hv3
  obtain ⟨A3, c3, rfl, -, -, -, -⟩ := OwnN.shape hv3
  have hk20 : (reachL N L).length ≤ 1048576 := reachL_len N L
  obtain ⟨V0, hV0⟩ : ∃ V0, V0 = reachL N L := ⟨_, rfl⟩
  rw [← hV0] at O3 hk20 ⊢
  obtain ⟨k, hk⟩ : ∃ k, k = V0.length := ⟨_, rfl⟩
  rw [← hk] at O3 hk20 ⊢
  obtain ⟨gb, hgb⟩ : ∃ gb, gb = w2.heap.size := ⟨_, rfl⟩
  obtain ⟨b1, hb1⟩ : ∃ b1, b1 = w1.heap.size := ⟨_, rfl⟩
  have S0 := Lib.hid (show RS w (w.heap.size + 1) A n c w.heap.size gb b1 N A' l c' L A3 k c3 V0 w3 from by
    subst hgb
    subst hb1
    refine ⟨hk, TX.out.bl hb3, ((Two.new w _ _).bl B2.out).bl (BX.out.trans_ hb3), ?_, O2.out.bl (BX.out.trans_ hb3), fun g hg => (Owns.lt O2.out g hg).2, R2.out.bl (BX.out.trans_ hb3), ((Bl.alloc_ (Bl.refl w) _).trans_ B2.out).trans_ (BX.out.trans_ hb3), Nat.le_refl _, by omega, by omega, by omega, K.out.lt'⟩
    have h := O3.out
    rw [SX.out] at h
    exact h)
  clear hv3 hV0 hk hb3
  go_wp2_with fail
  rw [← hgb]
  clear hgb hb1 s1 s2 hlt
  go_loopw [7] (fun i wr => ∃ (j : Nat) (V : List Int), i = .int .i64 (j : Int) ∧ j ≤ k ∧ RS w (w.heap.size + 1) A n c w.heap.size gb b1 N A' l c' L A3 k c3 V wr) (fun i _ => k - (intOf i).toNat)
  case atStart => exact ⟨0, V0, rfl, by omega, S0.out⟩
  case round =>
    clear S0
    obtain ⟨j, V, rfl, hj, hS⟩ := hrel
    have U := Lib.hid hS
    clear hS
    by_cases hjk : j < k
    · have hd : decide ((j : Int) < (k : Int)) = true := by simpa using hjk
      go_wp2_with fail
      refine (once_any 3 (w.heap.size + 1) A n c _ hn (by omega) (by omega) U.out.rdr).mono ?_
      rintro e w4 ⟨b, rfl, hr, hg⟩
      have U1 := Lib.hid (U.out.rd_ hr hg)
      clear hr hg U
      cases b with
      | false =>
        go_wp2_with fail
        go_roundw
        case rel => exact ⟨j + 1, V, by go_num, by omega, U1.out⟩
        case measure => simp [intOf]; omega
      | true =>
        obtain ⟨g3, rfl, hg3⟩ := U1.out.some_ (by omega)
        obtain ⟨⟨x, k1⟩, k2, k3⟩ := U1.out.at_ hjk
        have j0 : (0 : Int) ≤ (j : Int) := by omega
        have j1 : (j : Int) < (k : Int) := by omega
        go_wp2_with fail
        go_region_with (first
          | (go_at_call 80; refine (below_any 4 (w.heap.size + 1) A n c _ hn (by omega) ((U1.out.bl_ (by repeat' (first | exact Bl.refl _ | with_reducible assumption | with_reducible refine Bl.drew_ ?_ | with_reducible refine Bl.drewN_ ?_ _ | with_reducible refine Bl.alloc_ ?_ _ | with_reducible refine Bl.trans_ ?_ (by assumption) | with_reducible refine Bl.trans_ ?_ (And.left (by assumption))))).rdr)).mono ?_; rintro e w8 ⟨z, hz, rfl, hr, hg⟩; have U3 := Lib.hid ((U1.out.bl_ (by repeat' (first | exact Bl.refl _ | with_reducible assumption | with_reducible refine Bl.drew_ ?_ | with_reducible refine Bl.drewN_ ?_ _ | with_reducible refine Bl.alloc_ ?_ _ | with_reducible refine Bl.trans_ ?_ (by assumption) | with_reducible refine Bl.trans_ ?_ (And.left (by assumption))))).rd_ hr hg); clear hz hr hg; obtain ⟨⟨x', d1⟩, d2, d3⟩ := U3.out.at_ hjk))
        all_goals (go_wp2; go_roundw)
        all_goals (first | (case measure => (simp [intOf]; omega)) | skip)
        all_goals (exact ⟨j + 1, _, by go_num, by omega, U3.out.put j _⟩)
    · have hd : decide ((j : Int) < (k : Int)) = false := by simpa using hjk
      have fin := fun (V9 : List Int) (w9 : World) (A9 : Option Addr) (h : RS w (w.heap.size + 1) A n c w.heap.size gb b1 N A' l c' L A9 k c3 V9 w9) => h.fin HN.out HL.out hl200 hk20
      have FIN := Lib.hid fin
      clear fin
      go_wp2_with fail
      refine (once_any 4 (w.heap.size + 1) A n c _ hn (by omega) (by omega) U.out.rdr).mono ?_
      rintro e w4 ⟨b, rfl, hr, hg⟩
      have U1 := Lib.hid (U.out.rd_ hr hg)
      have nb : gb ≠ w.heap.size := by have h1 := U.out.lo1; have h2 := U.out.lo2; have h3 := U.out.lo3; omega
      have nb' : w.heap.size ≠ gb := by omega
      clear hr hg U
      cases b with
      | false =>
        obtain ⟨y0, y1, fy0, fy1⟩ := U1.out.box.facts
        obtain ⟨r0, r1, fr0, fr1⟩ := U1.out.res.facts
        go_wp2
        refine bodyPost_ret (v := .tuple #[.agg #[.int .i64 N, .slice A' l c'], .slice A3 k c3]) (by simp [results, Try.results91, go_sem, r0, r1, fr0, fr1]) rfl ?_
        exact FIN.out _ _ _ U1.out _ _
      | true =>
        by_cases hk0 : 0 < k
        · have bk : decide ((0 : Int) < (k : Int)) = true := by simpa using hk0
          go_wp2_with fail
          refine (below_any k (w.heap.size + 1) A n c _ hn (by omega) U1.out.rdr).mono ?_
          rintro e w5 ⟨d, ⟨hd0, hd1⟩, rfl, hr, hg⟩
          have U2 := Lib.hid (U1.out.rd_ hr hg)
          have hdk : d < (k : Int) := by omega
          obtain ⟨dn, rfl⟩ : ∃ dn : Nat, d = dn := ⟨d.toNat, by omega⟩
          clear hr hg hd1 U1
          go_wp2_with fail
          refine (off_any 0 5 (w.heap.size + 1) A n c _ hn (by omega) (by omega) (by omega) (by omega) U2.out.rdr).mono ?_
          rintro e w6 ⟨x, hx, rfl, hr, hg⟩
          have U3 := Lib.hid (U2.out.rd_ hr hg)
          clear hr hg U2 hx
          obtain ⟨g3, rfl, hg3⟩ := U3.out.some_ hk0
          have hdn : dn < k := by omega
          obtain ⟨⟨x', k1⟩, k2, k3⟩ := U3.out.at_ hdn
          have U4 := Lib.hid (U3.out.put dn x)
          obtain ⟨y0, y1, fy0, fy1⟩ := U4.out.box.facts
          obtain ⟨r0, r1, fr0, fr1⟩ := U4.out.res.facts
          have n1 : g3 ≠ gb := by omega
          have n2 : gb ≠ g3 := by omega
          have n3 : g3 ≠ w.heap.size := by have h1 := U3.out.lo1; have h2 := U3.out.lo2; have h3 := U3.out.lo3; omega
          have n4 : w.heap.size ≠ g3 := by omega
          have d0 : (0 : Int) ≤ (dn : Int) := by omega
          have d1 : (dn : Int) < (k : Int) := hdk
          obtain ⟨z0, z1, fz0, fz1⟩ := U3.out.box.facts
          obtain ⟨r0', r1', fr0', fr1'⟩ := U3.out.res.facts
          go_wp2
          refine bodyPost_ret (v := .tuple #[.agg #[.int .i64 N, .slice A' l c'], .slice (some ⟨g3, 0, none⟩) k c3]) (by simp [results, Try.results91, go_sem, r0, r1, fr0, fr1, r0', r1', fr0', fr1', n3, n4]) rfl ?_
          exact FIN.out _ _ _ U4.out _ _
        · have bk : decide ((0 : Int) < (k : Int)) = false := by simpa using hk0
          obtain ⟨y0, y1, fy0, fy1⟩ := U1.out.box.facts
          obtain ⟨r0, r1, fr0, fr1⟩ := U1.out.res.facts
          go_wp2
          refine bodyPost_ret (v := .tuple #[.agg #[.int .i64 N, .slice A' l c'], .slice A3 k c3]) (by simp [results, Try.results91, go_sem, r0, r1, fr0, fr1]) rfl ?_
          exact FIN.out _ _ _ U1.out _ _

end Go.Proofs.Ytjmooakjdcepcaa

set_option linter.unusedSimpArgs false
set_option linter.unusedVariables false
namespace Go.Proofs.Ytjmooakjdcepcaa
open Go.RowKit

/-- A graph, a row of numbers of its own and two nodes that are drawn by a code. -/
def DrawnGV2 (w : World) (e : Ending) (w' : World) : Prop :=
  ∃ (N : Int) (A' : Option Addr) (l c' : Nat) (L : List Arc3) (A3 : Option Addr) (k c3 : Nat) (V : List Int) (s t : Int), e = .returned (.tuple #[.agg #[.int .i64 N, .slice A' l c'], .slice A3 k c3, .int .i64 s, .int .i64 t]) ∧ Drawn w.heap.size w' N A' l c' L ∧ k = V.length ∧ k ≤ 1048576 ∧ OwnN w' w.heap.size (.slice A3 k c3) V ∧ Bl w w'

set_option maxRecDepth 100000 in
set_option maxHeartbeats 2000000 in
theorem drawPruned_any (A : Option Addr) (n c : Nat) (w : World) (hn : n ≤ 1099511627776) (H : BytesAt w A n) :
    Calls Try.prog 67 #[.slice A n c] w (DrawnGV2 w) := by
  have K := Lib.hid H
  clear H
  go_enter Try.func67, Try.ntmps67
  go_wp2_with fail
  refine (open_any A n c _ (K.out.bl (by repeat' (first | exact Bl.refl _ | with_reducible assumption | with_reducible refine Bl.drew_ ?_ | with_reducible refine Bl.drewN_ ?_ _ | with_reducible refine Bl.alloc_ ?_ _ | with_reducible refine Bl.trans_ ?_ (by assumption) | with_reducible refine Bl.trans_ ?_ (And.left (by assumption)))))).mono ?_
  rintro e w1 ⟨rfl, hr, hb, hlt⟩
  have R1 := Lib.hid (show RdAny w1 (w.heap.size + 1) A n c from by rw [World.size_alloc] at hr; exact hr)
  have B1 := Lib.hid hb
  have s1 := hb.size
  simp only [World.size_alloc] at s1 hlt
  have HK1 := Lib.hid (K.out.bl ((Bl.alloc_ (Bl.refl w) _).trans_ hb))
  clear hr hb
  go_wp2_with fail
  refine (drawReachOk_any A n c _ hn HK1.out).mono ?_
  rintro e w2 ⟨N, A', l, c', L, A3, k, c3, V, rfl, hd, hk, hk20, ho, hb2⟩
  have D2 := Lib.hid hd
  have O2 := Lib.hid ho
  have HK := Lib.hid hk
  have HK20 := Lib.hid hk20
  have C2 := Lib.hid hb2
  have hN0 := hd.2.2.1.1
  have hN1 := hd.2.2.1.2
  have s2 := hb2.size
  have R2 := Lib.hid (R1.out.bl hb2)
  clear hd ho hk hk20 hb2
  have B2 := Lib.hid (show Bl (w.alloc (.cells #[.int .i64 0, .slice none 0 0] 26)) w2 from B1.out.trans_ C2.out)
  have R3 := Lib.hid (R2.out.bl (Bl.alloc_ (Bl.refl w2) (.cells #[.int .i64 N, .slice A' l c'] 26)))
  have HSH := Lib.hid (show ∀ wx, (w2.alloc (.cells #[.int .i64 N, .slice A' l c'] 26)).grownBy wx (some (w.heap.size + 1)) → (w2.alloc (.cells #[.int .i64 N, .slice A' l c'] 26)).grownBy wx (some (w.heap.size + 1)) ∧ wx.cell? ⟨w2.heap.size, 0, none⟩ = some (.int .i64 N) ∧ wx.cell? ⟨w2.heap.size, 1, none⟩ = some (.slice A' l c') from fun wx h =>
    ⟨h, h.cell (by simp [go_sem]) (by simp; omega), h.cell (by simp [go_sem]) (by simp; omega)⟩)
  have RES := Lib.hid (show Two (w2.alloc (.cells #[.int .i64 N, .slice A' l c'] 26)) w.heap.size (.int .i64 0) (.slice none 0 0) from ((Two.new w _ _).bl B2.out).bl (Bl.alloc_ (Bl.refl _) _))
  have nb : w2.heap.size ≠ w.heap.size := by omega
  have nb' : w.heap.size ≠ w2.heap.size := by omega
  go_wp2_with fail
  refine (node_any N _ (w.heap.size + 1) A n c _ hn hN0 hN1 R3.out).mono ?_
  rintro e w4 ⟨s, hs, rfl, hr4, hg4⟩
  have G4 := Lib.hid hg4
  have R4 := Lib.hid hr4
  obtain ⟨y, y0, y1⟩ := HSH.out _ hg4
  have s4 := hg4.size
  simp only [World.size_alloc] at s4
  have RES4 := Lib.hid (RES.out.grown_ hg4 (by simp))
  clear hs hr4 hg4 y
  go_wp2_with fail
  refine wp_region_held_drew (S := fun wx => wx.cell? ⟨w2.heap.size, 0, none⟩ = some (.int .i64 N) ∧ wx.cell? ⟨w2.heap.size, 1, none⟩ = some (.slice A' l c')) (by kernel_rfl) ?_ (fun hHeld => ?_)
  · (first | exact (HSH.out _ hGG).2 | (refine ⟨?_, ?_⟩ <;> (simp [go_sem, nb, nb', *]; done)))
  refine wpAnyH_take (i := 0) (v := ?_) rfl (by kernel_rfl) (by kernel_rfl) (by kernel_rfl) (fun _ _ _ h => h) (Or.inl ⟨by kernel_rfl, ?_⟩) (by assumption) ?_
  rotate_left
  · (intro wx hSw; (try dsimp only at hSw); go_simp; try (with_reducible rfl))
  try simp only [Act.put, List.getElem_toArray, List.getElem_cons_succ, List.getElem_cons_zero, List.setIfInBounds_toArray, List.set_cons_zero, List.set_cons_succ]
  refine wpAnyH_take (i := 1) (v := ?_) rfl (by kernel_rfl) (by kernel_rfl) (by kernel_rfl) (fun _ _ _ h => h) (Or.inl ⟨by kernel_rfl, ?_⟩) (by assumption) ?_
  rotate_left
  · (intro wx hSw; (try dsimp only at hSw); go_simp; try (with_reducible rfl))
  try simp only [Act.put, List.getElem_toArray, List.getElem_cons_succ, List.getElem_cons_zero, List.setIfInBounds_toArray, List.set_cons_zero, List.set_cons_succ]
  refine wpAnyH_take (i := 2) (v := ?_) rfl (by kernel_rfl) (by kernel_rfl) (by kernel_rfl) (fun _ _ _ h => h) (Or.inl ⟨by kernel_rfl, ?_⟩) (by assumption) ?_
  rotate_left
  · (intro wx hSw; (try dsimp only at hSw); go_simp; try (with_reducible rfl))
  try simp only [Act.put, List.getElem_toArray, List.getElem_cons_succ, List.getElem_cons_zero, List.setIfInBounds_toArray, List.set_cons_zero, List.set_cons_succ]
  refine wpAnyH_take (i := 3) (v := ?_) rfl (by kernel_rfl) (by kernel_rfl) (by kernel_rfl) (fun _ _ _ h => h) (Or.inl ⟨by kernel_rfl, ?_⟩) (by assumption) ?_
  rotate_left
  · (intro wx hSw; (try dsimp only at hSw); go_simp; try (with_reducible rfl))
  try simp only [Act.put, List.getElem_toArray, List.getElem_cons_succ, List.getElem_cons_zero, List.setIfInBounds_toArray, List.set_cons_zero, List.set_cons_succ]
  refine wpAnyH_take (i := 4) (v := ?_) rfl (by kernel_rfl) (by kernel_rfl) (by kernel_rfl) (fun _ _ _ h => h) (Or.inl ⟨by kernel_rfl, ?_⟩) (by assumption) ?_
  rotate_left
  · (intro wx hSw; (try dsimp only at hSw); go_simp; try (with_reducible rfl))
  try simp only [Act.put, List.getElem_toArray, List.getElem_cons_succ, List.getElem_cons_zero, List.setIfInBounds_toArray, List.set_cons_zero, List.set_cons_succ]
  refine wpAnyH_ready (rs := [5]) (by kernel_rfl) (by simp) ?_
  refine AllReadyH.cons rfl (fun K hK => ?_) AllReadyH.nil
  go_simp
  (go_at_call 55; refine (node_any N _ (w.heap.size + 1) A n c _ hn hN0 hN1 (R4.out.bl (by repeat' (first | exact Bl.refl _ | with_reducible assumption | with_reducible refine Bl.drew_ ?_ | with_reducible refine Bl.drewN_ ?_ _ | with_reducible refine Bl.alloc_ ?_ _ | with_reducible refine Bl.trans_ ?_ (by assumption) | with_reducible refine Bl.trans_ ?_ (And.left (by assumption)))))).mono ?_; rintro e w3 ⟨x, hx, rfl, hr, hg⟩; have hg' := grown_trans (bl_grown (show Bl w4 _ from (by repeat' (first | exact Bl.refl _ | with_reducible assumption | with_reducible refine Bl.drew_ ?_ | with_reducible refine Bl.drewN_ ?_ _ | with_reducible refine Bl.alloc_ ?_ _ | with_reducible refine Bl.trans_ ?_ (by assumption) | with_reducible refine Bl.trans_ ?_ (And.left (by assumption))))) _) hg; have hGG := grown_trans G4.out hg'; obtain ⟨r0, r1, fr0, fr1⟩ := Two.facts ((RES4.out).grown_ hg' (by simp)))
  try (go_wp2_with fail)
  refine hK.out _ _ ?_ (fun hHeld => ?_)
  · (first | exact (HSH.out _ hGG).2 | (refine ⟨?_, ?_⟩ <;> (simp [go_sem, nb, nb', *]; done)))
  clear hK K
  try simp only [Act.put, List.getElem_toArray, List.getElem_cons_succ, List.getElem_cons_zero, List.setIfInBounds_toArray, List.set_cons_zero, List.set_cons_succ]
  refine wpAnyH_ready (rs := [6]) (by kernel_rfl) (by simp) ?_
  refine AllReadyH.cons rfl (fun K hK => ?_) AllReadyH.nil
  go_simp
  refine hK.out _ _ ?_ (fun hHeld => ?_)
  · (first | exact (HSH.out _ hGG).2 | (refine ⟨?_, ?_⟩ <;> (simp [go_sem, nb, nb', *]; done)))
  clear hK K
  try simp only [Act.put, List.getElem_toArray, List.getElem_cons_succ, List.getElem_cons_zero, List.setIfInBounds_toArray, List.set_cons_zero, List.set_cons_succ]
  refine wpAnyH_take (i := 7) (v := ?_) rfl (by kernel_rfl) (by kernel_rfl) (by kernel_rfl) (fun _ _ _ h => h) (Or.inl ⟨by kernel_rfl, ?_⟩) (by assumption) ?_
  rotate_left
  · (intro wx hSw; (try dsimp only at hSw); go_simp; try (with_reducible rfl))
  try simp only [Act.put, List.getElem_toArray, List.getElem_cons_succ, List.getElem_cons_zero, List.setIfInBounds_toArray, List.set_cons_zero, List.set_cons_succ]
  refine wpAnyH_take (i := 8) (v := ?_) rfl (by kernel_rfl) (by kernel_rfl) (by kernel_rfl) (fun _ _ _ h => h) (Or.inl ⟨by kernel_rfl, ?_⟩) (by assumption) ?_
  rotate_left
  · (intro wx hSw; (try dsimp only at hSw); go_simp; try (with_reducible rfl))
  try simp only [Act.put, List.getElem_toArray, List.getElem_cons_succ, List.getElem_cons_zero, List.setIfInBounds_toArray, List.set_cons_zero, List.set_cons_succ]
  refine wpAnyH_take (i := 9) (v := ?_) rfl (by kernel_rfl) (by kernel_rfl) (by kernel_rfl) (fun _ _ _ h => h) (Or.inl ⟨by kernel_rfl, ?_⟩) (by assumption) ?_
  rotate_left
  · (intro wx hSw; (try dsimp only at hSw); go_simp; try (with_reducible rfl))
  try simp only [Act.put, List.getElem_toArray, List.getElem_cons_succ, List.getElem_cons_zero, List.setIfInBounds_toArray, List.set_cons_zero, List.set_cons_succ]
  refine wpAnyH_done (by kernel_rfl) ?_ _
  go_wp2
  refine bodyPost_ret (v := .tuple #[.agg #[.int .i64 N, .slice A' l c'], .slice A3 k c3, .int .i64 s, .int .i64 x]) (by simp [results, Try.results67, go_sem, r0, r1, fr0, fr1]) rfl ?_
  have D3 := (D2.out.bl (Bl.alloc_ (Bl.refl w2) (.cells #[.int .i64 N, .slice A' l c'] 26))).far hGG (by omega)
  have B3 : Bl w w3 := ((((Bl.alloc_ (Bl.refl w) _).trans_ B2.out).alloc_ (.cells #[.int .i64 N, .slice A' l c'] 26)).grown_ hGG (fun g e => by injection e with e; omega))
  have O3 : OwnN w3 w1.heap.size (.slice A3 k c3) V := Owns.grown_ (O2.out.bl (Bl.alloc_ (Bl.refl w2) (.cells #[.int .i64 N, .slice A' l c'] 26))) hGG (fun g hg e => by
    injection e with e
    have := (Owns.lt O2.out g hg).1
    omega)
  have hne : ∀ g, (Value.slice A3 k c3).ownBlock = some g → g ≠ w.heap.size := fun g hg e => by have := (Owns.lt O2.out g hg).1; omega
  exact ⟨N, A', l, c', L, A3, k, c3, V, s, x, rfl, ⟨D3.1, D3.2.1, D3.2.2.1, ((D3.2.2.2.set_ (by show w.heap.size < w1.heap.size; omega) _).set_ (by show w.heap.size < w1.heap.size; omega) _).low (by omega)⟩, HK.out, HK20.out,
    OwnN.low (Owns.setOther (Owns.setOther O3 (p := ⟨w.heap.size, 0, none⟩) hne _) (p := ⟨w.heap.size, 1, none⟩) hne _) (by omega), (B3.set_ (Nat.le_refl _) _).set_ (Nat.le_refl _) _⟩

set_option maxRecDepth 100000 in
set_option maxHeartbeats 1000000 in
theorem drawQueryReach_any (A : Option Addr) (n c : Nat) (w : World) (hn : n ≤ 1099511627776) (H : BytesAt w A n) :
    Calls Try.prog 35 #[.slice A n c] w (DrawnGV2 w) := by
  have K := Lib.hid H
  clear H
  go_enter Try.func35, Try.ntmps35
  go_wp2_with fail
  refine (drawPruned_any A n c _ hn (K.out.bl (by repeat' (first | exact Bl.refl _ | with_reducible assumption | with_reducible refine Bl.drew_ ?_ | with_reducible refine Bl.drewN_ ?_ _ | with_reducible refine Bl.alloc_ ?_ _ | with_reducible refine Bl.trans_ ?_ (by assumption) | with_reducible refine Bl.trans_ ?_ (And.left (by assumption)))))).mono ?_
  rintro e w1 ⟨N, A', l, c', L, A3, k, c3, V, s, t, rfl, hd, hk, hk20, ho, hb⟩
  have D := Lib.hid hd
  have O := Lib.hid ho
  have HK := Lib.hid hk
  have HK20 := Lib.hid hk20
  have B := Lib.hid hb
  obtain ⟨r0, r1, fr0, fr1⟩ := Two.facts ((Two.new w (.int .i64 0) (.slice none 0 0)).bl hb)
  have sz := hb.size
  simp only [World.size_alloc] at sz
  clear hd hb ho hk hk20
  go_wp2
  refine bodyPost_ret (v := .tuple #[.agg #[.int .i64 N, .slice A' l c'], .slice A3 k c3, .int .i64 s, .int .i64 t]) (by simp [results, Try.results35, go_sem, r0, r1, fr0, fr1]) rfl ?_
  have DD := D.out
  have OO := O.out
  rw [World.size_alloc] at DD OO
  have hne : ∀ g, (Value.slice A3 k c3).ownBlock = some g → g ≠ w.heap.size := fun g hg e => by have := (Owns.lt OO g hg).1; omega
  exact ⟨N, A', l, c', L, A3, k, c3, V, s, t, rfl, ⟨DD.1, DD.2.1, DD.2.2.1, ((DD.2.2.2.set_ (by show w.heap.size < w.heap.size + 1; omega) _).set_ (by show w.heap.size < w.heap.size + 1; omega) _).low (by omega)⟩, HK.out, HK20.out,
    OwnN.low (Owns.setOther (Owns.setOther OO (p := ⟨w.heap.size, 0, none⟩) hne _) (p := ⟨w.heap.size, 1, none⟩) hne _) (by omega), (((Bl.alloc_ (Bl.refl w) _).trans_ B.out).set_ (Nat.le_refl _) _).set_ (Nat.le_refl _) _⟩

end Go.Proofs.Ytjmooakjdcepcaa

set_option linter.unusedSimpArgs false
set_option linter.unusedVariables false
namespace Go.Proofs.Ytjmooakjdcepcaa
open Go.RowKit

set_option maxRecDepth 100000 in
set_option maxHeartbeats 1000000 in
theorem implReachOk_any (N : Int) (A : Option Addr) (n c : Nat) (L : List Arc3) (hn : n = L.length) (A2 : Option Addr) (k c2 : Nat) (V : List Int) (hk : k = V.length) (hc : n ≤ c) (w : World) (hm : n ≤ 1048576) (hkm : k ≤ 1048576) (H1 : ArcsAt w w.heap.size A L) (H2 : IntsAt w w.heap.size A2 V) :
    Calls Try.prog 38 #[.agg #[.int .i64 N, .slice A n c], .slice A2 k c2] w fun e w' => e = .returned (.bool (reachB N L V)) ∧ Bl w w' := by
  have K1 := Lib.hid H1
  have K2 := Lib.hid H2
  have HN := Lib.hid hn
  have HK := Lib.hid hk
  clear H1 H2 hn hk
  cases ho : okB N L with
  | false =>
    have HR := Lib.hid (show reachB N L V = false from by unfold reachB; rw [ho, Bool.false_and, Bool.false_and])
    have HO := Lib.hid ho
    clear ho
    go_enter Try.func38, Try.ntmps38
    go_wp2_with fail
    refine (implOk_any N A n c L HN.out _ (by omega) (K1.out.bl (by repeat' (first | exact Bl.refl _ | with_reducible assumption | with_reducible refine Bl.drew_ ?_ | with_reducible refine Bl.drewN_ ?_ _ | with_reducible refine Bl.alloc_ ?_ _ | with_reducible refine Bl.trans_ ?_ (by assumption) | with_reducible refine Bl.trans_ ?_ (And.left (by assumption)))))).mono ?_
    rintro e w1 ⟨rfl, hb1⟩
    rw [HO.out]
    go_wp2
    go_ret
    exact ⟨ret_boolw HR.out.symm, (by repeat' (first | exact Bl.refl _ | with_reducible assumption | with_reducible refine Bl.drew_ ?_ | with_reducible refine Bl.drewN_ ?_ _ | with_reducible refine Bl.alloc_ ?_ _ | with_reducible refine Bl.trans_ ?_ (by assumption) | with_reducible refine Bl.trans_ ?_ (And.left (by assumption))))⟩
  | true =>
    have HO := Lib.hid ho
    have hN1 := (okB_elim ho).1
    have hN24 := (okB_elim ho).2.1
    clear ho
    by_cases hkN : (k : Int) = N
    · subst hkN
      have hne : ((k : Int) != (k : Int)) = false := by simp
      go_enter Try.func38, Try.ntmps38
      go_wp2_with fail
      refine (implOk_any (k : Int) A n c L HN.out _ (by omega) (K1.out.bl (by repeat' (first | exact Bl.refl _ | with_reducible assumption | with_reducible refine Bl.drew_ ?_ | with_reducible refine Bl.drewN_ ?_ _ | with_reducible refine Bl.alloc_ ?_ _ | with_reducible refine Bl.trans_ ?_ (by assumption) | with_reducible refine Bl.trans_ ?_ (And.left (by assumption)))))).mono ?_
      rintro e w1 ⟨rfl, hb1⟩
      rw [HO.out]
      obtain ⟨q0, q1⟩ := box2 hb1
      have BB := Lib.hid (show Bl w w1 from (by repeat' (first | exact Bl.refl _ | with_reducible assumption | with_reducible refine Bl.drew_ ?_ | with_reducible refine Bl.drewN_ ?_ _ | with_reducible refine Bl.alloc_ ?_ _ | with_reducible refine Bl.trans_ ?_ (by assumption) | with_reducible refine Bl.trans_ ?_ (And.left (by assumption)))))
      go_wp2_with fail
      refine (implReachOf_any k A n c L HN.out hc _ (by omega) (K1.out.bl (by repeat' (first | exact Bl.refl _ | with_reducible assumption | with_reducible refine Bl.drew_ ?_ | with_reducible refine Bl.drewN_ ?_ _ | with_reducible refine Bl.alloc_ ?_ _ | with_reducible refine Bl.trans_ ?_ (by assumption) | with_reducible refine Bl.trans_ ?_ (And.left (by assumption)))))).mono ?_
      rintro e w2 ⟨v, rfl, hv, hb2⟩
      obtain ⟨A3, c3, rfl, -, hA3, -, -⟩ := OwnN.shape hv
      rw [reachL_q HO.out]
      have V3 := Lib.hid hA3
      have B2 := Lib.hid (show Bl w w2 from (by repeat' (first | exact Bl.refl _ | with_reducible assumption | with_reducible refine Bl.drew_ ?_ | with_reducible refine Bl.drewN_ ?_ _ | with_reducible refine Bl.alloc_ ?_ _ | with_reducible refine Bl.trans_ ?_ (by assumption) | with_reducible refine Bl.trans_ ?_ (And.left (by assumption)))))
      have RQ := Lib.hid (reachL_q HO.out)
      clear hv hA3 q0 q1 hb2
      go_wp2_with fail
      go_loopw [20] (fun i wr => ∃ j : Nat, j ≤ k ∧ i = .int .i64 j ∧ Bl w2 wr ∧ notLess k L V j = true) (fun i _ => k - (intOf i).toNat)
      case atStart => exact ⟨0, by omega, rfl, Bl.refl _, rfl⟩
      case round =>
        obtain ⟨j, hj, rfl, hbl, hnl⟩ := hrel
        have NL := Lib.hid hnl
        clear hnl
        by_cases hlt : j < k
        · have hj1 : j < V.length := by have := HK.out; omega
          have hj2 : j < (reachL k L).length := by rw [RQ.out]; exact hlt
          obtain ⟨g2, o2, rfl, hg2, hc2⟩ := K2.out.cell (by omega)
          obtain ⟨g3, o3, rfl, hg3, hc3⟩ := V3.out.cell (by omega)
          have p2 := hc2 j hj1
          have p3 := hc3 j hj2
          have e2 : V.getD j 0 = V[j] := by simp [hj1]
          have e3 : (reachL k L).getD j 0 = (reachL k L)[j] := by simp [hj2]
          have NS := Lib.hid (notLess_succ k L V j)
          have NF := Lib.hid (show notLess k L V (j + 1) = false → reachB k L V = false from fun h => by
            have := notLess_false h (V.length - (j + 1))
            rw [show j + 1 + (V.length - (j + 1)) = V.length from by omega] at this
            unfold reachB
            rw [this, Bool.and_false])
          rw [e2, e3, NL.out, Bool.true_and] at NS
          generalize V[j] = a at *
          generalize (reachL (k : Int) L)[j] = b at *
          have HSH := Lib.hid (show ∀ wx, Bl wr wx → Bl wr wx ∧ wx.cell? ⟨g2, o2 + j, none⟩ = some (.int .i64 a) ∧ wx.cell? ⟨g3, o3 + j, none⟩ = some (.int .i64 b) from fun wx hb =>
            ⟨hb, ((bcell ((B2.out.trans_ hbl).trans_ hb)).1 _ _ hg2).trans p2, ((bcell (hbl.trans_ hb)).1 _ _ hg3).trans p3⟩)
          have hj0 : (0 : Int) ≤ (j : Int) := by omega
          have hj3 : (j : Int) < (k : Int) := by omega
          clear hc2 hc3 p2 p3 e2 e3
          obtain ⟨hbz, y2, y3⟩ := HSH.out wr (Bl.refl _)
          by_cases hab : a < b
          · have hd : decide (b ≤ a) = false := by simp; omega
            have RB := Lib.hid (NF.out (by rw [NS.out, hd]))
            go_wp2
            go_ret
            exact ⟨ret_boolw RB.out.symm, (B2.out.trans_ hbl).trans_ (by repeat' (first | exact Bl.refl _ | with_reducible assumption | with_reducible refine Bl.drew_ ?_ | with_reducible refine Bl.drewN_ ?_ _ | with_reducible refine Bl.alloc_ ?_ _ | with_reducible refine Bl.trans_ ?_ (by assumption) | with_reducible refine Bl.trans_ ?_ (And.left (by assumption))))⟩
          · have hd : decide (b ≤ a) = true := by simp; omega
            have NT := Lib.hid (show notLess k L V (j + 1) = true from by rw [NS.out, hd])
            go_wp2
            go_roundw
            case rel => exact ⟨j + 1, by omega, by go_num, hbl.trans_ (by repeat' (first | exact Bl.refl _ | with_reducible assumption | with_reducible refine Bl.drew_ ?_ | with_reducible refine Bl.drewN_ ?_ _ | with_reducible refine Bl.alloc_ ?_ _ | with_reducible refine Bl.trans_ ?_ (by assumption) | with_reducible refine Bl.trans_ ?_ (And.left (by assumption)))), NT.out⟩
            case measure => simp [intOf]; omega
        · have RB := Lib.hid (show reachB k L V = true from by
            unfold reachB
            rw [HO.out, show V.length = j from by have := HK.out; omega, NL.out]
            simp; omega)
          go_wp2
          go_ret
          exact ⟨ret_boolw RB.out.symm, B2.out.trans_ hbl⟩
    · have hne : ((k : Int) != N) = true := by simpa using hkN
      have HR := Lib.hid (show reachB N L V = false from by unfold reachB; rw [show decide ((V.length : Int) = N) = false from by rw [← HK.out]; simpa using hkN, Bool.and_false, Bool.false_and])
      go_enter Try.func38, Try.ntmps38
      go_wp2_with fail
      refine (implOk_any N A n c L HN.out _ (by omega) (K1.out.bl (by repeat' (first | exact Bl.refl _ | with_reducible assumption | with_reducible refine Bl.drew_ ?_ | with_reducible refine Bl.drewN_ ?_ _ | with_reducible refine Bl.alloc_ ?_ _ | with_reducible refine Bl.trans_ ?_ (by assumption) | with_reducible refine Bl.trans_ ?_ (And.left (by assumption)))))).mono ?_
      rintro e w1 ⟨rfl, hb1⟩
      rw [HO.out]
      obtain ⟨q0, q1⟩ := box2 hb1
      go_wp2
      go_ret
      exact ⟨ret_boolw HR.out.symm, (by repeat' (first | exact Bl.refl _ | with_reducible assumption | with_reducible refine Bl.drew_ ?_ | with_reducible refine Bl.drewN_ ?_ _ | with_reducible refine Bl.alloc_ ?_ _ | with_reducible refine Bl.trans_ ?_ (by assumption) | with_reducible refine Bl.trans_ ?_ (And.left (by assumption))))⟩

end Go.Proofs.Ytjmooakjdcepcaa

set_option linter.unusedSimpArgs false
set_option linter.unusedVariables false
namespace Go.Proofs.Ytjmooakjdcepcaa
open Go.RowKit Go.Shelf
attribute [local go_sem] Oper.semAt_some

/-- The nodes of these that reaches leave. -/
def selV (V : List Int) (pre : List Arc3) : List Int := (pre.filter fun x => decide (min x.2.1 x.2.2 ≤ V.getD x.1.toNat 0)).map (·.1)
theorem selV_yes {V : List Int} {pre : List Arc3} {x : Arc3} (h : min x.2.1 x.2.2 ≤ V.getD x.1.toNat 0) : selV V (pre ++ [x]) = selV V pre ++ [x.1] := by
  unfold selV
  rw [List.filter_append, List.map_append, List.filter_cons_of_pos (p := fun x : Arc3 => decide (min x.2.1 x.2.2 ≤ V.getD x.1.toNat 0)) (by simpa using h)]
  rfl
theorem selV_no {V : List Int} {pre : List Arc3} {x : Arc3} (h : ¬ (min x.2.1 x.2.2 ≤ V.getD x.1.toNat 0)) : selV V (pre ++ [x]) = selV V pre := by
  unfold selV
  rw [List.filter_append, List.map_append, List.filter_cons_of_neg (p := fun x : Arc3 => decide (min x.2.1 x.2.2 ≤ V.getD x.1.toNat 0)) (by simpa using h)]
  simp
theorem selV_all (D E V : List Int) : ∀ k : Nat, selV V (passK D E k) = leftK D E V k
  | 0 => rfl
  | k + 1 => by
    cases hb : bothB D E (k : Int) with
    | false =>
      rw [passK_no hb, selV_all D E V k, leftK_no]
      unfold bothB at hb
      unfold leftB
      rw [decide_eq_false_iff_not] at hb ⊢
      exact fun h => hb ⟨h.1, h.2.1⟩
    | true =>
      rw [passK_yes hb]
      unfold bothB at hb
      rw [decide_eq_true_eq] at hb
      by_cases h : min (dAt D (k : Int)) (dAt E (k : Int)) ≤ V.getD k 0
      · rw [selV_yes (by simpa using h), selV_all D E V k, leftK_yes]
        unfold leftB
        rw [decide_eq_true_eq]
        exact ⟨hb.1, hb.2, by simpa using h⟩
      · rw [selV_no (by simpa using h), selV_all D E V k, leftK_no]
        unfold leftB
        rw [decide_eq_false_iff_not]
        exact fun h' => h (by simpa using h'.2.2)
theorem passK_len_ (D E : List Int) (k : Nat) : (passK D E k).length ≤ k := by
  unfold passK
  rw [List.length_map]
  have := List.length_filter_le (bothB D E) ((List.range k).map Int.ofNat)
  simp at this
  exact this
theorem selV_len (V : List Int) (pre : List Arc3) : (selV V pre).length ≤ pre.length := by
  unfold selV
  rw [List.length_map]
  exact List.length_filter_le _ _

set_option maxRecDepth 100000 in
set_option maxHeartbeats 4000000 in
theorem leftBy_any (k : Nat) (s t : Int) (A : Option Addr) (n c : Nat) (L : List Arc3) (hn : n = L.length) (hc : n ≤ c) (ho : okB k L = true) (hs : 0 ≤ s ∧ s < k) (ht : 0 ≤ t ∧ t < k) (A2 : Option Addr) (kk c2 : Nat) (V : List Int) (hkk : kk = V.length) (hV : V.length = k) (w : World) (hm : n ≤ 1048576) (H1 : ArcsAt w w.heap.size A L) (H2 : IntsAt w w.heap.size A2 V) :
    Calls Try.prog 70 #[.agg #[.int .i64 k, .slice A n c], .slice A2 kk c2, .int .i64 s, .int .i64 t] w (NumsMade (leftK (distL k L s) (distL k (revL L) t) V k) w) := by
  obtain ⟨i0, hi, hz0, hz1, hz2⟩ := info_parts infoInt
  have I0 := Lib.hid hi
  have I1 := Lib.hid hz0
  have I2 := Lib.hid hz1
  have I3 := Lib.hid hz2
  have K1 := Lib.hid H1
  have HN := Lib.hid hn
  have HO := Lib.hid ho
  have HRO := Lib.hid (revL_ok ho)
  have HRL := Lib.hid (revL_len (okB_elim ho).2.2.2.2)
  have hN24 := (okB_elim ho).2.1
  have hk1 := (okB_elim ho).1
  have HV := Lib.hid hV
  have HKK := Lib.hid hkk
  obtain ⟨g2, o2, rfl, hg2, hc2⟩ := H2.cell (by omega)
  have CV := Lib.hid hc2
  clear H1 H2 hn hi hz0 hz1 hz2 hc2 hV hkk
  refine (callsIn_wide (n := 0)).1 ?_
  refine callsIn_of_wp_marks Try.func70 rfl trivial ?_ rfl
  simp only [Try.ntmps70, List.size_toArray, List.length_cons, List.length_nil, Nat.reduceAdd, Nat.reduceSub, Array.replicate_succ, Array.replicate_zero, List.push_toArray, List.append_toArray, List.nil_append, List.cons_append]
  gi_wp2_with fail
  obtain ⟨W, hW⟩ : ∃ W, W = (((w.alloc (.cells #[.int .i64 k, .slice A n c] 26)).alloc (.cells #[.slice (some ⟨g2, o2, none⟩) kk c2] 32)).alloc (.cells #[.slice none 0 0] 32)) := ⟨_, rfl⟩
  have HBW := Lib.hid (show Bl w W from by rw [hW]; exact ((Bl.alloc_ (Bl.refl w) _).alloc_ _).alloc_ _)
  have HSH := Lib.hid (show ∀ wx, Bl W wx → wx.cell? ⟨w.heap.size, 0, none⟩ = some (.int .i64 k) ∧ wx.cell? ⟨w.heap.size, 1, none⟩ = some (.slice A n c) from fun wx hb => by rw [hW] at hb; exact box2 ((Bl.alloc_ (Bl.alloc_ (Bl.refl _) _) _).trans_ hb))
  have HMX := Lib.hid (show ∀ wx, Bl W wx → wx.cell? ⟨w.heap.size + 1, 0, none⟩ = some (.slice (some ⟨g2, o2, none⟩) kk c2) ∧ wx.cell? ⟨w.heap.size + 2, 0, none⟩ = some (.slice none 0 0) ∧ wx.frozen? ⟨w.heap.size + 2, 0, none⟩ = false from fun wx hb => by
    obtain ⟨h1, h2⟩ := bcell hb
    have hs : W.heap.size = w.heap.size + 3 := by rw [hW]; simp
    rw [h1 _ _ (by omega), h1 _ _ (by omega), h2 _ _ (by omega), hW]
    exact ⟨by simp [go_sem], by simp [go_sem], by simp [go_sem]⟩)
  have hs0 : W.heap.size = w.heap.size + 3 := by rw [hW]; simp
  rw [← hW]
  clear hW ho
  refine wpIn_region_held (S := fun wx => wx.cell? ⟨w.heap.size, 0, none⟩ = some (.int .i64 k) ∧ wx.cell? ⟨w.heap.size, 1, none⟩ = some (.slice A n c)) (by kernel_rfl) ?_ (fun hHeld => ?_)
  · (exact HSH.out _ (by repeat' (first | exact Bl.refl _ | with_reducible assumption | with_reducible refine Bl.drew_ ?_ | with_reducible refine Bl.drewN_ ?_ _ | with_reducible refine Bl.alloc_ ?_ _ | with_reducible refine Bl.trans_ ?_ (by assumption) | with_reducible refine Bl.trans_ ?_ (And.left (by assumption)))))
  refine wpAnyH_take (i := 0) (v := ?_) rfl (by kernel_rfl) (by kernel_rfl) (by kernel_rfl) (fun _ _ _ h => h) (Or.inl ⟨by kernel_rfl, ?_⟩) (by assumption) ?_
  rotate_left
  · (intro wx hSw; (try dsimp only at hSw); go_simp; try (with_reducible rfl))
  try simp only [Act.put, List.getElem_toArray, List.getElem_cons_succ, List.getElem_cons_zero, List.setIfInBounds_toArray, List.set_cons_zero, List.set_cons_succ]
  refine wpAnyH_take (i := 1) (v := ?_) rfl (by kernel_rfl) (by kernel_rfl) (by kernel_rfl) (fun _ _ _ h => h) (Or.inl ⟨by kernel_rfl, ?_⟩) (by assumption) ?_
  rotate_left
  · (intro wx hSw; (try dsimp only at hSw); go_simp; try (with_reducible rfl))
  try simp only [Act.put, List.getElem_toArray, List.getElem_cons_succ, List.getElem_cons_zero, List.setIfInBounds_toArray, List.set_cons_zero, List.set_cons_succ]
  refine wpAnyH_take (i := 2) (v := ?_) rfl (by kernel_rfl) (by kernel_rfl) (by kernel_rfl) (fun _ _ _ h => h) (Or.inl ⟨by kernel_rfl, ?_⟩) (by assumption) ?_
  rotate_left
  · (intro wx hSw; (try dsimp only at hSw); go_simp; try (with_reducible rfl))
  try simp only [Act.put, List.getElem_toArray, List.getElem_cons_succ, List.getElem_cons_zero, List.setIfInBounds_toArray, List.set_cons_zero, List.set_cons_succ]
  refine wpAnyH_take (i := 3) (v := ?_) rfl (by kernel_rfl) (by kernel_rfl) (by kernel_rfl) (fun _ _ _ h => h) (Or.inl ⟨by kernel_rfl, ?_⟩) (by assumption) ?_
  rotate_left
  · (intro wx hSw; (try dsimp only at hSw); go_simp; try (with_reducible rfl))
  try simp only [Act.put, List.getElem_toArray, List.getElem_cons_succ, List.getElem_cons_zero, List.setIfInBounds_toArray, List.set_cons_zero, List.set_cons_succ]
  refine wpAnyH_take (i := 5) (v := ?_) rfl (by kernel_rfl) (by kernel_rfl) (by kernel_rfl) (fun _ _ _ h => h) (Or.inl ⟨by kernel_rfl, ?_⟩) (by assumption) ?_
  rotate_left
  · (intro wx hSw; (try dsimp only at hSw); go_simp; try (with_reducible rfl))
  try simp only [Act.put, List.getElem_toArray, List.getElem_cons_succ, List.getElem_cons_zero, List.setIfInBounds_toArray, List.set_cons_zero, List.set_cons_succ]
  refine wpAnyH_take (i := 7) (v := ?_) rfl (by kernel_rfl) (by kernel_rfl) (by kernel_rfl) (fun _ _ _ h => h) (Or.inl ⟨by kernel_rfl, ?_⟩) (by assumption) ?_
  rotate_left
  · (intro wx hSw; (try dsimp only at hSw); go_simp; try (with_reducible rfl))
  try simp only [Act.put, List.getElem_toArray, List.getElem_cons_succ, List.getElem_cons_zero, List.setIfInBounds_toArray, List.set_cons_zero, List.set_cons_succ]
  refine wpAnyH_ready (rs := [4]) (by kernel_rfl) (by simp) ?_
  refine AllReadyH.cons rfl (fun K hK => ?_) AllReadyH.nil
  go_simp
  (go_at_call 60; refine (distances_any k s A n c L HN.out hc HO.out hs.1 hs.2 _ (K1.out.bl (HBW.out.trans_ (by repeat' (first | exact Bl.refl _ | with_reducible assumption | with_reducible refine Bl.drew_ ?_ | with_reducible refine Bl.drewN_ ?_ _ | with_reducible refine Bl.alloc_ ?_ _ | with_reducible refine Bl.trans_ ?_ (by assumption) | with_reducible refine Bl.trans_ ?_ (And.left (by assumption))))))).mono ?_; rintro e w_1 ⟨E, rfl, hE, hEd, hb1⟩)
  try (go_wp2_with fail)
  refine hK.out _ _ ?_ (fun hHeld => ?_)
  · (exact HSH.out _ (by repeat' (first | exact Bl.refl _ | with_reducible assumption | with_reducible refine Bl.drew_ ?_ | with_reducible refine Bl.drewN_ ?_ _ | with_reducible refine Bl.alloc_ ?_ _ | with_reducible refine Bl.trans_ ?_ (by assumption) | with_reducible refine Bl.trans_ ?_ (And.left (by assumption)))))
  clear hK K
  try simp only [Act.put, List.getElem_toArray, List.getElem_cons_succ, List.getElem_cons_zero, List.setIfInBounds_toArray, List.set_cons_zero, List.set_cons_succ]
  refine wpAnyH_ready (rs := [6]) (by kernel_rfl) (by simp) ?_
  refine AllReadyH.cons rfl (fun K hK => ?_) AllReadyH.nil
  go_simp
  (go_at_call 22; refine (implReversed_any k A n c L HN.out _ hm (K1.out.bl (HBW.out.trans_ (by repeat' (first | exact Bl.refl _ | with_reducible assumption | with_reducible refine Bl.drew_ ?_ | with_reducible refine Bl.drewN_ ?_ _ | with_reducible refine Bl.alloc_ ?_ _ | with_reducible refine Bl.trans_ ?_ (by assumption) | with_reducible refine Bl.trans_ ?_ (And.left (by assumption))))))).mono ?_; rintro e w_2 ⟨v6, rfl, hv6, hb2⟩; rw [show revN (k : Int) L = (k : Int) from if_pos HO.out]; rw [show revG (k : Int) L = revL L from if_pos HO.out] at hv6; have hcap := OwnA.cap_ hv6; obtain ⟨A6, c6, rfl, ha6, -⟩ := hv6.shape; have V_2 := Lib.hid ha6; have HC6 := Lib.hid (hcap _ _ _ rfl); clear hv6 hcap ha6)
  try (go_wp2_with fail)
  refine hK.out _ _ ?_ (fun hHeld => ?_)
  · (exact HSH.out _ (by repeat' (first | exact Bl.refl _ | with_reducible assumption | with_reducible refine Bl.drew_ ?_ | with_reducible refine Bl.drewN_ ?_ _ | with_reducible refine Bl.alloc_ ?_ _ | with_reducible refine Bl.trans_ ?_ (by assumption) | with_reducible refine Bl.trans_ ?_ (And.left (by assumption)))))
  clear hK K
  try simp only [Act.put, List.getElem_toArray, List.getElem_cons_succ, List.getElem_cons_zero, List.setIfInBounds_toArray, List.set_cons_zero, List.set_cons_succ]
  refine wpAnyH_ready (rs := [8]) (by kernel_rfl) (by simp) ?_
  refine AllReadyH.cons rfl (fun K hK => ?_) AllReadyH.nil
  go_simp
  (go_at_call 60; refine (distances_any k t A6 (revL L).length c6 (revL L) rfl HC6.out HRO.out ht.1 ht.2 _ V_2.out).mono ?_; rintro e w_3 ⟨F, rfl, hF, hFd, hb3⟩)
  try (go_wp2_with fail)
  refine hK.out _ _ ?_ (fun hHeld => ?_)
  · (exact HSH.out _ (by repeat' (first | exact Bl.refl _ | with_reducible assumption | with_reducible refine Bl.drew_ ?_ | with_reducible refine Bl.drewN_ ?_ _ | with_reducible refine Bl.alloc_ ?_ _ | with_reducible refine Bl.trans_ ?_ (by assumption) | with_reducible refine Bl.trans_ ?_ (And.left (by assumption)))))
  clear hK K
  try simp only [Act.put, List.getElem_toArray, List.getElem_cons_succ, List.getElem_cons_zero, List.setIfInBounds_toArray, List.set_cons_zero, List.set_cons_succ]
  refine wpAnyH_ready (rs := [9]) (by kernel_rfl) (by simp) ?_
  refine AllReadyH.cons rfl (fun K hK => ?_) AllReadyH.nil
  go_simp
  (go_at_call 93; refine (passings_any k E F hE hF _).mono ?_; rintro e w_4 ⟨rfl, hw4⟩; have hb4 : Bl w_3 w_4 := (by rw [hw4]; exact ((Bl.alloc_ (Bl.refl _) _).alloc_ _).alloc_ _); have HW4 := Lib.hid hw4; clear hw4)
  try (go_wp2_with fail)
  refine hK.out _ _ ?_ (fun hHeld => ?_)
  · (exact HSH.out _ (by repeat' (first | exact Bl.refl _ | with_reducible assumption | with_reducible refine Bl.drew_ ?_ | with_reducible refine Bl.drewN_ ?_ _ | with_reducible refine Bl.alloc_ ?_ _ | with_reducible refine Bl.trans_ ?_ (by assumption) | with_reducible refine Bl.trans_ ?_ (And.left (by assumption)))))
  clear hK K
  try simp only [Act.put, List.getElem_toArray, List.getElem_cons_succ, List.getElem_cons_zero, List.setIfInBounds_toArray, List.set_cons_zero, List.set_cons_succ]
  refine wpAnyH_done (by kernel_rfl) ?_ _
  refine NoOut.normal ?_
  clear hHeld
  gi_wp2_with fail
  have B3 := Lib.hid (show Bl W w_3 from (by repeat' (first | exact Bl.refl _ | with_reducible assumption | with_reducible refine Bl.drew_ ?_ | with_reducible refine Bl.drewN_ ?_ _ | with_reducible refine Bl.alloc_ ?_ _ | with_reducible refine Bl.trans_ ?_ (by assumption) | with_reducible refine Bl.trans_ ?_ (And.left (by assumption)))))
  have B4 := Lib.hid (B3.out.trans_ hb4)
  have hin : PIn w_4 w_3.heap.size (w_3.heap.size + 1) (w_3.heap.size + 2) k E F := by
    rw [HW4.out]
    refine ⟨by simp [go_sem], ?_, ?_⟩
    · have h := (nums_box (w_3.alloc (.cells #[.int .i64 (k : Int)] 2)) 77 E hE).bl (Bl.alloc_ (Bl.refl _) (.cells (F.map (Value.int .i64)).toArray 77))
      rw [World.size_alloc] at h
      exact h
    · have h := nums_box ((w_3.alloc (.cells #[.int .i64 (k : Int)] 2)).alloc (.cells (E.map (Value.int .i64)).toArray 77)) 77 F hF
      rw [World.size_alloc, World.size_alloc] at h
      exact h
  have PIN := Lib.hid hin
  have hs4 : w_4.heap.size = w_3.heap.size + 3 := by rw [HW4.out]; simp
  have hs3 := B3.out.size
  have DE := Lib.hid (show E.take k = distL k L s from hEd)
  have DF := Lib.hid (show F.take k = distL k (revL L) t from hFd)
  have DTK := Lib.hid (show ∀ (X : List Int) (v : Int), X.length = 24 → 0 ≤ v → v < (k : Int) → dAt (X.take k) v = dAt X v from fun X v hX h0 h1 => by
    unfold dAt
    simp only [List.getD_eq_getElem?_getD]
    rw [List.getElem?_take, if_pos (by omega)])
  have EL := Lib.hid hE
  have FL := Lib.hid hF
  obtain ⟨m0, m1, m2⟩ := HMX.out _ B4.out
  have BW4 := Lib.hid (HBW.out.trans_ B4.out)
  obtain ⟨ob, hob⟩ : ∃ ob, ob = w.heap[g2]? := ⟨_, rfl⟩
  have HOB := Lib.hid hob
  have hg4 : w_4.heap[g2]? = ob := by have h : Below w.heap.size w w_4 := BW4.out; rw [hob]; exact h.block g2 hg2
  clear hob
  clear hb4 hb1 hb2 hb3 hE hF hEd hFd hin
  have hvb : w.heap.size + 1 + 1 = w.heap.size + 2 := rfl
  have hfin : PIn w_4 w_3.heap.size (w_3.heap.size + 1) (w_3.heap.size + 2) k E F := PIN.out
  refine wpIn_range (gf := 109) (lb := #[.pointer (some ⟨w_3.heap.size, 0, none⟩), .pointer (some ⟨w_3.heap.size + 1, 0, none⟩), .pointer (some ⟨w_3.heap.size + 2, 0, none⟩)]) ?e1 ?e2
    (pass_stops k w_3.heap.size (w_3.heap.size + 1) (w_3.heap.size + 2) E F (by omega) w_4 hfin) (Bl.refl _) (fun i hi => hfin.lt hi) ?e3
    (fun pre K W' => ∃ v, (∀ i, K i ↔ (i = w.heap.size + 2 ∨ i = w.heap.size + 1 ∨ v.ownBlock = some i ∨ i = g2)) ∧ (W'.cell? ⟨w.heap.size + 2, 0, none⟩ = some v ∧ W'.frozen? ⟨w.heap.size + 2, 0, none⟩ = false) ∧ W'.cell? ⟨w.heap.size + 1, 0, none⟩ = some (.slice (some ⟨g2, o2, none⟩) kk c2) ∧ OwnN W' (w.heap.size + 3) v (selV V pre) ∧ W'.heap[g2]? = ob ∧ w.heap.size + 3 ≤ W'.heap.size)
    (fun _ _ _ _ => False)
    (fun pre x a K W' => ∃ xb v, ∃ z0 z1 z2 z3 z4 z6 z7 z8 z11 z12 z13 z14 z15 z16 z17 z18 z19 z20 z21 z22 z23 z24 z25 z26 z27 z28 z29 z30 z31 z32 z33 z34 z35 : Value, (∀ i, K i ↔ (i = w.heap.size + 2 ∨ i = w.heap.size + 1 ∨ v.ownBlock = some i ∨ i = xb ∨ i = g2)) ∧ (W'.cell? ⟨w.heap.size + 2, 0, none⟩ = some v ∧ W'.frozen? ⟨w.heap.size + 2, 0, none⟩ = false) ∧ W'.cell? ⟨w.heap.size + 1, 0, none⟩ = some (.slice (some ⟨g2, o2, none⟩) kk c2) ∧ OwnN W' (w.heap.size + 3) v (selV V pre) ∧ (W'.heap[g2]? = ob ∧ w.heap.size + 3 ≤ W'.heap.size) ∧
      (xb ≠ w.heap.size + 2 ∧ xb ≠ w.heap.size + 1 ∧ v.ownBlock ≠ some xb ∧ xb ≠ g2 ∧ W'.cell? ⟨xb, 0, none⟩ = some (.int .i64 x.1) ∧ W'.cell? ⟨xb, 1, none⟩ = some (.int .i64 x.2.1) ∧ W'.cell? ⟨xb, 2, none⟩ = some (.int .i64 x.2.2)) ∧
      a = { tmps := #[z0, z1, z2, z3, z4, .pointer (some ⟨w.heap.size + 1, 0, none⟩), z6, z7, z8, .pointer (some ⟨w.heap.size + 1 + 1, 0, none⟩), .pointer (some ⟨xb, 0, none⟩), z11, z12, z13, z14, z15, z16, z17, z18, z19, z20, z21, z22, z23, z24, z25, z26, z27, z28, z29, z30, z31, z32, z33, z34, z35], defers := [] })
    (fun i => i = w.heap.size + 2 ∨ i = w.heap.size + 1 ∨ i = g2) ?hK0 ?hI (fun _ _ _ _ _ h _ => h) ?hM ?hlt ⟨.slice none 0 0, fun i => by simp [Value.ownBlock], ⟨m1, m2⟩, m0, OwnN.nil_ _ _, hg4, by omega⟩ ?assign ?body ?done (fun _ _ _ _ _ _ _ h _ _ _ => h.elim)
  case e1 => rfl
  case e2 => exact enters_of Try.func109 (by kernel_rfl) rfl
  case e3 => exact fun x => rfl
  case hK0 =>
    rintro i hi hp
    rcases hp with h | h | h <;> (rcases hi with h' | h' | h' <;> omega)
  case hI =>
    rintro pre K X Y ⟨v, hk, ⟨h1, h2⟩, h3, h4, h5, h6⟩ ht
    have l1 := World.block_lt_of_cell? _ _ h1
    have l3 := World.block_lt_of_cell? _ _ h3
    simp only at l1 l3
    obtain ⟨e1, e2⟩ := ht.cells l1 (fun h => h ((hk _).2 (.inl rfl))) 0
    exact ⟨v, hk, ⟨e1.trans h1, e2.trans h2⟩, (ht.cells l3 (fun h => h ((hk _).2 (.inr (.inl rfl)))) 0).1.trans h3, Owns.turn h4 ht (fun g hg h => h ((hk g).2 (.inr (.inr (.inl hg))))), (ht.block g2 (by omega) (fun h => h ((hk _).2 (.inr (.inr (.inr rfl)))))).trans h5, Nat.le_trans h6 ht.size⟩
  case hM =>
    rintro pre x a K X Y ⟨xb, v, z0, z1, z2, z3, z4, z6, z7, z8, z11, z12, z13, z14, z15, z16, z17, z18, z19, z20, z21, z22, z23, z24, z25, z26, z27, z28, z29, z30, z31, z32, z33, z34, z35, hk, ⟨h1, h2⟩, h3, h4, ⟨h5, h6⟩, ⟨n1, n2, n3, n4, c0, c1, c2⟩, he⟩ ht
    have l1 := World.block_lt_of_cell? _ _ h1
    have l3 := World.block_lt_of_cell? _ _ h3
    have lx := World.block_lt_of_cell? _ _ c0
    simp only at l1 l3 lx
    obtain ⟨e1, e2⟩ := ht.cells l1 (fun h => h ((hk _).2 (.inl rfl))) 0
    have hs := fun o => (ht.cells lx (fun h => h ((hk _).2 (.inr (.inr (.inr (.inl rfl)))))) o).1
    exact ⟨xb, v, z0, z1, z2, z3, z4, z6, z7, z8, z11, z12, z13, z14, z15, z16, z17, z18, z19, z20, z21, z22, z23, z24, z25, z26, z27, z28, z29, z30, z31, z32, z33, z34, z35, hk, ⟨e1.trans h1, e2.trans h2⟩, (ht.cells l3 (fun h => h ((hk _).2 (.inr (.inl rfl)))) 0).1.trans h3, Owns.turn h4 ht (fun g hg h => h ((hk g).2 (.inr (.inr (.inl hg))))), ⟨(ht.block g2 (by omega) (fun h => h ((hk _).2 (.inr (.inr (.inr (.inr rfl))))))).trans h5, Nat.le_trans h6 ht.size⟩, ⟨n1, n2, n3, n4, (hs 0).trans c0, (hs 1).trans c1, (hs 2).trans c2⟩, he⟩
  case hlt =>
    rintro pre K X ⟨v, hk, ⟨h1, h2⟩, h3, h4, h5, h6⟩ i hi
    rcases (hk i).1 hi with rfl | rfl | h | rfl
    · exact World.block_lt_of_cell? _ _ h1
    · exact World.block_lt_of_cell? _ _ h3
    · exact (Owns.lt h4 i h).2
    · omega
  case assign =>
    rintro l pre ⟨x, y, z⟩ K X R ⟨v, hk, ⟨h1, h2⟩, h3, h4, h5, h6⟩ hpre hR
    have HKX := Lib.hid hk
    have HC1 := Lib.hid h1
    have HC2 := Lib.hid h2
    have HC3 := Lib.hid h3
    have HC4 := Lib.hid h4
    have HC5 := Lib.hid h5
    have HR := Lib.hid hR
    have l1 := World.block_lt_of_cell? _ _ h1
    simp only at l1
    clear hk h1 h2 h3 h4 h5 hpre hR m0 m1 m2 hfin hg4
    dsimp only [encP]
    gi_wp2_with fail
    have BN : Bl X (X.alloc (.cells #[.int .i64 x, .int .i64 y, .int .i64 z] 89)) := (by repeat' (first | exact Bl.refl _ | with_reducible assumption | with_reducible refine Bl.drew_ ?_ | with_reducible refine Bl.drewN_ ?_ _ | with_reducible refine Bl.alloc_ ?_ _ | with_reducible refine Bl.trans_ ?_ (by assumption) | with_reducible refine Bl.trans_ ?_ (And.left (by assumption))))
    have hx := bcell BN
    refine HR.out _ (fun i => i = w.heap.size + 2 ∨ i = w.heap.size + 1 ∨ v.ownBlock = some i ∨ i = X.heap.size ∨ i = g2) _ ⟨Turn.of_bl BN, fun i hi => ?_⟩ ⟨X.heap.size, v, _, _, _, _, _, _, _, _, _, _, _, _, _, _, _, _, _, _, _, _, _, _, _, _, _, _, _, _, _, _, _, _, _, fun i => Iff.rfl, ⟨(hx.1 _ _ l1).trans HC1.out, (hx.2 _ _ l1).trans HC2.out⟩, (hx.1 _ _ (by omega)).trans HC3.out, OwnN.bl HC4.out BN, ⟨((show Below X.heap.size X _ from BN).block g2 (by omega)).trans HC5.out, Nat.le_trans h6 BN.size⟩,
      ⟨by omega, by omega, fun h => by have := (Owns.lt HC4.out _ h).2; omega, by omega, by simp [go_sem], by simp [go_sem], by simp [go_sem]⟩, rfl⟩
    rcases hi with h | h | h | h | h
    · exact .inl ((HKX.out i).2 (.inl h))
    · exact .inl ((HKX.out i).2 (.inr (.inl h)))
    · exact .inl ((HKX.out i).2 (.inr (.inr (.inl h))))
    · exact .inr (by omega)
    · exact .inl ((HKX.out i).2 (.inr (.inr (.inr h))))
  case body =>
    rintro l pre ⟨x, y, z⟩ a₁ K X ⟨xb, v, z0, z1, z2, z3, z4, z6, z7, z8, z11, z12, z13, z14, z15, z16, z17, z18, z19, z20, z21, z22, z23, z24, z25, z26, z27, z28, z29, z30, z31, z32, z33, z34, z35, hk, ⟨h1, h2⟩, h3, h4, ⟨h5, h6⟩, ⟨n1, n2, n3, n4, e0, e1, e2⟩, rfl⟩ ⟨Z, hZ⟩
    have hp := passK_ids E F k (x, y, z) (by rw [hZ]; simp)
    obtain ⟨⟨p0, p1⟩, -⟩ := hp
    simp only at p0 p1 e0 e1 e2
    obtain ⟨u, rfl⟩ : ∃ u : Nat, x = u := ⟨x.toNat, by omega⟩
    have huk : u < k := by omega
    have huV : u < V.length := by have := HV.out; omega
    have hu0 : (0 : Int) ≤ (u : Int) := by omega
    have hu1 : (u : Int) < (kk : Int) := by have := HV.out; have := HKK.out; omega
    have cr : X.cell? ⟨g2, o2 + u, none⟩ = some (.int .i64 V[u]) := (World.cell?_of_block (a := ⟨g2, o2 + u, none⟩) (h5.trans HOB.out)).trans (CV.out u huV)
    have gV : V.getD ((u : Int).toNat) 0 = V[u] := by simp [huV]
    have YES := Lib.hid (fun (h : min y z ≤ V[u]) => selV_yes (V := V) (pre := pre) (x := ((u : Int), y, z)) (by rw [gV]; exact h))
    have NO := Lib.hid (fun (h : ¬ min y z ≤ V[u]) => selV_no (V := V) (pre := pre) (x := ((u : Int), y, z)) (by rw [gV]; exact h))
    have l1 := World.block_lt_of_cell? _ _ h1
    have l3 := World.block_lt_of_cell? _ _ h3
    have lx := World.block_lt_of_cell? _ _ e0
    simp only at l1 l3 lx
    have HKX := Lib.hid hk
    have OW := Lib.hid h4
    have H5 := Lib.hid h5
    have C1 := Lib.hid h1
    have C2 := Lib.hid h2
    have C3 := Lib.hid h3
    have hlen : (selV V pre).length ≤ 24 := by
      have h1 := selV_len V pre
      have h2 := passK_len_ E F k
      have h3 := congrArg List.length hZ
      simp only [List.length_append, List.length_cons] at h3
      omega
    clear gV
    generalize V[u] = r at *
    have HSX := Lib.hid (show ∀ wx, Bl X wx → wx.cell? ⟨w.heap.size + 1, 0, none⟩ = some (.slice (some ⟨g2, o2, none⟩) kk c2) ∧ wx.cell? ⟨xb, 0, none⟩ = some (.int .i64 (u : Int)) ∧ wx.cell? ⟨xb, 1, none⟩ = some (.int .i64 y) ∧ wx.cell? ⟨xb, 2, none⟩ = some (.int .i64 z) ∧ wx.cell? ⟨g2, o2 + u, none⟩ = some (.int .i64 r) from fun wx hb => by
      have h := (bcell hb).1
      exact ⟨(h _ _ l3).trans h3, (h _ _ lx).trans e0, (h _ _ lx).trans e1, (h _ _ lx).trans e2, (h _ _ (by omega)).trans cr⟩)
    clear hk hZ m0 m1 m2 hfin hg4 h1 h2 h3 h4 h5 e0 e1 e2 cr
    gi_wp2_with fail
    refine wpIn_region_heldF (S := fun wx => wx.cell? ⟨w.heap.size + 1, 0, none⟩ = some (.slice (some ⟨g2, o2, none⟩) kk c2) ∧ wx.cell? ⟨xb, 0, none⟩ = some (.int .i64 (u : Int)) ∧ wx.cell? ⟨xb, 1, none⟩ = some (.int .i64 y) ∧ wx.cell? ⟨xb, 2, none⟩ = some (.int .i64 z) ∧ wx.cell? ⟨g2, o2 + u, none⟩ = some (.int .i64 r)) (by kernel_rfl) ?_ (fun hHeld => ?_)
    · (exact HSX.out _ (by repeat' (first | exact Bl.refl _ | with_reducible assumption | with_reducible refine Bl.drew_ ?_ | with_reducible refine Bl.drewN_ ?_ _ | with_reducible refine Bl.alloc_ ?_ _ | with_reducible refine Bl.trans_ ?_ (by assumption) | with_reducible refine Bl.trans_ ?_ (And.left (by assumption)))))
    refine wpAnyHF_take (i := 0) (v := ?_) (by kernel_rfl) rfl (by kernel_rfl) (by kernel_rfl) (by kernel_rfl) (fun _ _ _ h => h) (Or.inl ⟨by kernel_rfl, ?_⟩) (fun _ => rfl) (by assumption) ?_
    rotate_left
    · (intro wx hSw; (try dsimp only at hSw); go_simp; try (with_reducible rfl))
    try simp only [Act.put, List.getElem_toArray, List.getElem_cons_succ, List.getElem_cons_zero, List.setIfInBounds_toArray, List.set_cons_zero, List.set_cons_succ]
    refine wpAnyHF_take (i := 2) (v := ?_) (by kernel_rfl) rfl (by kernel_rfl) (by kernel_rfl) (by kernel_rfl) (fun _ _ _ h => h) (Or.inl ⟨by kernel_rfl, ?_⟩) (fun _ => rfl) (by assumption) ?_
    rotate_left
    · (intro wx hSw; (try dsimp only at hSw); go_simp; try (with_reducible rfl))
    try simp only [Act.put, List.getElem_toArray, List.getElem_cons_succ, List.getElem_cons_zero, List.setIfInBounds_toArray, List.set_cons_zero, List.set_cons_succ]
    refine wpAnyHF_take (i := 3) (v := ?_) (by kernel_rfl) rfl (by kernel_rfl) (by kernel_rfl) (by kernel_rfl) (fun _ _ _ h => h) (Or.inl ⟨by kernel_rfl, ?_⟩) (fun _ => rfl) (by assumption) ?_
    rotate_left
    · (intro wx hSw; (try dsimp only at hSw); go_simp; try (with_reducible rfl))
    try simp only [Act.put, List.getElem_toArray, List.getElem_cons_succ, List.getElem_cons_zero, List.setIfInBounds_toArray, List.set_cons_zero, List.set_cons_succ]
    refine wpAnyHF_take (i := 4) (v := ?_) (by kernel_rfl) rfl (by kernel_rfl) (by kernel_rfl) (by kernel_rfl) (fun _ _ _ h => h) (Or.inl ⟨by kernel_rfl, ?_⟩) (fun _ => rfl) (by assumption) ?_
    rotate_left
    · (intro wx hSw; (try dsimp only at hSw); go_simp; try (with_reducible rfl))
    try simp only [Act.put, List.getElem_toArray, List.getElem_cons_succ, List.getElem_cons_zero, List.setIfInBounds_toArray, List.set_cons_zero, List.set_cons_succ]
    refine wpAnyHF_take (i := 5) (v := ?_) (by kernel_rfl) rfl (by kernel_rfl) (by kernel_rfl) (by kernel_rfl) (fun _ _ _ h => h) (Or.inl ⟨by kernel_rfl, ?_⟩) (fun _ => rfl) (by assumption) ?_
    rotate_left
    · (intro wx hSw; (try dsimp only at hSw); go_simp; try (with_reducible rfl))
    try simp only [Act.put, List.getElem_toArray, List.getElem_cons_succ, List.getElem_cons_zero, List.setIfInBounds_toArray, List.set_cons_zero, List.set_cons_succ]
    refine wpAnyHF_take (i := 6) (v := ?_) (by kernel_rfl) rfl (by kernel_rfl) (by kernel_rfl) (by kernel_rfl) (fun _ _ _ h => h) (Or.inl ⟨by kernel_rfl, ?_⟩) (fun _ => rfl) (by assumption) ?_
    rotate_left
    · (intro wx hSw; (try dsimp only at hSw); go_simp; try (with_reducible rfl))
    try simp only [Act.put, List.getElem_toArray, List.getElem_cons_succ, List.getElem_cons_zero, List.setIfInBounds_toArray, List.set_cons_zero, List.set_cons_succ]
    refine wpAnyHF_ready (rs := [1]) (by kernel_rfl) (by simp) ?_
    refine AllReadyHF.cons rfl (fun K hK => ?_) AllReadyHF.nil
    go_simp
    (refine ⟨by first | trivial | exact fun _ _ => trivial, by first | rfl | (intro h; simp [Fence.wide] at h), CallsIn.inRound _ (CallsIn.mono (callsIn_wide.2 (lesser_any _ _ _ _)) ?_)⟩; rintro e w7 ⟨rfl, hb7⟩)
    try (gi_wp2_with fail)
    refine hK.out _ _ ?_ (fun hHeld => ?_)
    · (exact HSX.out _ (by repeat' (first | exact Bl.refl _ | with_reducible assumption | with_reducible refine Bl.drew_ ?_ | with_reducible refine Bl.drewN_ ?_ _ | with_reducible refine Bl.alloc_ ?_ _ | with_reducible refine Bl.trans_ ?_ (by assumption) | with_reducible refine Bl.trans_ ?_ (And.left (by assumption)))))
    clear hK K
    try simp only [Act.put, List.getElem_toArray, List.getElem_cons_succ, List.getElem_cons_zero, List.setIfInBounds_toArray, List.set_cons_zero, List.set_cons_succ]
    refine wpAnyHF_take (i := 7) (v := ?_) (by kernel_rfl) rfl (by kernel_rfl) (by kernel_rfl) (by kernel_rfl) (fun _ _ _ h => h) (Or.inl ⟨by kernel_rfl, ?_⟩) (fun _ => rfl) (by assumption) ?_
    rotate_left
    · (intro wx hSw; (try dsimp only at hSw); go_simp; try (with_reducible rfl))
    try simp only [Act.put, List.getElem_toArray, List.getElem_cons_succ, List.getElem_cons_zero, List.setIfInBounds_toArray, List.set_cons_zero, List.set_cons_succ]
    refine wpAnyHF_done (by kernel_rfl) ?_ _
    clear hHeld
    have B7 := Lib.hid (show Bl X w7 from (by repeat' (first | exact Bl.refl _ | with_reducible assumption | with_reducible refine Bl.drew_ ?_ | with_reducible refine Bl.drewN_ ?_ _ | with_reducible refine Bl.alloc_ ?_ _ | with_reducible refine Bl.trans_ ?_ (by assumption) | with_reducible refine Bl.trans_ ?_ (And.left (by assumption)))))
    have hx7 := bcell B7.out
    have O7 := Lib.hid (OW.out.bl B7.out)
    have h1 := (hx7.1 _ _ l1).trans C1.out
    have h2 := (hx7.2 _ _ l1).trans C2.out
    have h3 := (hx7.1 _ _ l3).trans C3.out
    have e0 := (HSX.out w7 B7.out).2.1
    have s7 := B7.out.size
    have H7 := Lib.hid (((show Below X.heap.size X _ from B7.out).block g2 (by omega)).trans H5.out)
    clear hx7 hb7
    by_cases hle : min y z ≤ r
    · have b1 : decide (min y z ≤ r) = true := by simpa using hle
      have SY := Lib.hid (YES.out hle)
      clear YES NO
      gi_wp2_with (refine wpListIn_append_any _ rfl (.tmp 30) (.tmp 33) 32 rfl (w.heap.size + 3) 2 i0 _ 1 8 Try.underlying32 I0.out I1.out I2.out I3.out rfl (by decide) v (selV V pre).length (csI (selV V pre)) rfl (World.ownsRow.alloc O7.out _) (w7.heap.size + 1) (some ⟨w7.heap.size, 0, none⟩) 1 1 [.int .i64 (u : Int)] rfl ?c0 (by simp [Value.oneCell']) ?c3 ?c4 ?c5 ?_)
      case c0 =>
        refine ⟨rfl, fun _ => ⟨_, rfl, by show w7.heap.size < w7.heap.size + 1; omega, fun j u hj => ?_⟩⟩
        match j, hj with
        | 0, hj => simp at hj; subst hj; simp [Addr.add, go_sem]
        | (j + 1), hj => simp at hj
      case c3 => unfold maxLen; omega
      case c4 => omega
      case c5 => first | omega | (simp; omega)
      intro v' w8 hown' hgrow hwh
      have O8 := Lib.hid (OwnN.snoc (V := selV V pre) (x := (u : Int)) (n := (selV V pre).length) rfl (by simpa using hown'))
      rw [← show selV V (pre ++ [((u : Int), y, z)]) = selV V pre ++ [(u : Int)] from SY.out] at O8
      have hvb : v.ownBlock ≠ some (w.heap.size + 2) := fun h => by have := (Owns.lt OW.out _ h).1; omega
      have hmb : v.ownBlock ≠ some (w.heap.size + 1) := fun h => by have := (Owns.lt OW.out _ h).1; omega
      have hgb : v.ownBlock ≠ some g2 := fun h => by have := (Owns.lt OW.out _ h).1; omega
      have hb7 := hgrow.block (w.heap.size + 2) (by simp; omega) (fun h => hvb h.symm)
      have BA : Bl w7 (w7.alloc (.cells #[.int .i64 (u : Int)] 2)) := Bl.alloc_ (Bl.refl _) _
      have hc7 := (bcell BA)
      have r1 : w8.cell? ⟨w.heap.size + 2, 0, none⟩ = some v := (World.cell?_of_block (a := ⟨w.heap.size + 2, 0, none⟩) hb7).trans ((hc7.1 _ _ (by omega)).trans h1)
      have r2 : w8.frozen? ⟨w.heap.size + 2, 0, none⟩ = false := (World.frozen?_of_block (a := ⟨w.heap.size + 2, 0, none⟩) hb7).trans ((hc7.2 _ _ (by omega)).trans h2)
      have r3 := (World.cell?_of_block (a := ⟨w.heap.size + 1, 0, none⟩) (hgrow.block (w.heap.size + 1) (by simp; omega) (fun h => hmb h.symm))).trans ((hc7.1 _ _ (by omega)).trans h3)
      have r5 := Lib.hid ((hgrow.block g2 (by simp; omega) (fun h => hgb h.symm)).trans (((show Below w7.heap.size w7 _ from BA).block g2 (by omega)).trans H7.out))
      have hv'b : ∀ g, v'.ownBlock = some g → g ≠ w.heap.size + 2 := fun g hg e => by have := (Owns.lt O8.out g hg).1; omega
      have GR := Lib.hid hgrow
      have WH := Lib.hid hwh
      have s8 := hgrow.size
      obtain ⟨A9, c9, hv9, -⟩ := OwnN.shape O8.out
      obtain ⟨z9, hz9⟩ : ∃ z9, z9 = (selV V (pre ++ [((u : Int), y, z)])).length := ⟨_, rfl⟩
      rw [← hz9] at hv9
      subst hv9
      clear hown' hgrow hwh hb7 hc7 hz9 BA
      simp at s8
      gi_wp2_with fail
      refine ⟨fun i => i = w.heap.size + 2 ∨ i = w.heap.size + 1 ∨ (Value.slice A9 z9 c9).ownBlock = some i ∨ i = g2, ⟨?_, fun i hi => ?_⟩, .slice A9 z9 c9, fun i => Iff.rfl, ⟨?_, ?_⟩, ?_, ?_, ?_, ?_⟩
      · refine Turn.set (p := ⟨w.heap.size + 2, 0, none⟩) ((Turn.of_bl (S := K) (show Bl X (w7.alloc (.cells #[.int .i64 (u : Int)] 2)) from B7.out.alloc_ _)).trans (Turn.of_grown (S := fun i => v.ownBlock = some i) GR.out (fun i e => e)) (fun i _ e => (HKX.out i).2 (.inr (.inr (.inl e))))) (.inl ((HKX.out _).2 (.inl rfl))) _
      · rcases hi with h | h | h | h
        · exact .inl ((HKX.out i).2 (.inl h))
        · exact .inl ((HKX.out i).2 (.inr (.inl h)))
        · rcases WH.out with e | e
          · exact .inl ((HKX.out i).2 (.inr (.inr (.inl (by rw [← e]; exact h)))))
          · rw [e] at h
            injection h with h
            first
              | exact .inr (by omega)
              | (simp at h; exact .inr (by omega))
        · exact .inl ((HKX.out i).2 (.inr (.inr (.inr (.inr h)))))
      · exact World.cell?_setCell_same' _ _ _ (by rw [r1]; rfl)
      · rw [World.frozen?_setCell]; exact r2
      · rw [World.cell?_setCell_other _ _ _ _ (by intro e; injection e with e; omega)]; exact r3
      · exact Owns.setOther O8.out (fun g hg => hv'b g hg) _
      · exact (Below.heap_setCell w8 ⟨w.heap.size + 2, 0, none⟩ _ g2 (by show g2 ≠ w.heap.size + 2; omega)).trans r5.out
      · simp; omega
    · have b1 : decide (min y z ≤ r) = false := by simpa using hle
      have SN := Lib.hid (NO.out (by omega))
      clear YES NO
      gi_wp2_with fail
      exact ⟨fun i => i = w.heap.size + 2 ∨ i = w.heap.size + 1 ∨ v.ownBlock = some i ∨ i = g2, ⟨Turn.of_bl B7.out, fun i hi => .inl ((HKX.out i).2 (by rcases hi with h | h | h | h; exact .inl h; exact .inr (.inl h); exact .inr (.inr (.inl h)); exact .inr (.inr (.inr (.inr h)))))⟩, v, fun i => Iff.rfl, ⟨h1, h2⟩, h3, by rw [SN.out]; exact O7.out, H7.out, by omega⟩
  case done =>
    rintro D xs K X hD rfl ⟨v, hk, ⟨h1, h2⟩, h3, h4, h5, h6⟩ hT hKD hdef
    have HKX := Lib.hid hk
    have OW := Lib.hid h4
    have HT := Lib.hid (show Turn (fun i => i = w.heap.size + 2 ∨ i = w.heap.size + 1) w_4 X from ⟨hT.os, hT.tape, hT.output, hT.size, fun i hi hn => by
      by_cases e : i = g2
      · subst e
        exact h5.trans hg4.symm
      · exact hT.block i hi (fun h => by rcases h with h | h | h; exact hn (.inl h); exact hn (.inr h); exact e h)⟩)
    have HD := Lib.hid hdef
    have HKD := Lib.hid hKD
    clear hk h2 h3 h4 h5 hT hKD hdef m0 m1 m2 hfin hg4
    gi_wp2_with fail
    refine ⟨by simp, .inl ⟨_, _, rfl, run_takeDeferred HD.out, ?_⟩⟩
    refine ⟨v, by simp [results, Try.results70, go_sem], v, rfl, ?_, ?_⟩
    · have hput := Owns.turn OW.out (turn_put (fun i => i = D) X (.deferred none) rfl) (fun g hg e => HKD.out (by rw [← e]; exact (HKX.out g).2 (.inr (.inr (.inl hg)))))
      have hsel : selV V (passK E F k) = leftK (distL k L s) (distL k (revL L) t) V k := by
        rw [selV_all]
        refine leftK_same (fun v h0 h1 => ?_) (fun v h0 h1 => ?_)
        · rw [← DTK.out E v EL.out h0 h1, DE.out]
        · rw [← DTK.out F v FL.out h0 h1, DF.out]
      rw [← hsel]
      exact Owns.low hput (by omega)
    · exact Turn.to_bl (Turn.to_bl (HBW.out.trans_ B4.out) HT.out (fun i hi => by rcases hi with h | h <;> omega)) (turn_put (fun i => i = D) X (.deferred none) rfl) (fun i hi => by rw [hi]; omega)

end Go.Proofs.Ytjmooakjdcepcaa

set_option linter.unusedSimpArgs false
set_option linter.unusedVariables false
namespace Go.Proofs.Ytjmooakjdcepcaa
open Go.RowKit

theorem askB_has {N s t : Int} {L : List Arc3} {V : List Int} (h : has2 N L s t = false) : askB N L V s t = false := by
  cases e : askB N L V s t with
  | false => rfl
  | true =>
    obtain ⟨h1, h2, h3⟩ := askB_elim e
    have := (reachB_ok h1).1
    unfold has2 at h
    rw [this, Bool.true_and, decide_eq_false_iff_not] at h
    exact absurd ⟨h2, h3⟩ h
theorem askB_of_has {N s t : Int} {L : List Arc3} {V : List Int} (h : has2 N L s t = true) : askB N L V s t = reachB N L V := by
  obtain ⟨h1, h2, h3⟩ := has2_of h
  unfold askB
  rw [show decide (0 ≤ s ∧ s < N) = true from by simpa using h2, show decide (0 ≤ t ∧ t < N) = true from by simpa using h3]
  simp

set_option maxRecDepth 100000 in
set_option maxHeartbeats 1000000 in
theorem reachAsked_any (N s t : Int) (A : Option Addr) (n c : Nat) (L : List Arc3) (hn : n = L.length) (hc : n ≤ c) (A2 : Option Addr) (k c2 : Nat) (V : List Int) (hk : k = V.length) (w : World) (hm : n ≤ 1048576) (hkm : k ≤ 1048576) (H1 : ArcsAt w w.heap.size A L) (H2 : IntsAt w w.heap.size A2 V) :
    Calls Try.prog 68 #[.agg #[.int .i64 N, .slice A n c], .slice A2 k c2, .int .i64 s, .int .i64 t] w fun e w' => e = .returned (.bool (askB N L V s t)) ∧ Bl w w' := by
  have K1 := Lib.hid H1
  have K2 := Lib.hid H2
  have HN := Lib.hid hn
  have HK := Lib.hid hk
  clear H1 H2 hn hk
  cases hh : has2 N L s t with
  | false =>
    have HH := Lib.hid hh
    have HA := Lib.hid (askB_has (V := V) hh)
    clear hh
    go_enter Try.func68, Try.ntmps68
    go_wp2_with fail
    refine (hasNodes_2 N s t A n c L HN.out (w.heap.size + 1) 2 _ (by omega) (K1.out.bl (by repeat' (first | exact Bl.refl _ | with_reducible assumption | with_reducible refine Bl.drew_ ?_ | with_reducible refine Bl.drewN_ ?_ _ | with_reducible refine Bl.alloc_ ?_ _ | with_reducible refine Bl.trans_ ?_ (by assumption) | with_reducible refine Bl.trans_ ?_ (And.left (by assumption))))) (by simp) (by simp [go_sem]) (by simp [go_sem])).mono ?_
    rintro e w1 ⟨rfl, hb1⟩
    rw [HH.out]
    go_wp2
    go_ret
    exact ⟨ret_boolw HA.out.symm, (by repeat' (first | exact Bl.refl _ | with_reducible assumption | with_reducible refine Bl.drew_ ?_ | with_reducible refine Bl.drewN_ ?_ _ | with_reducible refine Bl.alloc_ ?_ _ | with_reducible refine Bl.trans_ ?_ (by assumption) | with_reducible refine Bl.trans_ ?_ (And.left (by assumption))))⟩
  | true =>
    have HH := Lib.hid hh
    have HA := Lib.hid (askB_of_has (V := V) hh)
    clear hh
    go_enter Try.func68, Try.ntmps68
    go_wp2_with fail
    refine (hasNodes_2 N s t A n c L HN.out (w.heap.size + 1) 2 _ (by omega) (K1.out.bl (by repeat' (first | exact Bl.refl _ | with_reducible assumption | with_reducible refine Bl.drew_ ?_ | with_reducible refine Bl.drewN_ ?_ _ | with_reducible refine Bl.alloc_ ?_ _ | with_reducible refine Bl.trans_ ?_ (by assumption) | with_reducible refine Bl.trans_ ?_ (And.left (by assumption))))) (by simp) (by simp [go_sem]) (by simp [go_sem])).mono ?_
    rintro e w1 ⟨rfl, hb1⟩
    rw [HH.out]
    obtain ⟨q0, q1⟩ := box2 ((Bl.alloc_ (Bl.refl _) _).trans_ hb1)
    go_wp2_with fail
    refine (implReachOk_any N A n c L HN.out A2 k c2 V HK.out hc _ hm hkm (K1.out.bl (by repeat' (first | exact Bl.refl _ | with_reducible assumption | with_reducible refine Bl.drew_ ?_ | with_reducible refine Bl.drewN_ ?_ _ | with_reducible refine Bl.alloc_ ?_ _ | with_reducible refine Bl.trans_ ?_ (by assumption) | with_reducible refine Bl.trans_ ?_ (And.left (by assumption))))) (K2.out.bl (by repeat' (first | exact Bl.refl _ | with_reducible assumption | with_reducible refine Bl.drew_ ?_ | with_reducible refine Bl.drewN_ ?_ _ | with_reducible refine Bl.alloc_ ?_ _ | with_reducible refine Bl.trans_ ?_ (by assumption) | with_reducible refine Bl.trans_ ?_ (And.left (by assumption)))))).mono ?_
    rintro e w2 ⟨rfl, hb2⟩
    go_wp2
    go_ret
    exact ⟨ret_boolw HA.out.symm, (by repeat' (first | exact Bl.refl _ | with_reducible assumption | with_reducible refine Bl.drew_ ?_ | with_reducible refine Bl.drewN_ ?_ _ | with_reducible refine Bl.alloc_ ?_ _ | with_reducible refine Bl.trans_ ?_ (by assumption) | with_reducible refine Bl.trans_ ?_ (And.left (by assumption))))⟩

-- (implPruned_any left out)

end Go.Proofs.Ytjmooakjdcepcaa

set_option linter.unusedSimpArgs false
set_option linter.unusedVariables false
namespace Go.Proofs.Ytjmooakjdcepcaa
open Go.RowKit

set_option maxRecDepth 100000 in
set_option maxHeartbeats 1000000 in
theorem indexI_any (A : Option Addr) (n c : Nat) (V : List Int) (hn : n = V.length) (x : Int) (w : World) (hm : n ≤ 1048576) (H1 : IntsAt w w.heap.size A V) :
    Calls Try.prog 108 #[.slice A n c, .int .i64 x] w fun e w' => ∃ r : Int, e = .returned (.int .i64 r) ∧ (0 ≤ r ↔ x ∈ V) ∧ Bl w w' := by
  have K1 := Lib.hid H1
  have HN := Lib.hid hn
  clear H1 hn
  go_enter Try.func108, Try.ntmps108
  go_wp2_with fail
  go_loopw [8] (fun i wr => ∃ k : Nat, k ≤ n ∧ i = .int .i64 k ∧ Bl w wr ∧ x ∉ V.take k) (fun i _ => n - (intOf i).toNat)
  case atStart => exact ⟨0, by omega, rfl, Bl.refl _, by simp⟩
  case round =>
    obtain ⟨k, hk, rfl, hbl, hno⟩ := hrel
    have NO := Lib.hid hno
    clear hno
    by_cases hlt : k < n
    · have hkl : k < V.length := by have := HN.out; omega
      obtain ⟨g1, o1, rfl, hg1, hc1⟩ := K1.out.cell (by omega)
      have p1 := ((bcell hbl).1 _ _ hg1).trans (hc1 k hkl)
      have MEM := Lib.hid (List.getElem_mem hkl)
      have TK := Lib.hid (List.take_succ_eq_append_getElem hkl)
      have i0 : (0 : Int) ≤ (k : Int) := by omega
      have i1 : (k : Int) < (n : Int) := by omega
      clear hc1
      generalize V[k] = y at *
      by_cases hxy : x = y
      · subst hxy
        go_wp2
        go_ret
        exact ⟨_, rfl, ⟨fun _ => MEM.out, fun _ => by omega⟩, hbl⟩
      · have hb : (x == y) = false := by simpa using hxy
        have NX := Lib.hid (show x ∉ V.take (k + 1) from by
          rw [TK.out, List.mem_append]
          rintro (h | h)
          · exact NO.out h
          · exact hxy (by simpa using h))
        go_wp2
        go_roundw
        case rel => exact ⟨k + 1, by omega, by go_num, hbl, NX.out⟩
        case measure => simp [intOf]; omega
    · have NX := Lib.hid (show x ∉ V from by
        have := NO.out
        rwa [List.take_of_length_le (by have := HN.out; omega)] at this)
      go_wp2
      go_ret
      exact ⟨-1, rfl, ⟨fun h => by omega, fun h => absurd h NX.out⟩, hbl⟩

set_option maxRecDepth 100000 in
set_option maxHeartbeats 1000000 in
theorem contains_any (A : Option Addr) (n c : Nat) (V : List Int) (hn : n = V.length) (x : Int) (w : World) (hm : n ≤ 1048576) (H1 : IntsAt w w.heap.size A V) :
    Calls Try.prog 92 #[.slice A n c, .int .i64 x] w fun e w' => e = .returned (.bool (decide (x ∈ V))) ∧ Bl w w' := by
  have K1 := Lib.hid H1
  have HN := Lib.hid hn
  have HM := Lib.hid hm
  clear H1 hn hm
  go_enter Try.func92, Try.ntmps92
  go_wp2_with fail
  refine (indexI_any A n c V HN.out x _ HM.out K1.out).mono ?_
  rintro e w1 ⟨r, rfl, hr, hb⟩
  have HB := Lib.hid hb
  have HR := Lib.hid hr
  clear hr hb
  by_cases h0 : 0 ≤ r
  · have hd : decide (0 ≤ r) = true := by simpa using h0
    have HX := Lib.hid (decide_eq_true (HR.out.1 h0))
    go_wp2
    go_ret
    exact ⟨ret_boolw HX.out.symm, HB.out⟩
  · have hd : decide (0 ≤ r) = false := by simpa using h0
    have HX := Lib.hid (decide_eq_false (fun h => h0 (HR.out.2 h)))
    go_wp2
    go_ret
    exact ⟨ret_boolw HX.out.symm, HB.out⟩

/-- The first k arcs that lead from one of these nodes to another one. -/
def amongK (P : List Int) (L : List Arc3) (k : Nat) : List Arc3 := (L.take k).filter (keepB P)
theorem amongK_yes {P : List Int} {L : List Arc3} {k : Nat} (h : k < L.length) (hk : keepB P L[k] = true) : amongK P L (k + 1) = amongK P L k ++ [L[k]] := by
  unfold amongK
  rw [List.take_succ_eq_append_getElem h, List.filter_append, List.filter_cons_of_pos hk]
  rfl
theorem amongK_no {P : List Int} {L : List Arc3} {k : Nat} (h : k < L.length) (hk : keepB P L[k] = false) : amongK P L (k + 1) = amongK P L k := by
  unfold amongK
  rw [List.take_succ_eq_append_getElem h, List.filter_append, List.filter_cons_of_neg (by rw [hk]; simp)]
  simp
theorem amongK_all (P : List Int) (L : List Arc3) : amongK P L L.length = amongL P L := by
  unfold amongK amongL
  rw [List.take_length]
theorem amongK_len (P : List Int) (L : List Arc3) (k : Nat) : (amongK P L k).length ≤ k := by
  unfold amongK
  exact Nat.le_trans (List.length_filter_le _ _) (List.length_take_le _ _)

set_option maxRecDepth 100000 in
set_option maxHeartbeats 4000000 in
theorem among_any (N : Int) (A : Option Addr) (n c : Nat) (L : List Arc3) (hn : n = L.length) (A2 : Option Addr) (kk c2 : Nat) (P : List Int) (hk : kk = P.length) (w : World) (hm : n ≤ 1048576) (hkm : kk ≤ 1048576) (H1 : ArcsAt w w.heap.size A L) (H2 : IntsAt w w.heap.size A2 P) :
    Calls Try.prog 69 #[.agg #[.int .i64 N, .slice A n c], .slice A2 kk c2] w (GraphMade1 N (amongL P L) w) := by
  obtain ⟨i0, hi, hz0, hz1, hz2⟩ := info_parts infoArc
  have I0 := Lib.hid hi
  have I1 := Lib.hid hz0
  have I2 := Lib.hid hz1
  have I3 := Lib.hid hz2
  have K1 := Lib.hid H1
  have K2 := Lib.hid H2
  have HN := Lib.hid hn
  have HK := Lib.hid hk
  clear H1 H2 hn hk hi hz0 hz1 hz2
  go_enter Try.func69, Try.ntmps69
  have T0 := Lib.hid (show TS w (.cells #[.int .i64 N, .slice A n c] 26) (w.heap.size + 1) (w.heap.size + 1 + 1) N (.slice none 0 0) [] (((w.alloc (.cells #[.int .i64 N, .slice A n c] 26)).alloc (.cells #[.int .i64 0, .slice none 0 0] 26)).alloc (.cells #[.int .i64 N, .slice none 0 0] 26)) from by
    refine ⟨?_, ?_, OwnA.nil_ _ _, ?_, by omega, by omega⟩
    · have := Two.new ((w.alloc (.cells #[.int .i64 N, .slice A n c] 26)).alloc (.cells #[.int .i64 0, .slice none 0 0] 26)) (.int .i64 N) (.slice none 0 0)
      simpa only [World.size_alloc] using this
    · have := (Two.new (w.alloc (.cells #[.int .i64 N, .slice A n c] 26)) (.int .i64 0) (.slice none 0 0)).bl (Bl.alloc_ (Bl.refl _) (.cells #[.int .i64 N, .slice none 0 0] 26))
      simpa only [World.size_alloc] using this
    · exact ((Bl.refl _).alloc_ _).alloc_ _)
  obtain ⟨y0, y1⟩ := box2 T0.out.bl
  go_wp2_with fail
  clear y0 y1
  go_loopw [14] (fun i wr => ∃ (k : Nat) (q : Value), k ≤ n ∧ i = .int .i64 k ∧ TS w (.cells #[.int .i64 N, .slice A n c] 26) (w.heap.size + 1) (w.heap.size + 1 + 1) N q (amongK P L k) wr) (fun i _ => n - (intOf i).toNat)
  case atStart => exact ⟨0, _, by omega, rfl, T0.out⟩
  case round =>
    obtain ⟨k, q, hk, rfl, hT⟩ := hrel
    obtain ⟨AQ, cq, rfl, hAQ, -⟩ := hT.own.shape
    have T := Lib.hid hT
    have hbw : Bl w wr := (Bl.alloc_ (Bl.refl w) _).trans_ hT.bl
    have HB := Lib.hid hbw
    have hlt' := World.rowIs.lt hT.box
    clear hT hAQ T0
    by_cases hlt : k < n
    · have hkl : k < L.length := by have := HN.out; omega
      obtain ⟨g1, o1, rfl, hg1, hc1⟩ := K1.out (by omega)
      obtain ⟨p1, p2, p3⟩ := hc1 k hkl
      clear hc1
      rw [← (bcell hbw).1 _ _ hg1] at p1 p2 p3
      have YES := Lib.hid (fun h => amongK_yes (P := P) hkl h)
      have NO := Lib.hid (fun h => amongK_no (P := P) hkl h)
      have KB := Lib.hid (show keepB P L[k] = (decide (L[k].1 ∈ P) && decide (L[k].2.1 ∈ P)) from rfl)
      have hlen := amongK_len P L k
      obtain ⟨a, ha⟩ : ∃ a, a = L[k] := ⟨_, rfl⟩
      rw [← ha] at p1 p2 p3 YES NO KB
      obtain ⟨x, y, z⟩ := a
      simp only at p1 p2 p3 KB
      clear ha hbw
      obtain ⟨l, hl⟩ : ∃ l, l = (amongK P L k).length := ⟨_, rfl⟩
      rw [← hl] at hlen T
      have HL := Lib.hid hl
      clear hl
      have u1 : (0 : Int) ≤ (k : Int) := by omega
      have u2 : (k : Int) < (n : Int) := by omega
      have BA := Lib.hid (show Bl wr (wr.alloc (.cells #[.int .i64 x, .int .i64 y, .int .i64 z] 63)) from (by repeat' (first | exact Bl.refl _ | with_reducible assumption | with_reducible refine Bl.drew_ ?_ | with_reducible refine Bl.drewN_ ?_ _ | with_reducible refine Bl.alloc_ ?_ _ | with_reducible refine Bl.trans_ ?_ (by assumption) | with_reducible refine Bl.trans_ ?_ (And.left (by assumption)))))
      go_wp2_with fail
      refine (contains_any A2 kk c2 P HK.out x _ hkm (K2.out.bl (HB.out.trans_ BA.out))).mono ?_
      rintro e w5 ⟨rfl, hb5⟩
      have h5 := (bcell hb5).1
      have r0 : w5.cell? ⟨wr.heap.size, 0, none⟩ = some (.int .i64 x) := (h5 _ _ (by simp)).trans (by simp [go_sem])
      have r1 : w5.cell? ⟨wr.heap.size, 1, none⟩ = some (.int .i64 y) := (h5 _ _ (by simp)).trans (by simp [go_sem])
      have r2 : w5.cell? ⟨wr.heap.size, 2, none⟩ = some (.int .i64 z) := (h5 _ _ (by simp)).trans (by simp [go_sem])
      have s5 : wr.heap.size < w5.heap.size := by have := hb5.size; simp at this; omega
      have B5 := Lib.hid (BA.out.trans_ hb5)
      clear h5 hb5 p1 p2 p3
      by_cases m1 : x ∈ P
      · rw [show decide (x ∈ P) = true from decide_eq_true m1] at KB ⊢
        go_wp2_with fail
        refine (contains_any A2 kk c2 P HK.out y _ hkm (K2.out.bl (HB.out.trans_ B5.out))).mono ?_
        rintro e w6 ⟨rfl, hb6⟩
        have h6 := (bcell hb6).1
        have r0 : w6.cell? ⟨wr.heap.size, 0, none⟩ = some (.int .i64 x) := (h6 _ _ s5).trans r0
        have r1 : w6.cell? ⟨wr.heap.size, 1, none⟩ = some (.int .i64 y) := (h6 _ _ s5).trans r1
        have r2 : w6.cell? ⟨wr.heap.size, 2, none⟩ = some (.int .i64 z) := (h6 _ _ s5).trans r2
        have B6 := Lib.hid (B5.out.trans_ hb6)
        clear h6 hb6
        have T6 := Lib.hid (T.out.bl_ B6.out)
        by_cases m2 : y ∈ P
        · rw [show decide (y ∈ P) = true from decide_eq_true m2] at KB ⊢
          have HY := Lib.hid (YES.out KB.out)
          clear YES NO
          obtain ⟨c0, c1, f0, f1⟩ := T6.out.box.facts
          have T2 := Lib.hid (T6.out.bl_ (show Bl w6 (w6.alloc (.cells #[.int .i64 x, .int .i64 y, .int .i64 z] 63)) from (by repeat' (first | exact Bl.refl _ | with_reducible assumption | with_reducible refine Bl.drew_ ?_ | with_reducible refine Bl.drewN_ ?_ _ | with_reducible refine Bl.alloc_ ?_ _ | with_reducible refine Bl.trans_ ?_ (by assumption) | with_reducible refine Bl.trans_ ?_ (And.left (by assumption))))))
          have s6 := T6.out.bl.size
          simp only [World.size_alloc] at s6
          go_wp2_with (at_builtin; refine wpList_append_own _ rfl (.tmp 29) (.tmp 31) _ rfl ((w.heap.size + 1 + 1) + 1) 63 i0 _ 3 24 Try.underlying24 I0.out I1.out I2.out I3.out rfl (by decide) _ l (cs3 (amongK P L k)) rfl ?c0 ⟨w6.heap.size, 0, none⟩ 1 1 [.int .i64 x, .int .i64 y, .int .i64 z] rfl rfl (new3 _ _ _ _ _) (one3 _ _ _) ?c3 ?c4 ?c5 ?_)
          case c0 => have := T2.out.own; rw [HL.out] at this ⊢; exact this
          case c3 => unfold maxLen; omega
          case c4 => omega
          case c5 => have := World.rowIs.lt T6.out.box; simp; omega
          intro v2 w2 hown2 hg2 _
          have O2 := Lib.hid (show OwnA w2 ((w.heap.size + 1 + 1) + 1) v2 (amongK P L (k + 1)) from by
            rw [HY.out]
            exact own_snoc (a := (x, y, z)) (by rw [← HL.out]; exact hown2))
          have G2 := Lib.hid hg2
          clear hown2 hg2
          have U := Lib.hid (T2.out.app G2.out O2.out)
          obtain ⟨b0, -, -⟩ := T2.out.grown_ G2.out O2.out
          obtain ⟨A3, c3, rfl, -, -⟩ := O2.out.shape
          obtain ⟨d0, d1, k0, k1⟩ := b0.facts
          clear b0 c0 c1 f0 f1
          go_wp2
          go_roundw
          case rel => exact ⟨k + 1, _, by omega, by go_num, U.out⟩
          case measure => simp [intOf]; omega
        · rw [show decide (y ∈ P) = false from decide_eq_false m2] at KB ⊢
          have HY := Lib.hid (NO.out KB.out)
          clear YES NO
          go_wp2
          go_roundw
          case rel => exact ⟨k + 1, _, by omega, by go_num, by rw [HY.out]; exact T6.out⟩
          case measure => simp [intOf]; omega
      · rw [show decide (x ∈ P) = false from decide_eq_false m1] at KB ⊢
        have HY := Lib.hid (NO.out KB.out)
        have T5 := Lib.hid (T.out.bl_ B5.out)
        clear YES NO
        go_wp2
        go_roundw
        case rel => exact ⟨k + 1, _, by omega, by go_num, by rw [HY.out]; exact T5.out⟩
        case measure => simp [intOf]; omega
    · obtain rfl : k = n := by omega
      have TA := Lib.hid (show amongK P L k = amongL P L from by rw [HN.out]; exact amongK_all P L)
      obtain ⟨c0, c1, f0, f1⟩ := T.out.box.facts
      obtain ⟨r0, r1, fr0, fr1⟩ := T.out.res.facts
      go_wp2
      refine bodyPost_ret (v := .agg #[.int .i64 N, .slice AQ (amongK P L k).length cq]) (by simp [results, Try.results69, go_sem, r0, r1, fr0, fr1]) rfl ?_
      have := T.out.fin (.int .i64 N) (.slice AQ (amongK P L k).length cq)
      exact ⟨_, rfl, by rw [← TA.out]; exact this.1, this.2⟩

set_option maxRecDepth 100000 in
set_option maxHeartbeats 1000000 in
theorem implQueryReach_any (N s t : Int) (A : Option Addr) (n c : Nat) (L : List Arc3) (hn : n = L.length) (A2 : Option Addr) (k c2 : Nat) (V : List Int) (hk : k = V.length) (hc : n ≤ c) (w : World) (hm : n ≤ 1048576) (hkm : k ≤ 1048576) (H1 : ArcsAt w w.heap.size A L) (H2 : IntsAt w w.heap.size A2 V) :
    Calls Try.prog 36 #[.agg #[.int .i64 N, .slice A n c], .slice A2 k c2, .int .i64 s, .int .i64 t] w fun e w' => e = .returned (.int .i64 (qreachI N L V s t)) ∧ Bl w w' := by
  have K1 := Lib.hid H1
  have K2 := Lib.hid H2
  have HN := Lib.hid hn
  have HK := Lib.hid hk
  clear H1 H2 hn hk
  cases hh : askB N L V s t with
  | false =>
    have HH := Lib.hid hh
    have HA := Lib.hid (qreachI_no hh)
    clear hh
    go_enter Try.func36, Try.ntmps36
    go_wp2_with fail
    refine (reachAsked_any N s t A n c L HN.out hc A2 k c2 V HK.out _ hm hkm (K1.out.bl (by repeat' (first | exact Bl.refl _ | with_reducible assumption | with_reducible refine Bl.drew_ ?_ | with_reducible refine Bl.drewN_ ?_ _ | with_reducible refine Bl.alloc_ ?_ _ | with_reducible refine Bl.trans_ ?_ (by assumption) | with_reducible refine Bl.trans_ ?_ (And.left (by assumption))))) (K2.out.bl (by repeat' (first | exact Bl.refl _ | with_reducible assumption | with_reducible refine Bl.drew_ ?_ | with_reducible refine Bl.drewN_ ?_ _ | with_reducible refine Bl.alloc_ ?_ _ | with_reducible refine Bl.trans_ ?_ (by assumption) | with_reducible refine Bl.trans_ ?_ (And.left (by assumption)))))).mono ?_
    rintro e w1 ⟨rfl, hb1⟩
    rw [HH.out]
    go_wp2
    go_ret
    exact ⟨ret_int HA.out.symm, (by repeat' (first | exact Bl.refl _ | with_reducible assumption | with_reducible refine Bl.drew_ ?_ | with_reducible refine Bl.drewN_ ?_ _ | with_reducible refine Bl.alloc_ ?_ _ | with_reducible refine Bl.trans_ ?_ (by assumption) | with_reducible refine Bl.trans_ ?_ (And.left (by assumption))))⟩
  | true =>
    have HH := Lib.hid hh
    obtain ⟨h1, hs, ht⟩ := askB_elim hh
    obtain ⟨ho, hVN⟩ := reachB_ok h1
    have hN24 := (okB_elim ho).2.1
    have hn150 := (okB_elim ho).2.2.1
    have HA := Lib.hid (show qreachI N L V s t = dAt (distL N (amongL (leftK (distL N L s) (distL N (revL L) t) V N.toNat) L) s) t from by
      unfold qreachI
      rw [if_pos hh, among_dist hh])
    obtain ⟨q, rfl⟩ : ∃ q : Nat, N = q := ⟨N.toNat, by omega⟩
    obtain ⟨u, rfl⟩ : ∃ u : Nat, t = u := ⟨t.toNat, by omega⟩
    have HO := Lib.hid ho
    have HV := Lib.hid (show V.length = q from by omega)
    have HOA := Lib.hid (amongL_ok (P := leftK (distL q L s) (distL q (revL L) u) V q) ho)
    have hPl := leftK_len (distL q L s) (distL q (revL L) u) V q
    rw [Int.toNat_natCast] at HA
    generalize hPP : leftK (distL q L s) (distL q (revL L) u) V q = P at *
    have PP := Lib.hid hPP
    clear hh h1 ho hVN hPP
    go_enter Try.func36, Try.ntmps36
    go_wp2_with fail
    refine (reachAsked_any q s u A n c L HN.out hc A2 k c2 V HK.out _ hm hkm (K1.out.bl (by repeat' (first | exact Bl.refl _ | with_reducible assumption | with_reducible refine Bl.drew_ ?_ | with_reducible refine Bl.drewN_ ?_ _ | with_reducible refine Bl.alloc_ ?_ _ | with_reducible refine Bl.trans_ ?_ (by assumption) | with_reducible refine Bl.trans_ ?_ (And.left (by assumption))))) (K2.out.bl (by repeat' (first | exact Bl.refl _ | with_reducible assumption | with_reducible refine Bl.drew_ ?_ | with_reducible refine Bl.drewN_ ?_ _ | with_reducible refine Bl.alloc_ ?_ _ | with_reducible refine Bl.trans_ ?_ (by assumption) | with_reducible refine Bl.trans_ ?_ (And.left (by assumption)))))).mono ?_
    rintro e w1 ⟨rfl, hb1⟩
    rw [HH.out]
    have hbw := Lib.hid (show Bl w w1 from (by repeat' (first | exact Bl.refl _ | with_reducible assumption | with_reducible refine Bl.drew_ ?_ | with_reducible refine Bl.drewN_ ?_ _ | with_reducible refine Bl.alloc_ ?_ _ | with_reducible refine Bl.trans_ ?_ (by assumption) | with_reducible refine Bl.trans_ ?_ (And.left (by assumption)))))
    have HSH := Lib.hid (show ∀ wx, Bl w1 wx → Bl w1 wx ∧ wx.cell? ⟨w.heap.size, 0, none⟩ = some (.int .i64 (q : Int)) ∧ wx.cell? ⟨w.heap.size, 1, none⟩ = some (.slice A n c) from fun wx hb => ⟨hb, (box2 (hb1.trans_ hb)).1, (box2 (hb1.trans_ hb)).2⟩)
    clear hb1
    go_wp2_with fail
    refine wp_region_held_drew (S := fun wx => Bl w1 wx ∧ wx.cell? ⟨w.heap.size, 0, none⟩ = some (.int .i64 (q : Int)) ∧ wx.cell? ⟨w.heap.size, 1, none⟩ = some (.slice A n c)) (by kernel_rfl) ?_ (fun hHeld => ?_)
    · (exact HSH.out _ (by repeat' (first | exact Bl.refl _ | with_reducible assumption | with_reducible refine Bl.drew_ ?_ | with_reducible refine Bl.drewN_ ?_ _ | with_reducible refine Bl.alloc_ ?_ _ | with_reducible refine Bl.trans_ ?_ (by assumption) | with_reducible refine Bl.trans_ ?_ (And.left (by assumption)))))
    refine wpAnyH_take (i := 0) (v := ?_) rfl (by kernel_rfl) (by kernel_rfl) (by kernel_rfl) (fun _ _ _ h => h) (Or.inl ⟨by kernel_rfl, ?_⟩) (by assumption) ?_
    rotate_left
    · (intro wx hSw; (try dsimp only at hSw); go_simp; try (with_reducible rfl))
    try simp only [Act.put, List.getElem_toArray, List.getElem_cons_succ, List.getElem_cons_zero, List.setIfInBounds_toArray, List.set_cons_zero, List.set_cons_succ]
    refine wpAnyH_take (i := 1) (v := ?_) rfl (by kernel_rfl) (by kernel_rfl) (by kernel_rfl) (fun _ _ _ h => h) (Or.inl ⟨by kernel_rfl, ?_⟩) (by assumption) ?_
    rotate_left
    · (intro wx hSw; (try dsimp only at hSw); go_simp; try (with_reducible rfl))
    try simp only [Act.put, List.getElem_toArray, List.getElem_cons_succ, List.getElem_cons_zero, List.setIfInBounds_toArray, List.set_cons_zero, List.set_cons_succ]
    refine wpAnyH_take (i := 2) (v := ?_) rfl (by kernel_rfl) (by kernel_rfl) (by kernel_rfl) (fun _ _ _ h => h) (Or.inl ⟨by kernel_rfl, ?_⟩) (by assumption) ?_
    rotate_left
    · (intro wx hSw; (try dsimp only at hSw); go_simp; try (with_reducible rfl))
    try simp only [Act.put, List.getElem_toArray, List.getElem_cons_succ, List.getElem_cons_zero, List.setIfInBounds_toArray, List.set_cons_zero, List.set_cons_succ]
    refine wpAnyH_take (i := 3) (v := ?_) rfl (by kernel_rfl) (by kernel_rfl) (by kernel_rfl) (fun _ _ _ h => h) (Or.inl ⟨by kernel_rfl, ?_⟩) (by assumption) ?_
    rotate_left
    · (intro wx hSw; (try dsimp only at hSw); go_simp; try (with_reducible rfl))
    try simp only [Act.put, List.getElem_toArray, List.getElem_cons_succ, List.getElem_cons_zero, List.setIfInBounds_toArray, List.set_cons_zero, List.set_cons_succ]
    refine wpAnyH_take (i := 4) (v := ?_) rfl (by kernel_rfl) (by kernel_rfl) (by kernel_rfl) (fun _ _ _ h => h) (Or.inl ⟨by kernel_rfl, ?_⟩) (by assumption) ?_
    rotate_left
    · (intro wx hSw; (try dsimp only at hSw); go_simp; try (with_reducible rfl))
    try simp only [Act.put, List.getElem_toArray, List.getElem_cons_succ, List.getElem_cons_zero, List.setIfInBounds_toArray, List.set_cons_zero, List.set_cons_succ]
    refine wpAnyH_take (i := 7) (v := ?_) rfl (by kernel_rfl) (by kernel_rfl) (by kernel_rfl) (fun _ _ _ h => h) (Or.inl ⟨by kernel_rfl, ?_⟩) (by assumption) ?_
    rotate_left
    · (intro wx hSw; (try dsimp only at hSw); go_simp; try (with_reducible rfl))
    try simp only [Act.put, List.getElem_toArray, List.getElem_cons_succ, List.getElem_cons_zero, List.setIfInBounds_toArray, List.set_cons_zero, List.set_cons_succ]
    refine wpAnyH_take (i := 9) (v := ?_) rfl (by kernel_rfl) (by kernel_rfl) (by kernel_rfl) (fun _ _ _ h => h) (Or.inl ⟨by kernel_rfl, ?_⟩) (by assumption) ?_
    rotate_left
    · (intro wx hSw; (try dsimp only at hSw); go_simp; try (with_reducible rfl))
    try simp only [Act.put, List.getElem_toArray, List.getElem_cons_succ, List.getElem_cons_zero, List.setIfInBounds_toArray, List.set_cons_zero, List.set_cons_succ]
    refine wpAnyH_ready (rs := [5]) (by kernel_rfl) (by simp) ?_
    refine AllReadyH.cons rfl (fun K hK => ?_) AllReadyH.nil
    go_simp
    (go_at_call 70; refine (leftBy_any q s u A n c L HN.out hc HO.out hs ht A2 k c2 V HK.out HV.out _ hm (K1.out.bl (hbw.out.trans_ (by repeat' (first | exact Bl.refl _ | with_reducible assumption | with_reducible refine Bl.drew_ ?_ | with_reducible refine Bl.drewN_ ?_ _ | with_reducible refine Bl.alloc_ ?_ _ | with_reducible refine Bl.trans_ ?_ (by assumption) | with_reducible refine Bl.trans_ ?_ (And.left (by assumption)))))) (K2.out.bl (hbw.out.trans_ (by repeat' (first | exact Bl.refl _ | with_reducible assumption | with_reducible refine Bl.drew_ ?_ | with_reducible refine Bl.drewN_ ?_ _ | with_reducible refine Bl.alloc_ ?_ _ | with_reducible refine Bl.trans_ ?_ (by assumption) | with_reducible refine Bl.trans_ ?_ (And.left (by assumption))))))).mono ?_; rintro e w4 ⟨v4, rfl, hv4, hb4⟩; rw [PP.out] at hv4; obtain ⟨A4, c4, rfl, -, hi4, -, -⟩ := OwnN.shape hv4; have I4 := Lib.hid hi4; clear hv4 hi4)
    try (go_wp2_with fail)
    refine hK.out _ _ ?_ (fun hHeld => ?_)
    · (exact HSH.out _ (by repeat' (first | exact Bl.refl _ | with_reducible assumption | with_reducible refine Bl.drew_ ?_ | with_reducible refine Bl.drewN_ ?_ _ | with_reducible refine Bl.alloc_ ?_ _ | with_reducible refine Bl.trans_ ?_ (by assumption) | with_reducible refine Bl.trans_ ?_ (And.left (by assumption)))))
    clear hK K
    try simp only [Act.put, List.getElem_toArray, List.getElem_cons_succ, List.getElem_cons_zero, List.setIfInBounds_toArray, List.set_cons_zero, List.set_cons_succ]
    refine wpAnyH_ready (rs := [6]) (by kernel_rfl) (by simp) ?_
    refine AllReadyH.cons rfl (fun K hK => ?_) AllReadyH.nil
    go_simp
    (go_at_call 69; refine (among_any q A n c L HN.out A4 P.length c4 P rfl _ hm (by omega) (K1.out.bl (hbw.out.trans_ (by repeat' (first | exact Bl.refl _ | with_reducible assumption | with_reducible refine Bl.drew_ ?_ | with_reducible refine Bl.drewN_ ?_ _ | with_reducible refine Bl.alloc_ ?_ _ | with_reducible refine Bl.trans_ ?_ (by assumption) | with_reducible refine Bl.trans_ ?_ (And.left (by assumption)))))) (I4.out.bl (by repeat' (first | exact Bl.refl _ | with_reducible assumption | with_reducible refine Bl.drew_ ?_ | with_reducible refine Bl.drewN_ ?_ _ | with_reducible refine Bl.alloc_ ?_ _ | with_reducible refine Bl.trans_ ?_ (by assumption) | with_reducible refine Bl.trans_ ?_ (And.left (by assumption)))))).mono ?_; rintro e w5 ⟨v5, rfl, hv5, hb5⟩; have hcap := OwnA.cap_ hv5; obtain ⟨A5, c5, rfl, ha5, -⟩ := hv5.shape; have V5 := Lib.hid ha5; have HC5 := Lib.hid (hcap _ _ _ rfl); clear hv5 hcap ha5)
    try (go_wp2_with fail)
    refine hK.out _ _ ?_ (fun hHeld => ?_)
    · (exact HSH.out _ (by repeat' (first | exact Bl.refl _ | with_reducible assumption | with_reducible refine Bl.drew_ ?_ | with_reducible refine Bl.drewN_ ?_ _ | with_reducible refine Bl.alloc_ ?_ _ | with_reducible refine Bl.trans_ ?_ (by assumption) | with_reducible refine Bl.trans_ ?_ (And.left (by assumption)))))
    clear hK K
    try simp only [Act.put, List.getElem_toArray, List.getElem_cons_succ, List.getElem_cons_zero, List.setIfInBounds_toArray, List.set_cons_zero, List.set_cons_succ]
    refine wpAnyH_ready (rs := [8]) (by kernel_rfl) (by simp) ?_
    refine AllReadyH.cons rfl (fun K hK => ?_) AllReadyH.nil
    go_simp
    (go_at_call 60; refine (distances_any q s A5 (amongL P L).length c5 (amongL P L) rfl HC5.out HOA.out hs.1 hs.2 _ (V5.out.bl (by repeat' (first | exact Bl.refl _ | with_reducible assumption | with_reducible refine Bl.drew_ ?_ | with_reducible refine Bl.drewN_ ?_ _ | with_reducible refine Bl.alloc_ ?_ _ | with_reducible refine Bl.trans_ ?_ (by assumption) | with_reducible refine Bl.trans_ ?_ (And.left (by assumption)))))).mono ?_; rintro e w6 ⟨E, rfl, hE, hEd, hb6⟩; have EL := Lib.hid hE; have ED := Lib.hid hEd; clear hE hEd; have hix := index24 E EL.out u (by omega) w6)
    try (go_wp2_with fail)
    refine hK.out _ _ ?_ (fun hHeld => ?_)
    · (exact HSH.out _ (by repeat' (first | exact Bl.refl _ | with_reducible assumption | with_reducible refine Bl.drew_ ?_ | with_reducible refine Bl.drewN_ ?_ _ | with_reducible refine Bl.alloc_ ?_ _ | with_reducible refine Bl.trans_ ?_ (by assumption) | with_reducible refine Bl.trans_ ?_ (And.left (by assumption)))))
    clear hK K
    try simp only [Act.put, List.getElem_toArray, List.getElem_cons_succ, List.getElem_cons_zero, List.setIfInBounds_toArray, List.set_cons_zero, List.set_cons_succ]
    refine wpAnyH_ready (rs := [10]) (by kernel_rfl) (by simp) ?_
    refine AllReadyH.cons rfl (fun K hK => ?_) AllReadyH.nil
    go_simp
    refine hK.out _ _ ?_ (fun hHeld => ?_)
    · (exact HSH.out _ (by repeat' (first | exact Bl.refl _ | with_reducible assumption | with_reducible refine Bl.drew_ ?_ | with_reducible refine Bl.drewN_ ?_ _ | with_reducible refine Bl.alloc_ ?_ _ | with_reducible refine Bl.trans_ ?_ (by assumption) | with_reducible refine Bl.trans_ ?_ (And.left (by assumption)))))
    clear hK K
    try simp only [Act.put, List.getElem_toArray, List.getElem_cons_succ, List.getElem_cons_zero, List.setIfInBounds_toArray, List.set_cons_zero, List.set_cons_succ]
    refine wpAnyH_take (i := 11) (v := ?_) rfl (by kernel_rfl) (by kernel_rfl) (by kernel_rfl) (fun _ _ _ h => h) (Or.inl ⟨by kernel_rfl, ?_⟩) (by assumption) ?_
    rotate_left
    · (intro wx hSw; (try dsimp only at hSw); go_simp; try (with_reducible rfl))
    try simp only [Act.put, List.getElem_toArray, List.getElem_cons_succ, List.getElem_cons_zero, List.setIfInBounds_toArray, List.set_cons_zero, List.set_cons_succ]
    refine wpAnyH_done (by kernel_rfl) ?_ _
    have DB := Lib.hid (show Bl w1 w6 from (by repeat' (first | exact Bl.refl _ | with_reducible assumption | with_reducible refine Bl.drew_ ?_ | with_reducible refine Bl.drewN_ ?_ _ | with_reducible refine Bl.alloc_ ?_ _ | with_reducible refine Bl.trans_ ?_ (by assumption) | with_reducible refine Bl.trans_ ?_ (And.left (by assumption)))))
    have HD := Lib.hid (show dAt E (u : Int) = qreachI q L V s u from by
      rw [HA.out, ← ED.out, Int.toNat_natCast]
      unfold dAt
      simp only [List.getD_eq_getElem?_getD]
      rw [List.getElem?_take, if_pos (by omega)])
    go_wp2
    go_ret
    exact ⟨ret_int HD.out, hbw.out.trans_ DB.out⟩

set_option maxRecDepth 100000 in
set_option maxHeartbeats 1000000 in
theorem specQueryReach_any (N s t : Int) (A : Option Addr) (n c : Nat) (L : List Arc3) (hn : n = L.length) (A2 : Option Addr) (kk c2 : Nat) (V : List Int) (hk : kk = V.length) (w : World) (hm : n ≤ 1048576) (hkm : kk ≤ 1048576) (H1 : ArcsAt w w.heap.size A L) (H2 : IntsAt w w.heap.size A2 V) :
    Calls Try.prog 37 #[.agg #[.int .i64 N, .slice A n c], .slice A2 kk c2, .int .i64 s, .int .i64 t] w fun e w' => e = .returned (.int .i64 (qreachI N L V s t)) ∧ Bl w w' := by
  have K1 := Lib.hid H1
  have K2 := Lib.hid H2
  have HN := Lib.hid hn
  have HK := Lib.hid hk
  clear H1 H2 hn hk
  cases hr : reachB N L V with
  | false =>
    have AB := Lib.hid (qreachI_no (askB_no1 (s := s) (t := t) hr))
    have RB := Lib.hid hr
    clear hr
    go_enter Try.func37, Try.ntmps37
    go_wp2_with fail
    refine (specReachOk_any N A n c L HN.out A2 kk c2 V HK.out _ hm hkm (K1.out.bl (by repeat' (first | exact Bl.refl _ | with_reducible assumption | with_reducible refine Bl.drew_ ?_ | with_reducible refine Bl.drewN_ ?_ _ | with_reducible refine Bl.alloc_ ?_ _ | with_reducible refine Bl.trans_ ?_ (by assumption) | with_reducible refine Bl.trans_ ?_ (And.left (by assumption))))) (K2.out.bl (by repeat' (first | exact Bl.refl _ | with_reducible assumption | with_reducible refine Bl.drew_ ?_ | with_reducible refine Bl.drewN_ ?_ _ | with_reducible refine Bl.alloc_ ?_ _ | with_reducible refine Bl.trans_ ?_ (by assumption) | with_reducible refine Bl.trans_ ?_ (And.left (by assumption)))))).mono ?_
    rintro e w1 ⟨rfl, hb1⟩
    rw [RB.out]
    go_wp2
    go_ret
    exact ⟨ret_int AB.out.symm, (by repeat' (first | exact Bl.refl _ | with_reducible assumption | with_reducible refine Bl.drew_ ?_ | with_reducible refine Bl.drewN_ ?_ _ | with_reducible refine Bl.alloc_ ?_ _ | with_reducible refine Bl.trans_ ?_ (by assumption) | with_reducible refine Bl.trans_ ?_ (And.left (by assumption))))⟩
  | true =>
    have RB := Lib.hid hr
    have HO := Lib.hid (reachB_ok hr).1
    have ho := HO.out
    have hN24 := (okB_elim ho).2.1
    have HNS := Lib.hid (nodeB_ok (v := s) ho)
    have HNT := Lib.hid (nodeB_ok (v := t) ho)
    clear hr
    by_cases hs : 0 ≤ s ∧ s < N
    · have hsd : decide (0 ≤ s ∧ s < N) = true := by simpa using hs
      have HS := Lib.hid hsd
      by_cases ht : 0 ≤ t ∧ t < N
      · have htd : decide (0 ≤ t ∧ t < N) = true := by simpa using ht
        have HT := Lib.hid htd
        have AB := Lib.hid (show qreachI N L V s t = dAt (distL N L s) t from if_pos (askB_yes RB.out hsd htd))
        clear hsd htd
        go_enter Try.func37, Try.ntmps37
        go_wp2_with fail
        refine (specReachOk_any N A n c L HN.out A2 kk c2 V HK.out _ hm hkm (K1.out.bl (by repeat' (first | exact Bl.refl _ | with_reducible assumption | with_reducible refine Bl.drew_ ?_ | with_reducible refine Bl.drewN_ ?_ _ | with_reducible refine Bl.alloc_ ?_ _ | with_reducible refine Bl.trans_ ?_ (by assumption) | with_reducible refine Bl.trans_ ?_ (And.left (by assumption))))) (K2.out.bl (by repeat' (first | exact Bl.refl _ | with_reducible assumption | with_reducible refine Bl.drew_ ?_ | with_reducible refine Bl.drewN_ ?_ _ | with_reducible refine Bl.alloc_ ?_ _ | with_reducible refine Bl.trans_ ?_ (by assumption) | with_reducible refine Bl.trans_ ?_ (And.left (by assumption)))))).mono ?_
        rintro e w1 ⟨rfl, hb1⟩
        rw [RB.out]
        obtain ⟨q0, q1⟩ := box2 hb1
        go_wp2_with fail
        refine (l1Node_any N s _ _).mono ?_
        rintro e w2 ⟨rfl, hb2⟩
        rw [HNS.out, HS.out]
        have hb2 := hb1.trans_ hb2
        obtain ⟨q0, q1⟩ := box2 hb2
        go_wp2_with fail
        refine (l1Node_any N t _ _).mono ?_
        rintro e w3 ⟨rfl, hb3⟩
        rw [HNT.out, HT.out]
        have hb3 := hb2.trans_ hb3
        obtain ⟨q0, q1⟩ := box2 hb3
        have BW := Lib.hid (show Bl w w3 from (Bl.alloc_ (Bl.refl w) _).trans_ hb3)
        go_wp2_with fail
        refine (l3Dist_any N s A n c L HN.out HO.out hs.1 hs.2 _ hm (K1.out.bl BW.out)).mono ?_
        rintro e w4 ⟨v4, rfl, hv4, hb4⟩
        have hl : (distL N L s).length = N.toNat := distL_len HO.out hs.1 hs.2
        obtain ⟨A4, c4, rfl, -, hi4, -, -⟩ := OwnN.shape hv4
        obtain ⟨u, rfl⟩ : ∃ u : Nat, t = u := ⟨t.toNat, by omega⟩
        obtain ⟨g4, o4, rfl, hg4, hc4⟩ := hi4.cell (by omega)
        have p4 := hc4 u (by omega)
        rw [← dAt_at (D := distL N L s) (by omega)] at p4
        rw [← AB.out] at p4
        have u0 : (0 : Int) ≤ (u : Int) := by omega
        have u1 : (u : Int) < ((distL N L s).length : Int) := by omega
        clear hc4 hi4 hv4
        go_wp2
        go_ret
        exact ⟨rfl, BW.out.trans_ hb4⟩
      · have htd : decide (0 ≤ t ∧ t < N) = false := by simpa using ht
        have HT := Lib.hid htd
        have AB := Lib.hid (qreachI_no (L := L) (V := V) (askB_no3 (s := s) htd))
        clear hsd htd
        go_enter Try.func37, Try.ntmps37
        go_wp2_with fail
        refine (specReachOk_any N A n c L HN.out A2 kk c2 V HK.out _ hm hkm (K1.out.bl (by repeat' (first | exact Bl.refl _ | with_reducible assumption | with_reducible refine Bl.drew_ ?_ | with_reducible refine Bl.drewN_ ?_ _ | with_reducible refine Bl.alloc_ ?_ _ | with_reducible refine Bl.trans_ ?_ (by assumption) | with_reducible refine Bl.trans_ ?_ (And.left (by assumption))))) (K2.out.bl (by repeat' (first | exact Bl.refl _ | with_reducible assumption | with_reducible refine Bl.drew_ ?_ | with_reducible refine Bl.drewN_ ?_ _ | with_reducible refine Bl.alloc_ ?_ _ | with_reducible refine Bl.trans_ ?_ (by assumption) | with_reducible refine Bl.trans_ ?_ (And.left (by assumption)))))).mono ?_
        rintro e w1 ⟨rfl, hb1⟩
        rw [RB.out]
        obtain ⟨q0, q1⟩ := box2 hb1
        go_wp2_with fail
        refine (l1Node_any N s _ _).mono ?_
        rintro e w2 ⟨rfl, hb2⟩
        rw [HNS.out, HS.out]
        have hb2 := hb1.trans_ hb2
        obtain ⟨q0, q1⟩ := box2 hb2
        go_wp2_with fail
        refine (l1Node_any N t _ _).mono ?_
        rintro e w3 ⟨rfl, hb3⟩
        rw [HNT.out, HT.out]
        have hb3 := hb2.trans_ hb3
        go_wp2
        go_ret
        exact ⟨ret_int AB.out.symm, (Bl.alloc_ (Bl.refl w) _).trans_ hb3⟩
    · have hsd : decide (0 ≤ s ∧ s < N) = false := by simpa using hs
      have HS := Lib.hid hsd
      have AB := Lib.hid (qreachI_no (L := L) (V := V) (askB_no2 (t := t) hsd))
      clear hsd
      go_enter Try.func37, Try.ntmps37
      go_wp2_with fail
      refine (specReachOk_any N A n c L HN.out A2 kk c2 V HK.out _ hm hkm (K1.out.bl (by repeat' (first | exact Bl.refl _ | with_reducible assumption | with_reducible refine Bl.drew_ ?_ | with_reducible refine Bl.drewN_ ?_ _ | with_reducible refine Bl.alloc_ ?_ _ | with_reducible refine Bl.trans_ ?_ (by assumption) | with_reducible refine Bl.trans_ ?_ (And.left (by assumption))))) (K2.out.bl (by repeat' (first | exact Bl.refl _ | with_reducible assumption | with_reducible refine Bl.drew_ ?_ | with_reducible refine Bl.drewN_ ?_ _ | with_reducible refine Bl.alloc_ ?_ _ | with_reducible refine Bl.trans_ ?_ (by assumption) | with_reducible refine Bl.trans_ ?_ (And.left (by assumption)))))).mono ?_
      rintro e w1 ⟨rfl, hb1⟩
      rw [RB.out]
      obtain ⟨q0, q1⟩ := box2 hb1
      go_wp2_with fail
      refine (l1Node_any N s _ _).mono ?_
      rintro e w2 ⟨rfl, hb2⟩
      rw [HNS.out, HS.out]
      have hb2 := hb1.trans_ hb2
      go_wp2
      go_ret
      exact ⟨ret_int AB.out.symm, (Bl.alloc_ (Bl.refl w) _).trans_ hb2⟩

end Go.Proofs.Ytjmooakjdcepcaa
