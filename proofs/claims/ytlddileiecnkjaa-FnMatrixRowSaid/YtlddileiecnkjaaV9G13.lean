/-
  What is proved here: the model's table of distances; a range over a function whose iterator leaves all as it was but for new memory, and hands out new memory; a law for the statement, where a contract of the iterator is given. No conditions beyond those that each theorem states.
-/
import Derived.Test.YtlddileiecnkjaaV9G11
import Derived.Test.YtlddileiecnkjaaV9G12
import Derived.Test.YtlddileiecnkjaaV9G02
set_option linter.unusedSimpArgs false
set_option linter.unusedVariables false
namespace Go.Proofs.Ytlddileiecnkjaa
open Go.RowKit

set_option maxHeartbeats 2000000 in
theorem l10Nodes_any (N : Int) (A : Option Addr) (n c : Nat) (L : List Arc3) (ho : okB N L = true) (A2 : Option Addr) (k c2 : Nat) (V : List Int) (hk : k = V.length) (w : World) (hkm : k ≤ 9223372036854775807) (H2 : IntsAt w w.heap.size A2 V) :
    Calls Try.prog 89 #[.agg #[.int .i64 N, .slice A n c], .slice A2 k c2] w fun e w' => e = .returned (.bool (nodesB N V)) ∧ Bl w w' := by
  have K2 := Lib.hid H2
  have HK := Lib.hid hk
  have HO := Lib.hid ho
  clear H2 hk ho
  go_enter Try.func89, Try.ntmps89
  go_wp2_with fail
  go_loopw [5] (fun i wr => ∃ j : Nat, j ≤ k ∧ i = .int .i64 j ∧ Bl (w.alloc (.cells #[.int .i64 N, .slice A n c] 33)) wr ∧ Hid (∀ t (h : t < V.length), t < j → 0 ≤ V[t] ∧ V[t] < N)) (fun i _ => k - (intOf i).toNat)
  case atStart => exact ⟨0, by omega, rfl, Bl.refl _, Lib.hid (fun t h h' => absurd h' (by omega))⟩
  case round =>
    obtain ⟨j, hj, rfl, hbl, hno⟩ := hrel
    have hbw : Bl w wr := (Bl.alloc_ (Bl.refl w) _).trans_ hbl
    have BW := Lib.hid hbw
    have BB := Lib.hid hbl
    by_cases hlt : j < k
    · have hjl : j < V.length := by have := HK.out; omega
      obtain ⟨g2, o2, rfl, hg2, hc2⟩ := K2.out.cell (by omega)
      have p1 := hc2 j hjl
      have NOT := Lib.hid (fun h : ¬ (0 ≤ V[j] ∧ V[j] < N) => (show nodesB N V = false from by
        cases e : nodesB N V with
        | false => rfl
        | true => exact absurd ((nodesB_elim e).1 _ (List.getElem_mem hjl)) h))
      have NO := Lib.hid (fun (h0 : 0 ≤ V[j] ∧ V[j] < N) => (show (∀ t (h : t < V.length), t < j + 1 → 0 ≤ V[t] ∧ V[t] < N) from fun t ht htj => by
        rcases Nat.lt_or_ge t j with h' | h'
        · exact hno.out t ht h'
        · obtain rfl : t = j := by omega
          exact h0))
      have HNB := Lib.hid (nodeB_ok (v := V[j]) HO.out)
      generalize V[j] = x at *
      have i0 : (0 : Int) ≤ (j : Int) := by omega
      have i1 : (j : Int) < (k : Int) := by omega
      have HSH := Lib.hid (show ∀ wx, Bl wr wx → Bl wr wx ∧ wx.cell? ⟨w.heap.size, 0, none⟩ = some (.int .i64 N) ∧ wx.cell? ⟨w.heap.size, 1, none⟩ = some (.slice A n c) ∧ wx.cell? ⟨g2, o2 + j, none⟩ = some (.int .i64 x) from fun wx hb => by
        obtain ⟨y0, y1⟩ := box2 (hbl.trans_ hb)
        exact ⟨hb, y0, y1, ((bcell (hbw.trans_ hb)).1 _ _ hg2).trans p1⟩)
      clear p1 hbl hbw hc2
      by_cases hin : 0 ≤ x ∧ x < N
      · have HD := Lib.hid (show decide (0 ≤ x ∧ x < N) = true by simpa using hin)
        have HZ := Lib.hid (NO.out hin)
        clear NOT NO
        go_wp2_with fail
        refine wp_region_held_drew (S := fun wx => Bl wr wx ∧ wx.cell? ⟨w.heap.size, 0, none⟩ = some (.int .i64 N) ∧ wx.cell? ⟨w.heap.size, 1, none⟩ = some (.slice A n c) ∧ wx.cell? ⟨g2, o2 + j, none⟩ = some (.int .i64 x)) (by kernel_rfl) ?_ (fun hHeld => ?_)
        · (exact HSH.out _ (by repeat' (first | exact Bl.refl _ | with_reducible assumption | with_reducible refine Bl.drew_ ?_ | with_reducible refine Bl.drewN_ ?_ _ | with_reducible refine Bl.alloc_ ?_ _ | with_reducible refine Bl.trans_ ?_ (by assumption) | with_reducible refine Bl.trans_ ?_ (And.left (by assumption)))))
        refine wpAnyH_take (i := 0) (v := ?_) rfl (by kernel_rfl) (by kernel_rfl) (by kernel_rfl) (fun _ _ _ h => h) (Or.inl ⟨by kernel_rfl, ?_⟩) (by assumption) ?_
        rotate_left
        · (intro wx hSw; (try dsimp only at hSw); go_simp; try (with_reducible rfl))
        try simp only [Act.put, List.getElem_toArray, List.getElem_cons_succ, List.getElem_cons_zero, List.setIfInBounds_toArray, List.set_cons_zero, List.set_cons_succ]
        refine wpAnyH_take (i := 1) (v := ?_) rfl (by kernel_rfl) (by kernel_rfl) (by kernel_rfl) (fun _ _ _ h => h) (Or.inl ⟨by kernel_rfl, ?_⟩) (by assumption) ?_
        rotate_left
        · (intro wx hSw; (try dsimp only at hSw); go_simp; try (with_reducible rfl))
        try simp only [Act.put, List.getElem_toArray, List.getElem_cons_succ, List.getElem_cons_zero, List.setIfInBounds_toArray, List.set_cons_zero, List.set_cons_succ]
        refine wpAnyH_take (i := 2) (v := ?_) rfl (by kernel_rfl) (by kernel_rfl) (by kernel_rfl) (fun _ _ _ h => h) (Or.inl ⟨by kernel_rfl, ?_⟩) (by assumption) ?_
        rotate_left
        · (intro wx hSw; (try dsimp only at hSw); go_simp; try (with_reducible rfl))
        try simp only [Act.put, List.getElem_toArray, List.getElem_cons_succ, List.getElem_cons_zero, List.setIfInBounds_toArray, List.set_cons_zero, List.set_cons_succ]
        refine wpAnyH_take (i := 3) (v := ?_) rfl (by kernel_rfl) (by kernel_rfl) (by kernel_rfl) (fun _ _ _ h => h) (Or.inl ⟨by kernel_rfl, ?_⟩) (by assumption) ?_
        rotate_left
        · (intro wx hSw; (try dsimp only at hSw); go_simp; try (with_reducible rfl))
        try simp only [Act.put, List.getElem_toArray, List.getElem_cons_succ, List.getElem_cons_zero, List.setIfInBounds_toArray, List.set_cons_zero, List.set_cons_succ]
        refine wpAnyH_take (i := 4) (v := ?_) rfl (by kernel_rfl) (by kernel_rfl) (by kernel_rfl) (fun _ _ _ h => h) (Or.inl ⟨by kernel_rfl, ?_⟩) (by assumption) ?_
        rotate_left
        · (intro wx hSw; (try dsimp only at hSw); go_simp; try (with_reducible rfl))
        try simp only [Act.put, List.getElem_toArray, List.getElem_cons_succ, List.getElem_cons_zero, List.setIfInBounds_toArray, List.set_cons_zero, List.set_cons_succ]
        refine wpAnyH_ready (rs := [5]) (by kernel_rfl) (by simp) ?_
        refine AllReadyH.cons rfl (fun K hK => ?_) AllReadyH.nil
        go_simp
        (go_at_call 82; refine (l1Node_any N x _ _).mono ?_; rintro e w5 ⟨rfl, hb5⟩; rw [HNB.out, HD.out])
        try (go_wp2_with fail)
        refine hK.out _ _ ?_ (fun hHeld => ?_)
        · (exact HSH.out _ (by repeat' (first | exact Bl.refl _ | with_reducible assumption | with_reducible refine Bl.drew_ ?_ | with_reducible refine Bl.drewN_ ?_ _ | with_reducible refine Bl.alloc_ ?_ _ | with_reducible refine Bl.trans_ ?_ (by assumption) | with_reducible refine Bl.trans_ ?_ (And.left (by assumption)))))
        clear hK K
        try simp only [Act.put, List.getElem_toArray, List.getElem_cons_succ, List.getElem_cons_zero, List.setIfInBounds_toArray, List.set_cons_zero, List.set_cons_succ]
        refine wpAnyH_take (i := 6) (v := ?_) rfl (by kernel_rfl) (by kernel_rfl) (by kernel_rfl) (fun _ _ _ h => h) (Or.inl ⟨by kernel_rfl, ?_⟩) (by assumption) ?_
        rotate_left
        · (intro wx hSw; (try dsimp only at hSw); go_simp; try (with_reducible rfl))
        try simp only [Act.put, List.getElem_toArray, List.getElem_cons_succ, List.getElem_cons_zero, List.setIfInBounds_toArray, List.set_cons_zero, List.set_cons_succ]
        refine wpAnyH_done (by kernel_rfl) ?_ _
        go_wp2
        go_roundw
        case rel => exact ⟨j + 1, by omega, by go_num, BB.out.trans_ (by repeat' (first | exact Bl.refl _ | with_reducible assumption | with_reducible refine Bl.drew_ ?_ | with_reducible refine Bl.drewN_ ?_ _ | with_reducible refine Bl.alloc_ ?_ _ | with_reducible refine Bl.trans_ ?_ (by assumption) | with_reducible refine Bl.trans_ ?_ (And.left (by assumption)))), HZ⟩
        case measure => simp [intOf]; omega
      · have HD := Lib.hid (show decide (0 ≤ x ∧ x < N) = false by simpa using hin)
        have HZ := Lib.hid (NOT.out hin)
        clear NOT NO
        go_wp2_with fail
        refine wp_region_held_drew (S := fun wx => Bl wr wx ∧ wx.cell? ⟨w.heap.size, 0, none⟩ = some (.int .i64 N) ∧ wx.cell? ⟨w.heap.size, 1, none⟩ = some (.slice A n c) ∧ wx.cell? ⟨g2, o2 + j, none⟩ = some (.int .i64 x)) (by kernel_rfl) ?_ (fun hHeld => ?_)
        · (exact HSH.out _ (by repeat' (first | exact Bl.refl _ | with_reducible assumption | with_reducible refine Bl.drew_ ?_ | with_reducible refine Bl.drewN_ ?_ _ | with_reducible refine Bl.alloc_ ?_ _ | with_reducible refine Bl.trans_ ?_ (by assumption) | with_reducible refine Bl.trans_ ?_ (And.left (by assumption)))))
        refine wpAnyH_take (i := 0) (v := ?_) rfl (by kernel_rfl) (by kernel_rfl) (by kernel_rfl) (fun _ _ _ h => h) (Or.inl ⟨by kernel_rfl, ?_⟩) (by assumption) ?_
        rotate_left
        · (intro wx hSw; (try dsimp only at hSw); go_simp; try (with_reducible rfl))
        try simp only [Act.put, List.getElem_toArray, List.getElem_cons_succ, List.getElem_cons_zero, List.setIfInBounds_toArray, List.set_cons_zero, List.set_cons_succ]
        refine wpAnyH_take (i := 1) (v := ?_) rfl (by kernel_rfl) (by kernel_rfl) (by kernel_rfl) (fun _ _ _ h => h) (Or.inl ⟨by kernel_rfl, ?_⟩) (by assumption) ?_
        rotate_left
        · (intro wx hSw; (try dsimp only at hSw); go_simp; try (with_reducible rfl))
        try simp only [Act.put, List.getElem_toArray, List.getElem_cons_succ, List.getElem_cons_zero, List.setIfInBounds_toArray, List.set_cons_zero, List.set_cons_succ]
        refine wpAnyH_take (i := 2) (v := ?_) rfl (by kernel_rfl) (by kernel_rfl) (by kernel_rfl) (fun _ _ _ h => h) (Or.inl ⟨by kernel_rfl, ?_⟩) (by assumption) ?_
        rotate_left
        · (intro wx hSw; (try dsimp only at hSw); go_simp; try (with_reducible rfl))
        try simp only [Act.put, List.getElem_toArray, List.getElem_cons_succ, List.getElem_cons_zero, List.setIfInBounds_toArray, List.set_cons_zero, List.set_cons_succ]
        refine wpAnyH_take (i := 3) (v := ?_) rfl (by kernel_rfl) (by kernel_rfl) (by kernel_rfl) (fun _ _ _ h => h) (Or.inl ⟨by kernel_rfl, ?_⟩) (by assumption) ?_
        rotate_left
        · (intro wx hSw; (try dsimp only at hSw); go_simp; try (with_reducible rfl))
        try simp only [Act.put, List.getElem_toArray, List.getElem_cons_succ, List.getElem_cons_zero, List.setIfInBounds_toArray, List.set_cons_zero, List.set_cons_succ]
        refine wpAnyH_take (i := 4) (v := ?_) rfl (by kernel_rfl) (by kernel_rfl) (by kernel_rfl) (fun _ _ _ h => h) (Or.inl ⟨by kernel_rfl, ?_⟩) (by assumption) ?_
        rotate_left
        · (intro wx hSw; (try dsimp only at hSw); go_simp; try (with_reducible rfl))
        try simp only [Act.put, List.getElem_toArray, List.getElem_cons_succ, List.getElem_cons_zero, List.setIfInBounds_toArray, List.set_cons_zero, List.set_cons_succ]
        refine wpAnyH_ready (rs := [5]) (by kernel_rfl) (by simp) ?_
        refine AllReadyH.cons rfl (fun K hK => ?_) AllReadyH.nil
        go_simp
        (go_at_call 82; refine (l1Node_any N x _ _).mono ?_; rintro e w5 ⟨rfl, hb5⟩; rw [HNB.out, HD.out])
        try (go_wp2_with fail)
        refine hK.out _ _ ?_ (fun hHeld => ?_)
        · (exact HSH.out _ (by repeat' (first | exact Bl.refl _ | with_reducible assumption | with_reducible refine Bl.drew_ ?_ | with_reducible refine Bl.drewN_ ?_ _ | with_reducible refine Bl.alloc_ ?_ _ | with_reducible refine Bl.trans_ ?_ (by assumption) | with_reducible refine Bl.trans_ ?_ (And.left (by assumption)))))
        clear hK K
        try simp only [Act.put, List.getElem_toArray, List.getElem_cons_succ, List.getElem_cons_zero, List.setIfInBounds_toArray, List.set_cons_zero, List.set_cons_succ]
        refine wpAnyH_take (i := 6) (v := ?_) rfl (by kernel_rfl) (by kernel_rfl) (by kernel_rfl) (fun _ _ _ h => h) (Or.inl ⟨by kernel_rfl, ?_⟩) (by assumption) ?_
        rotate_left
        · (intro wx hSw; (try dsimp only at hSw); go_simp; try (with_reducible rfl))
        try simp only [Act.put, List.getElem_toArray, List.getElem_cons_succ, List.getElem_cons_zero, List.setIfInBounds_toArray, List.set_cons_zero, List.set_cons_succ]
        refine wpAnyH_done (by kernel_rfl) ?_ _
        go_wp2
        go_ret
        exact ⟨ret_bool HZ.out.symm, BW.out.trans_ (by repeat' (first | exact Bl.refl _ | with_reducible assumption | with_reducible refine Bl.drew_ ?_ | with_reducible refine Bl.drewN_ ?_ _ | with_reducible refine Bl.alloc_ ?_ _ | with_reducible refine Bl.trans_ ?_ (by assumption) | with_reducible refine Bl.trans_ ?_ (And.left (by assumption))))⟩
    · obtain rfl : j = k := by omega
      have HZ := Lib.hid (show nodesB N V = decide ((j : Int) ≤ 60) from by
        have h1 : (V.all fun v => decide (0 ≤ v ∧ v < N)) = true := by
          rw [List.all_eq_true]
          intro v hv
          obtain ⟨t, ht, rfl⟩ := List.getElem_of_mem hv
          exact decide_eq_true (hno.out t ht (by have := HK.out; omega))
        unfold nodesB
        rw [h1, Bool.true_and, ← HK.out]
        exact decide_eq_decide.2 (by omega))
      go_wp2
      go_ret
      exact ⟨ret_bool HZ.out.symm, BW.out⟩

/-- A new list of new lists of numbers is left. -/
def RowsLeft (R : List (List Int)) (w : World) (e : Ending) (w' : World) : Prop := ∃ v G, e = .returned v ∧ RowsG w' w.heap.size v G R ∧ Bl w w'
theorem new1 (w : World) (x : Value) (t : TypeId) : ∀ j u, [x][j]? = some u → (w.alloc (.cells #[x] t)).cell? ((⟨w.heap.size, 0, none⟩ : Addr).add j) = some u := fun j u h => by
  match j, h with
  | 0, h => simp at h; subst h; simp [Addr.add, go_sem]
  | (j + 1), h => simp at h
theorem one1 (x : Int) : ∀ u ∈ [Value.int .i64 x], u.oneCell' = true := fun u h => by
  simp at h; subst h; rfl

set_option maxRecDepth 100000 in
set_option maxHeartbeats 8000000 in
theorem specMatrix_any (N : Int) (A : Option Addr) (n c : Nat) (L : List Arc3) (hn : n = L.length) (AF : Option Addr) (kF cF : Nat) (F : List Int) (hF : kF = F.length) (AT : Option Addr) (kT cT : Nat) (T : List Int) (hT : kT = T.length) (w : World) (hm : n ≤ 1048576) (hkF : kF ≤ 1048576) (hkT : kT ≤ 1048576)
    (H1 : ArcsAt w w.heap.size A L) (H2 : IntsAt w w.heap.size AF F) (H3 : IntsAt w w.heap.size AT T) :
    Calls Try.prog 26 #[.agg #[.int .i64 N, .slice A n c], .slice AF kF cF, .slice AT kT cT] w (RowsLeft (matL N L F T) w) := by
  obtain ⟨i0, hi, hz0, hz1, hz2⟩ := info_parts infoInt
  have I0 := Lib.hid hi
  have I1 := Lib.hid hz0
  have I2 := Lib.hid hz1
  have I3 := Lib.hid hz2
  obtain ⟨j0, hj, hy0, hy1, hy2⟩ := info_parts infoRow
  have J0 := Lib.hid hj
  have J1 := Lib.hid hy0
  have J2 := Lib.hid hy1
  have J3 := Lib.hid hy2
  have K1 := Lib.hid H1
  have K2 := Lib.hid H2
  have K3 := Lib.hid H3
  have HN := Lib.hid hn
  have HF := Lib.hid hF
  have HT := Lib.hid hT
  clear H1 H2 H3 hn hF hT hi hz0 hz1 hz2 hj hy0 hy1 hy2
  obtain ⟨wg, hwg⟩ : ∃ x, x = w.alloc (.cells #[.int .i64 N, .slice A n c] 33) := ⟨_, rfl⟩
  obtain ⟨w0, hw0⟩ : ∃ x, x = (w.alloc (.cells #[.int .i64 N, .slice A n c] 33)).alloc (.cells #[] 58) := ⟨_, rfl⟩
  have B0 := Lib.hid (show Bl w w0 from by rw [hw0]; exact ((Bl.refl w).alloc_ _).alloc_ _)
  have BG := Lib.hid (show Bl w wg from by rw [hwg]; exact (Bl.refl w).alloc_ _)
  have A0 := Lib.hid (show Bl wg w0 from by rw [hw0, ← hwg]; exact (Bl.refl wg).alloc_ _)
  have sg : wg.heap.size = w.heap.size + 1 := by rw [hwg]; simp
  have s0 : w0.heap.size = w.heap.size + 1 + 1 := by rw [hw0]; simp
  have HSH := Lib.hid (show ∀ wx, Bl wg wx → wx.cell? ⟨w.heap.size, 0, none⟩ = some (.int .i64 N) ∧ wx.cell? ⟨w.heap.size, 1, none⟩ = some (.slice A n c) from fun wx hb => by
    rw [hwg] at hb
    exact box2 hb)
  have OW0 := Lib.hid (show w0.ownsRow (w.heap.size + 1) 58 1 (.slice (some ⟨w.heap.size + 1, 0, none⟩) 0 0) 0 [] from by
    have h := World.ownsRow_made (base := w.heap.size + 1) (e := 58) (size := 1) (w.alloc (.cells #[.int .i64 N, .slice A n c] 33)) #[] 0 (by simp) (by unfold maxLen; omega) rfl
    rw [World.size_alloc] at h
    rw [hw0]; exact h)
  cases ho : okB N L with
  | false =>
    have HO := Lib.hid ho
    have HM := Lib.hid (show matL N L F T = [] from matL_no (by unfold matB; rw [ho]; rfl))
    clear ho hwg
    go_enter Try.func26, Try.ntmps26
    go_wp2_with fail
    rw [← hw0]
    refine (specOk_any N A n c L HN.out _ (by omega) (K1.out.bl B0.out)).mono ?_
    rintro e w1 ⟨rfl, hb1⟩
    have I1' := Lib.hid hb1
    rw [HO.out]
    clear hb1 hw0
    go_wp2
    go_ret
    refine ⟨_, [], rfl, ?_, B0.out.trans_ I1'.out⟩
    rw [HM.out]
    exact RowsG.nil_ _ _ (Owns.low (Owns.bl (show Owns 58 1 w0 (w.heap.size + 1) (.slice (some ⟨w.heap.size + 1, 0, none⟩) 0 0) 0 [] from OW0.out) I1'.out) (by omega))
  | true =>
    have HO := Lib.hid ho
    have hN1 := (okB_elim ho).1
    clear ho
    obtain ⟨q, rfl⟩ : ∃ q : Nat, N = q := ⟨N.toNat, by omega⟩
    cases hbF : nodesB q F with
    | false =>
      have HBF := Lib.hid hbF
      have HM := Lib.hid (show matL q L F T = [] from matL_no (by unfold matB; rw [hbF]; simp))
      clear hbF hwg
      go_enter Try.func26, Try.ntmps26
      go_wp2_with fail
      rw [← hw0]
      refine (specOk_any q A n c L HN.out _ (by omega) (K1.out.bl B0.out)).mono ?_
      rintro e w1 ⟨rfl, hb1⟩
      have I1' := Lib.hid hb1
      rw [HO.out]
      clear hb1 hw0
      obtain ⟨q0, q1⟩ := HSH.out _ (A0.out.trans_ I1'.out)
      go_wp2_with fail
      refine (l10Nodes_any q A n c L HO.out AF kF cF F HF.out _ (by omega) (K2.out.bl (B0.out.trans_ I1'.out))).mono ?_
      rintro e w2 ⟨rfl, hb2⟩
      have I2' := Lib.hid (I1'.out.trans_ hb2)
      rw [HBF.out]
      clear hb2 q0 q1
      go_wp2
      go_ret
      refine ⟨_, [], rfl, ?_, B0.out.trans_ I2'.out⟩
      rw [HM.out]
      exact RowsG.nil_ _ _ (Owns.low (Owns.bl (show Owns 58 1 w0 (w.heap.size + 1) (.slice (some ⟨w.heap.size + 1, 0, none⟩) 0 0) 0 [] from OW0.out) I2'.out) (by omega))
    | true =>
      have HBF := Lib.hid hbF
      obtain ⟨hFn, hF60⟩ := nodesB_elim hbF
      have HFN := Lib.hid hFn
      clear hFn
      cases hbT : nodesB q T with
      | false =>
        have HBT := Lib.hid hbT
        have HM := Lib.hid (show matL q L F T = [] from matL_no (by unfold matB; rw [hbT]; simp))
        clear hbF hbT hwg
        go_enter Try.func26, Try.ntmps26
        go_wp2_with fail
        rw [← hw0]
        refine (specOk_any q A n c L HN.out _ (by omega) (K1.out.bl B0.out)).mono ?_
        rintro e w1 ⟨rfl, hb1⟩
        have I1' := Lib.hid hb1
        rw [HO.out]
        clear hb1 hw0
        obtain ⟨q0, q1⟩ := HSH.out _ (A0.out.trans_ I1'.out)
        go_wp2_with fail
        refine (l10Nodes_any q A n c L HO.out AF kF cF F HF.out _ (by omega) (K2.out.bl (B0.out.trans_ I1'.out))).mono ?_
        rintro e w2 ⟨rfl, hb2⟩
        have I2' := Lib.hid (I1'.out.trans_ hb2)
        rw [HBF.out]
        clear hb2 q0 q1
        obtain ⟨q0, q1⟩ := HSH.out _ (A0.out.trans_ I2'.out)
        go_wp2_with fail
        refine (l10Nodes_any q A n c L HO.out AT kT cT T HT.out _ (by omega) (K3.out.bl (B0.out.trans_ I2'.out))).mono ?_
        rintro e w3 ⟨rfl, hb3⟩
        have I3' := Lib.hid (I2'.out.trans_ hb3)
        rw [HBT.out]
        clear hb3 q0 q1
        go_wp2
        go_ret
        refine ⟨_, [], rfl, ?_, B0.out.trans_ I3'.out⟩
        rw [HM.out]
        exact RowsG.nil_ _ _ (Owns.low (Owns.bl (show Owns 58 1 w0 (w.heap.size + 1) (.slice (some ⟨w.heap.size + 1, 0, none⟩) 0 0) 0 [] from OW0.out) I3'.out) (by omega))
      | true =>
        have HBT := Lib.hid hbT
        obtain ⟨hTn, hT60⟩ := nodesB_elim hbT
        have HTN := Lib.hid hTn
        have HM := Lib.hid (show matL q L F T = matR q L F T from matL_yes (by unfold matB; rw [HO.out, hbF, hbT]; rfl))
        clear hbF hbT hTn hwg
        have hkF60 : kF ≤ 60 := by have := HF.out; omega
        have hkT60 : kT ≤ 60 := by have := HT.out; omega
        go_enter Try.func26, Try.ntmps26
        go_wp2_with fail
        rw [← hw0]
        refine (specOk_any q A n c L HN.out _ (by omega) (K1.out.bl B0.out)).mono ?_
        rintro e w1 ⟨rfl, hb1⟩
        have I1' := Lib.hid hb1
        rw [HO.out]
        clear hb1 hw0
        obtain ⟨q0, q1⟩ := HSH.out _ (A0.out.trans_ I1'.out)
        go_wp2_with fail
        refine (l10Nodes_any q A n c L HO.out AF kF cF F HF.out _ (by omega) (K2.out.bl (B0.out.trans_ I1'.out))).mono ?_
        rintro e w2 ⟨rfl, hb2⟩
        have I2' := Lib.hid (I1'.out.trans_ hb2)
        rw [HBF.out]
        clear hb2 q0 q1
        obtain ⟨q0, q1⟩ := HSH.out _ (A0.out.trans_ I2'.out)
        go_wp2_with fail
        refine (l10Nodes_any q A n c L HO.out AT kT cT T HT.out _ (by omega) (K3.out.bl (B0.out.trans_ I2'.out))).mono ?_
        rintro e w3 ⟨rfl, hb3⟩
        have I3' := Lib.hid (I2'.out.trans_ hb3)
        rw [HBT.out]
        clear hb3 q0 q1
        go_wp2
        clear hF60 hT60
        go_loopw [7, 8] (fun pv i wr => ∃ (j : Nat) (G : List SlH), j ≤ kF ∧ i = .int .i64 j ∧ RowsG wr (w.heap.size + 1) pv G (matR q L (F.take j) T) ∧ Bl wg wr) (fun _ i _ => kF - (intOf i).toNat)
        case atStart =>
          refine ⟨0, [], by omega, rfl, ?_, A0.out.trans_ I3'.out⟩
          exact RowsG.nil_ _ _ (Owns.bl (show Owns 58 1 w0 (w.heap.size + 1) (.slice (some ⟨w.heap.size + 1, 0, none⟩) 0 0) 0 [] from OW0.out) I3'.out)
        case round =>
          obtain ⟨j, G, hj, rfl, hrows, hbl⟩ := hrel
          have RR := Lib.hid hrows
          have BB := Lib.hid hbl
          have hsr := hbl.size
          clear I1' I2' I3' OW0 hrows
          by_cases hlt : j < kF
          · have hjl : j < F.length := by have := HF.out; omega
            obtain ⟨gF, oF, rfl, hgF, hcF⟩ := K2.out.cell (by omega)
            have p1 := hcF j hjl
            have hsN := HFN.out F[j] (List.getElem_mem hjl)
            have STK := Lib.hid (matR_take q L F T hjl)
            obtain ⟨s, hs⟩ : ∃ s, s = F[j] := ⟨_, rfl⟩
            rw [← hs] at p1 hsN STK
            have HSX := Lib.hid (show ∀ wx, Bl wr wx → Bl wr wx ∧ (wx.cell? ⟨w.heap.size, 0, none⟩ = some (.int .i64 (q : Int)) ∧ wx.cell? ⟨w.heap.size, 1, none⟩ = some (.slice A n c)) ∧ wx.cell? ⟨gF, oF + j, none⟩ = some (.int .i64 s) from fun wx hb => ⟨hb, HSH.out wx (BB.out.trans_ hb), ((bcell ((BG.out.trans_ BB.out).trans_ hb)).1 _ _ hgF).trans p1⟩)
            have u0 : (0 : Int) ≤ (j : Int) := by omega
            have u1 : (j : Int) < (kF : Int) := by omega
            clear hcF p1 hs hbl
            go_wp2_with fail
            refine wp_region_held_drew (S := fun wx => Bl wr wx ∧ (wx.cell? ⟨w.heap.size, 0, none⟩ = some (.int .i64 (q : Int)) ∧ wx.cell? ⟨w.heap.size, 1, none⟩ = some (.slice A n c)) ∧ wx.cell? ⟨gF, oF + j, none⟩ = some (.int .i64 s)) (by kernel_rfl) ?_ (fun hHeld => ?_)
            · (exact HSX.out _ (by repeat' (first | exact Bl.refl _ | with_reducible assumption | with_reducible refine Bl.drew_ ?_ | with_reducible refine Bl.drewN_ ?_ _ | with_reducible refine Bl.alloc_ ?_ _ | with_reducible refine Bl.trans_ ?_ (by assumption) | with_reducible refine Bl.trans_ ?_ (And.left (by assumption)))))
            refine wpAnyH_take (i := 0) (v := ?_) rfl (by kernel_rfl) (by kernel_rfl) (by kernel_rfl) (fun _ _ _ h => h) (Or.inl ⟨by kernel_rfl, ?_⟩) (by assumption) ?_
            rotate_left
            · (intro wx hSw; (try dsimp only at hSw); go_simp; try (with_reducible rfl))
            try simp only [Act.put, List.getElem_toArray, List.getElem_cons_succ, List.getElem_cons_zero, List.setIfInBounds_toArray, List.set_cons_zero, List.set_cons_succ]
            refine wpAnyH_take (i := 1) (v := ?_) rfl (by kernel_rfl) (by kernel_rfl) (by kernel_rfl) (fun _ _ _ h => h) (Or.inl ⟨by kernel_rfl, ?_⟩) (by assumption) ?_
            rotate_left
            · (intro wx hSw; (try dsimp only at hSw); go_simp; try (with_reducible rfl))
            try simp only [Act.put, List.getElem_toArray, List.getElem_cons_succ, List.getElem_cons_zero, List.setIfInBounds_toArray, List.set_cons_zero, List.set_cons_succ]
            refine wpAnyH_take (i := 2) (v := ?_) rfl (by kernel_rfl) (by kernel_rfl) (by kernel_rfl) (fun _ _ _ h => h) (Or.inl ⟨by kernel_rfl, ?_⟩) (by assumption) ?_
            rotate_left
            · (intro wx hSw; (try dsimp only at hSw); go_simp; try (with_reducible rfl))
            try simp only [Act.put, List.getElem_toArray, List.getElem_cons_succ, List.getElem_cons_zero, List.setIfInBounds_toArray, List.set_cons_zero, List.set_cons_succ]
            refine wpAnyH_take (i := 3) (v := ?_) rfl (by kernel_rfl) (by kernel_rfl) (by kernel_rfl) (fun _ _ _ h => h) (Or.inl ⟨by kernel_rfl, ?_⟩) (by assumption) ?_
            rotate_left
            · (intro wx hSw; (try dsimp only at hSw); go_simp; try (with_reducible rfl))
            try simp only [Act.put, List.getElem_toArray, List.getElem_cons_succ, List.getElem_cons_zero, List.setIfInBounds_toArray, List.set_cons_zero, List.set_cons_succ]
            refine wpAnyH_take (i := 4) (v := ?_) rfl (by kernel_rfl) (by kernel_rfl) (by kernel_rfl) (fun _ _ _ h => h) (Or.inl ⟨by kernel_rfl, ?_⟩) (by assumption) ?_
            rotate_left
            · (intro wx hSw; (try dsimp only at hSw); go_simp; try (with_reducible rfl))
            try simp only [Act.put, List.getElem_toArray, List.getElem_cons_succ, List.getElem_cons_zero, List.setIfInBounds_toArray, List.set_cons_zero, List.set_cons_succ]
            refine wpAnyH_ready (rs := [5]) (by kernel_rfl) (by simp) ?_
            refine AllReadyH.cons rfl (fun K hK => ?_) AllReadyH.nil
            go_simp
            (go_at_call 90; refine (l3Dist_any q s A n c L HN.out HO.out hsN.1 hsN.2 _ hm (K1.out.bl ((BG.out.trans_ BB.out).trans_ (by repeat' (first | exact Bl.refl _ | with_reducible assumption | with_reducible refine Bl.drew_ ?_ | with_reducible refine Bl.drewN_ ?_ _ | with_reducible refine Bl.alloc_ ?_ _ | with_reducible refine Bl.trans_ ?_ (by assumption) | with_reducible refine Bl.trans_ ?_ (And.left (by assumption))))))).mono ?_; rintro e w4 ⟨v4, rfl, hv4, hb4⟩; obtain ⟨A4, c4, rfl, -, hi4, -, -⟩ := OwnN.shape hv4; have hdl : (distL q L s).length = q := (by rw [distL_len HO.out hsN.1 hsN.2]; simp); have J4 := Lib.hid hi4; rw [hdl]; have DL := Lib.hid hdl; clear hv4 hi4 hdl)
            try (go_wp2_with fail)
            refine hK.out _ _ ?_ (fun hHeld => ?_)
            · (exact HSX.out _ (by repeat' (first | exact Bl.refl _ | with_reducible assumption | with_reducible refine Bl.drew_ ?_ | with_reducible refine Bl.drewN_ ?_ _ | with_reducible refine Bl.alloc_ ?_ _ | with_reducible refine Bl.trans_ ?_ (by assumption) | with_reducible refine Bl.trans_ ?_ (And.left (by assumption)))))
            clear hK K
            try simp only [Act.put, List.getElem_toArray, List.getElem_cons_succ, List.getElem_cons_zero, List.setIfInBounds_toArray, List.set_cons_zero, List.set_cons_succ]
            refine wpAnyH_take (i := 6) (v := ?_) rfl (by kernel_rfl) (by kernel_rfl) (by kernel_rfl) (fun _ _ _ h => h) (Or.inl ⟨by kernel_rfl, ?_⟩) (by assumption) ?_
            rotate_left
            · (intro wx hSw; (try dsimp only at hSw); go_simp; try (with_reducible rfl))
            try simp only [Act.put, List.getElem_toArray, List.getElem_cons_succ, List.getElem_cons_zero, List.setIfInBounds_toArray, List.set_cons_zero, List.set_cons_succ]
            refine wpAnyH_done (by kernel_rfl) ?_ _
            have B4 := Lib.hid hHeld.1
            clear hHeld hb4
            have RX0 := Lib.hid (RX.new w4)
            have BW4 := Lib.hid ((BG.out.trans_ BB.out).trans_ B4.out)
            obtain ⟨wq, rfl⟩ : ∃ x : World, x = wr := ⟨_, rfl⟩
            obtain ⟨rb, hrb⟩ : ∃ rb, rb = w4.heap.size := ⟨_, rfl⟩
            go_wp2_with fail
            rw [← hrb] at RX0 ⊢
            clear hrb
            go_loopw [11] (fun kv wr => ∃ (t : Nat) (y : Value), t ≤ kT ∧ kv = .int .i64 t ∧ RX w4 rb y (matRow q L (T.take t) s) wr) (fun kv _ => kT - (intOf kv).toNat)
            case atStart => exact ⟨0, _, by omega, rfl, RX0.out⟩
            case round =>
              obtain ⟨t, y, ht, rfl, hT2⟩ := hrel
              have TT := Lib.hid hT2
              obtain ⟨c0, f0, hrl⟩ := hT2.facts
              have hlo := hT2.lo
              by_cases hlt2 : t < kT
              · have htl : t < T.length := by have := HT.out; omega
                obtain ⟨gT, oT, rfl, hgT, hcT⟩ := K3.out.cell (by omega)
                have p1 := hcT t htl
                have htN := HTN.out T[t] (List.getElem_mem htl)
                have STT := Lib.hid (matRow_take q L T s htl)
                obtain ⟨z, hz⟩ : ∃ z, z = T[t] := ⟨_, rfl⟩
                rw [← hz] at p1 htN STT
                obtain ⟨u, rfl⟩ : ∃ u : Nat, z = u := ⟨z.toNat, by omega⟩
                have hul : u < (distL q L s).length := by have := DL.out; omega
                obtain ⟨g4, o4, rfl, hg4, hc4⟩ := J4.out.cell (by omega)
                have p2 := hc4 u hul
                rw [dAt_at hul] at STT
                obtain ⟨d, hd⟩ : ∃ d, d = (distL q L s)[u] := ⟨_, rfl⟩
                rw [← hd] at p2 STT
                have hlen : (matRow q L (T.take t) s).length ≤ 60 := by rw [matRow_len]; have := List.length_take_le t T; omega
                obtain ⟨V, hV⟩ : ∃ V, V = matRow q L (T.take t) s := ⟨_, rfl⟩
                rw [← hV] at STT hlen TT
                have BQ := hT2.bl
                have HSY := Lib.hid (show ∀ wx, Bl w4 wx → wx.cell? ⟨gT, oT + t, none⟩ = some (.int .i64 (u : Int)) ∧ wx.cell? ⟨g4, o4 + u, none⟩ = some (.int .i64 d) from fun wx hb => ⟨((bcell (BW4.out.trans_ hb)).1 _ _ hgT).trans p1, ((bcell hb).1 _ _ hg4).trans p2⟩)
                have v0 : (0 : Int) ≤ (t : Int) := by omega
                have v1 : (t : Int) < (kT : Int) := by omega
                have v2 : (0 : Int) ≤ (u : Int) := by omega
                have v3 : (u : Int) < (q : Int) := by omega
                clear hcT hc4 p1 p2 hz hd hV hT2 hul htN
                go_wp2_with fail
                refine wp_region_held_drew (S := fun wx => wx.cell? ⟨gT, oT + t, none⟩ = some (.int .i64 (u : Int)) ∧ wx.cell? ⟨g4, o4 + u, none⟩ = some (.int .i64 d)) (by kernel_rfl) ?_ (fun hHeld => ?_)
                · (first | exact HSY.out _ B13.out | exact HSY.out _ (B13.out.set_ TT.out.lo _) | exact HSY.out _ (TT.out.bl.trans_ (by repeat' (first | exact Bl.refl _ | with_reducible assumption | with_reducible refine Bl.drew_ ?_ | with_reducible refine Bl.drewN_ ?_ _ | with_reducible refine Bl.alloc_ ?_ _ | with_reducible refine Bl.trans_ ?_ (by assumption) | with_reducible refine Bl.trans_ ?_ (And.left (by assumption))))))
                refine wpAnyH_take (i := 0) (v := ?_) rfl (by kernel_rfl) (by kernel_rfl) (by kernel_rfl) (fun _ _ _ h => h) (Or.inl ⟨by kernel_rfl, ?_⟩) (by assumption) ?_
                rotate_left
                · (intro wx hSw; (try dsimp only at hSw); go_simp; try (with_reducible rfl))
                try simp only [Act.put, List.getElem_toArray, List.getElem_cons_succ, List.getElem_cons_zero, List.setIfInBounds_toArray, List.set_cons_zero, List.set_cons_succ]
                refine wpAnyH_take (i := 2) (v := ?_) rfl (by kernel_rfl) (by kernel_rfl) (by kernel_rfl) (fun _ _ _ h => h) (Or.inl ⟨by kernel_rfl, ?_⟩) (by assumption) ?_
                rotate_left
                · (intro wx hSw; (try dsimp only at hSw); go_simp; try (with_reducible rfl))
                try simp only [Act.put, List.getElem_toArray, List.getElem_cons_succ, List.getElem_cons_zero, List.setIfInBounds_toArray, List.set_cons_zero, List.set_cons_succ]
                refine wpAnyH_take (i := 3) (v := ?_) rfl (by kernel_rfl) (by kernel_rfl) (by kernel_rfl) (fun _ _ _ h => h) (Or.inl ⟨by kernel_rfl, ?_⟩) (by assumption) ?_
                rotate_left
                · (intro wx hSw; (try dsimp only at hSw); go_simp; try (with_reducible rfl))
                try simp only [Act.put, List.getElem_toArray, List.getElem_cons_succ, List.getElem_cons_zero, List.setIfInBounds_toArray, List.set_cons_zero, List.set_cons_succ]
                refine wpAnyH_take (i := 4) (v := ?_) rfl (by kernel_rfl) (by kernel_rfl) (by kernel_rfl) (fun _ _ _ h => h) (Or.inl ⟨by kernel_rfl, ?_⟩) (by assumption) ?_
                rotate_left
                · (intro wx hSw; (try dsimp only at hSw); go_simp; try (with_reducible rfl))
                try simp only [Act.put, List.getElem_toArray, List.getElem_cons_succ, List.getElem_cons_zero, List.setIfInBounds_toArray, List.set_cons_zero, List.set_cons_succ]
                refine wpAnyH_take (i := 5) (v := ?_) rfl (by kernel_rfl) (by kernel_rfl) (by kernel_rfl) (fun _ _ _ h => h) (Or.inl ⟨by kernel_rfl, ?_⟩) (by assumption) ?_
                rotate_left
                · (intro wx hSw; (try dsimp only at hSw); go_simp; try (with_reducible rfl))
                try simp only [Act.put, List.getElem_toArray, List.getElem_cons_succ, List.getElem_cons_zero, List.setIfInBounds_toArray, List.set_cons_zero, List.set_cons_succ]
                refine wpAnyH_take (i := 6) (v := ?_) rfl (by kernel_rfl) (by kernel_rfl) (by kernel_rfl) (fun _ _ _ h => h) (Or.inl ⟨by kernel_rfl, ?_⟩) (by assumption) ?_
                rotate_left
                · (intro wx hSw; (try dsimp only at hSw); go_simp; try (with_reducible rfl))
                try simp only [Act.put, List.getElem_toArray, List.getElem_cons_succ, List.getElem_cons_zero, List.setIfInBounds_toArray, List.set_cons_zero, List.set_cons_succ]
                refine wpAnyH_take (i := 7) (v := ?_) rfl (by kernel_rfl) (by kernel_rfl) (by kernel_rfl) (fun _ _ _ h => h) (Or.inl ⟨by kernel_rfl, ?_⟩) (by assumption) ?_
                rotate_left
                · (intro wx hSw; (try dsimp only at hSw); go_simp; try (with_reducible rfl))
                try simp only [Act.put, List.getElem_toArray, List.getElem_cons_succ, List.getElem_cons_zero, List.setIfInBounds_toArray, List.set_cons_zero, List.set_cons_succ]
                refine wpAnyH_take (i := 8) (v := ?_) rfl (by kernel_rfl) (by kernel_rfl) (by kernel_rfl) (fun _ _ _ h => h) (Or.inl ⟨by kernel_rfl, ?_⟩) (by assumption) ?_
                rotate_left
                · (intro wx hSw; (try dsimp only at hSw); go_simp; try (with_reducible rfl))
                try simp only [Act.put, List.getElem_toArray, List.getElem_cons_succ, List.getElem_cons_zero, List.setIfInBounds_toArray, List.set_cons_zero, List.set_cons_succ]
                refine wpAnyH_ready (rs := [1, 9]) (by kernel_rfl) (by simp) ?_
                refine AllReadyH.cons rfl (fun K hK => ?_) (AllReadyH.cons rfl (fun K hK => ?_) AllReadyH.nil)
                focus
                  go_simp
                  refine hK.out _ _ ?_ (fun hHeld => ?_)
                  · (first | exact HSY.out _ B13.out | exact HSY.out _ (B13.out.set_ TT.out.lo _) | exact HSY.out _ (TT.out.bl.trans_ (by repeat' (first | exact Bl.refl _ | with_reducible assumption | with_reducible refine Bl.drew_ ?_ | with_reducible refine Bl.drewN_ ?_ _ | with_reducible refine Bl.alloc_ ?_ _ | with_reducible refine Bl.trans_ ?_ (by assumption) | with_reducible refine Bl.trans_ ?_ (And.left (by assumption))))))
                  clear hK K
                  try simp only [Act.put, List.getElem_toArray, List.getElem_cons_succ, List.getElem_cons_zero, List.setIfInBounds_toArray, List.set_cons_zero, List.set_cons_succ]
                  refine wpAnyH_ready (rs := [9]) (by kernel_rfl) (by simp) ?_
                  refine AllReadyH.cons rfl (fun K hK => ?_) AllReadyH.nil
                  go_simp
                  refine hK.out _ _ ?_ (fun hHeld => ?_)
                  · (first | exact HSY.out _ B13.out | exact HSY.out _ (B13.out.set_ TT.out.lo _) | exact HSY.out _ (TT.out.bl.trans_ (by repeat' (first | exact Bl.refl _ | with_reducible assumption | with_reducible refine Bl.drew_ ?_ | with_reducible refine Bl.drewN_ ?_ _ | with_reducible refine Bl.alloc_ ?_ _ | with_reducible refine Bl.trans_ ?_ (by assumption) | with_reducible refine Bl.trans_ ?_ (And.left (by assumption))))))
                  clear hK K
                  try simp only [Act.put, List.getElem_toArray, List.getElem_cons_succ, List.getElem_cons_zero, List.setIfInBounds_toArray, List.set_cons_zero, List.set_cons_succ]
                  refine wpAnyH_ready (rs := [10]) (by kernel_rfl) (by simp) ?_
                  refine AllReadyH.cons rfl (fun K hK => ?_) AllReadyH.nil
                  refine step_append_own _ rfl (.tmp 49) (.tmp 57) 24 rfl (rb + 1) 2 i0 _ 1 8 Try.underlying24 I0.out I1.out I2.out I3.out rfl (by decide) _ V.length (csI V) rfl (OwnN.bl TT.out.own (by repeat' (first | exact Bl.refl _ | with_reducible assumption | with_reducible refine Bl.drew_ ?_ | with_reducible refine Bl.drewN_ ?_ _ | with_reducible refine Bl.alloc_ ?_ _ | with_reducible refine Bl.trans_ ?_ (by assumption) | with_reducible refine Bl.trans_ ?_ (And.left (by assumption))))) ⟨wr.heap.size, 0, none⟩ 1 1 [.int .i64 d] rfl rfl (new1 _ _ _) (one1 _) (by unfold maxLen; omega) (by omega) (by simp; omega) ?_; intro v13 w13 hown2 hg2; have O2 := Lib.hid (OwnN.snoc (V := V) (x := d) rfl hown2); have U := Lib.hid ((TT.out.bl_ (by repeat' (first | exact Bl.refl _ | with_reducible assumption | with_reducible refine Bl.drew_ ?_ | with_reducible refine Bl.drewN_ ?_ _ | with_reducible refine Bl.alloc_ ?_ _ | with_reducible refine Bl.trans_ ?_ (by assumption) | with_reducible refine Bl.trans_ ?_ (And.left (by assumption))))).app hg2 O2.out); have b00 := (TT.out.bl_ (by repeat' (first | exact Bl.refl _ | with_reducible assumption | with_reducible refine Bl.drew_ ?_ | with_reducible refine Bl.drewN_ ?_ _ | with_reducible refine Bl.alloc_ ?_ _ | with_reducible refine Bl.trans_ ?_ (by assumption) | with_reducible refine Bl.trans_ ?_ (And.left (by assumption))))).grown_ hg2; have B13 := Lib.hid b00.2; obtain ⟨AA, cc, rfl, -, -⟩ := OwnN.shape O2.out; have d0 := b00.1.cell (i := 0) (by omega); have d1 := b00.1.frozen 0; clear hown2 hg2 b00
                  refine hK.out _ _ ?_ (fun hHeld => ?_)
                  · (first | exact HSY.out _ B13.out | exact HSY.out _ (B13.out.set_ TT.out.lo _) | exact HSY.out _ (TT.out.bl.trans_ (by repeat' (first | exact Bl.refl _ | with_reducible assumption | with_reducible refine Bl.drew_ ?_ | with_reducible refine Bl.drewN_ ?_ _ | with_reducible refine Bl.alloc_ ?_ _ | with_reducible refine Bl.trans_ ?_ (by assumption) | with_reducible refine Bl.trans_ ?_ (And.left (by assumption))))))
                  clear hK K
                  try simp only [Act.put, List.getElem_toArray, List.getElem_cons_succ, List.getElem_cons_zero, List.setIfInBounds_toArray, List.set_cons_zero, List.set_cons_succ]
                  refine wpAnyH_take (i := 11) (v := ?_) rfl (by kernel_rfl) (by kernel_rfl) (by kernel_rfl) (fun _ _ _ h => h) (Or.inl ⟨by kernel_rfl, ?_⟩) (by assumption) ?_
                  rotate_left
                  · (intro wx hSw; (try dsimp only at hSw); go_simp; try (with_reducible rfl))
                  try simp only [Act.put, List.getElem_toArray, List.getElem_cons_succ, List.getElem_cons_zero, List.setIfInBounds_toArray, List.set_cons_zero, List.set_cons_succ]
                  refine wpAnyH_ready (rs := [12]) (by kernel_rfl) (by simp) ?_
                  refine AllReadyH.cons rfl (fun K hK => ?_) AllReadyH.nil
                  go_simp
                  refine hK.out _ _ ?_ (fun hHeld => ?_)
                  · (first | exact HSY.out _ B13.out | exact HSY.out _ (B13.out.set_ TT.out.lo _) | exact HSY.out _ (TT.out.bl.trans_ (by repeat' (first | exact Bl.refl _ | with_reducible assumption | with_reducible refine Bl.drew_ ?_ | with_reducible refine Bl.drewN_ ?_ _ | with_reducible refine Bl.alloc_ ?_ _ | with_reducible refine Bl.trans_ ?_ (by assumption) | with_reducible refine Bl.trans_ ?_ (And.left (by assumption))))))
                  clear hK K
                  try simp only [Act.put, List.getElem_toArray, List.getElem_cons_succ, List.getElem_cons_zero, List.setIfInBounds_toArray, List.set_cons_zero, List.set_cons_succ]
                  refine wpAnyH_done (by kernel_rfl) ?_ _
                rotate_left
                focus
                  go_simp
                  refine hK.out _ _ ?_ (fun hHeld => ?_)
                  · (first | exact HSY.out _ B13.out | exact HSY.out _ (B13.out.set_ TT.out.lo _) | exact HSY.out _ (TT.out.bl.trans_ (by repeat' (first | exact Bl.refl _ | with_reducible assumption | with_reducible refine Bl.drew_ ?_ | with_reducible refine Bl.drewN_ ?_ _ | with_reducible refine Bl.alloc_ ?_ _ | with_reducible refine Bl.trans_ ?_ (by assumption) | with_reducible refine Bl.trans_ ?_ (And.left (by assumption))))))
                  clear hK K
                  try simp only [Act.put, List.getElem_toArray, List.getElem_cons_succ, List.getElem_cons_zero, List.setIfInBounds_toArray, List.set_cons_zero, List.set_cons_succ]
                  refine wpAnyH_ready (rs := [1]) (by kernel_rfl) (by simp) ?_
                  refine AllReadyH.cons rfl (fun K hK => ?_) AllReadyH.nil
                  go_simp
                  refine hK.out _ _ ?_ (fun hHeld => ?_)
                  · (first | exact HSY.out _ B13.out | exact HSY.out _ (B13.out.set_ TT.out.lo _) | exact HSY.out _ (TT.out.bl.trans_ (by repeat' (first | exact Bl.refl _ | with_reducible assumption | with_reducible refine Bl.drew_ ?_ | with_reducible refine Bl.drewN_ ?_ _ | with_reducible refine Bl.alloc_ ?_ _ | with_reducible refine Bl.trans_ ?_ (by assumption) | with_reducible refine Bl.trans_ ?_ (And.left (by assumption))))))
                  clear hK K
                  try simp only [Act.put, List.getElem_toArray, List.getElem_cons_succ, List.getElem_cons_zero, List.setIfInBounds_toArray, List.set_cons_zero, List.set_cons_succ]
                  refine wpAnyH_ready (rs := [10]) (by kernel_rfl) (by simp) ?_
                  refine AllReadyH.cons rfl (fun K hK => ?_) AllReadyH.nil
                  refine step_append_own _ rfl (.tmp 49) (.tmp 57) 24 rfl (rb + 1) 2 i0 _ 1 8 Try.underlying24 I0.out I1.out I2.out I3.out rfl (by decide) _ V.length (csI V) rfl (OwnN.bl TT.out.own (by repeat' (first | exact Bl.refl _ | with_reducible assumption | with_reducible refine Bl.drew_ ?_ | with_reducible refine Bl.drewN_ ?_ _ | with_reducible refine Bl.alloc_ ?_ _ | with_reducible refine Bl.trans_ ?_ (by assumption) | with_reducible refine Bl.trans_ ?_ (And.left (by assumption))))) ⟨wr.heap.size, 0, none⟩ 1 1 [.int .i64 d] rfl rfl (new1 _ _ _) (one1 _) (by unfold maxLen; omega) (by omega) (by simp; omega) ?_; intro v13 w13 hown2 hg2; have O2 := Lib.hid (OwnN.snoc (V := V) (x := d) rfl hown2); have U := Lib.hid ((TT.out.bl_ (by repeat' (first | exact Bl.refl _ | with_reducible assumption | with_reducible refine Bl.drew_ ?_ | with_reducible refine Bl.drewN_ ?_ _ | with_reducible refine Bl.alloc_ ?_ _ | with_reducible refine Bl.trans_ ?_ (by assumption) | with_reducible refine Bl.trans_ ?_ (And.left (by assumption))))).app hg2 O2.out); have b00 := (TT.out.bl_ (by repeat' (first | exact Bl.refl _ | with_reducible assumption | with_reducible refine Bl.drew_ ?_ | with_reducible refine Bl.drewN_ ?_ _ | with_reducible refine Bl.alloc_ ?_ _ | with_reducible refine Bl.trans_ ?_ (by assumption) | with_reducible refine Bl.trans_ ?_ (And.left (by assumption))))).grown_ hg2; have B13 := Lib.hid b00.2; obtain ⟨AA, cc, rfl, -, -⟩ := OwnN.shape O2.out; have d0 := b00.1.cell (i := 0) (by omega); have d1 := b00.1.frozen 0; clear hown2 hg2 b00
                  refine hK.out _ _ ?_ (fun hHeld => ?_)
                  · (first | exact HSY.out _ B13.out | exact HSY.out _ (B13.out.set_ TT.out.lo _) | exact HSY.out _ (TT.out.bl.trans_ (by repeat' (first | exact Bl.refl _ | with_reducible assumption | with_reducible refine Bl.drew_ ?_ | with_reducible refine Bl.drewN_ ?_ _ | with_reducible refine Bl.alloc_ ?_ _ | with_reducible refine Bl.trans_ ?_ (by assumption) | with_reducible refine Bl.trans_ ?_ (And.left (by assumption))))))
                  clear hK K
                  try simp only [Act.put, List.getElem_toArray, List.getElem_cons_succ, List.getElem_cons_zero, List.setIfInBounds_toArray, List.set_cons_zero, List.set_cons_succ]
                  refine wpAnyH_take (i := 11) (v := ?_) rfl (by kernel_rfl) (by kernel_rfl) (by kernel_rfl) (fun _ _ _ h => h) (Or.inl ⟨by kernel_rfl, ?_⟩) (by assumption) ?_
                  rotate_left
                  · (intro wx hSw; (try dsimp only at hSw); go_simp; try (with_reducible rfl))
                  try simp only [Act.put, List.getElem_toArray, List.getElem_cons_succ, List.getElem_cons_zero, List.setIfInBounds_toArray, List.set_cons_zero, List.set_cons_succ]
                  refine wpAnyH_ready (rs := [12]) (by kernel_rfl) (by simp) ?_
                  refine AllReadyH.cons rfl (fun K hK => ?_) AllReadyH.nil
                  go_simp
                  refine hK.out _ _ ?_ (fun hHeld => ?_)
                  · (first | exact HSY.out _ B13.out | exact HSY.out _ (B13.out.set_ TT.out.lo _) | exact HSY.out _ (TT.out.bl.trans_ (by repeat' (first | exact Bl.refl _ | with_reducible assumption | with_reducible refine Bl.drew_ ?_ | with_reducible refine Bl.drewN_ ?_ _ | with_reducible refine Bl.alloc_ ?_ _ | with_reducible refine Bl.trans_ ?_ (by assumption) | with_reducible refine Bl.trans_ ?_ (And.left (by assumption))))))
                  clear hK K
                  try simp only [Act.put, List.getElem_toArray, List.getElem_cons_succ, List.getElem_cons_zero, List.setIfInBounds_toArray, List.set_cons_zero, List.set_cons_succ]
                  refine wpAnyH_done (by kernel_rfl) ?_ _
                rotate_left
                all_goals (go_wp2; go_roundw)
                all_goals (first | (case measure => (simp [intOf]; omega)) | skip)
                all_goals (have hl2 : (V ++ [d]).length = V.length + 1 := by simp)
                all_goals (rw [hl2] at U)
                all_goals (refine ⟨t + 1, .slice AA (V.length + 1) cc, by omega, by go_num, ?_⟩; rw [STT.out]; exact U.out)
              · obtain rfl : t = kT := by omega
                have HR := Lib.hid (show matRow q L (T.take t) s = matRow q L T s from by rw [List.take_of_length_le (by have := HT.out; omega)])
                rw [HR.out] at TT hT2
                obtain ⟨A5, c5, rfl, -, -, -, hl5⟩ := OwnN.shape hT2.own
                have GL := Lib.hid (show G.length = j from by rw [RR.out.len, matR_len, List.length_take]; omega)
                have R4 := Lib.hid (RR.out.bl (B4.out.trans_ TT.out.bl))
                have OC := Lib.hid (show Owns 58 1 wr (w.heap.size + 1) u7 j (G.map slV) from by rw [← GL.out]; exact R4.out.own)
                have HL5 := Lib.hid hl5
                have sy := TT.out.bl.size
                have s4 := B4.out.size
                have hml : (matRow q L T s).length ≤ 60 := by rw [matRow_len]; have := HT.out; omega
                obtain ⟨r, hr⟩ : ∃ r, r = matRow q L T s := ⟨_, rfl⟩
                rw [← hr] at TT STK hml c0
                obtain ⟨lr, hlr⟩ : ∃ l, l = r.length := ⟨_, rfl⟩
                rw [← hlr] at hml c0
                have HLR := Lib.hid hlr
                have P5 := Lib.hid (show OwnN wr (w.heap.size + 1) (slV (A5, lr, c5)) r from by rw [hlr]; exact TT.out.own.low (by omega))
                have BY := Lib.hid (B4.out.trans_ TT.out.bl)
                clear hlr hr hl5 hT2
                go_wp2_with (at_builtin; refine wpList_append_any _ rfl (.tmp 60) (.tmp 62) _ rfl (w.heap.size + 1) 58 j0 _ 1 24 Try.underlying44 J0.out J1.out J2.out J3.out rfl (by decide) _ j (G.map slV) rfl (World.ownsRow.alloc OC.out _) (wr.heap.size + 1) (some ⟨wr.heap.size, 0, none⟩) 1 1 [.slice A5 lr c5] rfl ?c0 (by simp [Value.oneCell']) ?c3 ?c4 ?c5 ?_)
                case c0 =>
                  refine ⟨rfl, fun _ => ⟨_, rfl, by show wr.heap.size < wr.heap.size + 1; omega, fun x u hj => ?_⟩⟩
                  match x, hj with
                  | 0, hj => simp at hj; subst hj; simp [Addr.add, go_sem]
                  | (x + 1), hj => simp at hj
                case c3 => unfold maxLen; omega
                case c4 => omega
                case c5 => simp; omega
                intro v' w8 hown' hgrow hwh
                have BA : Bl wr (wr.alloc (.cells #[.slice A5 lr c5] 58)) := Bl.alloc_ (Bl.refl _) _
                have hOwnlt := Owns.lt OC.out
                have hRlt := Owns.lt RR.out.own
                have R8 := Lib.hid (RowsG.snoc (R := matR q L (F.take j) T) (r := r) (x := (A5, lr, c5)) (k := j) (R4.out.bl BA) (P5.out.bl BA)
                  (fun g hg => by
                    rw [slV_own] at hg
                    have h1 := (HL5.out g hg).1
                    refine ⟨fun h => ?_, fun j hj h => ?_⟩
                    · have h2 := hRlt g h
                      omega
                    · have h2 := RR.out.lt hj h
                      omega) GL.out.symm hown' hgrow (by simpa using hwh))
                rw [← STK.out] at R8
                have B8 := Lib.hid (show Bl wg w8 from ((BB.out.trans_ BY.out).trans_ BA).grown_ hgrow (fun g hg => by
                  have h1 := hRlt g hg
                  omega))
                clear hown' hgrow hwh BA hOwnlt hRlt
                go_wp2
                go_roundw
                case rel => exact ⟨j + 1, _, by omega, by go_num, R8.out, B8.out⟩
                case measure => simp [intOf]; omega
          · obtain rfl : j = kF := by omega
            have hall : F.take j = F := List.take_of_length_le (by have := HF.out; omega)
            rw [hall] at RR
            go_wp2
            go_ret
            exact ⟨_, G, rfl, by rw [HM.out]; exact RR.out.low (by omega), BG.out.trans_ BB.out⟩

end Go.Proofs.Ytlddileiecnkjaa

set_option linter.unusedSimpArgs false
set_option linter.unusedVariables false
namespace Go.Proofs.Ytlddileiecnkjaa
open Go.RowKit

/-- The contract of an iterator. J: what its caller holds between two rounds. T: old blocks that the caller's rounds turn. -/
def SeqB {α : Type} (P : Program) (gf : Nat) (lb : Array Value) (encs : α → Array Value) (Pre : List α → α → World → World → Prop) (S : List α → Prop) (In : Nat → Prop) (w0 : World) : Prop :=
  ∀ (l : Nat) (J : List α → World → Prop) (T : Nat → Prop) (W : World), Bl w0 W → (∀ i, T i → ¬ In i) →
    (∀ pre A B, J pre A → Bl A B → J pre B) →
    (∀ pre x A W1, J pre A → Bl A W1 → Pre pre x A W1 → YieldAt Fence.wide 0 P l (encs x) W1 fun e W' => Turn (fun i => T i ∨ W.heap.size ≤ i) W1 W' ∧ e = .returned (.bool true) ∧ J (pre ++ [x]) W') →
    J [] W →
    CallsIn Fence.wide 0 P gf (#[.func (.yield l) #[] #[]] ++ lb) W fun e W' => (∃ v, e = .returned v) ∧ Turn (fun i => T i ∨ W.heap.size ≤ i) W W' ∧ ∃ xs, S xs ∧ J xs W'

variable {P : Program}
set_option maxHeartbeats 1000000 in
theorem wpIn_rangeB {α : Type} {g : Operand} {ps : Array Tmp} {assign body : Code} {Q : Exit → Act → World → Prop} {a : Act} {w : World} {gf : Nat} {lb : Array Value}
    (hg : a.eval g = .func (.func gf) #[] lb) (eg : ∀ args w, (callFunc gf args).run P w = .ok (.enter gf args) w)
    {encs : α → Array Value} {Pre : List α → α → World → World → Prop} {S : List α → Prop} {In : Nat → Prop} {w0 : World} (hseq : SeqB P gf lb encs Pre S In w0) (hb0 : Bl w0 w) (hIn : ∀ i, In i → i < w.heap.size) (hps : ∀ x, (encs x).size = ps.size)
    (I : List α → World → Prop) (M : List α → α → Act → World → Prop) (T : Nat → Prop) (hT : ∀ i, T i → ¬ In i)
    (hI : ∀ pre A B, I pre A → w.heap.size + 2 ≤ A.heap.size → Turn (fun i => i = w.heap.size + 1) A B → I pre B)
    (hM : ∀ pre x a A B, M pre x a A → w.heap.size + 2 ≤ A.heap.size → Turn (fun i => i = w.heap.size + 1) A B → M pre x a B) (h0 : ∀ W, Bl w W → I [] W)
    (hassign : ∀ (pre : List α) (x : α) (A W : World) (R : Act → World → Prop), I pre A → w.heap.size + 2 ≤ A.heap.size → Bl A W → Pre pre x A W → (∀ a₁ W1, Bl W W1 → M pre x a₁ W1 → R a₁ W1) → ∀ l,
      assign.wpIn (Fence.wide.inRound l) 0 P (Exit.then R (fun _ _ _ => False)) { tmps := (ps.zip (encs x)).foldl (fun t (p, v) => t.setIfInBounds p v) a.tmps, defers := [] } W)
    (hbody : ∀ (l : Nat) (pre : List α) (x : α) (a₁ : Act) (W : World), w.heap.size + 2 ≤ W.heap.size → M pre x a₁ W → body.wpIn (Fence.wide.inRound l) 0 P
      (fun e _ W' => e = .normal ∧ Turn (fun i => T i ∨ w.heap.size + 2 ≤ i) W W' ∧ I (pre ++ [x]) W') a₁ W)
    (hTl : ∀ i, T i → i < w.heap.size)
    (hdone : ∀ (D : Nat) (xs : List α) (W : World), D = w.heap.size → S xs → I xs W → Turn T w W → W.heap[D]? = some (.deferred (some [])) → Q .normal { a with defers := { target := .collected D, args := #[] } :: a.defers } W) :
    (Code.rangeFunc g ps assign body).wpIn Fence.wide 0 P Q a w := by
  refine wpIn_rangeFunc fun fn hfn => ?_
  obtain ⟨rec, hrec⟩ : ∃ rec : LoopState → Option Code → Loop, rec = fun st pe => { state := st, pending := pe, fn, tmps := a.tmps, params := ps, assign, body, defers := w.heap.size } := ⟨_, rfl⟩
  generalize hlD : w.heap.size + 1 = l
  generalize hDD : w.heap.size = D
  rw [hlD] at hI hM
  obtain ⟨W1, hW1⟩ : ∃ W1, W1 = (w.alloc (.deferred (some []))).alloc (.loop (rec .ready none)) := ⟨_, rfl⟩
  have hrl : W1.heap[l]? = some (.loop (rec .ready none)) := by
    have := World.alloc_heap_new (w.alloc (.deferred (some []))) (.loop (rec .ready none))
    rwa [World.size_alloc, hlD, ← hW1] at this
  have hrD : W1.heap[D]? = some (.deferred (some [])) := by
    have h1 := Below.heap_alloc (w.alloc (.deferred (some []))) (.loop (rec .ready none)) D (by simp; omega)
    rw [hW1, h1, ← hDD]
    exact World.alloc_heap_new w _
  have hB1 : Bl w W1 := by rw [hW1]; exact ((Bl.refl w).alloc_ _).alloc_ _
  have hs1 : W1.heap.size = w.heap.size + 2 := by rw [hW1]; simp
  obtain ⟨J, hJ⟩ : ∃ J : List α → World → Prop, J = fun pre W => I pre W ∧ W.heap[l]? = some (.loop (rec .ready none)) ∧ W.heap[D]? = some (.deferred (some [])) := ⟨_, rfl⟩
  have old : ∀ {A B : World} {i : Nat} {o : Obj}, Bl A B → A.heap[i]? = some o → B.heap[i]? = some o := fun h ho => (h.block (Array.getElem?_eq_some_iff.1 ho).1).trans ho
  have big : ∀ {A : World} {o : Obj}, A.heap[l]? = some o → w.heap.size + 2 ≤ A.heap.size := fun ho => by have := (Array.getElem?_eq_some_iff.1 ho).1; omega
  refine ⟨l, [{ target := .collected D, args := #[] }], W1, { target := .fn (.func gf) lb, args := #[.func (.yield l) #[] #[]] }, W1, gf, #[.func (.yield l) #[] #[]] ++ lb, W1, ?_, ?_, fun _ _ => trivial, by simp [invoke, go_sem, eg], fun h => by simp [Fence.wide] at h, ?_⟩
  · have := run_enterLoop_outer (P := P) (w := w) fn a.tmps ps assign body
    rw [hW1, hrec, ← hlD, ← hDD]
    exact this
  · simp only [resolve, hg]
    simp [go_sem]
  · refine (hseq l J (fun i => T i ∨ i = l) W1 (hb0.trans_ hB1) (fun i hi h => by
      have := hIn i h
      rcases hi with hi | hi
      · exact hT i hi h
      · omega) ?_ ?_ ?_).mono ?_
    · rintro pre A B hj hb
      rw [hJ] at hj ⊢
      exact ⟨hI _ _ _ hj.1 (big hj.2.1) (Turn.of_bl hb), old hb hj.2.1, old hb hj.2.2⟩
    · rintro pre x A W hj hAW hpre
      rw [hJ] at hj
      obtain ⟨hi, hl, hd⟩ := hj
      have hA2 := big hl
      have hl := old hAW hl
      have hd := old hAW hd
      have hll : l < W.heap.size := (Array.getElem?_eq_some_iff.1 hl).1
      have hne : D ≠ l := by omega
      have hy := run_yield (P := P) (args := encs x) hl (by rw [hrec]; exact hps x)
      rw [hrec] at hy
      refine ⟨fn, _, assign, body, hy, roundIn_of_wpIn hfn (hassign pre x A W _ hi hA2 hAW hpre (fun a₁ Wa hba hma => ?_) l)⟩
      have hla := old hba hl
      have hda := old hba hd
      have hlla : l < Wa.heap.size := (Array.getElem?_eq_some_iff.1 hla).1
      refine ⟨_, run_beginRound hla (by rw [hrec]), ?_⟩
      obtain ⟨W2, hW2⟩ : ∃ W2, W2 = Wa.putObj l (.loop { rec .ready none with state := .busy }) := ⟨_, rfl⟩
      rw [← hW2]
      have hl2 : W2.heap[l]? = some (.loop { rec .ready none with state := .busy }) := by rw [hW2]; exact World.putObj_heap_same hlla
      have hd2 : W2.heap[D]? = some (.deferred (some [])) := by rw [hW2]; exact (World.putObj_heap_other hne).trans hda
      have hs2 : W2.heap.size = Wa.heap.size := by rw [hW2]; simp
      have hi2 : M pre x a₁ W2 := by rw [hW2]; exact hM _ _ _ _ _ hma (big hla) (turn_put _ _ _ rfl)
      have t2 : Turn (fun i => (T i ∨ i = l) ∨ W1.heap.size ≤ i) W W2 := by
        rw [hW2]
        exact (Turn.of_bl hba).trans (turn_put (fun i => i = l) _ _ rfl) (fun i _ h => .inl (.inr h))
      refine wpIn_mono (hbody l pre x a₁ W2 (big hl2) hi2) ?_
      rintro e a3 W3 ⟨rfl, ht3, hi3⟩
      have hnl : ¬ (T l ∨ w.heap.size + 2 ≤ l) := fun h => h.elim (fun h => by have := hTl l h; omega) (fun h => by omega)
      have hnD : ¬ (T D ∨ w.heap.size + 2 ≤ D) := fun h => h.elim (fun h => by have := hTl D h; omega) (fun h => by omega)
      have hl3 := (ht3.block l (by omega) hnl).trans hl2
      have hd3 := (ht3.block D (by have := (Array.getElem?_eq_some_iff.1 hd2).1; omega) hnD).trans hd2
      have he := run_endRound (P := P) none hl3
      rw [hrec] at he
      have hll3 : l < W3.heap.size := (Array.getElem?_eq_some_iff.1 hl3).1
      refine ⟨_, _, he, ?_, rfl, ?_⟩
      · exact (t2.trans ht3 (fun i hi h => h.elim (fun h => .inl (.inl h)) (fun h => .inr (by omega)))).trans (turn_put (fun i => i = l) _ _ rfl) (fun i _ h => .inl (.inr h))
      · rw [hJ]
        refine ⟨hI _ _ _ hi3 (big hl3) (turn_put _ _ _ rfl), ?_, (World.putObj_heap_other hne).trans hd3⟩
        rw [hrec]
        exact World.putObj_heap_same hll3
    · rw [hJ]
      exact ⟨h0 _ hB1, hrl, hrD⟩
    · rintro e W2 ⟨⟨v, rfl⟩, ht, xs, hS, hj⟩
      rw [hJ] at hj
      obtain ⟨hi, hl, hd⟩ := hj
      have he := run_endLoop (P := P) hl (by rw [hrec]; simp)
      rw [hrec] at he
      refine ⟨none, _, he, hdone D xs _ hDD.symm hS (hI _ _ _ hi (big hl) (turn_put _ _ _ rfl)) ?_ ((World.putObj_heap_other (by omega)).trans hd)⟩
      refine ((Turn.of_bl (S := T) hB1).trans ht (fun i hi h => ?_)).trans (turn_put (fun i => i = l) _ _ rfl) (fun i hi h => by omega)
      rcases h with (h | h) | h
      · exact h
      · omega
      · omega

end Go.Proofs.Ytlddileiecnkjaa
