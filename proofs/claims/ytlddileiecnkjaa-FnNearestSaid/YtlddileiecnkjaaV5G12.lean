/-
  What is proved here: the small functions of the code and of the model that ask whether numbers are nodes, no two alike; plain facts on the nearest of some places; items that are appended to items of one's own; parts of items. No conditions beyond those that each theorem states.
-/
import Derived.Test.YtlddileiecnkjaaV5G10
import Derived.Test.YtlddileiecnkjaaV5G08
import Derived.Test.YtlddileiecnkjaaV5G11
import Derived.Test.YtlddileiecnkjaaV5G05
import Derived.Test.YtlddileiecnkjaaV5G01
set_option linter.unusedSimpArgs false
set_option linter.unusedVariables false
namespace Go.Proofs.Ytlddileiecnkjaa
open Go.RowKit

set_option maxRecDepth 100000 in
set_option maxHeartbeats 1000000 in
theorem hasUnlike_any (N : Int) (A : Option Addr) (n c : Nat) (L : List Arc3) (hn : n = L.length) (A2 : Option Addr) (k c2 : Nat) (V : List Int) (hk : k = V.length) (w : World) (hm : n ≤ 9223372036854775807) (hkm : k ≤ 1048576) (H1 : ArcsAt w w.heap.size A L) (H2 : IntsAt w w.heap.size A2 V) :
    Calls Try.prog 102 #[.agg #[.int .i64 N, .slice A n c], .slice A2 k c2] w fun e w' => e = .returned (.bool (hasUB N L V)) ∧ Bl w w' := by
  have K1 := Lib.hid H1
  have K2 := Lib.hid H2
  have HN := Lib.hid hn
  have HK := Lib.hid hk
  clear H1 H2 hn hk
  cases hh : hasB N L V with
  | false =>
    have HH := Lib.hid hh
    clear hh
    go_enter Try.func102, Try.ntmps102
    go_wp2_with fail
    refine (hasNodes_any N A n c L HN.out A2 k c2 V HK.out _ hm hkm (K1.out.bl (by repeat' (first | exact Bl.refl _ | with_reducible assumption | with_reducible refine Bl.drew_ ?_ | with_reducible refine Bl.drewN_ ?_ _ | with_reducible refine Bl.alloc_ ?_ _ | with_reducible refine Bl.trans_ ?_ (by assumption) | with_reducible refine Bl.trans_ ?_ (And.left (by assumption))))) (K2.out.bl (by repeat' (first | exact Bl.refl _ | with_reducible assumption | with_reducible refine Bl.drew_ ?_ | with_reducible refine Bl.drewN_ ?_ _ | with_reducible refine Bl.alloc_ ?_ _ | with_reducible refine Bl.trans_ ?_ (by assumption) | with_reducible refine Bl.trans_ ?_ (And.left (by assumption)))))).mono ?_
    rintro e w1 ⟨rfl, hb1⟩
    rw [HH.out]
    go_wp2
    go_ret
    exact ⟨ret_bool (hasUB_no HH.out).symm, (by repeat' (first | exact Bl.refl _ | with_reducible assumption | with_reducible refine Bl.drew_ ?_ | with_reducible refine Bl.drewN_ ?_ _ | with_reducible refine Bl.alloc_ ?_ _ | with_reducible refine Bl.trans_ ?_ (by assumption) | with_reducible refine Bl.trans_ ?_ (And.left (by assumption))))⟩
  | true =>
    have HH := Lib.hid hh
    obtain ⟨ho, hin⟩ := hasB_iff.1 hh
    have hN24 := (okB_elim ho).2.1
    have HIN := Lib.hid hin
    clear hh ho hin
    go_enter Try.func102, Try.ntmps102
    go_wp2_with fail
    refine (hasNodes_any N A n c L HN.out A2 k c2 V HK.out _ hm hkm (K1.out.bl (by repeat' (first | exact Bl.refl _ | with_reducible assumption | with_reducible refine Bl.drew_ ?_ | with_reducible refine Bl.drewN_ ?_ _ | with_reducible refine Bl.alloc_ ?_ _ | with_reducible refine Bl.trans_ ?_ (by assumption) | with_reducible refine Bl.trans_ ?_ (And.left (by assumption))))) (K2.out.bl (by repeat' (first | exact Bl.refl _ | with_reducible assumption | with_reducible refine Bl.drew_ ?_ | with_reducible refine Bl.drewN_ ?_ _ | with_reducible refine Bl.alloc_ ?_ _ | with_reducible refine Bl.trans_ ?_ (by assumption) | with_reducible refine Bl.trans_ ?_ (And.left (by assumption)))))).mono ?_
    rintro e w1 ⟨rfl, hb1⟩
    rw [HH.out]
    have BW := Lib.hid (show Bl w w1 from (Bl.alloc_ (Bl.refl w) _).trans_ hb1)
    clear hb1
    go_wp2_with fail
    go_loopw [14] (fun i wr => ∃ j : Nat, j ≤ k ∧ i = .int .i64 j ∧ Bl w1 wr ∧ ToldAt wr w1.heap.size (itV (V.take j)) ∧ Hid ((V.take j).Nodup)) (fun i _ => k - (intOf i).toNat)
    case atStart =>
      refine ⟨0, by omega, rfl, (by repeat' (first | exact Bl.refl _ | with_reducible assumption | with_reducible refine Bl.drew_ ?_ | with_reducible refine Bl.drewN_ ?_ _ | with_reducible refine Bl.alloc_ ?_ _ | with_reducible refine Bl.trans_ ?_ (by assumption) | with_reducible refine Bl.trans_ ?_ (And.left (by assumption)))), ⟨by simp, fun i hi => ?_, fun i hi => by simp [go_sem]⟩, Lib.hid (by simp)⟩
      match i, hi with
      | 0, _ | 1, _ | 2, _ | 3, _ | 4, _ | 5, _ | 6, _ | 7, _ | 8, _ | 9, _ | 10, _ | 11, _ | 12, _ | 13, _ | 14, _ | 15, _ | 16, _ | 17, _ | 18, _ | 19, _ | 20, _ | 21, _ | 22, _ | 23, _ => simp [go_sem, toldB, itV]
      | (k + 24), h => exact absurd h (by omega)
    case round =>
      obtain ⟨j, hj, rfl, hbl, htold, hnd⟩ := hrel
      by_cases hlt : j < k
      · have hjl : j < V.length := by have := HK.out; omega
        obtain ⟨g2, o2, rfl, hg2, hc2⟩ := K2.out.cell (by omega)
        have p1 := hc2 j hjl
        clear hc2
        rw [← (bcell (BW.out.trans_ hbl)).1 _ _ hg2] at p1
        have hx := HIN.out V[j] (List.getElem_mem hjl)
        have YES := Lib.hid (fun h : V[j] ∈ V.take j => nodup_hurt hjl h)
        have NO := Lib.hid (fun h : V[j] ∉ V.take j => nodup_step hjl hnd.out h)
        have SN := Lib.hid (take_snocI hjl)
        generalize V[j] = x at *
        obtain ⟨u, rfl⟩ : ∃ u : Nat, x = u := ⟨x.toNat, by omega⟩
        have hu : u < 24 := by omega
        have z1 := htold.cell u hu
        have z2 := htold.free u hu
        rw [told_itV] at z1
        have TL := Lib.hid htold
        have hu0 : (0 : Int) ≤ (u : Int) := by omega
        have hu1 : (u : Int) < 24 := by omega
        have hj0 : (0 : Int) ≤ (j : Int) := by omega
        have hj1 : (j : Int) < (k : Int) := by omega
        clear htold hx
        by_cases hmem : (u : Int) ∈ V.take j
        · rw [decide_eq_true hmem] at z1
          have HY := Lib.hid (YES.out hmem)
          clear YES NO hmem
          go_wp2
          go_ret
          refine ⟨ret_bool ?_, BW.out.trans_ hbl⟩
          rw [hasUB_yes HH.out, decide_eq_false HY.out]
        · rw [decide_eq_false hmem] at z1
          have HZ := Lib.hid (NO.out hmem)
          clear YES NO hmem
          go_wp2
          go_roundw
          case rel =>
            refine ⟨j + 1, by omega, by go_num, hbl.set_ (by simp) _, ?_, HZ⟩
            rw [SN.out, itV_snoc]
            exact TL.out.set hu
          case measure => simp [intOf]; omega
      · have HZ := Lib.hid (show V.Nodup from by
          have := hnd.out
          rwa [List.take_of_length_le (by have := HK.out; omega)] at this)
        go_wp2
        go_ret
        refine ⟨ret_bool ?_, BW.out.trans_ hbl⟩
        rw [hasUB_yes HH.out, decide_eq_true HZ.out]

set_option maxHeartbeats 400000 in
theorem l1Has_any (A : Option Addr) (c : Nat) (V : List Int) (n : Nat) (hn : n = V.length) (x : Int) (w : World) (hm : n ≤ 9223372036854775807) (H1 : IntsAt w w.heap.size A V) :
    Calls Try.prog 136 #[.slice A n c, .int .i64 x] w fun e w' => e = .returned (.bool (decide (x ∈ V))) ∧ Bl w w' := by
  have K1 := Lib.hid H1
  have HN := Lib.hid hn
  clear H1 hn
  go_enter Try.func136, Try.ntmps136
  go_wp2
  go_loopw [5] (fun i wr => ∃ k : Nat, k ≤ n ∧ i = .int .i64 k ∧ Bl w wr ∧ Hid (∀ j (h : j < V.length), j < k → V[j] ≠ x)) (fun i _ => n - (intOf i).toNat)
  case atStart => exact ⟨0, by omega, rfl, Bl.refl w, Lib.hid (fun j _ h => by omega)⟩
  case round =>
    obtain ⟨k, hk, rfl, hbl, hno⟩ := hrel
    by_cases hlt : k < n
    · have hkl : k < V.length := by have := HN.out; omega
      obtain ⟨g1, o1, rfl, hg1, hc1⟩ := K1.out.cell (by omega)
      have p1 := hc1 k hkl
      clear hc1
      rw [← (bcell hbl).1 _ _ hg1] at p1
      have HY := Lib.hid (fun h : V[k] ≠ x => (show ∀ j (h : j < V.length), j < k + 1 → V[j] ≠ x from fun j hj hjk => by
        by_cases e : j = k
        · subst e; exact h
        · exact hno.out j hj (by omega)))
      have HX := Lib.hid (fun h : V[k] = x => (show decide (x ∈ V) = true from by rw [decide_eq_true_eq, ← h]; exact List.getElem_mem hkl))
      generalize V[k] = y at p1 HY HX
      have i1 : (0 : Int) ≤ (k : Int) := by omega
      have i2 : (k : Int) < (n : Int) := by omega
      by_cases e : y = x
      · have b1 : (y == x) = true := by simpa using e
        have HZ := Lib.hid (HX.out e)
        clear e HY HX
        go_wp2
        go_ret
        exact ⟨ret_bool HZ.out.symm, hbl⟩
      · have b1 : (y == x) = false := by simpa using e
        have HZ := Lib.hid (HY.out e)
        clear e HY HX
        go_wp2
        go_roundw
        case rel => exact ⟨k + 1, by omega, by go_num, hbl, HZ⟩
        case measure => simp [intOf]; omega
    · have HZ := Lib.hid (show decide (x ∈ V) = false from by
        rw [decide_eq_false_iff_not]
        intro hx
        obtain ⟨j, hj, e⟩ := List.getElem_of_mem hx
        exact absurd e (hno.out j hj (by have := HN.out; omega)))
      go_wp2
      go_ret
      exact ⟨ret_bool HZ.out.symm, hbl⟩

set_option maxRecDepth 100000 in
set_option maxHeartbeats 2000000 in
theorem l6Nodes_any (N : Int) (A : Option Addr) (n c : Nat) (L : List Arc3) (ho : okB N L = true) (A2 : Option Addr) (k c2 : Nat) (V : List Int) (hk : k = V.length) (hkc : k ≤ c2) (w : World) (hkm : k ≤ 9223372036854775807) (H2 : IntsAt w w.heap.size A2 V) :
    Calls Try.prog 100 #[.agg #[.int .i64 N, .slice A n c], .slice A2 k c2] w fun e w' => e = .returned (.bool (unB N V)) ∧ Bl w w' := by
  have K2 := Lib.hid H2
  have HK := Lib.hid hk
  have HO := Lib.hid ho
  clear H2 hk ho
  go_enter Try.func100, Try.ntmps100
  go_wp2_with fail
  go_loopw [5] (fun i wr => ∃ j : Nat, j ≤ k ∧ i = .int .i64 j ∧ Bl (w.alloc (.cells #[.int .i64 N, .slice A n c] 33)) wr ∧ Hid ((∀ t (h : t < V.length), t < j → 0 ≤ V[t] ∧ V[t] < N) ∧ (V.take j).Nodup)) (fun i _ => k - (intOf i).toNat)
  case atStart => exact ⟨0, by omega, rfl, Bl.refl _, Lib.hid ⟨fun t h h' => absurd h' (by omega), by simp⟩⟩
  case round =>
    obtain ⟨j, hj, rfl, hbl, hno⟩ := hrel
    have hbw : Bl w wr := (Bl.alloc_ (Bl.refl w) _).trans_ hbl
    have BW := Lib.hid hbw
    have BB := Lib.hid hbl
    by_cases hlt : j < k
    · have hjl : j < V.length := by have := HK.out; omega
      obtain ⟨g2, o2, rfl, hg2, hc2⟩ := K2.out.cell (by omega)
      have p1 := hc2 j hjl
      clear hc2
      have HX := Lib.hid (rfl : V[j] = V[j])
      have YES := Lib.hid (fun h : V[j] ∈ V.take j => nodup_hurt hjl h)
      have NOT := Lib.hid (fun h : ¬ (0 ≤ V[j] ∧ V[j] < N) => (show ¬ ((∀ v ∈ V, 0 ≤ v ∧ v < N) ∧ V.Nodup) from fun hv => h (hv.1 _ (List.getElem_mem hjl))))
      have NO := Lib.hid (fun (h0 : 0 ≤ V[j] ∧ V[j] < N) (h : V[j] ∉ V.take j) => (show (∀ t (h : t < V.length), t < j + 1 → 0 ≤ V[t] ∧ V[t] < N) ∧ (V.take (j + 1)).Nodup from ⟨fun t ht htj => by
        rcases Nat.lt_or_ge t j with h' | h'
        · exact hno.out.1 t ht h'
        · obtain rfl : t = j := by omega
          exact h0, nodup_step hjl hno.out.2 h⟩))
      have HNB := Lib.hid (nodeB_ok (v := V[j]) HO.out)
      have TAK := Lib.hid (show IntsAt w w.heap.size (some ⟨g2, o2, none⟩) (V.take j) from by
        have := CellsAt.take_ K2.out j
        rwa [show (csI V).take j = csI (V.take j) from by simp [csI, List.map_take]] at this)
      have LEN := Lib.hid (show j = (V.take j).length from by rw [List.length_take]; omega)
      clear HX
      generalize V[j] = x at *
      have i0 : (0 : Int) ≤ (j : Int) := by omega
      have i1 : (j : Int) < (k : Int) := by omega
      have i2 : (j : Int) ≤ (c2 : Int) := by omega
      have HSH := Lib.hid (show ∀ wx, Bl wr wx → Bl wr wx ∧ wx.cell? ⟨w.heap.size, 0, none⟩ = some (.int .i64 N) ∧ wx.cell? ⟨w.heap.size, 1, none⟩ = some (.slice A n c) ∧ wx.cell? ⟨g2, o2 + j, none⟩ = some (.int .i64 x) from fun wx hb => by
        obtain ⟨y0, y1⟩ := box2 (hbl.trans_ hb)
        exact ⟨hb, y0, y1, ((bcell (hbw.trans_ hb)).1 _ _ hg2).trans p1⟩)
      clear p1 hbl hbw
      by_cases hin : 0 ≤ x ∧ x < N
      · have hd : decide (0 ≤ x ∧ x < N) = true := by simpa using hin
        have HD := Lib.hid hd
        clear hd
        by_cases hmem : x ∈ V.take j
        · have hd2 : decide (x ∈ V.take j) = true := decide_eq_true hmem
          have HD2 := Lib.hid hd2
          have HY := Lib.hid (YES.out hmem)
          clear YES NO NOT hmem hd2
          go_wp2_with fail
          refine wp_region_held_drew (S := fun wx => Bl wr wx ∧ wx.cell? ⟨w.heap.size, 0, none⟩ = some (.int .i64 N) ∧ wx.cell? ⟨w.heap.size, 1, none⟩ = some (.slice A n c) ∧ wx.cell? ⟨g2, o2 + j, none⟩ = some (.int .i64 x)) (by kernel_rfl) ?_ (fun hHeld => ?_)
          · (exact HSH.out _ (by repeat' (first | exact Bl.refl _ | with_reducible assumption | with_reducible refine Bl.drew_ ?_ | with_reducible refine Bl.drewN_ ?_ _ | with_reducible refine Bl.alloc_ ?_ _ | with_reducible refine Bl.trans_ ?_ (by assumption) | with_reducible refine Bl.trans_ ?_ (And.left (by assumption)))))
          refine wpAnyH_take (i := 0) (v := ?_) rfl (by kernel_rfl) (by kernel_rfl) (by kernel_rfl) (fun _ _ _ h => h) (Or.inl ⟨by kernel_rfl, ?_⟩) (by assumption) ?_
          rotate_left
          · (intro wx hSw; (try dsimp only at hSw); go_simp; try (with_reducible rfl))
          try simp only [Act.put, List.getElem_toArray, List.getElem_cons_succ, List.getElem_cons_zero, List.setIfInBounds_toArray, List.set_cons_zero, List.set_cons_succ]
          refine wpAnyH_take (i := 1) (v := ?_) rfl (by kernel_rfl) (by kernel_rfl) (by kernel_rfl) (fun _ _ _ h => h) (Or.inl ⟨by kernel_rfl, ?_⟩) (by assumption) ?_
          rotate_left
          · (intro wx hSw; (try dsimp only at hSw); go_simp; try (with_reducible rfl))
          try simp only [Act.put, List.getElem_toArray, List.getElem_cons_succ, List.getElem_cons_zero, List.setIfInBounds_toArray, List.set_cons_zero, List.set_cons_succ]
          refine wpAnyH_take (i := 2) (v := ?_) rfl (by kernel_rfl) (by kernel_rfl) (by kernel_rfl) (fun _ _ _ h => h) (Or.inl ⟨by kernel_rfl, ?_⟩) (by assumption) ?_
          rotate_left
          · (intro wx hSw; (try dsimp only at hSw); go_simp; try (with_reducible rfl))
          try simp only [Act.put, List.getElem_toArray, List.getElem_cons_succ, List.getElem_cons_zero, List.setIfInBounds_toArray, List.set_cons_zero, List.set_cons_succ]
          refine wpAnyH_take (i := 3) (v := ?_) rfl (by kernel_rfl) (by kernel_rfl) (by kernel_rfl) (fun _ _ _ h => h) (Or.inl ⟨by kernel_rfl, ?_⟩) (by assumption) ?_
          rotate_left
          · (intro wx hSw; (try dsimp only at hSw); go_simp; try (with_reducible rfl))
          try simp only [Act.put, List.getElem_toArray, List.getElem_cons_succ, List.getElem_cons_zero, List.setIfInBounds_toArray, List.set_cons_zero, List.set_cons_succ]
          refine wpAnyH_take (i := 4) (v := ?_) rfl (by kernel_rfl) (by kernel_rfl) (by kernel_rfl) (fun _ _ _ h => h) (Or.inl ⟨by kernel_rfl, ?_⟩) (by assumption) ?_
          rotate_left
          · (intro wx hSw; (try dsimp only at hSw); go_simp; try (with_reducible rfl))
          try simp only [Act.put, List.getElem_toArray, List.getElem_cons_succ, List.getElem_cons_zero, List.setIfInBounds_toArray, List.set_cons_zero, List.set_cons_succ]
          refine wpAnyH_ready (rs := [5]) (by kernel_rfl) (by simp) ?_
          refine AllReadyH.cons rfl (fun K hK => ?_) AllReadyH.nil
          go_simp
          (go_at_call 82; refine (l1Node_any N x _ _).mono ?_; rintro e w5 ⟨rfl, hb5⟩; rw [HNB.out, HD.out])
          try (go_wp2_with fail)
          refine hK.out _ _ ?_ (fun hHeld => ?_)
          · (exact HSH.out _ (by repeat' (first | exact Bl.refl _ | with_reducible assumption | with_reducible refine Bl.drew_ ?_ | with_reducible refine Bl.drewN_ ?_ _ | with_reducible refine Bl.alloc_ ?_ _ | with_reducible refine Bl.trans_ ?_ (by assumption) | with_reducible refine Bl.trans_ ?_ (And.left (by assumption)))))
          clear hK K
          try simp only [Act.put, List.getElem_toArray, List.getElem_cons_succ, List.getElem_cons_zero, List.setIfInBounds_toArray, List.set_cons_zero, List.set_cons_succ]
          refine wpAnyH_take (i := 6) (v := ?_) rfl (by kernel_rfl) (by kernel_rfl) (by kernel_rfl) (fun _ _ _ h => h) (Or.inl ⟨by kernel_rfl, ?_⟩) (by assumption) ?_
          rotate_left
          · (intro wx hSw; (try dsimp only at hSw); go_simp; try (with_reducible rfl))
          try simp only [Act.put, List.getElem_toArray, List.getElem_cons_succ, List.getElem_cons_zero, List.setIfInBounds_toArray, List.set_cons_zero, List.set_cons_succ]
          refine wpAnyH_take (i := 7) (v := ?_) rfl (by kernel_rfl) (by kernel_rfl) (by kernel_rfl) (fun _ _ _ h => h) (Or.inl ⟨by kernel_rfl, ?_⟩) (by assumption) ?_
          rotate_left
          · (intro wx hSw; (try dsimp only at hSw); go_simp; try (with_reducible rfl))
          try simp only [Act.put, List.getElem_toArray, List.getElem_cons_succ, List.getElem_cons_zero, List.setIfInBounds_toArray, List.set_cons_zero, List.set_cons_succ]
          refine wpAnyH_take (i := 8) (v := ?_) rfl (by kernel_rfl) (by kernel_rfl) (by kernel_rfl) (fun _ _ _ h => h) (Or.inl ⟨by kernel_rfl, ?_⟩) (by assumption) ?_
          rotate_left
          · (intro wx hSw; (try dsimp only at hSw); go_simp; try (with_reducible rfl))
          try simp only [Act.put, List.getElem_toArray, List.getElem_cons_succ, List.getElem_cons_zero, List.setIfInBounds_toArray, List.set_cons_zero, List.set_cons_succ]
          refine wpAnyH_take (i := 9) (v := ?_) rfl (by kernel_rfl) (by kernel_rfl) (by kernel_rfl) (fun _ _ _ h => h) (Or.inl ⟨by kernel_rfl, ?_⟩) (by assumption) ?_
          rotate_left
          · (intro wx hSw; (try dsimp only at hSw); go_simp; try (with_reducible rfl))
          try simp only [Act.put, List.getElem_toArray, List.getElem_cons_succ, List.getElem_cons_zero, List.setIfInBounds_toArray, List.set_cons_zero, List.set_cons_succ]
          refine wpAnyH_take (i := 10) (v := ?_) rfl (by kernel_rfl) (by kernel_rfl) (by kernel_rfl) (fun _ _ _ h => h) (Or.inl ⟨by kernel_rfl, ?_⟩) (by assumption) ?_
          rotate_left
          · (intro wx hSw; (try dsimp only at hSw); go_simp; try (with_reducible rfl))
          try simp only [Act.put, List.getElem_toArray, List.getElem_cons_succ, List.getElem_cons_zero, List.setIfInBounds_toArray, List.set_cons_zero, List.set_cons_succ]
          refine wpAnyH_take (i := 11) (v := ?_) rfl (by kernel_rfl) (by kernel_rfl) (by kernel_rfl) (fun _ _ _ h => h) (Or.inl ⟨by kernel_rfl, ?_⟩) (by assumption) ?_
          rotate_left
          · (intro wx hSw; (try dsimp only at hSw); go_simp; try (with_reducible rfl))
          try simp only [Act.put, List.getElem_toArray, List.getElem_cons_succ, List.getElem_cons_zero, List.setIfInBounds_toArray, List.set_cons_zero, List.set_cons_succ]
          refine wpAnyH_take (i := 12) (v := ?_) rfl (by kernel_rfl) (by kernel_rfl) (by kernel_rfl) (fun _ _ _ h => h) (Or.inl ⟨by kernel_rfl, ?_⟩) (by assumption) ?_
          rotate_left
          · (intro wx hSw; (try dsimp only at hSw); go_simp; try (with_reducible rfl))
          try simp only [Act.put, List.getElem_toArray, List.getElem_cons_succ, List.getElem_cons_zero, List.setIfInBounds_toArray, List.set_cons_zero, List.set_cons_succ]
          refine wpAnyH_take (i := 13) (v := ?_) rfl (by kernel_rfl) (by kernel_rfl) (by kernel_rfl) (fun _ _ _ h => h) (Or.inl ⟨by kernel_rfl, ?_⟩) (by assumption) ?_
          rotate_left
          · (intro wx hSw; (try dsimp only at hSw); go_simp; try (with_reducible rfl))
          try simp only [Act.put, List.getElem_toArray, List.getElem_cons_succ, List.getElem_cons_zero, List.setIfInBounds_toArray, List.set_cons_zero, List.set_cons_succ]
          refine wpAnyH_take (i := 14) (v := ?_) rfl (by kernel_rfl) (by kernel_rfl) (by kernel_rfl) (fun _ _ _ h => h) (Or.inl ⟨by kernel_rfl, ?_⟩) (by assumption) ?_
          rotate_left
          · (intro wx hSw; (try dsimp only at hSw); go_simp; try (with_reducible rfl))
          try simp only [Act.put, List.getElem_toArray, List.getElem_cons_succ, List.getElem_cons_zero, List.setIfInBounds_toArray, List.set_cons_zero, List.set_cons_succ]
          refine wpAnyH_ready (rs := [15]) (by kernel_rfl) (by simp) ?_
          refine AllReadyH.cons rfl (fun K hK => ?_) AllReadyH.nil
          go_simp
          (go_at_call 136; refine (l1Has_any _ _ (V.take j) j LEN.out x _ (by omega) (TAK.out.bl (BW.out.trans_ (by repeat' (first | exact Bl.refl _ | with_reducible assumption | with_reducible refine Bl.drew_ ?_ | with_reducible refine Bl.drewN_ ?_ _ | with_reducible refine Bl.alloc_ ?_ _ | with_reducible refine Bl.trans_ ?_ (by assumption) | with_reducible refine Bl.trans_ ?_ (And.left (by assumption))))))).mono ?_; rintro e w6 ⟨rfl, hb6⟩; rw [HD2.out])
          try (go_wp2_with fail)
          refine hK.out _ _ ?_ (fun hHeld => ?_)
          · (exact HSH.out _ (by repeat' (first | exact Bl.refl _ | with_reducible assumption | with_reducible refine Bl.drew_ ?_ | with_reducible refine Bl.drewN_ ?_ _ | with_reducible refine Bl.alloc_ ?_ _ | with_reducible refine Bl.trans_ ?_ (by assumption) | with_reducible refine Bl.trans_ ?_ (And.left (by assumption)))))
          clear hK K
          try simp only [Act.put, List.getElem_toArray, List.getElem_cons_succ, List.getElem_cons_zero, List.setIfInBounds_toArray, List.set_cons_zero, List.set_cons_succ]
          refine wpAnyH_take (i := 16) (v := ?_) rfl (by kernel_rfl) (by kernel_rfl) (by kernel_rfl) (fun _ _ _ h => h) (Or.inl ⟨by kernel_rfl, ?_⟩) (by assumption) ?_
          rotate_left
          · (intro wx hSw; (try dsimp only at hSw); go_simp; try (with_reducible rfl))
          try simp only [Act.put, List.getElem_toArray, List.getElem_cons_succ, List.getElem_cons_zero, List.setIfInBounds_toArray, List.set_cons_zero, List.set_cons_succ]
          refine wpAnyH_done (by kernel_rfl) ?_ _
          go_wp2
          go_ret
          refine ⟨ret_bool ?_, BW.out.trans_ (by repeat' (first | exact Bl.refl _ | with_reducible assumption | with_reducible refine Bl.drew_ ?_ | with_reducible refine Bl.drewN_ ?_ _ | with_reducible refine Bl.alloc_ ?_ _ | with_reducible refine Bl.trans_ ?_ (by assumption) | with_reducible refine Bl.trans_ ?_ (And.left (by assumption))))⟩
          unfold unB
          exact (decide_eq_false fun h => HY.out h.2).symm
        · have hd2 : decide (x ∈ V.take j) = false := decide_eq_false hmem
          have HD2 := Lib.hid hd2
          have HZ := Lib.hid (NO.out hin hmem)
          clear YES NO NOT hmem hd2
          go_wp2_with fail
          refine wp_region_held_drew (S := fun wx => Bl wr wx ∧ wx.cell? ⟨w.heap.size, 0, none⟩ = some (.int .i64 N) ∧ wx.cell? ⟨w.heap.size, 1, none⟩ = some (.slice A n c) ∧ wx.cell? ⟨g2, o2 + j, none⟩ = some (.int .i64 x)) (by kernel_rfl) ?_ (fun hHeld => ?_)
          · (exact HSH.out _ (by repeat' (first | exact Bl.refl _ | with_reducible assumption | with_reducible refine Bl.drew_ ?_ | with_reducible refine Bl.drewN_ ?_ _ | with_reducible refine Bl.alloc_ ?_ _ | with_reducible refine Bl.trans_ ?_ (by assumption) | with_reducible refine Bl.trans_ ?_ (And.left (by assumption)))))
          refine wpAnyH_take (i := 0) (v := ?_) rfl (by kernel_rfl) (by kernel_rfl) (by kernel_rfl) (fun _ _ _ h => h) (Or.inl ⟨by kernel_rfl, ?_⟩) (by assumption) ?_
          rotate_left
          · (intro wx hSw; (try dsimp only at hSw); go_simp; try (with_reducible rfl))
          try simp only [Act.put, List.getElem_toArray, List.getElem_cons_succ, List.getElem_cons_zero, List.setIfInBounds_toArray, List.set_cons_zero, List.set_cons_succ]
          refine wpAnyH_take (i := 1) (v := ?_) rfl (by kernel_rfl) (by kernel_rfl) (by kernel_rfl) (fun _ _ _ h => h) (Or.inl ⟨by kernel_rfl, ?_⟩) (by assumption) ?_
          rotate_left
          · (intro wx hSw; (try dsimp only at hSw); go_simp; try (with_reducible rfl))
          try simp only [Act.put, List.getElem_toArray, List.getElem_cons_succ, List.getElem_cons_zero, List.setIfInBounds_toArray, List.set_cons_zero, List.set_cons_succ]
          refine wpAnyH_take (i := 2) (v := ?_) rfl (by kernel_rfl) (by kernel_rfl) (by kernel_rfl) (fun _ _ _ h => h) (Or.inl ⟨by kernel_rfl, ?_⟩) (by assumption) ?_
          rotate_left
          · (intro wx hSw; (try dsimp only at hSw); go_simp; try (with_reducible rfl))
          try simp only [Act.put, List.getElem_toArray, List.getElem_cons_succ, List.getElem_cons_zero, List.setIfInBounds_toArray, List.set_cons_zero, List.set_cons_succ]
          refine wpAnyH_take (i := 3) (v := ?_) rfl (by kernel_rfl) (by kernel_rfl) (by kernel_rfl) (fun _ _ _ h => h) (Or.inl ⟨by kernel_rfl, ?_⟩) (by assumption) ?_
          rotate_left
          · (intro wx hSw; (try dsimp only at hSw); go_simp; try (with_reducible rfl))
          try simp only [Act.put, List.getElem_toArray, List.getElem_cons_succ, List.getElem_cons_zero, List.setIfInBounds_toArray, List.set_cons_zero, List.set_cons_succ]
          refine wpAnyH_take (i := 4) (v := ?_) rfl (by kernel_rfl) (by kernel_rfl) (by kernel_rfl) (fun _ _ _ h => h) (Or.inl ⟨by kernel_rfl, ?_⟩) (by assumption) ?_
          rotate_left
          · (intro wx hSw; (try dsimp only at hSw); go_simp; try (with_reducible rfl))
          try simp only [Act.put, List.getElem_toArray, List.getElem_cons_succ, List.getElem_cons_zero, List.setIfInBounds_toArray, List.set_cons_zero, List.set_cons_succ]
          refine wpAnyH_ready (rs := [5]) (by kernel_rfl) (by simp) ?_
          refine AllReadyH.cons rfl (fun K hK => ?_) AllReadyH.nil
          go_simp
          (go_at_call 82; refine (l1Node_any N x _ _).mono ?_; rintro e w5 ⟨rfl, hb5⟩; rw [HNB.out, HD.out])
          try (go_wp2_with fail)
          refine hK.out _ _ ?_ (fun hHeld => ?_)
          · (exact HSH.out _ (by repeat' (first | exact Bl.refl _ | with_reducible assumption | with_reducible refine Bl.drew_ ?_ | with_reducible refine Bl.drewN_ ?_ _ | with_reducible refine Bl.alloc_ ?_ _ | with_reducible refine Bl.trans_ ?_ (by assumption) | with_reducible refine Bl.trans_ ?_ (And.left (by assumption)))))
          clear hK K
          try simp only [Act.put, List.getElem_toArray, List.getElem_cons_succ, List.getElem_cons_zero, List.setIfInBounds_toArray, List.set_cons_zero, List.set_cons_succ]
          refine wpAnyH_take (i := 6) (v := ?_) rfl (by kernel_rfl) (by kernel_rfl) (by kernel_rfl) (fun _ _ _ h => h) (Or.inl ⟨by kernel_rfl, ?_⟩) (by assumption) ?_
          rotate_left
          · (intro wx hSw; (try dsimp only at hSw); go_simp; try (with_reducible rfl))
          try simp only [Act.put, List.getElem_toArray, List.getElem_cons_succ, List.getElem_cons_zero, List.setIfInBounds_toArray, List.set_cons_zero, List.set_cons_succ]
          refine wpAnyH_take (i := 7) (v := ?_) rfl (by kernel_rfl) (by kernel_rfl) (by kernel_rfl) (fun _ _ _ h => h) (Or.inl ⟨by kernel_rfl, ?_⟩) (by assumption) ?_
          rotate_left
          · (intro wx hSw; (try dsimp only at hSw); go_simp; try (with_reducible rfl))
          try simp only [Act.put, List.getElem_toArray, List.getElem_cons_succ, List.getElem_cons_zero, List.setIfInBounds_toArray, List.set_cons_zero, List.set_cons_succ]
          refine wpAnyH_take (i := 8) (v := ?_) rfl (by kernel_rfl) (by kernel_rfl) (by kernel_rfl) (fun _ _ _ h => h) (Or.inl ⟨by kernel_rfl, ?_⟩) (by assumption) ?_
          rotate_left
          · (intro wx hSw; (try dsimp only at hSw); go_simp; try (with_reducible rfl))
          try simp only [Act.put, List.getElem_toArray, List.getElem_cons_succ, List.getElem_cons_zero, List.setIfInBounds_toArray, List.set_cons_zero, List.set_cons_succ]
          refine wpAnyH_take (i := 9) (v := ?_) rfl (by kernel_rfl) (by kernel_rfl) (by kernel_rfl) (fun _ _ _ h => h) (Or.inl ⟨by kernel_rfl, ?_⟩) (by assumption) ?_
          rotate_left
          · (intro wx hSw; (try dsimp only at hSw); go_simp; try (with_reducible rfl))
          try simp only [Act.put, List.getElem_toArray, List.getElem_cons_succ, List.getElem_cons_zero, List.setIfInBounds_toArray, List.set_cons_zero, List.set_cons_succ]
          refine wpAnyH_take (i := 10) (v := ?_) rfl (by kernel_rfl) (by kernel_rfl) (by kernel_rfl) (fun _ _ _ h => h) (Or.inl ⟨by kernel_rfl, ?_⟩) (by assumption) ?_
          rotate_left
          · (intro wx hSw; (try dsimp only at hSw); go_simp; try (with_reducible rfl))
          try simp only [Act.put, List.getElem_toArray, List.getElem_cons_succ, List.getElem_cons_zero, List.setIfInBounds_toArray, List.set_cons_zero, List.set_cons_succ]
          refine wpAnyH_take (i := 11) (v := ?_) rfl (by kernel_rfl) (by kernel_rfl) (by kernel_rfl) (fun _ _ _ h => h) (Or.inl ⟨by kernel_rfl, ?_⟩) (by assumption) ?_
          rotate_left
          · (intro wx hSw; (try dsimp only at hSw); go_simp; try (with_reducible rfl))
          try simp only [Act.put, List.getElem_toArray, List.getElem_cons_succ, List.getElem_cons_zero, List.setIfInBounds_toArray, List.set_cons_zero, List.set_cons_succ]
          refine wpAnyH_take (i := 12) (v := ?_) rfl (by kernel_rfl) (by kernel_rfl) (by kernel_rfl) (fun _ _ _ h => h) (Or.inl ⟨by kernel_rfl, ?_⟩) (by assumption) ?_
          rotate_left
          · (intro wx hSw; (try dsimp only at hSw); go_simp; try (with_reducible rfl))
          try simp only [Act.put, List.getElem_toArray, List.getElem_cons_succ, List.getElem_cons_zero, List.setIfInBounds_toArray, List.set_cons_zero, List.set_cons_succ]
          refine wpAnyH_take (i := 13) (v := ?_) rfl (by kernel_rfl) (by kernel_rfl) (by kernel_rfl) (fun _ _ _ h => h) (Or.inl ⟨by kernel_rfl, ?_⟩) (by assumption) ?_
          rotate_left
          · (intro wx hSw; (try dsimp only at hSw); go_simp; try (with_reducible rfl))
          try simp only [Act.put, List.getElem_toArray, List.getElem_cons_succ, List.getElem_cons_zero, List.setIfInBounds_toArray, List.set_cons_zero, List.set_cons_succ]
          refine wpAnyH_take (i := 14) (v := ?_) rfl (by kernel_rfl) (by kernel_rfl) (by kernel_rfl) (fun _ _ _ h => h) (Or.inl ⟨by kernel_rfl, ?_⟩) (by assumption) ?_
          rotate_left
          · (intro wx hSw; (try dsimp only at hSw); go_simp; try (with_reducible rfl))
          try simp only [Act.put, List.getElem_toArray, List.getElem_cons_succ, List.getElem_cons_zero, List.setIfInBounds_toArray, List.set_cons_zero, List.set_cons_succ]
          refine wpAnyH_ready (rs := [15]) (by kernel_rfl) (by simp) ?_
          refine AllReadyH.cons rfl (fun K hK => ?_) AllReadyH.nil
          go_simp
          (go_at_call 136; refine (l1Has_any _ _ (V.take j) j LEN.out x _ (by omega) (TAK.out.bl (BW.out.trans_ (by repeat' (first | exact Bl.refl _ | with_reducible assumption | with_reducible refine Bl.drew_ ?_ | with_reducible refine Bl.drewN_ ?_ _ | with_reducible refine Bl.alloc_ ?_ _ | with_reducible refine Bl.trans_ ?_ (by assumption) | with_reducible refine Bl.trans_ ?_ (And.left (by assumption))))))).mono ?_; rintro e w6 ⟨rfl, hb6⟩; rw [HD2.out])
          try (go_wp2_with fail)
          refine hK.out _ _ ?_ (fun hHeld => ?_)
          · (exact HSH.out _ (by repeat' (first | exact Bl.refl _ | with_reducible assumption | with_reducible refine Bl.drew_ ?_ | with_reducible refine Bl.drewN_ ?_ _ | with_reducible refine Bl.alloc_ ?_ _ | with_reducible refine Bl.trans_ ?_ (by assumption) | with_reducible refine Bl.trans_ ?_ (And.left (by assumption)))))
          clear hK K
          try simp only [Act.put, List.getElem_toArray, List.getElem_cons_succ, List.getElem_cons_zero, List.setIfInBounds_toArray, List.set_cons_zero, List.set_cons_succ]
          refine wpAnyH_take (i := 16) (v := ?_) rfl (by kernel_rfl) (by kernel_rfl) (by kernel_rfl) (fun _ _ _ h => h) (Or.inl ⟨by kernel_rfl, ?_⟩) (by assumption) ?_
          rotate_left
          · (intro wx hSw; (try dsimp only at hSw); go_simp; try (with_reducible rfl))
          try simp only [Act.put, List.getElem_toArray, List.getElem_cons_succ, List.getElem_cons_zero, List.setIfInBounds_toArray, List.set_cons_zero, List.set_cons_succ]
          refine wpAnyH_done (by kernel_rfl) ?_ _
          go_wp2
          go_roundw
          case rel =>
            exact ⟨j + 1, by omega, by go_num, BB.out.trans_ (by repeat' (first | exact Bl.refl _ | with_reducible assumption | with_reducible refine Bl.drew_ ?_ | with_reducible refine Bl.drewN_ ?_ _ | with_reducible refine Bl.alloc_ ?_ _ | with_reducible refine Bl.trans_ ?_ (by assumption) | with_reducible refine Bl.trans_ ?_ (And.left (by assumption)))), HZ⟩
          case measure => simp [intOf]; omega
      · have hd : decide (0 ≤ x ∧ x < N) = false := by simpa using hin
        have HD := Lib.hid hd
        have HZ := Lib.hid (NOT.out hin)
        clear hd YES NO NOT hin
        go_wp2_with fail
        refine wp_region_held_drew (S := fun wx => Bl wr wx ∧ wx.cell? ⟨w.heap.size, 0, none⟩ = some (.int .i64 N) ∧ wx.cell? ⟨w.heap.size, 1, none⟩ = some (.slice A n c) ∧ wx.cell? ⟨g2, o2 + j, none⟩ = some (.int .i64 x)) (by kernel_rfl) ?_ (fun hHeld => ?_)
        · (exact HSH.out _ (by repeat' (first | exact Bl.refl _ | with_reducible assumption | with_reducible refine Bl.drew_ ?_ | with_reducible refine Bl.drewN_ ?_ _ | with_reducible refine Bl.alloc_ ?_ _ | with_reducible refine Bl.trans_ ?_ (by assumption) | with_reducible refine Bl.trans_ ?_ (And.left (by assumption)))))
        refine wpAnyH_take (i := 0) (v := ?_) rfl (by kernel_rfl) (by kernel_rfl) (by kernel_rfl) (fun _ _ _ h => h) (Or.inl ⟨by kernel_rfl, ?_⟩) (by assumption) ?_
        rotate_left
        · (intro wx hSw; (try dsimp only at hSw); go_simp; try (with_reducible rfl))
        try simp only [Act.put, List.getElem_toArray, List.getElem_cons_succ, List.getElem_cons_zero, List.setIfInBounds_toArray, List.set_cons_zero, List.set_cons_succ]
        refine wpAnyH_take (i := 1) (v := ?_) rfl (by kernel_rfl) (by kernel_rfl) (by kernel_rfl) (fun _ _ _ h => h) (Or.inl ⟨by kernel_rfl, ?_⟩) (by assumption) ?_
        rotate_left
        · (intro wx hSw; (try dsimp only at hSw); go_simp; try (with_reducible rfl))
        try simp only [Act.put, List.getElem_toArray, List.getElem_cons_succ, List.getElem_cons_zero, List.setIfInBounds_toArray, List.set_cons_zero, List.set_cons_succ]
        refine wpAnyH_take (i := 2) (v := ?_) rfl (by kernel_rfl) (by kernel_rfl) (by kernel_rfl) (fun _ _ _ h => h) (Or.inl ⟨by kernel_rfl, ?_⟩) (by assumption) ?_
        rotate_left
        · (intro wx hSw; (try dsimp only at hSw); go_simp; try (with_reducible rfl))
        try simp only [Act.put, List.getElem_toArray, List.getElem_cons_succ, List.getElem_cons_zero, List.setIfInBounds_toArray, List.set_cons_zero, List.set_cons_succ]
        refine wpAnyH_take (i := 3) (v := ?_) rfl (by kernel_rfl) (by kernel_rfl) (by kernel_rfl) (fun _ _ _ h => h) (Or.inl ⟨by kernel_rfl, ?_⟩) (by assumption) ?_
        rotate_left
        · (intro wx hSw; (try dsimp only at hSw); go_simp; try (with_reducible rfl))
        try simp only [Act.put, List.getElem_toArray, List.getElem_cons_succ, List.getElem_cons_zero, List.setIfInBounds_toArray, List.set_cons_zero, List.set_cons_succ]
        refine wpAnyH_take (i := 4) (v := ?_) rfl (by kernel_rfl) (by kernel_rfl) (by kernel_rfl) (fun _ _ _ h => h) (Or.inl ⟨by kernel_rfl, ?_⟩) (by assumption) ?_
        rotate_left
        · (intro wx hSw; (try dsimp only at hSw); go_simp; try (with_reducible rfl))
        try simp only [Act.put, List.getElem_toArray, List.getElem_cons_succ, List.getElem_cons_zero, List.setIfInBounds_toArray, List.set_cons_zero, List.set_cons_succ]
        refine wpAnyH_ready (rs := [5]) (by kernel_rfl) (by simp) ?_
        refine AllReadyH.cons rfl (fun K hK => ?_) AllReadyH.nil
        go_simp
        (go_at_call 82; refine (l1Node_any N x _ _).mono ?_; rintro e w5 ⟨rfl, hb5⟩; rw [HNB.out, HD.out])
        try (go_wp2_with fail)
        refine hK.out _ _ ?_ (fun hHeld => ?_)
        · (exact HSH.out _ (by repeat' (first | exact Bl.refl _ | with_reducible assumption | with_reducible refine Bl.drew_ ?_ | with_reducible refine Bl.drewN_ ?_ _ | with_reducible refine Bl.alloc_ ?_ _ | with_reducible refine Bl.trans_ ?_ (by assumption) | with_reducible refine Bl.trans_ ?_ (And.left (by assumption)))))
        clear hK K
        try simp only [Act.put, List.getElem_toArray, List.getElem_cons_succ, List.getElem_cons_zero, List.setIfInBounds_toArray, List.set_cons_zero, List.set_cons_succ]
        refine wpAnyH_take (i := 6) (v := ?_) rfl (by kernel_rfl) (by kernel_rfl) (by kernel_rfl) (fun _ _ _ h => h) (Or.inl ⟨by kernel_rfl, ?_⟩) (by assumption) ?_
        rotate_left
        · (intro wx hSw; (try dsimp only at hSw); go_simp; try (with_reducible rfl))
        try simp only [Act.put, List.getElem_toArray, List.getElem_cons_succ, List.getElem_cons_zero, List.setIfInBounds_toArray, List.set_cons_zero, List.set_cons_succ]
        refine wpAnyH_take (i := 7) (v := ?_) rfl (by kernel_rfl) (by kernel_rfl) (by kernel_rfl) (fun _ _ _ h => h) (Or.inl ⟨by kernel_rfl, ?_⟩) (by assumption) ?_
        rotate_left
        · (intro wx hSw; (try dsimp only at hSw); go_simp; try (with_reducible rfl))
        try simp only [Act.put, List.getElem_toArray, List.getElem_cons_succ, List.getElem_cons_zero, List.setIfInBounds_toArray, List.set_cons_zero, List.set_cons_succ]
        refine wpAnyH_take (i := 8) (v := undef) rfl (by kernel_rfl) (by kernel_rfl) (by kernel_rfl) (fun _ _ _ h => h) (Or.inr ⟨by kernel_rfl, rfl⟩) (by assumption) ?_
        try simp only [Act.put, List.getElem_toArray, List.getElem_cons_succ, List.getElem_cons_zero, List.setIfInBounds_toArray, List.set_cons_zero, List.set_cons_succ]
        refine wpAnyH_take (i := 9) (v := undef) rfl (by kernel_rfl) (by kernel_rfl) (by kernel_rfl) (fun _ _ _ h => h) (Or.inr ⟨by kernel_rfl, rfl⟩) (by assumption) ?_
        try simp only [Act.put, List.getElem_toArray, List.getElem_cons_succ, List.getElem_cons_zero, List.setIfInBounds_toArray, List.set_cons_zero, List.set_cons_succ]
        refine wpAnyH_take (i := 10) (v := undef) rfl (by kernel_rfl) (by kernel_rfl) (by kernel_rfl) (fun _ _ _ h => h) (Or.inr ⟨by kernel_rfl, rfl⟩) (by assumption) ?_
        try simp only [Act.put, List.getElem_toArray, List.getElem_cons_succ, List.getElem_cons_zero, List.setIfInBounds_toArray, List.set_cons_zero, List.set_cons_succ]
        refine wpAnyH_take (i := 11) (v := undef) rfl (by kernel_rfl) (by kernel_rfl) (by kernel_rfl) (fun _ _ _ h => h) (Or.inr ⟨by kernel_rfl, rfl⟩) (by assumption) ?_
        try simp only [Act.put, List.getElem_toArray, List.getElem_cons_succ, List.getElem_cons_zero, List.setIfInBounds_toArray, List.set_cons_zero, List.set_cons_succ]
        refine wpAnyH_take (i := 12) (v := undef) rfl (by kernel_rfl) (by kernel_rfl) (by kernel_rfl) (fun _ _ _ h => h) (Or.inr ⟨by kernel_rfl, rfl⟩) (by assumption) ?_
        try simp only [Act.put, List.getElem_toArray, List.getElem_cons_succ, List.getElem_cons_zero, List.setIfInBounds_toArray, List.set_cons_zero, List.set_cons_succ]
        refine wpAnyH_take (i := 13) (v := undef) rfl (by kernel_rfl) (by kernel_rfl) (by kernel_rfl) (fun _ _ _ h => h) (Or.inr ⟨by kernel_rfl, rfl⟩) (by assumption) ?_
        try simp only [Act.put, List.getElem_toArray, List.getElem_cons_succ, List.getElem_cons_zero, List.setIfInBounds_toArray, List.set_cons_zero, List.set_cons_succ]
        refine wpAnyH_take (i := 14) (v := undef) rfl (by kernel_rfl) (by kernel_rfl) (by kernel_rfl) (fun _ _ _ h => h) (Or.inr ⟨by kernel_rfl, rfl⟩) (by assumption) ?_
        try simp only [Act.put, List.getElem_toArray, List.getElem_cons_succ, List.getElem_cons_zero, List.setIfInBounds_toArray, List.set_cons_zero, List.set_cons_succ]
        refine wpAnyH_ready (rs := [15]) (by kernel_rfl) (by simp) ?_
        refine AllReadyH.cons rfl (fun K hK => ?_) AllReadyH.nil
        go_simp
        refine hK.out _ _ ?_ (fun hHeld => ?_)
        · (exact HSH.out _ (by repeat' (first | exact Bl.refl _ | with_reducible assumption | with_reducible refine Bl.drew_ ?_ | with_reducible refine Bl.drewN_ ?_ _ | with_reducible refine Bl.alloc_ ?_ _ | with_reducible refine Bl.trans_ ?_ (by assumption) | with_reducible refine Bl.trans_ ?_ (And.left (by assumption)))))
        clear hK K
        try simp only [Act.put, List.getElem_toArray, List.getElem_cons_succ, List.getElem_cons_zero, List.setIfInBounds_toArray, List.set_cons_zero, List.set_cons_succ]
        refine wpAnyH_take (i := 16) (v := ?_) rfl (by kernel_rfl) (by kernel_rfl) (by kernel_rfl) (fun _ _ _ h => h) (Or.inl ⟨by kernel_rfl, ?_⟩) (by assumption) ?_
        rotate_left
        · (intro wx hSw; (try dsimp only at hSw); go_simp; try (with_reducible rfl))
        try simp only [Act.put, List.getElem_toArray, List.getElem_cons_succ, List.getElem_cons_zero, List.setIfInBounds_toArray, List.set_cons_zero, List.set_cons_succ]
        refine wpAnyH_done (by kernel_rfl) ?_ _
        go_wp2
        go_ret
        refine ⟨ret_bool ?_, BW.out.trans_ (by repeat' (first | exact Bl.refl _ | with_reducible assumption | with_reducible refine Bl.drew_ ?_ | with_reducible refine Bl.drewN_ ?_ _ | with_reducible refine Bl.alloc_ ?_ _ | with_reducible refine Bl.trans_ ?_ (by assumption) | with_reducible refine Bl.trans_ ?_ (And.left (by assumption))))⟩
        unfold unB
        exact (decide_eq_false HZ.out).symm
    · have HZ := Lib.hid (show (∀ v ∈ V, 0 ≤ v ∧ v < N) ∧ V.Nodup from ⟨fun v hv => by
        obtain ⟨t, ht, rfl⟩ := List.mem_iff_getElem.1 hv
        exact hno.out.1 t ht (by have := HK.out; omega), by
        have := hno.out.2
        rwa [List.take_of_length_le (by have := HK.out; omega)] at this⟩)
      go_wp2
      go_ret
      refine ⟨ret_bool ?_, BW.out⟩
      unfold unB
      exact (decide_eq_true HZ.out).symm

end Go.Proofs.Ytlddileiecnkjaa

set_option linter.unusedSimpArgs false
set_option linter.unusedVariables false
namespace Go.Proofs.Ytlddileiecnkjaa
open Go.RowKit

theorem lessI_two {a b : It} (h : lessI a b = true) (k : lessI b a = true) : False := by
  rw [lessI_asymm h] at k
  cases k
theorem lessI_tr {a b c : It} (h : lessI a b = true) (k : lessI b c = true) : lessI a c = true := by
  simp only [lessI, decide_eq_true_eq] at *
  omega
/-- Items in order. -/
def SortI (X : List It) : Prop := X.Pairwise fun a b => lessI a b = true
theorem sortI_uniq : ∀ {X Y : List It}, SortI X → SortI Y → (∀ x, x ∈ X ↔ x ∈ Y) → X = Y
  | [], [], _, _, _ => rfl
  | [], b :: Y, _, _, h => absurd ((h b).2 (by simp)) (by simp)
  | a :: X, [], _, _, h => absurd ((h a).1 (by simp)) (by simp)
  | a :: X, b :: Y, hX, hY, h => by
    obtain ⟨h1, h2⟩ := List.pairwise_cons.1 hX
    obtain ⟨k1, k2⟩ := List.pairwise_cons.1 hY
    have hab : a = b := by
      rcases List.mem_cons.1 ((h a).1 (by simp)) with e | e
      · exact e
      · rcases List.mem_cons.1 ((h b).2 (by simp)) with e' | e'
        · exact e'.symm
        · exact (lessI_two (k1 a e) (h1 b e')).elim
    subst hab
    congr 1
    refine sortI_uniq h2 k2 fun x => ⟨fun hx => ?_, fun hx => ?_⟩
    · rcases List.mem_cons.1 ((h x).1 (List.mem_cons_of_mem _ hx)) with e | e
      · subst e; exact (lessI_two (h1 _ hx) (h1 _ hx)).elim
      · exact e
    · rcases List.mem_cons.1 ((h x).2 (List.mem_cons_of_mem _ hx)) with e | e
      · subst e; exact (lessI_two (k1 _ hx) (k1 _ hx)).elim
      · exact e
/-- Where an item goes among items in order. -/
def placeN (x : It) (X : List It) : Nat := (X.takeWhile fun y => lessI y x).length
def insI (x : It) (X : List It) : List It := X.take (placeN x X) ++ x :: X.drop (placeN x X)
theorem placeN_le (x : It) (X : List It) : placeN x X ≤ X.length := by
  unfold placeN
  exact (List.takeWhile_prefix _).length_le
theorem placeN_eq {x : It} : ∀ {X : List It} {a : Nat}, a ≤ X.length → (∀ i (h : i < X.length), i < a → lessI X[i] x = true) → (∀ h : a < X.length, lessI X[a] x = false) → placeN x X = a
  | [], a, ha, _, _ => by simp at ha; simp [placeN, ha]
  | y :: X, 0, _, _, h2 => by
    have := h2 (by simp)
    simp only [List.getElem_cons_zero] at this
    simp [placeN, this]
  | y :: X, a + 1, ha, h1, h2 => by
    have e0 := h1 0 (by simp) (by omega)
    simp only [List.getElem_cons_zero] at e0
    have ih := placeN_eq (x := x) (X := X) (a := a) (by simpa using ha) (fun i h hi => by have := h1 (i + 1) (by simpa using h) (by omega); rwa [List.getElem_cons_succ] at this) (fun h => by have := h2 (by simpa using h); rwa [List.getElem_cons_succ] at this)
    unfold placeN at ih ⊢
    rw [List.takeWhile_cons, e0]
    simp [ih]
theorem ins_mem' {x z : It} {X : List It} : z ∈ insI x X ↔ z = x ∨ z ∈ X := by
  unfold insI
  rw [List.mem_append, List.mem_cons]
  constructor
  · rintro (h | h | h)
    · exact .inr (List.mem_of_mem_take h)
    · exact .inl h
    · exact .inr (List.mem_of_mem_drop h)
  · rintro (h | h)
    · exact .inr (.inl h)
    · rw [← List.take_append_drop (placeN x X) X] at h
      rcases List.mem_append.1 h with h | h
      · exact .inl h
      · exact .inr (.inr h)
theorem insI_eq (x : It) (X : List It) : insI x X = (X.takeWhile fun y => lessI y x) ++ x :: (X.dropWhile fun y => lessI y x) := by
  have e := List.takeWhile_append_dropWhile (p := fun y => lessI y x) (l := X)
  unfold insI placeN
  have h1 : X.take (X.takeWhile fun y => lessI y x).length = X.takeWhile fun y => lessI y x := (List.prefix_iff_eq_take.1 (List.takeWhile_prefix _)).symm
  have h2 : X.drop (X.takeWhile fun y => lessI y x).length = X.dropWhile fun y => lessI y x := by
    have := List.take_append_drop (X.takeWhile fun y => lessI y x).length X
    rw [h1] at this
    exact List.append_cancel_left (this.trans e.symm)
  rw [h1, h2]
theorem dropWhile_no {x : It} : ∀ {X : List It}, SortI X → ∀ z ∈ X.dropWhile (fun y => lessI y x), lessI z x = false
  | [], _, z, hz => by simp at hz
  | a :: t, hp, z, hz => by
    obtain ⟨h1, h2⟩ := List.pairwise_cons.1 hp
    rw [List.dropWhile_cons] at hz
    split at hz
    · exact dropWhile_no h2 z hz
    · rename_i ha
      rcases List.mem_cons.1 hz with rfl | hz
      · simpa using ha
      · cases hc : lessI z x
        · rfl
        · exact absurd (lessI_tr (h1 z hz) hc) (by simpa using ha)
theorem takeWhile_yes {x : It} : ∀ {X : List It}, ∀ z ∈ X.takeWhile (fun y => lessI y x), lessI z x = true
  | [], z, hz => by simp at hz
  | a :: t, z, hz => by
    rw [List.takeWhile_cons] at hz
    split at hz
    · rename_i ha
      rcases List.mem_cons.1 hz with rfl | hz
      · exact ha
      · exact takeWhile_yes z hz
    · simp at hz
theorem ins_sort {x : It} {X : List It} (h : SortI X) (hx : ∀ z ∈ X, z.2 ≠ x.2) : SortI (insI x X) := by
  rw [insI_eq]
  have e := List.takeWhile_append_dropWhile (p := fun y => lessI y x) (l := X)
  have h' : SortI ((X.takeWhile fun y => lessI y x) ++ (X.dropWhile fun y => lessI y x)) := by rw [e]; exact h
  obtain ⟨p1, p2, p3⟩ := List.pairwise_append.1 h'
  refine List.pairwise_append.2 ⟨p1, List.pairwise_cons.2 ⟨fun z hz => ?_, p2⟩, fun a ha b hb => ?_⟩
  · exact lessI_total (dropWhile_no h z hz) (hx z ((List.dropWhile_suffix _).subset hz))
  · rcases List.mem_cons.1 hb with rfl | hb
    · exact takeWhile_yes a ha
    · exact p3 a ha b hb
/-- The first of the places that are reached, nearest first. -/
def nrK (D : List Int) (V : List Int) : Nat → List It
  | 0 => []
  | k + 1 => if dAt D (V.getD k 0) < 0 then nrK D V k else insI (dAt D (V.getD k 0), V.getD k 0) (nrK D V k)
theorem nrK_len (D V : List Int) : ∀ k, (nrK D V k).length ≤ k
  | 0 => by simp [nrK]
  | k + 1 => by
    have ih := nrK_len D V k
    unfold nrK
    split
    · omega
    · have h1 := placeN_le (dAt D (V.getD k 0), V.getD k 0) (nrK D V k)
      unfold insI
      simp
      omega
theorem nrK_mem (D : List Int) {V : List Int} (x : It) : ∀ k, k ≤ V.length → (x ∈ nrK D V k ↔ x.2 ∈ V.take k ∧ 0 ≤ x.1 ∧ x.1 = dAt D x.2)
  | 0, _ => by simp [nrK]
  | k + 1, h => by
    have ih := nrK_mem D (V := V) x k (by omega)
    have e : V.getD k 0 = V[k] := by simp [show k < V.length by omega]
    unfold nrK
    rw [List.take_succ_eq_append_getElem (show k < V.length by omega), List.mem_append, List.mem_singleton, e]
    split
    · rename_i hn
      rw [ih]
      constructor
      · rintro ⟨a, b⟩; exact ⟨.inl a, b⟩
      · rintro ⟨a | a, b⟩
        · exact ⟨a, b⟩
        · rw [a] at b; omega
    · rename_i hn
      rw [ins_mem', ih]
      constructor
      · rintro (a | ⟨a, b⟩)
        · subst a; exact ⟨.inr rfl, by show 0 ≤ dAt D V[k]; omega, rfl⟩
        · exact ⟨.inl a, b⟩
      · rintro ⟨a | a, b, c⟩
        · exact .inr ⟨a, b, c⟩
        · refine .inl ?_
          rw [a] at c
          exact Prod.ext c a
theorem nrK_sort (D : List Int) {V : List Int} (hV : V.Nodup) : ∀ k, k ≤ V.length → SortI (nrK D V k)
  | 0, _ => List.Pairwise.nil
  | k + 1, h => by
    have ih := nrK_sort D hV k (by omega)
    have e : V.getD k 0 = V[k] := by simp [show k < V.length by omega]
    unfold nrK
    split
    · exact ih
    · refine ins_sort ih fun z hz hc => ?_
      have h1 := ((nrK_mem D z k (by omega)).1 hz).1
      have h2 : z.2 = V[k] := hc.trans e
      rw [h2] at h1
      obtain ⟨i, hi, he⟩ := List.getElem_of_mem h1
      rw [List.getElem_take] at he
      have hik : i < k := by simp at hi; omega
      have hd := List.pairwise_iff_getElem.1 hV i k (by omega) (by omega) hik
      exact absurd he hd
def nrB (N : Int) (L : List Arc3) (s : Int) (V : List Int) (k : Int) : Bool := has1 N L s && (hasUB N L V && decide (0 ≤ k))
def nrAll (N : Int) (L : List Arc3) (s : Int) (V : List Int) : List It := nrK (distL N L s) V V.length
def nrL (N : Int) (L : List Arc3) (s : Int) (V : List Int) (k : Int) : List It := if nrB N L s V k = true then (nrAll N L s V).take k.toNat else []
theorem nrL_no {N s k : Int} {L : List Arc3} {V : List Int} (h : nrB N L s V k = false) : nrL N L s V k = [] := if_neg (by rw [h]; simp)
theorem nrL_yes {N s k : Int} {L : List Arc3} {V : List Int} (h : nrB N L s V k = true) : nrL N L s V k = (nrAll N L s V).take k.toNat := if_pos h
theorem nrL_len (N : Int) (L : List Arc3) (s : Int) (V : List Int) (k : Int) : (nrL N L s V k).length ≤ V.length := by
  unfold nrL
  split
  · have := nrK_len (distL N L s) V V.length
    unfold nrAll
    simp
    omega
  · simp
def inV (V : List Int) (x : It) : Bool := decide (x.2 ∈ V)
/-- Told nearest first, and those that are places alone, these are the same. -/
theorem nr_of_near {N s : Int} {L : List Arc3} {V : List Int} {xs : List It} (ho : okB N L = true) (hV : V.Nodup) (hn : ∀ v ∈ V, 0 ≤ v ∧ v < N) (h : AllNear N L s xs) : xs.filter (inV V) = nrAll N L s V := by
  have hA := arcsIn_of_ok ho
  have hN := (okB_elim ho).2.1
  refine sortI_uniq (h.sorted.filter _) (nrK_sort _ hV _ (Nat.le_refl _)) fun x => ?_
  rw [List.mem_filter]
  have hm := h.mem hA hN x.1 x.2
  have e := nrK_mem (distL N L s) (V := V) x V.length (Nat.le_refl _)
  rw [List.take_of_length_le (Nat.le_refl _)] at e
  unfold nrAll
  rw [e, show (x ∈ xs) = ((x.1, x.2) ∈ xs) from rfl, hm]
  unfold inV
  rw [decide_eq_true_eq]
  constructor
  · rintro ⟨⟨a, b, c⟩, d⟩; exact ⟨d, b, c⟩
  · rintro ⟨d, b, c⟩; exact ⟨⟨hn _ d, b, c⟩, d⟩
/-- Where the telling is left as soon as there are k of them, these are the first k. -/
theorem nr_part {N s : Int} {L : List Arc3} {V : List Int} {pre Z : List It} {k : Nat} (ho : okB N L = true) (hV : V.Nodup) (hn : ∀ v ∈ V, 0 ≤ v ∧ v < N) (h : AllNear N L s (pre ++ Z)) (hk : (pre.filter (inV V)).length = k) : pre.filter (inV V) = (nrAll N L s V).take k := by
  rw [← nr_of_near ho hV hn h, List.filter_append, ← hk, List.take_left']
  rfl

end Go.Proofs.Ytlddileiecnkjaa

set_option linter.unusedSimpArgs false
set_option linter.unusedVariables false
namespace Go.Proofs.Ytlddileiecnkjaa
open Go.RowKit

/-- Items in new memory are left. -/
def ItemsNew (L : List It) (w : World) (e : Ending) (w' : World) : Prop := ∃ v, e = .returned v ∧ OwnI w' w.heap.size v L ∧ Bl w w'
theorem cs2_one : ∀ (M : List It), ∀ u ∈ cs2 M, u.oneCell' = true
  | [], u, h => by simp [cs2] at h
  | a :: l, u, h => by
    simp only [cs2, List.mem_cons] at h
    rcases h with rfl | rfl | h
    · rfl
    · rfl
    · exact cs2_one l u h
theorem wp_cat_Item {ops : Array Oper} {rest : List Oper} {o : Oper} {a : Act} {Q : Exit → Act → World → Prop} (hgd : o.guard = none) (s x : Operand)
    (ho : o.op = .call { callee := .builtin .append, args := #[s, x], argTypes := #[59, 59] })
    (w : World) (B : Nat) (v : Value) (V : List It) (A : Option Addr) (n c : Nat) (M : List It) (hs : a.eval s = v) (hx : a.eval x = .slice A n c) (hO : OwnI w B v V) (hl : V.length ≤ 1048576) (hB : B ≤ w.heap.size) (hn : n = M.length) (hm : n ≤ 1048576) (H : ItemsAt w w.heap.size A M)
    (h : ∀ v' w', OwnI w' B v' (V ++ M) → (∀ W : World, Bl W w → W.heap.size ≤ B → Bl W w') → wpList Try.prog ops Q rest (a.put o.dst v') w') :
    wpList Try.prog ops Q (o :: rest) a w := by
  obtain ⟨i0, hi, hz0, hz1, hz2⟩ := info_parts infoItem
  have hO' : w.ownsRow B 68 2 v V.length (cs2 V) := hO
  have hr : Reads w w.heap.size 2 A n (cs2 M) := reads_of_cells H (by rw [cs2_length, hn]) (by omega)
  refine wpList_append_any w hgd s x _ ho B 68 i0 _ 2 16 Try.underlying59 hi hz0 hz1 hz2 rfl (by decide) v V.length (cs2 V) hs hO' w.heap.size A n c (cs2 M) hx hr (cs2_one M) (by unfold maxLen; omega) (by omega) hB ?_
  intro v' w' h1 h2 _
  refine h v' w' ?_ fun W hW hWB => hW.grown_ h2 fun g hg => ?_
  · unfold OwnI Owns
    rw [cs2_append, List.length_append, ← hn]
    exact h1
  · have := (World.ownsRow.lt hO' g hg).1
    omega
theorem items_take {w : World} {B m : Nat} {A : Option Addr} {X : List It} (h : ItemsAt w B A X) : ItemsAt w B A (X.take m) := fun h0 => by
  have h0' : 0 < (cs2 X).length := by
    rw [cs2_length] at h0 ⊢
    rw [List.length_take] at h0
    omega
  obtain ⟨g, off, e, hg, hc⟩ := h h0'
  refine ⟨g, off, e, hg, fun j hj => ?_⟩
  have hj' : j < (cs2 X).length := by
    rw [cs2_length] at hj ⊢
    rw [List.length_take] at hj
    omega
  rw [hc j hj']
  congr 1
  have e1 : (cs2 (X.take m))[j]? = (cs2 X)[j]? := by
    rw [cs2_take, List.getElem?_take, if_pos (by rw [cs2_length, List.length_take] at hj; omega)]
  have e2 := List.getElem?_eq_getElem hj
  have e3 := List.getElem?_eq_getElem hj'
  rw [e1, e3] at e2
  exact Option.some.inj e2
theorem cs2_drop : ∀ (l : List It) (k : Nat), cs2 (l.drop k) = (cs2 l).drop (k * 2)
  | l, 0 => by simp
  | [], k + 1 => by simp [cs2]
  | a :: l, k + 1 => by
    rw [show (k + 1) * 2 = k * 2 + 2 from by omega]
    simp [cs2, cs2_drop l k]
theorem items_drop {w : World} {B m g : Nat} {X : List It} (h : ItemsAt w B (some ⟨g, 0, none⟩) X) : ItemsAt w B (some ⟨g, m * 2, none⟩) (X.drop m) := fun h0 => by
  have h0' : 0 < (cs2 X).length := by
    rw [cs2_length] at h0 ⊢
    rw [List.length_drop] at h0
    omega
  obtain ⟨g', off, e, hg, hc⟩ := h h0'
  injection e with e
  injection e with e1 e2 e3
  subst e1; subst e2
  refine ⟨g, m * 2, rfl, hg, fun j hj => ?_⟩
  have hj' : m * 2 + j < (cs2 X).length := by
    rw [cs2_length] at hj ⊢
    rw [List.length_drop] at hj
    omega
  have := hc (m * 2 + j) hj'
  rw [Nat.zero_add] at this
  rw [this]
  congr 1
  have e1 : (cs2 (X.drop m))[j]? = (cs2 X)[m * 2 + j]? := by rw [cs2_drop, List.getElem?_drop]
  have e2 := List.getElem?_eq_getElem hj
  have e3 := List.getElem?_eq_getElem hj'
  rw [e1, e3] at e2
  exact Option.some.inj e2
theorem items_new (w : World) (a b : Int) (t : TypeId) (B : Nat) (hB : w.heap.size < B) : ItemsAt (w.alloc (.cells #[.int .i64 a, .int .i64 b] t)) B (some ⟨w.heap.size, 0, none⟩) [(a, b)] := fun _ => by
  refine ⟨w.heap.size, 0, rfl, hB, fun j hj => ?_⟩
  match j, hj with
  | 0, _ => simp [go_sem, cs2]
  | 1, _ => simp [go_sem, cs2]
  | j + 2, hj => exact absurd hj (by simp [cs2])
theorem own_startI (w : World) (B : Nat) (hB : B ≤ w.heap.size) : OwnI (w.alloc (.cells #[] 68)) B (.slice (some ⟨w.heap.size, 0, none⟩) 0 0) [] :=
  World.ownsRow_made (base := B) (e := 68) (size := 2) w #[] 0 hB (by unfold maxLen; omega) rfl
theorem own_shapeI {w : World} {B : Nat} {v : Value} {L : List It} (h : OwnI w B v L) (h0 : 0 < L.length) : ∃ g c, v = .slice (some ⟨g, 0, none⟩) L.length c ∧ B ≤ g ∧ g < w.heap.size := by
  obtain ⟨A, c, rfl, -, -, -, k⟩ := Owns.shape (show Owns _ _ _ _ _ _ _ from h)
  obtain ⟨g, rfl, h1, h2, -⟩ := k h0
  exact ⟨g, c, rfl, h1, h2⟩
theorem own_atI {w : World} {B n c : Nat} {A : Option Addr} {L : List It} (h : OwnI w B (.slice A n c) L) : ItemsAt w w.heap.size A L := by
  obtain ⟨A', c', e, -, k, -⟩ := Owns.shape (show Owns _ _ _ _ _ _ _ from h)
  injection e with e1
  rw [e1]; exact k
theorem own_capI {w : World} {B n c : Nat} {A : Option Addr} {L : List It} (h : OwnI w B (.slice A n c) L) : n ≤ c := by
  have h' : w.ownsRow B 68 2 (.slice A n c) L.length (cs2 L) := h
  rcases h'.2 with ⟨e, h0⟩ | ⟨g', cap', cur, e, hB, hg, hnc, hcm, hcs, htake⟩
  · injection e with e1 e2 e3
    omega
  · injection e with e1 e2 e3
    omega
theorem ins_at {x : It} {X : List It} {a : Nat} (ha : a ≤ X.length) (h1 : ∀ i (h : i < X.length), i < a → lessI X[i] x = true) (h2 : ∀ h : a < X.length, lessI X[a] x = false) : X.take a ++ [x] ++ X.drop a = insI x X := by
  unfold insI
  rw [placeN_eq ha h1 h2, List.append_assoc]
  rfl
theorem own_takeI {w : World} {B n c m : Nat} {A : Option Addr} {M : List It} (hn : n = M.length) (h : OwnI w B (.slice A n c) M) (hm : m ≤ n) (hA : A ≠ none) : OwnI w B (.slice A m c) (M.take m) := by
  subst hn
  have := Owns.take_ (show Owns _ _ _ _ _ _ _ from h) hm hA
  unfold OwnI
  rw [cs2_take, List.length_take, Nat.min_eq_left hm]
  exact this
theorem OwnI.bl_ {w w' : World} {B : Nat} {v : Value} {L : List It} (h : OwnI w B v L) (hb : Bl w w') : OwnI w' B v L := Owns.bl (show Owns _ _ _ _ _ _ _ from h) hb
theorem OwnI.low_ {w : World} {B B' : Nat} {v : Value} {L : List It} (h : OwnI w B' v L) (hB : B ≤ B') : OwnI w B v L := Owns.low (show Owns _ _ _ _ _ _ _ from h) hB

end Go.Proofs.Ytlddileiecnkjaa
