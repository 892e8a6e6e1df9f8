/-
  What is proved here: the small functions of the code and of the model that ask whether numbers are nodes, no two alike; the model's Farthest; a function that holds several ranges over functions leaves by their marks; a region that draws its order, in a round of a range over a function, is met by the laws for one without a fence; the code's Farthest; the walk of the exact law on Farthest: at every graph and all numbers that can be read it returns true and leaves what was there as it was; at every graph and all numbers the exact law on Farthest returns true, and the argument reads as it did. No conditions. No conditions beyond those that each theorem states.
-/
import Derived.Test.YtmdmbobjdhjadaaPF
import Derived.Test.YtmdmbobjdhjadaaNF1
import Derived.Test.YtmdmbobjdhjadaaK1
import Derived.Test.YtmdmbobjdhjadaaNS2
import Derived.Lib.MinMax
import Derived.Outline
import Derived.Test.YtmdmbobjdhjadaaW4
import Derived.Test.YtmdmbobjdhjadaaW5
import Derived.Test.YtmdmbobjdhjadaaNF4
import Derived.Test.YtmdmbobjdhjadaaK2
import Derived.Test.YtmdmbobjdhjadaaB1
import Derived.Test.YtmdmbobjdhjadaaB0
set_option linter.unusedSimpArgs false
set_option linter.unusedVariables false
namespace Go.Proofs.Ytmdmbobjdhjadaa
open Go.RowKit

set_option maxRecDepth 100000 in
set_option maxHeartbeats 1000000 in
theorem hasUnlike_any (N : Int) (A : Option Addr) (n c : Nat) (L : List Arc3) (hn : n = L.length) (A2 : Option Addr) (k c2 : Nat) (V : List Int) (hk : k = V.length) (w : World) (hm : n ≤ 9223372036854775807) (hkm : k ≤ 1048576) (H1 : ArcsAt w w.heap.size A L) (H2 : IntsAt w w.heap.size A2 V) :
    Calls Try.prog 73 #[.agg #[.int .i64 N, .slice A n c], .slice A2 k c2] w fun e w' => e = .returned (.bool (hasUB N L V)) ∧ Bl w w' := by
  have K1 := Lib.hid H1
  have K2 := Lib.hid H2
  have HN := Lib.hid hn
  have HK := Lib.hid hk
  clear H1 H2 hn hk
  cases hh : hasB N L V with
  | false =>
    have HH := Lib.hid hh
    clear hh
    go_enter Try.func73, Try.ntmps73
    go_wp2_with fail
    refine (hasNodes_any N A n c L HN.out A2 k c2 V HK.out _ hm hkm (K1.out.bl (by repeat' (first | exact Bl.refl _ | with_reducible assumption | with_reducible refine Bl.drew_ ?_ | with_reducible refine Bl.drewN_ ?_ _ | with_reducible refine Bl.alloc_ ?_ _ | with_reducible refine Bl.trans_ ?_ (by assumption) | with_reducible refine Bl.trans_ ?_ (And.left (by assumption))))) (K2.out.bl (by repeat' (first | exact Bl.refl _ | with_reducible assumption | with_reducible refine Bl.drew_ ?_ | with_reducible refine Bl.drewN_ ?_ _ | with_reducible refine Bl.alloc_ ?_ _ | with_reducible refine Bl.trans_ ?_ (by assumption) | with_reducible refine Bl.trans_ ?_ (And.left (by assumption)))))).mono ?_
    rintro e w1 ⟨rfl, hb1⟩
    rw [HH.out]
    go_wp2
    go_ret
    exact ⟨ret_bool (hasUB_no HH.out).symm, (by repeat' (first | exact Bl.refl _ | with_reducible assumption | with_reducible refine Bl.drew_ ?_ | with_reducible refine Bl.drewN_ ?_ _ | with_reducible refine Bl.alloc_ ?_ _ | with_reducible refine Bl.trans_ ?_ (by assumption) | with_reducible refine Bl.trans_ ?_ (And.left (by assumption))))⟩
  | true =>
    have HH := Lib.hid hh
    obtain ⟨ho, hin⟩ := hasB_iff.1 hh
    have hN24 := (okB_elim ho).2.1
    have HIN := Lib.hid hin
    clear hh ho hin
    go_enter Try.func73, Try.ntmps73
    go_wp2_with fail
    refine (hasNodes_any N A n c L HN.out A2 k c2 V HK.out _ hm hkm (K1.out.bl (by repeat' (first | exact Bl.refl _ | with_reducible assumption | with_reducible refine Bl.drew_ ?_ | with_reducible refine Bl.drewN_ ?_ _ | with_reducible refine Bl.alloc_ ?_ _ | with_reducible refine Bl.trans_ ?_ (by assumption) | with_reducible refine Bl.trans_ ?_ (And.left (by assumption))))) (K2.out.bl (by repeat' (first | exact Bl.refl _ | with_reducible assumption | with_reducible refine Bl.drew_ ?_ | with_reducible refine Bl.drewN_ ?_ _ | with_reducible refine Bl.alloc_ ?_ _ | with_reducible refine Bl.trans_ ?_ (by assumption) | with_reducible refine Bl.trans_ ?_ (And.left (by assumption)))))).mono ?_
    rintro e w1 ⟨rfl, hb1⟩
    rw [HH.out]
    have BW := Lib.hid (show Bl w w1 from (Bl.alloc_ (Bl.refl w) _).trans_ hb1)
    clear hb1
    go_wp2_with fail
    go_loopw [14] (fun i wr => ∃ j : Nat, j ≤ k ∧ i = .int .i64 j ∧ Bl w1 wr ∧ ToldAt wr w1.heap.size (itV (V.take j)) ∧ Hid ((V.take j).Nodup)) (fun i _ => k - (intOf i).toNat)
    case atStart =>
      refine ⟨0, by omega, rfl, (by repeat' (first | exact Bl.refl _ | with_reducible assumption | with_reducible refine Bl.drew_ ?_ | with_reducible refine Bl.drewN_ ?_ _ | with_reducible refine Bl.alloc_ ?_ _ | with_reducible refine Bl.trans_ ?_ (by assumption) | with_reducible refine Bl.trans_ ?_ (And.left (by assumption)))), ⟨by simp, fun i hi => ?_, fun i hi => by simp [go_sem]⟩, Lib.hid (by simp)⟩
      match i, hi with
      | 0, _ | 1, _ | 2, _ | 3, _ | 4, _ | 5, _ | 6, _ | 7, _ | 8, _ | 9, _ | 10, _ | 11, _ | 12, _ | 13, _ | 14, _ | 15, _ | 16, _ | 17, _ | 18, _ | 19, _ | 20, _ | 21, _ | 22, _ | 23, _ => simp [go_sem, toldB, itV]
      | (k + 24), h => exact absurd h (by omega)
    case round =>
      obtain ⟨j, hj, rfl, hbl, htold, hnd⟩ := hrel
      by_cases hlt : j < k
      · have hjl : j < V.length := by have := HK.out; omega
        obtain ⟨g2, o2, rfl, hg2, hc2⟩ := K2.out.cell (by omega)
        have p1 := hc2 j hjl
        clear hc2
        rw [← (bcell (BW.out.trans_ hbl)).1 _ _ hg2] at p1
        have hx := HIN.out V[j] (List.getElem_mem hjl)
        have YES := Lib.hid (fun h : V[j] ∈ V.take j => nodup_hurt hjl h)
        have NO := Lib.hid (fun h : V[j] ∉ V.take j => nodup_step hjl hnd.out h)
        have SN := Lib.hid (take_snocI hjl)
        generalize V[j] = x at *
        obtain ⟨u, rfl⟩ : ∃ u : Nat, x = u := ⟨x.toNat, by omega⟩
        have hu : u < 24 := by omega
        have z1 := htold.cell u hu
        have z2 := htold.free u hu
        rw [told_itV] at z1
        have TL := Lib.hid htold
        have hu0 : (0 : Int) ≤ (u : Int) := by omega
        have hu1 : (u : Int) < 24 := by omega
        have hj0 : (0 : Int) ≤ (j : Int) := by omega
        have hj1 : (j : Int) < (k : Int) := by omega
        clear htold hx
        by_cases hmem : (u : Int) ∈ V.take j
        · rw [decide_eq_true hmem] at z1
          have HY := Lib.hid (YES.out hmem)
          clear YES NO hmem
          go_wp2
          go_ret
          refine ⟨ret_bool ?_, BW.out.trans_ hbl⟩
          rw [hasUB_yes HH.out, decide_eq_false HY.out]
        · rw [decide_eq_false hmem] at z1
          have HZ := Lib.hid (NO.out hmem)
          clear YES NO hmem
          go_wp2
          go_roundw
          case rel =>
            refine ⟨j + 1, by omega, by go_num, hbl.set_ (by simp) _, ?_, HZ⟩
            rw [SN.out, itV_snoc]
            exact TL.out.set hu
          case measure => simp [intOf]; omega
      · have HZ := Lib.hid (show V.Nodup from by
          have := hnd.out
          rwa [List.take_of_length_le (by have := HK.out; omega)] at this)
        go_wp2
        go_ret
        refine ⟨ret_bool ?_, BW.out.trans_ hbl⟩
        rw [hasUB_yes HH.out, decide_eq_true HZ.out]

set_option maxHeartbeats 400000 in
theorem l1Has_any (A : Option Addr) (c : Nat) (V : List Int) (n : Nat) (hn : n = V.length) (x : Int) (w : World) (hm : n ≤ 9223372036854775807) (H1 : IntsAt w w.heap.size A V) :
    Calls Try.prog 111 #[.slice A n c, .int .i64 x] w fun e w' => e = .returned (.bool (decide (x ∈ V))) ∧ Bl w w' := by
  have K1 := Lib.hid H1
  have HN := Lib.hid hn
  clear H1 hn
  go_enter Try.func111, Try.ntmps111
  go_wp2
  go_loopw [5] (fun i wr => ∃ k : Nat, k ≤ n ∧ i = .int .i64 k ∧ Bl w wr ∧ Hid (∀ j (h : j < V.length), j < k → V[j] ≠ x)) (fun i _ => n - (intOf i).toNat)
  case atStart => exact ⟨0, by omega, rfl, Bl.refl w, Lib.hid (fun j _ h => by omega)⟩
  case round =>
    obtain ⟨k, hk, rfl, hbl, hno⟩ := hrel
    by_cases hlt : k < n
    · have hkl : k < V.length := by have := HN.out; omega
      obtain ⟨g1, o1, rfl, hg1, hc1⟩ := K1.out.cell (by omega)
      have p1 := hc1 k hkl
      clear hc1
      rw [← (bcell hbl).1 _ _ hg1] at p1
      have HY := Lib.hid (fun h : V[k] ≠ x => (show ∀ j (h : j < V.length), j < k + 1 → V[j] ≠ x from fun j hj hjk => by
        by_cases e : j = k
        · subst e; exact h
        · exact hno.out j hj (by omega)))
      have HX := Lib.hid (fun h : V[k] = x => (show decide (x ∈ V) = true from by rw [decide_eq_true_eq, ← h]; exact List.getElem_mem hkl))
      generalize V[k] = y at p1 HY HX
      have i1 : (0 : Int) ≤ (k : Int) := by omega
      have i2 : (k : Int) < (n : Int) := by omega
      by_cases e : y = x
      · have b1 : (y == x) = true := by simpa using e
        have HZ := Lib.hid (HX.out e)
        clear e HY HX
        go_wp2
        go_ret
        exact ⟨ret_bool HZ.out.symm, hbl⟩
      · have b1 : (y == x) = false := by simpa using e
        have HZ := Lib.hid (HY.out e)
        clear e HY HX
        go_wp2
        go_roundw
        case rel => exact ⟨k + 1, by omega, by go_num, hbl, HZ⟩
        case measure => simp [intOf]; omega
    · have HZ := Lib.hid (show decide (x ∈ V) = false from by
        rw [decide_eq_false_iff_not]
        intro hx
        obtain ⟨j, hj, e⟩ := List.getElem_of_mem hx
        exact absurd e (hno.out j hj (by have := HN.out; omega)))
      go_wp2
      go_ret
      exact ⟨ret_bool HZ.out.symm, hbl⟩

set_option maxRecDepth 100000 in
set_option maxHeartbeats 2000000 in
theorem l6Nodes_any (N : Int) (A : Option Addr) (n c : Nat) (L : List Arc3) (ho : okB N L = true) (A2 : Option Addr) (k c2 : Nat) (V : List Int) (hk : k = V.length) (hkc : k ≤ c2) (w : World) (hkm : k ≤ 9223372036854775807) (H2 : IntsAt w w.heap.size A2 V) :
    Calls Try.prog 70 #[.agg #[.int .i64 N, .slice A n c], .slice A2 k c2] w fun e w' => e = .returned (.bool (unB N V)) ∧ Bl w w' := by
  have K2 := Lib.hid H2
  have HK := Lib.hid hk
  have HO := Lib.hid ho
  clear H2 hk ho
  go_enter Try.func70, Try.ntmps70
  go_wp2_with fail
  go_loopw [5] (fun i wr => ∃ j : Nat, j ≤ k ∧ i = .int .i64 j ∧ Bl (w.alloc (.cells #[.int .i64 N, .slice A n c] 42)) wr ∧ Hid ((∀ t (h : t < V.length), t < j → 0 ≤ V[t] ∧ V[t] < N) ∧ (V.take j).Nodup)) (fun i _ => k - (intOf i).toNat)
  case atStart => exact ⟨0, by omega, rfl, Bl.refl _, Lib.hid ⟨fun t h h' => absurd h' (by omega), by simp⟩⟩
  case round =>
    obtain ⟨j, hj, rfl, hbl, hno⟩ := hrel
    have hbw : Bl w wr := (Bl.alloc_ (Bl.refl w) _).trans_ hbl
    have BW := Lib.hid hbw
    have BB := Lib.hid hbl
    by_cases hlt : j < k
    · have hjl : j < V.length := by have := HK.out; omega
      obtain ⟨g2, o2, rfl, hg2, hc2⟩ := K2.out.cell (by omega)
      have p1 := hc2 j hjl
      clear hc2
      have HX := Lib.hid (rfl : V[j] = V[j])
      have YES := Lib.hid (fun h : V[j] ∈ V.take j => nodup_hurt hjl h)
      have NOT := Lib.hid (fun h : ¬ (0 ≤ V[j] ∧ V[j] < N) => (show ¬ ((∀ v ∈ V, 0 ≤ v ∧ v < N) ∧ V.Nodup) from fun hv => h (hv.1 _ (List.getElem_mem hjl))))
      have NO := Lib.hid (fun (h0 : 0 ≤ V[j] ∧ V[j] < N) (h : V[j] ∉ V.take j) => (show (∀ t (h : t < V.length), t < j + 1 → 0 ≤ V[t] ∧ V[t] < N) ∧ (V.take (j + 1)).Nodup from ⟨fun t ht htj => by
        rcases Nat.lt_or_ge t j with h' | h'
        · exact hno.out.1 t ht h'
        · obtain rfl : t = j := by omega
          exact h0, nodup_step hjl hno.out.2 h⟩))
      have HNB := Lib.hid (nodeB_ok (v := V[j]) HO.out)
      have TAK := Lib.hid (show IntsAt w w.heap.size (some ⟨g2, o2, none⟩) (V.take j) from by
        have := CellsAt.take_ K2.out j
        rwa [show (csI V).take j = csI (V.take j) from by simp [csI, List.map_take]] at this)
      have LEN := Lib.hid (show j = (V.take j).length from by rw [List.length_take]; omega)
      clear HX
      generalize V[j] = x at *
      have i0 : (0 : Int) ≤ (j : Int) := by omega
      have i1 : (j : Int) < (k : Int) := by omega
      have i2 : (j : Int) ≤ (c2 : Int) := by omega
      have HSH := Lib.hid (show ∀ wx, Bl wr wx → Bl wr wx ∧ wx.cell? ⟨w.heap.size, 0, none⟩ = some (.int .i64 N) ∧ wx.cell? ⟨w.heap.size, 1, none⟩ = some (.slice A n c) ∧ wx.cell? ⟨g2, o2 + j, none⟩ = some (.int .i64 x) from fun wx hb => by
        obtain ⟨y0, y1⟩ := box2 (hbl.trans_ hb)
        exact ⟨hb, y0, y1, ((bcell (hbw.trans_ hb)).1 _ _ hg2).trans p1⟩)
      clear p1 hbl hbw
      by_cases hin : 0 ≤ x ∧ x < N
      · have hd : decide (0 ≤ x ∧ x < N) = true := by simpa using hin
        have HD := Lib.hid hd
        clear hd
        by_cases hmem : x ∈ V.take j
        · have hd2 : decide (x ∈ V.take j) = true := decide_eq_true hmem
          have HD2 := Lib.hid hd2
          have HY := Lib.hid (YES.out hmem)
          clear YES NO NOT hmem hd2
          go_wp2_with fail
          refine wp_region_held_drew (S := fun wx => Bl wr wx ∧ wx.cell? ⟨w.heap.size, 0, none⟩ = some (.int .i64 N) ∧ wx.cell? ⟨w.heap.size, 1, none⟩ = some (.slice A n c) ∧ wx.cell? ⟨g2, o2 + j, none⟩ = some (.int .i64 x)) (by kernel_rfl) ?_ (fun hHeld => ?_)
          · (exact HSH.out _ (by repeat' (first | exact Bl.refl _ | with_reducible assumption | with_reducible refine Bl.drew_ ?_ | with_reducible refine Bl.drewN_ ?_ _ | with_reducible refine Bl.alloc_ ?_ _ | with_reducible refine Bl.trans_ ?_ (by assumption) | with_reducible refine Bl.trans_ ?_ (And.left (by assumption)))))
          refine wpAnyH_take (i := 0) (v := ?_) rfl (by kernel_rfl) (by kernel_rfl) (by kernel_rfl) (fun _ _ _ h => h) (Or.inl ⟨by kernel_rfl, ?_⟩) (by assumption) ?_
          rotate_left
          · (intro wx hSw; (try dsimp only at hSw); go_simp; try (with_reducible rfl))
          try simp only [Act.put, List.getElem_toArray, List.getElem_cons_succ, List.getElem_cons_zero, List.setIfInBounds_toArray, List.set_cons_zero, List.set_cons_succ]
          refine wpAnyH_take (i := 1) (v := ?_) rfl (by kernel_rfl) (by kernel_rfl) (by kernel_rfl) (fun _ _ _ h => h) (Or.inl ⟨by kernel_rfl, ?_⟩) (by assumption) ?_
          rotate_left
          · (intro wx hSw; (try dsimp only at hSw); go_simp; try (with_reducible rfl))
          try simp only [Act.put, List.getElem_toArray, List.getElem_cons_succ, List.getElem_cons_zero, List.setIfInBounds_toArray, List.set_cons_zero, List.set_cons_succ]
          refine wpAnyH_take (i := 2) (v := ?_) rfl (by kernel_rfl) (by kernel_rfl) (by kernel_rfl) (fun _ _ _ h => h) (Or.inl ⟨by kernel_rfl, ?_⟩) (by assumption) ?_
          rotate_left
          · (intro wx hSw; (try dsimp only at hSw); go_simp; try (with_reducible rfl))
          try simp only [Act.put, List.getElem_toArray, List.getElem_cons_succ, List.getElem_cons_zero, List.setIfInBounds_toArray, List.set_cons_zero, List.set_cons_succ]
          refine wpAnyH_take (i := 3) (v := ?_) rfl (by kernel_rfl) (by kernel_rfl) (by kernel_rfl) (fun _ _ _ h => h) (Or.inl ⟨by kernel_rfl, ?_⟩) (by assumption) ?_
          rotate_left
          · (intro wx hSw; (try dsimp only at hSw); go_simp; try (with_reducible rfl))
          try simp only [Act.put, List.getElem_toArray, List.getElem_cons_succ, List.getElem_cons_zero, List.setIfInBounds_toArray, List.set_cons_zero, List.set_cons_succ]
          refine wpAnyH_take (i := 4) (v := ?_) rfl (by kernel_rfl) (by kernel_rfl) (by kernel_rfl) (fun _ _ _ h => h) (Or.inl ⟨by kernel_rfl, ?_⟩) (by assumption) ?_
          rotate_left
          · (intro wx hSw; (try dsimp only at hSw); go_simp; try (with_reducible rfl))
          try simp only [Act.put, List.getElem_toArray, List.getElem_cons_succ, List.getElem_cons_zero, List.setIfInBounds_toArray, List.set_cons_zero, List.set_cons_succ]
          refine wpAnyH_ready (rs := [5]) (by kernel_rfl) (by simp) ?_
          refine AllReadyH.cons rfl (fun K hK => ?_) AllReadyH.nil
          go_simp
          (go_at_call 88; refine (l1Node_any N x _ _).mono ?_; rintro e w5 ⟨rfl, hb5⟩; rw [HNB.out, HD.out])
          try (go_wp2_with fail)
          refine hK.out _ _ ?_ (fun hHeld => ?_)
          · (exact HSH.out _ (by repeat' (first | exact Bl.refl _ | with_reducible assumption | with_reducible refine Bl.drew_ ?_ | with_reducible refine Bl.drewN_ ?_ _ | with_reducible refine Bl.alloc_ ?_ _ | with_reducible refine Bl.trans_ ?_ (by assumption) | with_reducible refine Bl.trans_ ?_ (And.left (by assumption)))))
          clear hK K
          try simp only [Act.put, List.getElem_toArray, List.getElem_cons_succ, List.getElem_cons_zero, List.setIfInBounds_toArray, List.set_cons_zero, List.set_cons_succ]
          refine wpAnyH_take (i := 6) (v := ?_) rfl (by kernel_rfl) (by kernel_rfl) (by kernel_rfl) (fun _ _ _ h => h) (Or.inl ⟨by kernel_rfl, ?_⟩) (by assumption) ?_
          rotate_left
          · (intro wx hSw; (try dsimp only at hSw); go_simp; try (with_reducible rfl))
          try simp only [Act.put, List.getElem_toArray, List.getElem_cons_succ, List.getElem_cons_zero, List.setIfInBounds_toArray, List.set_cons_zero, List.set_cons_succ]
          refine wpAnyH_take (i := 7) (v := ?_) rfl (by kernel_rfl) (by kernel_rfl) (by kernel_rfl) (fun _ _ _ h => h) (Or.inl ⟨by kernel_rfl, ?_⟩) (by assumption) ?_
          rotate_left
          · (intro wx hSw; (try dsimp only at hSw); go_simp; try (with_reducible rfl))
          try simp only [Act.put, List.getElem_toArray, List.getElem_cons_succ, List.getElem_cons_zero, List.setIfInBounds_toArray, List.set_cons_zero, List.set_cons_succ]
          refine wpAnyH_take (i := 8) (v := ?_) rfl (by kernel_rfl) (by kernel_rfl) (by kernel_rfl) (fun _ _ _ h => h) (Or.inl ⟨by kernel_rfl, ?_⟩) (by assumption) ?_
          rotate_left
          · (intro wx hSw; (try dsimp only at hSw); go_simp; try (with_reducible rfl))
          try simp only [Act.put, List.getElem_toArray, List.getElem_cons_succ, List.getElem_cons_zero, List.setIfInBounds_toArray, List.set_cons_zero, List.set_cons_succ]
          refine wpAnyH_take (i := 9) (v := ?_) rfl (by kernel_rfl) (by kernel_rfl) (by kernel_rfl) (fun _ _ _ h => h) (Or.inl ⟨by kernel_rfl, ?_⟩) (by assumption) ?_
          rotate_left
          · (intro wx hSw; (try dsimp only at hSw); go_simp; try (with_reducible rfl))
          try simp only [Act.put, List.getElem_toArray, List.getElem_cons_succ, List.getElem_cons_zero, List.setIfInBounds_toArray, List.set_cons_zero, List.set_cons_succ]
          refine wpAnyH_take (i := 10) (v := ?_) rfl (by kernel_rfl) (by kernel_rfl) (by kernel_rfl) (fun _ _ _ h => h) (Or.inl ⟨by kernel_rfl, ?_⟩) (by assumption) ?_
          rotate_left
          · (intro wx hSw; (try dsimp only at hSw); go_simp; try (with_reducible rfl))
          try simp only [Act.put, List.getElem_toArray, List.getElem_cons_succ, List.getElem_cons_zero, List.setIfInBounds_toArray, List.set_cons_zero, List.set_cons_succ]
          refine wpAnyH_take (i := 11) (v := ?_) rfl (by kernel_rfl) (by kernel_rfl) (by kernel_rfl) (fun _ _ _ h => h) (Or.inl ⟨by kernel_rfl, ?_⟩) (by assumption) ?_
          rotate_left
          · (intro wx hSw; (try dsimp only at hSw); go_simp; try (with_reducible rfl))
          try simp only [Act.put, List.getElem_toArray, List.getElem_cons_succ, List.getElem_cons_zero, List.setIfInBounds_toArray, List.set_cons_zero, List.set_cons_succ]
          refine wpAnyH_take (i := 12) (v := ?_) rfl (by kernel_rfl) (by kernel_rfl) (by kernel_rfl) (fun _ _ _ h => h) (Or.inl ⟨by kernel_rfl, ?_⟩) (by assumption) ?_
          rotate_left
          · (intro wx hSw; (try dsimp only at hSw); go_simp; try (with_reducible rfl))
          try simp only [Act.put, List.getElem_toArray, List.getElem_cons_succ, List.getElem_cons_zero, List.setIfInBounds_toArray, List.set_cons_zero, List.set_cons_succ]
          refine wpAnyH_take (i := 13) (v := ?_) rfl (by kernel_rfl) (by kernel_rfl) (by kernel_rfl) (fun _ _ _ h => h) (Or.inl ⟨by kernel_rfl, ?_⟩) (by assumption) ?_
          rotate_left
          · (intro wx hSw; (try dsimp only at hSw); go_simp; try (with_reducible rfl))
          try simp only [Act.put, List.getElem_toArray, List.getElem_cons_succ, List.getElem_cons_zero, List.setIfInBounds_toArray, List.set_cons_zero, List.set_cons_succ]
          refine wpAnyH_take (i := 14) (v := ?_) rfl (by kernel_rfl) (by kernel_rfl) (by kernel_rfl) (fun _ _ _ h => h) (Or.inl ⟨by kernel_rfl, ?_⟩) (by assumption) ?_
          rotate_left
          · (intro wx hSw; (try dsimp only at hSw); go_simp; try (with_reducible rfl))
          try simp only [Act.put, List.getElem_toArray, List.getElem_cons_succ, List.getElem_cons_zero, List.setIfInBounds_toArray, List.set_cons_zero, List.set_cons_succ]
          refine wpAnyH_ready (rs := [15]) (by kernel_rfl) (by simp) ?_
          refine AllReadyH.cons rfl (fun K hK => ?_) AllReadyH.nil
          go_simp
          (go_at_call 111; refine (l1Has_any _ _ (V.take j) j LEN.out x _ (by omega) (TAK.out.bl (BW.out.trans_ (by repeat' (first | exact Bl.refl _ | with_reducible assumption | with_reducible refine Bl.drew_ ?_ | with_reducible refine Bl.drewN_ ?_ _ | with_reducible refine Bl.alloc_ ?_ _ | with_reducible refine Bl.trans_ ?_ (by assumption) | with_reducible refine Bl.trans_ ?_ (And.left (by assumption))))))).mono ?_; rintro e w6 ⟨rfl, hb6⟩; rw [HD2.out])
          try (go_wp2_with fail)
          refine hK.out _ _ ?_ (fun hHeld => ?_)
          · (exact HSH.out _ (by repeat' (first | exact Bl.refl _ | with_reducible assumption | with_reducible refine Bl.drew_ ?_ | with_reducible refine Bl.drewN_ ?_ _ | with_reducible refine Bl.alloc_ ?_ _ | with_reducible refine Bl.trans_ ?_ (by assumption) | with_reducible refine Bl.trans_ ?_ (And.left (by assumption)))))
          clear hK K
          try simp only [Act.put, List.getElem_toArray, List.getElem_cons_succ, List.getElem_cons_zero, List.setIfInBounds_toArray, List.set_cons_zero, List.set_cons_succ]
          refine wpAnyH_take (i := 16) (v := ?_) rfl (by kernel_rfl) (by kernel_rfl) (by kernel_rfl) (fun _ _ _ h => h) (Or.inl ⟨by kernel_rfl, ?_⟩) (by assumption) ?_
          rotate_left
          · (intro wx hSw; (try dsimp only at hSw); go_simp; try (with_reducible rfl))
          try simp only [Act.put, List.getElem_toArray, List.getElem_cons_succ, List.getElem_cons_zero, List.setIfInBounds_toArray, List.set_cons_zero, List.set_cons_succ]
          refine wpAnyH_done (by kernel_rfl) ?_ _
          go_wp2
          go_ret
          refine ⟨ret_bool ?_, BW.out.trans_ (by repeat' (first | exact Bl.refl _ | with_reducible assumption | with_reducible refine Bl.drew_ ?_ | with_reducible refine Bl.drewN_ ?_ _ | with_reducible refine Bl.alloc_ ?_ _ | with_reducible refine Bl.trans_ ?_ (by assumption) | with_reducible refine Bl.trans_ ?_ (And.left (by assumption))))⟩
          unfold unB
          exact (decide_eq_false fun h => HY.out h.2).symm
        · have hd2 : decide (x ∈ V.take j) = false := decide_eq_false hmem
          have HD2 := Lib.hid hd2
          have HZ := Lib.hid (NO.out hin hmem)
          clear YES NO NOT hmem hd2
          go_wp2_with fail
          refine wp_region_held_drew (S := fun wx => Bl wr wx ∧ wx.cell? ⟨w.heap.size, 0, none⟩ = some (.int .i64 N) ∧ wx.cell? ⟨w.heap.size, 1, none⟩ = some (.slice A n c) ∧ wx.cell? ⟨g2, o2 + j, none⟩ = some (.int .i64 x)) (by kernel_rfl) ?_ (fun hHeld => ?_)
          · (exact HSH.out _ (by repeat' (first | exact Bl.refl _ | with_reducible assumption | with_reducible refine Bl.drew_ ?_ | with_reducible refine Bl.drewN_ ?_ _ | with_reducible refine Bl.alloc_ ?_ _ | with_reducible refine Bl.trans_ ?_ (by assumption) | with_reducible refine Bl.trans_ ?_ (And.left (by assumption)))))
          refine wpAnyH_take (i := 0) (v := ?_) rfl (by kernel_rfl) (by kernel_rfl) (by kernel_rfl) (fun _ _ _ h => h) (Or.inl ⟨by kernel_rfl, ?_⟩) (by assumption) ?_
          rotate_left
          · (intro wx hSw; (try dsimp only at hSw); go_simp; try (with_reducible rfl))
          try simp only [Act.put, List.getElem_toArray, List.getElem_cons_succ, List.getElem_cons_zero, List.setIfInBounds_toArray, List.set_cons_zero, List.set_cons_succ]
          refine wpAnyH_take (i := 1) (v := ?_) rfl (by kernel_rfl) (by kernel_rfl) (by kernel_rfl) (fun _ _ _ h => h) (Or.inl ⟨by kernel_rfl, ?_⟩) (by assumption) ?_
          rotate_left
          · (intro wx hSw; (try dsimp only at hSw); go_simp; try (with_reducible rfl))
          try simp only [Act.put, List.getElem_toArray, List.getElem_cons_succ, List.getElem_cons_zero, List.setIfInBounds_toArray, List.set_cons_zero, List.set_cons_succ]
          refine wpAnyH_take (i := 2) (v := ?_) rfl (by kernel_rfl) (by kernel_rfl) (by kernel_rfl) (fun _ _ _ h => h) (Or.inl ⟨by kernel_rfl, ?_⟩) (by assumption) ?_
          rotate_left
          · (intro wx hSw; (try dsimp only at hSw); go_simp; try (with_reducible rfl))
          try simp only [Act.put, List.getElem_toArray, List.getElem_cons_succ, List.getElem_cons_zero, List.setIfInBounds_toArray, List.set_cons_zero, List.set_cons_succ]
          refine wpAnyH_take (i := 3) (v := ?_) rfl (by kernel_rfl) (by kernel_rfl) (by kernel_rfl) (fun _ _ _ h => h) (Or.inl ⟨by kernel_rfl, ?_⟩) (by assumption) ?_
          rotate_left
          · (intro wx hSw; (try dsimp only at hSw); go_simp; try (with_reducible rfl))
          try simp only [Act.put, List.getElem_toArray, List.getElem_cons_succ, List.getElem_cons_zero, List.setIfInBounds_toArray, List.set_cons_zero, List.set_cons_succ]
          refine wpAnyH_take (i := 4) (v := ?_) rfl (by kernel_rfl) (by kernel_rfl) (by kernel_rfl) (fun _ _ _ h => h) (Or.inl ⟨by kernel_rfl, ?_⟩) (by assumption) ?_
          rotate_left
          · (intro wx hSw; (try dsimp only at hSw); go_simp; try (with_reducible rfl))
          try simp only [Act.put, List.getElem_toArray, List.getElem_cons_succ, List.getElem_cons_zero, List.setIfInBounds_toArray, List.set_cons_zero, List.set_cons_succ]
          refine wpAnyH_ready (rs := [5]) (by kernel_rfl) (by simp) ?_
          refine AllReadyH.cons rfl (fun K hK => ?_) AllReadyH.nil
          go_simp
          (go_at_call 88; refine (l1Node_any N x _ _).mono ?_; rintro e w5 ⟨rfl, hb5⟩; rw [HNB.out, HD.out])
          try (go_wp2_with fail)
          refine hK.out _ _ ?_ (fun hHeld => ?_)
          · (exact HSH.out _ (by repeat' (first | exact Bl.refl _ | with_reducible assumption | with_reducible refine Bl.drew_ ?_ | with_reducible refine Bl.drewN_ ?_ _ | with_reducible refine Bl.alloc_ ?_ _ | with_reducible refine Bl.trans_ ?_ (by assumption) | with_reducible refine Bl.trans_ ?_ (And.left (by assumption)))))
          clear hK K
          try simp only [Act.put, List.getElem_toArray, List.getElem_cons_succ, List.getElem_cons_zero, List.setIfInBounds_toArray, List.set_cons_zero, List.set_cons_succ]
          refine wpAnyH_take (i := 6) (v := ?_) rfl (by kernel_rfl) (by kernel_rfl) (by kernel_rfl) (fun _ _ _ h => h) (Or.inl ⟨by kernel_rfl, ?_⟩) (by assumption) ?_
          rotate_left
          · (intro wx hSw; (try dsimp only at hSw); go_simp; try (with_reducible rfl))
          try simp only [Act.put, List.getElem_toArray, List.getElem_cons_succ, List.getElem_cons_zero, List.setIfInBounds_toArray, List.set_cons_zero, List.set_cons_succ]
          refine wpAnyH_take (i := 7) (v := ?_) rfl (by kernel_rfl) (by kernel_rfl) (by kernel_rfl) (fun _ _ _ h => h) (Or.inl ⟨by kernel_rfl, ?_⟩) (by assumption) ?_
          rotate_left
          · (intro wx hSw; (try dsimp only at hSw); go_simp; try (with_reducible rfl))
          try simp only [Act.put, List.getElem_toArray, List.getElem_cons_succ, List.getElem_cons_zero, List.setIfInBounds_toArray, List.set_cons_zero, List.set_cons_succ]
          refine wpAnyH_take (i := 8) (v := ?_) rfl (by kernel_rfl) (by kernel_rfl) (by kernel_rfl) (fun _ _ _ h => h) (Or.inl ⟨by kernel_rfl, ?_⟩) (by assumption) ?_
          rotate_left
          · (intro wx hSw; (try dsimp only at hSw); go_simp; try (with_reducible rfl))
          try simp only [Act.put, List.getElem_toArray, List.getElem_cons_succ, List.getElem_cons_zero, List.setIfInBounds_toArray, List.set_cons_zero, List.set_cons_succ]
          refine wpAnyH_take (i := 9) (v := ?_) rfl (by kernel_rfl) (by kernel_rfl) (by kernel_rfl) (fun _ _ _ h => h) (Or.inl ⟨by kernel_rfl, ?_⟩) (by assumption) ?_
          rotate_left
          · (intro wx hSw; (try dsimp only at hSw); go_simp; try (with_reducible rfl))
          try simp only [Act.put, List.getElem_toArray, List.getElem_cons_succ, List.getElem_cons_zero, List.setIfInBounds_toArray, List.set_cons_zero, List.set_cons_succ]
          refine wpAnyH_take (i := 10) (v := ?_) rfl (by kernel_rfl) (by kernel_rfl) (by kernel_rfl) (fun _ _ _ h => h) (Or.inl ⟨by kernel_rfl, ?_⟩) (by assumption) ?_
          rotate_left
          · (intro wx hSw; (try dsimp only at hSw); go_simp; try (with_reducible rfl))
          try simp only [Act.put, List.getElem_toArray, List.getElem_cons_succ, List.getElem_cons_zero, List.setIfInBounds_toArray, List.set_cons_zero, List.set_cons_succ]
          refine wpAnyH_take (i := 11) (v := ?_) rfl (by kernel_rfl) (by kernel_rfl) (by kernel_rfl) (fun _ _ _ h => h) (Or.inl ⟨by kernel_rfl, ?_⟩) (by assumption) ?_
          rotate_left
          · (intro wx hSw; (try dsimp only at hSw); go_simp; try (with_reducible rfl))
          try simp only [Act.put, List.getElem_toArray, List.getElem_cons_succ, List.getElem_cons_zero, List.setIfInBounds_toArray, List.set_cons_zero, List.set_cons_succ]
          refine wpAnyH_take (i := 12) (v := ?_) rfl (by kernel_rfl) (by kernel_rfl) (by kernel_rfl) (fun _ _ _ h => h) (Or.inl ⟨by kernel_rfl, ?_⟩) (by assumption) ?_
          rotate_left
          · (intro wx hSw; (try dsimp only at hSw); go_simp; try (with_reducible rfl))
          try simp only [Act.put, List.getElem_toArray, List.getElem_cons_succ, List.getElem_cons_zero, List.setIfInBounds_toArray, List.set_cons_zero, List.set_cons_succ]
          refine wpAnyH_take (i := 13) (v := ?_) rfl (by kernel_rfl) (by kernel_rfl) (by kernel_rfl) (fun _ _ _ h => h) (Or.inl ⟨by kernel_rfl, ?_⟩) (by assumption) ?_
          rotate_left
          · (intro wx hSw; (try dsimp only at hSw); go_simp; try (with_reducible rfl))
          try simp only [Act.put, List.getElem_toArray, List.getElem_cons_succ, List.getElem_cons_zero, List.setIfInBounds_toArray, List.set_cons_zero, List.set_cons_succ]
          refine wpAnyH_take (i := 14) (v := ?_) rfl (by kernel_rfl) (by kernel_rfl) (by kernel_rfl) (fun _ _ _ h => h) (Or.inl ⟨by kernel_rfl, ?_⟩) (by assumption) ?_
          rotate_left
          · (intro wx hSw; (try dsimp only at hSw); go_simp; try (with_reducible rfl))
          try simp only [Act.put, List.getElem_toArray, List.getElem_cons_succ, List.getElem_cons_zero, List.setIfInBounds_toArray, List.set_cons_zero, List.set_cons_succ]
          refine wpAnyH_ready (rs := [15]) (by kernel_rfl) (by simp) ?_
          refine AllReadyH.cons rfl (fun K hK => ?_) AllReadyH.nil
          go_simp
          (go_at_call 111; refine (l1Has_any _ _ (V.take j) j LEN.out x _ (by omega) (TAK.out.bl (BW.out.trans_ (by repeat' (first | exact Bl.refl _ | with_reducible assumption | with_reducible refine Bl.drew_ ?_ | with_reducible refine Bl.drewN_ ?_ _ | with_reducible refine Bl.alloc_ ?_ _ | with_reducible refine Bl.trans_ ?_ (by assumption) | with_reducible refine Bl.trans_ ?_ (And.left (by assumption))))))).mono ?_; rintro e w6 ⟨rfl, hb6⟩; rw [HD2.out])
          try (go_wp2_with fail)
          refine hK.out _ _ ?_ (fun hHeld => ?_)
          · (exact HSH.out _ (by repeat' (first | exact Bl.refl _ | with_reducible assumption | with_reducible refine Bl.drew_ ?_ | with_reducible refine Bl.drewN_ ?_ _ | with_reducible refine Bl.alloc_ ?_ _ | with_reducible refine Bl.trans_ ?_ (by assumption) | with_reducible refine Bl.trans_ ?_ (And.left (by assumption)))))
          clear hK K
          try simp only [Act.put, List.getElem_toArray, List.getElem_cons_succ, List.getElem_cons_zero, List.setIfInBounds_toArray, List.set_cons_zero, List.set_cons_succ]
          refine wpAnyH_take (i := 16) (v := ?_) rfl (by kernel_rfl) (by kernel_rfl) (by kernel_rfl) (fun _ _ _ h => h) (Or.inl ⟨by kernel_rfl, ?_⟩) (by assumption) ?_
          rotate_left
          · (intro wx hSw; (try dsimp only at hSw); go_simp; try (with_reducible rfl))
          try simp only [Act.put, List.getElem_toArray, List.getElem_cons_succ, List.getElem_cons_zero, List.setIfInBounds_toArray, List.set_cons_zero, List.set_cons_succ]
          refine wpAnyH_done (by kernel_rfl) ?_ _
          go_wp2
          go_roundw
          case rel =>
            exact ⟨j + 1, by omega, by go_num, BB.out.trans_ (by repeat' (first | exact Bl.refl _ | with_reducible assumption | with_reducible refine Bl.drew_ ?_ | with_reducible refine Bl.drewN_ ?_ _ | with_reducible refine Bl.alloc_ ?_ _ | with_reducible refine Bl.trans_ ?_ (by assumption) | with_reducible refine Bl.trans_ ?_ (And.left (by assumption)))), HZ⟩
          case measure => simp [intOf]; omega
      · have hd : decide (0 ≤ x ∧ x < N) = false := by simpa using hin
        have HD := Lib.hid hd
        have HZ := Lib.hid (NOT.out hin)
        clear hd YES NO NOT hin
        go_wp2_with fail
        refine wp_region_held_drew (S := fun wx => Bl wr wx ∧ wx.cell? ⟨w.heap.size, 0, none⟩ = some (.int .i64 N) ∧ wx.cell? ⟨w.heap.size, 1, none⟩ = some (.slice A n c) ∧ wx.cell? ⟨g2, o2 + j, none⟩ = some (.int .i64 x)) (by kernel_rfl) ?_ (fun hHeld => ?_)
        · (exact HSH.out _ (by repeat' (first | exact Bl.refl _ | with_reducible assumption | with_reducible refine Bl.drew_ ?_ | with_reducible refine Bl.drewN_ ?_ _ | with_reducible refine Bl.alloc_ ?_ _ | with_reducible refine Bl.trans_ ?_ (by assumption) | with_reducible refine Bl.trans_ ?_ (And.left (by assumption)))))
        refine wpAnyH_take (i := 0) (v := ?_) rfl (by kernel_rfl) (by kernel_rfl) (by kernel_rfl) (fun _ _ _ h => h) (Or.inl ⟨by kernel_rfl, ?_⟩) (by assumption) ?_
        rotate_left
        · (intro wx hSw; (try dsimp only at hSw); go_simp; try (with_reducible rfl))
        try simp only [Act.put, List.getElem_toArray, List.getElem_cons_succ, List.getElem_cons_zero, List.setIfInBounds_toArray, List.set_cons_zero, List.set_cons_succ]
        refine wpAnyH_take (i := 1) (v := ?_) rfl (by kernel_rfl) (by kernel_rfl) (by kernel_rfl) (fun _ _ _ h => h) (Or.inl ⟨by kernel_rfl, ?_⟩) (by assumption) ?_
        rotate_left
        · (intro wx hSw; (try dsimp only at hSw); go_simp; try (with_reducible rfl))
        try simp only [Act.put, List.getElem_toArray, List.getElem_cons_succ, List.getElem_cons_zero, List.setIfInBounds_toArray, List.set_cons_zero, List.set_cons_succ]
        refine wpAnyH_take (i := 2) (v := ?_) rfl (by kernel_rfl) (by kernel_rfl) (by kernel_rfl) (fun _ _ _ h => h) (Or.inl ⟨by kernel_rfl, ?_⟩) (by assumption) ?_
        rotate_left
        · (intro wx hSw; (try dsimp only at hSw); go_simp; try (with_reducible rfl))
        try simp only [Act.put, List.getElem_toArray, List.getElem_cons_succ, List.getElem_cons_zero, List.setIfInBounds_toArray, List.set_cons_zero, List.set_cons_succ]
        refine wpAnyH_take (i := 3) (v := ?_) rfl (by kernel_rfl) (by kernel_rfl) (by kernel_rfl) (fun _ _ _ h => h) (Or.inl ⟨by kernel_rfl, ?_⟩) (by assumption) ?_
        rotate_left
        · (intro wx hSw; (try dsimp only at hSw); go_simp; try (with_reducible rfl))
        try simp only [Act.put, List.getElem_toArray, List.getElem_cons_succ, List.getElem_cons_zero, List.setIfInBounds_toArray, List.set_cons_zero, List.set_cons_succ]
        refine wpAnyH_take (i := 4) (v := ?_) rfl (by kernel_rfl) (by kernel_rfl) (by kernel_rfl) (fun _ _ _ h => h) (Or.inl ⟨by kernel_rfl, ?_⟩) (by assumption) ?_
        rotate_left
        · (intro wx hSw; (try dsimp only at hSw); go_simp; try (with_reducible rfl))
        try simp only [Act.put, List.getElem_toArray, List.getElem_cons_succ, List.getElem_cons_zero, List.setIfInBounds_toArray, List.set_cons_zero, List.set_cons_succ]
        refine wpAnyH_ready (rs := [5]) (by kernel_rfl) (by simp) ?_
        refine AllReadyH.cons rfl (fun K hK => ?_) AllReadyH.nil
        go_simp
        (go_at_call 88; refine (l1Node_any N x _ _).mono ?_; rintro e w5 ⟨rfl, hb5⟩; rw [HNB.out, HD.out])
        try (go_wp2_with fail)
        refine hK.out _ _ ?_ (fun hHeld => ?_)
        · (exact HSH.out _ (by repeat' (first | exact Bl.refl _ | with_reducible assumption | with_reducible refine Bl.drew_ ?_ | with_reducible refine Bl.drewN_ ?_ _ | with_reducible refine Bl.alloc_ ?_ _ | with_reducible refine Bl.trans_ ?_ (by assumption) | with_reducible refine Bl.trans_ ?_ (And.left (by assumption)))))
        clear hK K
        try simp only [Act.put, List.getElem_toArray, List.getElem_cons_succ, List.getElem_cons_zero, List.setIfInBounds_toArray, List.set_cons_zero, List.set_cons_succ]
        refine wpAnyH_take (i := 6) (v := ?_) rfl (by kernel_rfl) (by kernel_rfl) (by kernel_rfl) (fun _ _ _ h => h) (Or.inl ⟨by kernel_rfl, ?_⟩) (by assumption) ?_
        rotate_left
        · (intro wx hSw; (try dsimp only at hSw); go_simp; try (with_reducible rfl))
        try simp only [Act.put, List.getElem_toArray, List.getElem_cons_succ, List.getElem_cons_zero, List.setIfInBounds_toArray, List.set_cons_zero, List.set_cons_succ]
        refine wpAnyH_take (i := 7) (v := ?_) rfl (by kernel_rfl) (by kernel_rfl) (by kernel_rfl) (fun _ _ _ h => h) (Or.inl ⟨by kernel_rfl, ?_⟩) (by assumption) ?_
        rotate_left
        · (intro wx hSw; (try dsimp only at hSw); go_simp; try (with_reducible rfl))
        try simp only [Act.put, List.getElem_toArray, List.getElem_cons_succ, List.getElem_cons_zero, List.setIfInBounds_toArray, List.set_cons_zero, List.set_cons_succ]
        refine wpAnyH_take (i := 8) (v := undef) rfl (by kernel_rfl) (by kernel_rfl) (by kernel_rfl) (fun _ _ _ h => h) (Or.inr ⟨by kernel_rfl, rfl⟩) (by assumption) ?_
        try simp only [Act.put, List.getElem_toArray, List.getElem_cons_succ, List.getElem_cons_zero, List.setIfInBounds_toArray, List.set_cons_zero, List.set_cons_succ]
        refine wpAnyH_take (i := 9) (v := undef) rfl (by kernel_rfl) (by kernel_rfl) (by kernel_rfl) (fun _ _ _ h => h) (Or.inr ⟨by kernel_rfl, rfl⟩) (by assumption) ?_
        try simp only [Act.put, List.getElem_toArray, List.getElem_cons_succ, List.getElem_cons_zero, List.setIfInBounds_toArray, List.set_cons_zero, List.set_cons_succ]
        refine wpAnyH_take (i := 10) (v := undef) rfl (by kernel_rfl) (by kernel_rfl) (by kernel_rfl) (fun _ _ _ h => h) (Or.inr ⟨by kernel_rfl, rfl⟩) (by assumption) ?_
        try simp only [Act.put, List.getElem_toArray, List.getElem_cons_succ, List.getElem_cons_zero, List.setIfInBounds_toArray, List.set_cons_zero, List.set_cons_succ]
        refine wpAnyH_take (i := 11) (v := undef) rfl (by kernel_rfl) (by kernel_rfl) (by kernel_rfl) (fun _ _ _ h => h) (Or.inr ⟨by kernel_rfl, rfl⟩) (by assumption) ?_
        try simp only [Act.put, List.getElem_toArray, List.getElem_cons_succ, List.getElem_cons_zero, List.setIfInBounds_toArray, List.set_cons_zero, List.set_cons_succ]
        refine wpAnyH_take (i := 12) (v := undef) rfl (by kernel_rfl) (by kernel_rfl) (by kernel_rfl) (fun _ _ _ h => h) (Or.inr ⟨by kernel_rfl, rfl⟩) (by assumption) ?_
        try simp only [Act.put, List.getElem_toArray, List.getElem_cons_succ, List.getElem_cons_zero, List.setIfInBounds_toArray, List.set_cons_zero, List.set_cons_succ]
        refine wpAnyH_take (i := 13) (v := undef) rfl (by kernel_rfl) (by kernel_rfl) (by kernel_rfl) (fun _ _ _ h => h) (Or.inr ⟨by kernel_rfl, rfl⟩) (by assumption) ?_
        try simp only [Act.put, List.getElem_toArray, List.getElem_cons_succ, List.getElem_cons_zero, List.setIfInBounds_toArray, List.set_cons_zero, List.set_cons_succ]
        refine wpAnyH_take (i := 14) (v := undef) rfl (by kernel_rfl) (by kernel_rfl) (by kernel_rfl) (fun _ _ _ h => h) (Or.inr ⟨by kernel_rfl, rfl⟩) (by assumption) ?_
        try simp only [Act.put, List.getElem_toArray, List.getElem_cons_succ, List.getElem_cons_zero, List.setIfInBounds_toArray, List.set_cons_zero, List.set_cons_succ]
        refine wpAnyH_ready (rs := [15]) (by kernel_rfl) (by simp) ?_
        refine AllReadyH.cons rfl (fun K hK => ?_) AllReadyH.nil
        go_simp
        refine hK.out _ _ ?_ (fun hHeld => ?_)
        · (exact HSH.out _ (by repeat' (first | exact Bl.refl _ | with_reducible assumption | with_reducible refine Bl.drew_ ?_ | with_reducible refine Bl.drewN_ ?_ _ | with_reducible refine Bl.alloc_ ?_ _ | with_reducible refine Bl.trans_ ?_ (by assumption) | with_reducible refine Bl.trans_ ?_ (And.left (by assumption)))))
        clear hK K
        try simp only [Act.put, List.getElem_toArray, List.getElem_cons_succ, List.getElem_cons_zero, List.setIfInBounds_toArray, List.set_cons_zero, List.set_cons_succ]
        refine wpAnyH_take (i := 16) (v := ?_) rfl (by kernel_rfl) (by kernel_rfl) (by kernel_rfl) (fun _ _ _ h => h) (Or.inl ⟨by kernel_rfl, ?_⟩) (by assumption) ?_
        rotate_left
        · (intro wx hSw; (try dsimp only at hSw); go_simp; try (with_reducible rfl))
        try simp only [Act.put, List.getElem_toArray, List.getElem_cons_succ, List.getElem_cons_zero, List.setIfInBounds_toArray, List.set_cons_zero, List.set_cons_succ]
        refine wpAnyH_done (by kernel_rfl) ?_ _
        go_wp2
        go_ret
        refine ⟨ret_bool ?_, BW.out.trans_ (by repeat' (first | exact Bl.refl _ | with_reducible assumption | with_reducible refine Bl.drew_ ?_ | with_reducible refine Bl.drewN_ ?_ _ | with_reducible refine Bl.alloc_ ?_ _ | with_reducible refine Bl.trans_ ?_ (by assumption) | with_reducible refine Bl.trans_ ?_ (And.left (by assumption))))⟩
        unfold unB
        exact (decide_eq_false HZ.out).symm
    · have HZ := Lib.hid (show (∀ v ∈ V, 0 ≤ v ∧ v < N) ∧ V.Nodup from ⟨fun v hv => by
        obtain ⟨t, ht, rfl⟩ := List.mem_iff_getElem.1 hv
        exact hno.out.1 t ht (by have := HK.out; omega), by
        have := hno.out.2
        rwa [List.take_of_length_le (by have := HK.out; omega)] at this⟩)
      go_wp2
      go_ret
      refine ⟨ret_bool ?_, BW.out⟩
      unfold unB
      exact (decide_eq_true HZ.out).symm

end Go.Proofs.Ytmdmbobjdhjadaa

set_option linter.unusedSimpArgs false
set_option linter.unusedVariables false
namespace Go.Proofs.Ytmdmbobjdhjadaa
open Go.RowKit

def gtI (f : Nat → Int) (j : Nat) : Int := if j = 0 then -1 else f (topK f j)
def gtA (f : Nat → Int) (j : Nat) : Int := if j = 0 then -1 else ((topK f j : Nat) : Int)
theorem gt_yes {f : Nat → Int} {j : Nat} (h : gtI f j < f j) : gtI f (j + 1) = f j ∧ gtA f (j + 1) = (j : Int) := by
  unfold gtI at h
  unfold gtI gtA
  rw [if_neg (by omega), if_neg (by omega)]
  rcases Nat.eq_zero_or_pos j with rfl | hj
  · have : topK f 1 = 0 := by
      have := topK_lt f 1 (by omega)
      omega
    rw [this]
    exact ⟨rfl, rfl⟩
  · rw [if_neg (by omega)] at h
    rw [topK_yes h]
    exact ⟨rfl, rfl⟩
theorem gt_no {f : Nat → Int} {j : Nat} (h0 : 0 ≤ f j) (h : ¬ gtI f j < f j) : gtI f (j + 1) = gtI f j ∧ gtA f (j + 1) = gtA f j := by
  unfold gtI at h
  unfold gtI gtA
  rcases Nat.eq_zero_or_pos j with rfl | hj
  · rw [if_pos rfl] at h
    omega
  · rw [if_neg (by omega)] at h
    rw [if_neg (by omega), if_neg (by omega), if_neg (by omega), if_neg (by omega), topK_no h]
    exact ⟨rfl, rfl⟩
theorem farI_no {N : Int} {L : List Arc3} {V : List Int} (h : hasUB N L V = false) : farI N L V = -1 := if_neg (by rw [h]; simp)
theorem far_gt {N : Int} {L : List Arc3} {V : List Int} (h : hasUB N L V = true) : gtA (nearF N L V) N.toNat = farI N L V := by
  have hN := (okB_elim (hasUB_iff.1 h).1).1
  unfold gtA farI
  rw [if_neg (by omega), if_pos h]

set_option maxRecDepth 100000 in
set_option maxHeartbeats 4000000 in
theorem specFarthest_any (N : Int) (A : Option Addr) (n c : Nat) (L : List Arc3) (hn : n = L.length) (hc : n ≤ c) (A2 : Option Addr) (k c2 : Nat) (V : List Int) (hk : k = V.length) (hkc : k ≤ c2) (w : World) (hm : n ≤ 1048576) (hkm : k ≤ 1048576) (H1 : ArcsAt w w.heap.size A L) (H2 : IntsAt w w.heap.size A2 V) :
    Calls Try.prog 33 #[.agg #[.int .i64 N, .slice A n c], .slice A2 k c2] w fun e w' => e = .returned (.int .i64 (farI N L V)) ∧ Bl w w' := by
  have K1 := Lib.hid H1
  have K2 := Lib.hid H2
  have HN := Lib.hid hn
  have HK := Lib.hid hk
  clear H1 H2 hn hk
  cases ho : okB N L with
  | false =>
    have HO := Lib.hid ho
    clear ho
    go_enter Try.func33, Try.ntmps33
    go_wp2_with fail
    refine (specOk_any N A n c L HN.out _ (by omega) (K1.out.bl (by repeat' (first | exact Bl.refl _ | with_reducible assumption | with_reducible refine Bl.drew_ ?_ | with_reducible refine Bl.drewN_ ?_ _ | with_reducible refine Bl.alloc_ ?_ _ | with_reducible refine Bl.trans_ ?_ (by assumption) | with_reducible refine Bl.trans_ ?_ (And.left (by assumption)))))).mono ?_
    rintro e w1 ⟨rfl, hb1⟩
    rw [HO.out]
    go_wp2
    go_ret
    exact ⟨ret_int (farI_no (by unfold hasUB; rw [HO.out, Bool.false_and])).symm, (by repeat' (first | exact Bl.refl _ | with_reducible assumption | with_reducible refine Bl.drew_ ?_ | with_reducible refine Bl.drewN_ ?_ _ | with_reducible refine Bl.alloc_ ?_ _ | with_reducible refine Bl.trans_ ?_ (by assumption) | with_reducible refine Bl.trans_ ?_ (And.left (by assumption))))⟩
  | true =>
    have HO := Lib.hid ho
    have hN1 := (okB_elim ho).1
    have hN24 := (okB_elim ho).2.1
    clear ho
    cases hu : unB N V with
    | false =>
      have HU := Lib.hid hu
      clear hu
      go_enter Try.func33, Try.ntmps33
      go_wp2_with fail
      refine (specOk_any N A n c L HN.out _ (by omega) (K1.out.bl (by repeat' (first | exact Bl.refl _ | with_reducible assumption | with_reducible refine Bl.drew_ ?_ | with_reducible refine Bl.drewN_ ?_ _ | with_reducible refine Bl.alloc_ ?_ _ | with_reducible refine Bl.trans_ ?_ (by assumption) | with_reducible refine Bl.trans_ ?_ (And.left (by assumption)))))).mono ?_
      rintro e w1 ⟨rfl, hb1⟩
      rw [HO.out]
      obtain ⟨q0, q1⟩ := box2 hb1
      go_wp2_with fail
      refine (l6Nodes_any N A n c L HO.out A2 k c2 V HK.out hkc _ (by omega) (K2.out.bl (by repeat' (first | exact Bl.refl _ | with_reducible assumption | with_reducible refine Bl.drew_ ?_ | with_reducible refine Bl.drewN_ ?_ _ | with_reducible refine Bl.alloc_ ?_ _ | with_reducible refine Bl.trans_ ?_ (by assumption) | with_reducible refine Bl.trans_ ?_ (And.left (by assumption)))))).mono ?_
      rintro e w2 ⟨rfl, hb2⟩
      rw [HU.out]
      go_wp2
      go_ret
      exact ⟨ret_int (farI_no (by unfold hasUB; rw [HU.out, Bool.and_false])).symm, (by repeat' (first | exact Bl.refl _ | with_reducible assumption | with_reducible refine Bl.drew_ ?_ | with_reducible refine Bl.drewN_ ?_ _ | with_reducible refine Bl.alloc_ ?_ _ | with_reducible refine Bl.trans_ ?_ (by assumption) | with_reducible refine Bl.trans_ ?_ (And.left (by assumption))))⟩
    | true =>
      have HUB := Lib.hid (show hasUB N L V = true from by unfold hasUB; rw [HO.out, hu]; rfl)
      have HV := Lib.hid (hasUB_iff.1 HUB.out).2.1
      have HU := Lib.hid hu
      clear hu
      obtain ⟨q, rfl⟩ : ∃ q : Nat, N = q := ⟨N.toNat, by omega⟩
      go_enter Try.func33, Try.ntmps33
      go_wp2_with fail
      refine (specOk_any (q : Int) A n c L HN.out _ (by omega) (K1.out.bl (by repeat' (first | exact Bl.refl _ | with_reducible assumption | with_reducible refine Bl.drew_ ?_ | with_reducible refine Bl.drewN_ ?_ _ | with_reducible refine Bl.alloc_ ?_ _ | with_reducible refine Bl.trans_ ?_ (by assumption) | with_reducible refine Bl.trans_ ?_ (And.left (by assumption)))))).mono ?_
      rintro e w1 ⟨rfl, hb1⟩
      rw [HO.out]
      obtain ⟨q0, q1⟩ := box2 hb1
      go_wp2_with fail
      refine (l6Nodes_any (q : Int) A n c L HO.out A2 k c2 V HK.out hkc _ (by omega) (K2.out.bl (by repeat' (first | exact Bl.refl _ | with_reducible assumption | with_reducible refine Bl.drew_ ?_ | with_reducible refine Bl.drewN_ ?_ _ | with_reducible refine Bl.alloc_ ?_ _ | with_reducible refine Bl.trans_ ?_ (by assumption) | with_reducible refine Bl.trans_ ?_ (And.left (by assumption)))))).mono ?_
      rintro e w2 ⟨rfl, hb2⟩
      rw [HU.out]
      clear q0 q1
      have B2 := Lib.hid (hb1.trans_ hb2)
      clear hb1 hb2
      go_wp2_with fail
      go_loopw [5, 6, 7] (fun b a v wr => ∃ j : Nat, j ≤ q ∧ v = .int .i64 j ∧ b = .int .i64 (gtI (nearF q L V) j) ∧ a = .int .i64 (gtA (nearF q L V) j) ∧ Bl w2 wr) (fun _ _ v _ => q - (intOf v).toNat)
      case atStart => exact ⟨0, by omega, rfl, rfl, rfl, Bl.refl _⟩
      case round =>
        obtain ⟨j, hj, rfl, rfl, rfl, hbl⟩ := hrel
        obtain ⟨q0, q1⟩ := box2 (B2.out.trans_ hbl)
        have BB := Lib.hid hbl
        by_cases hlt : j < q
        · have hlt' : (j : Int) < (q : Int) := by omega
          obtain ⟨wo, hwo⟩ : ∃ wo, wo = wr := ⟨_, rfl⟩
          subst hwo
          have nb := nearV_bounds q L (j : Int) V
          have NBF := Lib.hid (show nearF q L V j = nearV q L (j : Int) V from rfl)
          have BY := Lib.hid (fun h => gt_yes (f := nearF q L V) (j := j) h)
          have BN := Lib.hid (fun h0 h => gt_no (f := nearF q L V) (j := j) h0 h)
          generalize gtI (nearF (q : Int) L V) j = bi at *
          generalize gtA (nearF (q : Int) L V) j = ba at *
          go_wp2_with fail
          clear q0 q1
          go_loopw [8, 9] (fun m i wr => ∃ t : Nat, t ≤ k ∧ i = .int .i64 t ∧ m = .int .i64 (nearV q L (j : Int) (V.take t)) ∧ Bl wo wr) (fun _ i _ => k - (intOf i).toNat)
          case atStart => exact ⟨0, by omega, rfl, rfl, Bl.refl _⟩
          case round =>
            obtain ⟨t, ht, rfl, rfl, hbl2⟩ := hrel
            by_cases hlt2 : t < k
            · have htl : t < V.length := by have := HK.out; omega
              obtain ⟨g2, o2, rfl, hg2, hc2⟩ := K2.out.cell (by omega)
              have p1 := hc2 t htl
              clear hc2
              have BT := Lib.hid (hbl.trans_ hbl2)
              have BX := Lib.hid hbl2
              obtain ⟨q0, q1⟩ := box2 (B2.out.trans_ BT.out)
              have BWR := Lib.hid (show Bl w wr from ((Bl.alloc_ (Bl.refl w) _).trans_ B2.out).trans_ BT.out)
              rw [← (bcell BWR.out).1 _ _ hg2] at p1
              have hv := HV.out V[t] (List.getElem_mem htl)
              have ST := Lib.hid (nearV_step q L (j : Int) htl)
              generalize V[t] = s at *
              generalize nearV (q : Int) L (j : Int) (V.take t) = m at *
              have hs0 := hv.1
              have hs1 := hv.2
              have i0 : (0 : Int) ≤ (t : Int) := by omega
              have i1 : (t : Int) < (k : Int) := by omega
              clear hv hbl2
              go_wp2_with fail
              have HSH := Lib.hid (show ∀ wx, Bl wr wx → Bl wr wx ∧ wx.cell? ⟨w.heap.size, 0, none⟩ = some (.int .i64 (q : Int)) ∧ wx.cell? ⟨w.heap.size, 1, none⟩ = some (.slice A n c) ∧ wx.cell? ⟨g2, o2 + t, none⟩ = some (.int .i64 s) from fun wx hb => by
                obtain ⟨y0, y1⟩ := box2 (B2.out.trans_ (BT.out.trans_ hb))
                exact ⟨hb, y0, y1, ((bcell hb).1 _ _ (Nat.lt_of_lt_of_le hg2 BWR.out.size)).trans p1⟩)
              clear q0 q1 p1
              refine wp_region_held_drew (S := fun wx => Bl wr wx ∧ wx.cell? ⟨w.heap.size, 0, none⟩ = some (.int .i64 (q : Int)) ∧ wx.cell? ⟨w.heap.size, 1, none⟩ = some (.slice A n c) ∧ wx.cell? ⟨g2, o2 + t, none⟩ = some (.int .i64 s)) (by kernel_rfl) ?_ (fun hHeld => ?_)
              · (exact HSH.out _ (by repeat' (first | exact Bl.refl _ | with_reducible assumption | with_reducible refine Bl.drew_ ?_ | with_reducible refine Bl.drewN_ ?_ _ | with_reducible refine Bl.alloc_ ?_ _ | with_reducible refine Bl.trans_ ?_ (by assumption) | with_reducible refine Bl.trans_ ?_ (And.left (by assumption)))))
              refine wpAnyH_take (i := 0) (v := ?_) rfl (by kernel_rfl) (by kernel_rfl) (by kernel_rfl) (fun _ _ _ h => h) (Or.inl ⟨by kernel_rfl, ?_⟩) (by assumption) ?_
              rotate_left
              · (intro wx hSw; (try dsimp only at hSw); go_simp; try (with_reducible rfl))
              try simp only [Act.put, List.getElem_toArray, List.getElem_cons_succ, List.getElem_cons_zero, List.setIfInBounds_toArray, List.set_cons_zero, List.set_cons_succ]
              refine wpAnyH_take (i := 1) (v := ?_) rfl (by kernel_rfl) (by kernel_rfl) (by kernel_rfl) (fun _ _ _ h => h) (Or.inl ⟨by kernel_rfl, ?_⟩) (by assumption) ?_
              rotate_left
              · (intro wx hSw; (try dsimp only at hSw); go_simp; try (with_reducible rfl))
              try simp only [Act.put, List.getElem_toArray, List.getElem_cons_succ, List.getElem_cons_zero, List.setIfInBounds_toArray, List.set_cons_zero, List.set_cons_succ]
              refine wpAnyH_take (i := 2) (v := ?_) rfl (by kernel_rfl) (by kernel_rfl) (by kernel_rfl) (fun _ _ _ h => h) (Or.inl ⟨by kernel_rfl, ?_⟩) (by assumption) ?_
              rotate_left
              · (intro wx hSw; (try dsimp only at hSw); go_simp; try (with_reducible rfl))
              try simp only [Act.put, List.getElem_toArray, List.getElem_cons_succ, List.getElem_cons_zero, List.setIfInBounds_toArray, List.set_cons_zero, List.set_cons_succ]
              refine wpAnyH_take (i := 3) (v := ?_) rfl (by kernel_rfl) (by kernel_rfl) (by kernel_rfl) (fun _ _ _ h => h) (Or.inl ⟨by kernel_rfl, ?_⟩) (by assumption) ?_
              rotate_left
              · (intro wx hSw; (try dsimp only at hSw); go_simp; try (with_reducible rfl))
              try simp only [Act.put, List.getElem_toArray, List.getElem_cons_succ, List.getElem_cons_zero, List.setIfInBounds_toArray, List.set_cons_zero, List.set_cons_succ]
              refine wpAnyH_take (i := 4) (v := ?_) rfl (by kernel_rfl) (by kernel_rfl) (by kernel_rfl) (fun _ _ _ h => h) (Or.inl ⟨by kernel_rfl, ?_⟩) (by assumption) ?_
              rotate_left
              · (intro wx hSw; (try dsimp only at hSw); go_simp; try (with_reducible rfl))
              try simp only [Act.put, List.getElem_toArray, List.getElem_cons_succ, List.getElem_cons_zero, List.setIfInBounds_toArray, List.set_cons_zero, List.set_cons_succ]
              refine wpAnyH_take (i := 6) (v := ?_) rfl (by kernel_rfl) (by kernel_rfl) (by kernel_rfl) (fun _ _ _ h => h) (Or.inl ⟨by kernel_rfl, ?_⟩) (by assumption) ?_
              rotate_left
              · (intro wx hSw; (try dsimp only at hSw); go_simp; try (with_reducible rfl))
              try simp only [Act.put, List.getElem_toArray, List.getElem_cons_succ, List.getElem_cons_zero, List.setIfInBounds_toArray, List.set_cons_zero, List.set_cons_succ]
              refine wpAnyH_ready (rs := [5]) (by kernel_rfl) (by simp) ?_
              refine AllReadyH.cons rfl (fun K hK => ?_) AllReadyH.nil
              go_simp
              (go_at_call 82; refine (l3Dist_any q s A n c L HN.out HO.out hs0 hs1 _ hm (K1.out.bl (BWR.out.trans_ (by repeat' (first | exact Bl.refl _ | with_reducible assumption | with_reducible refine Bl.drew_ ?_ | with_reducible refine Bl.drewN_ ?_ _ | with_reducible refine Bl.alloc_ ?_ _ | with_reducible refine Bl.trans_ ?_ (by assumption) | with_reducible refine Bl.trans_ ?_ (And.left (by assumption))))))).mono ?_; rintro e w4 ⟨v4, rfl, hv4, hb4⟩; have BQ := Lib.hid hb4; have hl : (distL q L s).length = q := (by rw [distL_len HO.out hs0 hs1]; simp); obtain ⟨A5, c5, rfl, hc5, hi5, -, -⟩ := OwnN.shape hv4; obtain ⟨g5, o5, rfl, hg5, hcell⟩ := hi5.cell (by omega); have p := hcell j (by omega); have e1 : (distL q L s)[j]'(by omega) = dAt (distL q L s) (j : Int) := (dAt_at (by omega)).symm; rw [e1] at p; clear hcell hv4 hi5 e1 hg5; rw [hl]; generalize dAt (distL (q : Int) L s) (j : Int) = d at *; have hj0 : (0 : Int) ≤ (j : Int) := (by omega); clear hl)
              try (go_wp2_with fail)
              refine hK.out _ _ ?_ (fun hHeld => ?_)
              · (exact HSH.out _ (by repeat' (first | exact Bl.refl _ | with_reducible assumption | with_reducible refine Bl.drew_ ?_ | with_reducible refine Bl.drewN_ ?_ _ | with_reducible refine Bl.alloc_ ?_ _ | with_reducible refine Bl.trans_ ?_ (by assumption) | with_reducible refine Bl.trans_ ?_ (And.left (by assumption)))))
              clear hK K
              try simp only [Act.put, List.getElem_toArray, List.getElem_cons_succ, List.getElem_cons_zero, List.setIfInBounds_toArray, List.set_cons_zero, List.set_cons_succ]
              refine wpAnyH_ready (rs := [7]) (by kernel_rfl) (by simp) ?_
              refine AllReadyH.cons rfl (fun K hK => ?_) AllReadyH.nil
              go_simp
              refine hK.out _ _ ?_ (fun hHeld => ?_)
              · (exact HSH.out _ (by repeat' (first | exact Bl.refl _ | with_reducible assumption | with_reducible refine Bl.drew_ ?_ | with_reducible refine Bl.drewN_ ?_ _ | with_reducible refine Bl.alloc_ ?_ _ | with_reducible refine Bl.trans_ ?_ (by assumption) | with_reducible refine Bl.trans_ ?_ (And.left (by assumption)))))
              clear hK K
              try simp only [Act.put, List.getElem_toArray, List.getElem_cons_succ, List.getElem_cons_zero, List.setIfInBounds_toArray, List.set_cons_zero, List.set_cons_succ]
              refine wpAnyH_ready (rs := [8]) (by kernel_rfl) (by simp) ?_
              refine AllReadyH.cons rfl (fun K hK => ?_) AllReadyH.nil
              go_simp
              refine hK.out _ _ ?_ (fun hHeld => ?_)
              · (exact HSH.out _ (by repeat' (first | exact Bl.refl _ | with_reducible assumption | with_reducible refine Bl.drew_ ?_ | with_reducible refine Bl.drewN_ ?_ _ | with_reducible refine Bl.alloc_ ?_ _ | with_reducible refine Bl.trans_ ?_ (by assumption) | with_reducible refine Bl.trans_ ?_ (And.left (by assumption)))))
              clear hK K
              try simp only [Act.put, List.getElem_toArray, List.getElem_cons_succ, List.getElem_cons_zero, List.setIfInBounds_toArray, List.set_cons_zero, List.set_cons_succ]
              refine wpAnyH_ready (rs := [9]) (by kernel_rfl) (by simp) ?_
              refine AllReadyH.cons rfl (fun K hK => ?_) AllReadyH.nil
              go_simp
              refine hK.out _ _ ?_ (fun hHeld => ?_)
              · (exact HSH.out _ (by repeat' (first | exact Bl.refl _ | with_reducible assumption | with_reducible refine Bl.drew_ ?_ | with_reducible refine Bl.drewN_ ?_ _ | with_reducible refine Bl.alloc_ ?_ _ | with_reducible refine Bl.trans_ ?_ (by assumption) | with_reducible refine Bl.trans_ ?_ (And.left (by assumption)))))
              clear hK K
              try simp only [Act.put, List.getElem_toArray, List.getElem_cons_succ, List.getElem_cons_zero, List.setIfInBounds_toArray, List.set_cons_zero, List.set_cons_succ]
              refine wpAnyH_done (by kernel_rfl) ?_ _
              have DB := Lib.hid (show Bl wo w4 from BX.out.trans_ (by repeat' (first | exact Bl.refl _ | with_reducible assumption | with_reducible refine Bl.drew_ ?_ | with_reducible refine Bl.drewN_ ?_ _ | with_reducible refine Bl.alloc_ ?_ _ | with_reducible refine Bl.trans_ ?_ (by assumption) | with_reducible refine Bl.trans_ ?_ (And.left (by assumption)))))
              by_cases hd : 0 ≤ d
              · have bd : decide (0 ≤ d) = true := by simpa using hd
                have HS := Lib.hid (ST.out.trans (minD_yes hd))
                clear ST
                go_wp2
                go_roundw
                case rel => exact ⟨t + 1, by omega, by go_num, by rw [HS.out], DB.out⟩
                case measure => simp [intOf]; omega
              · have bd : decide (0 ≤ d) = false := by simpa using hd
                have HS := Lib.hid (ST.out.trans (minD_no (by omega)))
                clear ST
                go_wp2
                go_roundw
                case rel => exact ⟨t + 1, by omega, by go_num, by rw [HS.out], DB.out⟩
                case measure => simp [intOf]; omega
            · have HT := Lib.hid (show nearV q L (j : Int) (V.take t) = nearV q L (j : Int) V from by rw [List.take_of_length_le (by have := HK.out; omega)])
              rw [HT.out]
              have DB := Lib.hid (hbl.trans_ hbl2)
              clear HT hbl2
              rw [NBF.out] at BY BN
              generalize nearV (q : Int) L (j : Int) V = m at *
              by_cases hb : bi < m
              · have bd : decide (bi < m) = true := by simpa using hb
                have HY := Lib.hid (BY.out hb)
                clear BY BN
                go_wp2
                go_roundw
                case rel => exact ⟨j + 1, by omega, by go_num, by rw [HY.out.1], by rw [HY.out.2], DB.out⟩
                case measure => simp [intOf]; omega
              · have bd : decide (bi < m) = false := by simpa using hb
                have HY := Lib.hid (BN.out nb.1 (by omega))
                clear BY BN
                go_wp2
                go_roundw
                case rel => exact ⟨j + 1, by omega, by go_num, by rw [HY.out.1], by rw [HY.out.2], DB.out⟩
                case measure => simp [intOf]; omega
        · have HF := Lib.hid (show gtA (nearF q L V) j = farI q L V from by rw [← far_gt HUB.out]; congr 1; simp; omega)
          go_wp2
          go_ret
          exact ⟨ret_int HF.out, ((Bl.alloc_ (Bl.refl w) _).trans_ B2.out).trans_ BB.out⟩

end Go.Proofs.Ytmdmbobjdhjadaa

set_option linter.unusedSimpArgs false
set_option linter.unusedVariables false
namespace Go.Proofs.Ytmdmbobjdhjadaa
open Go.RowKit

/-- What a range over a function leaves among the deferred calls. -/
def markD (D : Nat) : Deferred := { target := .collected D, args := #[] }
structure MarksD (ds : List Deferred) (Ds : List Nat) (w : World) : Prop where
  eq : ds = Ds.map markD
  nodup : Ds.Nodup
  here : ∀ D ∈ Ds, w.heap[D]? = some (.deferred (some []))
theorem MarksD.nil_ (w : World) : MarksD [] [] w := ⟨rfl, by simp, by simp⟩
theorem MarksD.lt {ds : List Deferred} {Ds : List Nat} {w : World} (h : MarksD ds Ds w) : ∀ D ∈ Ds, D < w.heap.size := fun D hD => (Array.getElem?_eq_some_iff.1 (h.here D hD)).1
theorem MarksD.turn {ds : List Deferred} {Ds : List Nat} {w w' : World} {S : Nat → Prop} (h : MarksD ds Ds w) (t : Turn S w w') (hS : ∀ D ∈ Ds, ¬ S D) : MarksD ds Ds w' :=
  ⟨h.eq, h.nodup, fun D hD => (t.block D (h.lt D hD) (hS D hD)).trans (h.here D hD)⟩
theorem MarksD.bl {ds : List Deferred} {Ds : List Nat} {w w' : World} (h : MarksD ds Ds w) (t : Bl w w') : MarksD ds Ds w' := h.turn (Turn.of_bl (S := fun _ => False) t) (fun _ _ h => h)
theorem MarksD.cons {ds : List Deferred} {Ds : List Nat} {w : World} {D : Nat} (h : MarksD ds Ds w) (hD : w.heap[D]? = some (.deferred (some []))) (hn : D ∉ Ds) : MarksD ({ target := .collected D, args := #[] } :: ds) (D :: Ds) w :=
  ⟨by rw [h.eq]; rfl, List.nodup_cons.2 ⟨hn, h.nodup⟩, fun E hE => by
    rcases List.mem_cons.1 hE with rfl | hE
    · exact hD
    · exact h.here E hE⟩

theorem leaves_marks {F : Fence} {n : Nat} {P : Program} {fn : Func} {tmps : Array Value} {R : Ending → World → Prop} : ∀ (Ds : List Nat) (ds : List Deferred) (w : World), MarksD ds Ds w →
    (∀ w', Turn (fun i => i ∈ Ds) w w' → LeavesIn F n P fn tmps R [] .returning w') → LeavesInM F n P fn tmps R ds .returning w
  | [], ds, w, h, hR => by
    obtain rfl : ds = [] := h.eq
    exact hR w (Turn.refl _ _)
  | D :: Ds, ds, w, h, hR => by
    obtain rfl : ds = markD D :: Ds.map markD := h.eq
    obtain ⟨hn, hnd⟩ := List.nodup_cons.1 h.nodup
    have hD := h.here D (by simp)
    have t : Turn (fun i => i = D) w (w.putObj D (.deferred none)) := turn_put (fun i => i = D) _ (.deferred none) rfl
    have h' : MarksD (Ds.map markD) Ds w := ⟨rfl, hnd, fun E hE => h.here E (List.mem_cons_of_mem _ hE)⟩
    refine ⟨by simp, .inl ⟨D, _, rfl, run_takeDeferred hD, ?_⟩⟩
    refine leaves_marks Ds _ _ (h'.turn t (fun E hE e => hn (by rw [← e]; exact hE))) fun w' t' => hR w' ?_
    exact (t.more fun i _ e => by rw [e]; simp).trans (t'.more fun i _ e => List.mem_cons_of_mem _ e) (fun i _ e => e)

end Go.Proofs.Ytmdmbobjdhjadaa

set_option linter.unusedSimpArgs false
set_option linter.unusedVariables false
namespace Go.Proofs.Ytmdmbobjdhjadaa
open Go.RowKit

section
variable {P : Program} {Q : Exit → Act → World → Prop} {K K' : Act → World → Prop} {a : Act} {w : World} {ops : Array Oper} {md : Region.Mode} {l : Nat}
theorem upon_round {o : Oper} {r : Result Next} (hk : ∀ a w, K a w → K' a w) (h : o.upon P a K (NoOut Q) r) : o.uponIn (Fence.wide.inRound l) 0 P a K' Q r := by
  cases r with
  | ok x w' =>
    cases x <;> simp only [Oper.upon, Oper.uponIn] at h ⊢
    case value v => exact hk _ _ h
    case skip => exact hk _ _ h
    case defer d => exact hk _ _ h
    case enter f args =>
      refine ⟨fun h => by simp [Fence.wide] at h, CallsIn.inRound l (callsIn_wide.2 (Calls.mono h fun e w'' he => ?_))⟩
      cases e with
      | returned v => exact hk _ _ he
      | panicked c => exact absurd he id
      | outgrown => exact absurd he NoOut.not
    case row row args =>
      refine ⟨fun h => by simp [Fence.wide] at h, fun c cs _ => ?_⟩
      obtain ⟨v, w2, hr, hs⟩ := h c cs
      exact ⟨v, w2, hk _ _ hr, stepsIn_wide.2 hs⟩
  | halt x w' =>
    cases x <;> simp only [Oper.upon, Oper.uponIn] at h ⊢
    case panic v => exact absurd h id

/-- None of these operations is a defer statement. -/
def noDefer (ops : Array Oper) : Bool := ops.all fun o => match o.op with | .defer _ => false | _ => true
theorem noDefer_at {i : Nat} {o : Oper} (h : noDefer ops = true) (hi : ops[i]? = some o) : ∀ c, o.op ≠ .defer c := fun c e => by
  have h1 := Array.all_eq_true'.1 h o (Array.mem_of_getElem? hi)
  rw [e] at h1
  exact absurd h1 (by simp)
theorem wpOp_round {i : Nat} (hd : noDefer ops = true) (hk : ∀ a w, K a w → K' a w) (h : wpOp P ops (NoOut Q) i K a w) : wpOpIn (Fence.wide.inRound l) 0 P ops Q i K' a w := by
  unfold wpOp at h
  unfold wpOpIn
  cases hi : ops[i]? with
  | none => rw [hi] at h; exact hk _ _ h
  | some o =>
    rw [hi] at h
    simp only at h ⊢
    split
    · rename_i hw
      rw [if_pos hw] at h
      refine ⟨fun _ _ => trivial, ?_⟩
      rcases h with h | h
      · rw [Oper.semAt_eq _ _ o (noDefer_at hd hi)]
        exact upon_round hk h
      · exact absurd h.2 NoOut.not
    · rename_i hw
      rw [if_neg hw] at h
      exact ⟨fun _ _ => trivial, hk _ _ h⟩
theorem wpAny_round (hd : noDefer ops = true) : ∀ (fuel : Nat) (listed : Array Bool) (a : Act) (w : World), wpAny P md ops (NoOut Q) fuel listed a w → wpAnyIn (Fence.wide.inRound l) 0 P md ops Q fuel listed a w
  | 0, listed, a, w, h => h
  | fuel + 1, listed, a, w, h => ⟨h.1, fun i hi => wpOp_round hd (fun a w => wpAny_round hd fuel _ a w) (h.2 i hi)⟩

theorem wpInR_region_held {S : World → Prop} {id : Nat} (hd : noDefer ops = true) (hm : P.follows .mixedOrders = true) (hS : S w.drew)
    (h : S w.drew → wpAnyH P .any ops (NoOut Q) S ops.size (Array.replicate ops.size false) a w.drew) : (Code.region id ops true).wpIn (Fence.wide.inRound l) 0 P Q a w :=
  wpIn_region_any hm (wpAny_round hd _ _ _ _ (wpAny_of_held _ _ _ _ (h hS)))
end

end Go.Proofs.Ytmdmbobjdhjadaa

set_option linter.unusedSimpArgs false
set_option linter.unusedVariables false
namespace Go.Proofs.Ytmdmbobjdhjadaa
open Go.RowKit Go.Shelf
attribute [local go_sem] Oper.semAt_some

set_option maxRecDepth 100000 in
set_option maxHeartbeats 8000000 in
theorem nearestOf_any (N : Int) (A : Option Addr) (n c : Nat) (L : List Arc3) (hn : n = L.length) (hc : n ≤ c) (ho : okB N L = true) (A2 : Option Addr) (k c2 : Nat) (V : List Int) (hk : k = V.length) (hV : ∀ v ∈ V, 0 ≤ v ∧ v < N) (w : World) (hkm : k ≤ 1048576) (H1 : ArcsAt w w.heap.size A L) (H2 : IntsAt w w.heap.size A2 V) :
    Calls Try.prog 83 #[.agg #[.int .i64 N, .slice A n c], .slice A2 k c2] w fun e w' => ∃ E : List Int, e = .returned (.agg (E.map (Value.int .i64)).toArray) ∧ E.length = 24 ∧ (∀ v : Nat, (v : Int) < N → E.getD v 0 = nearV N L (v : Int) V) ∧ Bl w w' := by
  have K1 := Lib.hid H1
  have K2 := Lib.hid H2
  have HN := Lib.hid hn
  have HK := Lib.hid hk
  have HO := Lib.hid ho
  have HV := Lib.hid hV
  clear H1 H2 hn hk ho hV
  refine (callsIn_wide (n := 0)).1 ?_
  refine callsIn_of_wp_marks Try.func83 rfl trivial ?_ rfl
  simp only [Try.ntmps83, List.size_toArray, List.length_cons, List.length_nil, Nat.reduceAdd, Nat.reduceSub, Array.replicate_succ, Array.replicate_zero, List.push_toArray, List.append_toArray, List.nil_append, List.cons_append]
  gi_wp2_with fail
  have hN24 := (okB_elim HO.out).2.1
  gi_loopw [10] (fun i wr => ∃ j : Nat, j ≤ 24 ∧ i = .int .i64 j ∧ Bl ((w.alloc (.cells #[.int .i64 N, .slice A n c] 42)).alloc (.cells #[.int .i64 0, .int .i64 0, .int .i64 0, .int .i64 0, .int .i64 0, .int .i64 0, .int .i64 0, .int .i64 0, .int .i64 0, .int .i64 0, .int .i64 0, .int .i64 0, .int .i64 0, .int .i64 0, .int .i64 0, .int .i64 0, .int .i64 0, .int .i64 0, .int .i64 0, .int .i64 0, .int .i64 0, .int .i64 0, .int .i64 0, .int .i64 0] 82)) wr ∧
      ∃ E, NumsAt wr (w.heap.size + 2) E ∧ ∀ i (h : i < E.length), i < j → E[i] = 24000) (fun i _ => 24 - (intOf i).toNat)
  case atStart =>
    refine ⟨0, by omega, rfl, (Bl.refl _).alloc_ _, List.replicate 24 0, ⟨by simp, by simp, fun i hi => ?_, fun i hi => ?_⟩, fun i h h' => absurd h' (by omega)⟩
    · rw [List.length_replicate] at hi
      rw [List.getElem_replicate]
      match i, hi with
      | 0, _ | 1, _ | 2, _ | 3, _ | 4, _ | 5, _ | 6, _ | 7, _ | 8, _ | 9, _ | 10, _ | 11, _ | 12, _ | 13, _ | 14, _ | 15, _ | 16, _ | 17, _ | 18, _ | 19, _ | 20, _ | 21, _ | 22, _ | 23, _ => simp [go_sem]
      | (k + 24), h => exact absurd h (by omega)
    · simp [go_sem]
  case round =>
    obtain ⟨j, hj, rfl, hbl, E, hE, hneg⟩ := hrel
    have HE := Lib.hid hE
    have NG := Lib.hid hneg
    have hbs := hbl.size
    have HB := Lib.hid hbl
    simp only [World.size_alloc] at hbs
    have hdl := hE.lt
    clear hneg hbl
    by_cases hlt : j < 24
    · have q0 := hE.cell j (by rw [hE.len]; exact hlt)
      have q1 := hE.free j hlt
      generalize E[j]'(by rw [hE.len]; exact hlt) = ej at q0
      clear hE
      gi_wp2_with fail
      go_roundw
      case rel =>
        refine ⟨j + 1, by omega, by go_num, HB.out.set_ (by simp) _, E.set j 24000, HE.out.set 24000, fun i h hi => ?_⟩
        rw [List.getElem_set]
        split
        · rfl
        · exact NG.out i (by simpa using h) (by omega)
      case measure => simp [intOf]; omega
    · have HE0 := Lib.hid (show ∀ v : Nat, (v : Int) < N → E.getD v 0 = nearV N L (v : Int) (V.take 0) from fun v hv => by
        have hl : v < E.length := by rw [hE.len]; omega
        rw [List.take_zero, nearV_nil, List.getD_eq_getElem?_getD, List.getElem?_eq_getElem hl]
        exact NG.out v hl (by omega))
      have HEL := Lib.hid hE.len
      obtain ⟨hgc0, hgc1⟩ : wr.cell? ⟨w.heap.size, 0, none⟩ = some (.int .i64 N) ∧ wr.cell? ⟨w.heap.size, 1, none⟩ = some (.slice A n c) := by
        have hx := (bcell HB.out).1
        exact ⟨(hx _ _ (by simp; omega)).trans (by simp [go_sem]), (hx _ _ (by simp; omega)).trans (by simp [go_sem])⟩
      clear hE
      gi_wp2_with fail
      refine wpIn_loop_ghost_k (fun kk a wq => ∃ v8 v9 v18 v19 v20 v21 v22 v23 v24 v25 v26 v27 v28 v29 v30 v31 v32 v33 v34 v35 v36 : Value, ∃ ds : List Deferred, (∃ (t : Nat) (Ds : List Nat) (F : List Int), (t ≤ k ∧ kk = k - t ∧ v18 = .int .i64 t) ∧ (MarksD ds Ds wq ∧ ∀ D ∈ Ds, w.heap.size + 2 < D) ∧ (NumsAt wq (w.heap.size + 2) F ∧ Hid (∀ v : Nat, (v : Int) < N → F.getD v 0 = nearV N L (v : Int) (V.take t))) ∧ Bl ((w.alloc (.cells #[.int .i64 N, .slice A n c] 42)).alloc (.cells #[.int .i64 0, .int .i64 0, .int .i64 0, .int .i64 0, .int .i64 0, .int .i64 0, .int .i64 0, .int .i64 0, .int .i64 0, .int .i64 0, .int .i64 0, .int .i64 0, .int .i64 0, .int .i64 0, .int .i64 0, .int .i64 0, .int .i64 0, .int .i64 0, .int .i64 0, .int .i64 0, .int .i64 0, .int .i64 0, .int .i64 0, .int .i64 0] 82)) wq) ∧ a = { tmps := #[.agg #[.int .i64 N, .slice A n c], .slice A2 k c2, .pointer (some ⟨w.heap.size, 0, none⟩), undef, .pointer (some ⟨w.heap.size + 1, 0, none⟩), .pointer (some ⟨w.heap.size + 1 + 1, 0, none⟩), u6, undef, v8, v9, .int .i64 j, .bool (decide ((j : Int) < 24)), u12, u13, u14, u15, .slice A2 k c2, .int .i64 (k : Int), v18, v19, v20, v21, v22, v23, v24, v25, v26, v27, v28, v29, v30, v31, v32, v33, v34, v35, v36, undef], defers := ds }) k ?start ?round
      case start => exact ⟨_, _, .int .i64 0, _, _, _, _, _, _, _, _, _, _, _, _, _, _, _, _, _, _, [], ⟨0, [], E, ⟨by omega, by omega, rfl⟩, ⟨MarksD.nil_ _, by simp⟩, ⟨HE.out, Lib.hid HE0.out⟩, HB.out⟩, rfl⟩
      case round =>
        rintro kk _ wq ⟨v8, v9, v18, v19, v20, v21, v22, v23, v24, v25, v26, v27, v28, v29, v30, v31, v32, v33, v34, v35, v36, ds, ⟨t, Ds, F, ⟨ht, rfl, rfl⟩, ⟨hmk, hml⟩, ⟨hF, FE⟩, hB⟩, rfl⟩ J KK hJ hKK
        have MK := Lib.hid hmk
        have ML := Lib.hid hml
        have NF := Lib.hid hF
        have HBQ := Lib.hid hB
        have hbw : Bl w wq := (((Bl.refl w).alloc_ _).alloc_ _).trans_ hB
        have BW := Lib.hid hbw
        have hbs' := hB.size
        simp only [World.size_alloc] at hbs'
        have hdl' := hF.lt
        obtain ⟨hgd0, hgd1⟩ : wq.cell? ⟨w.heap.size, 0, none⟩ = some (.int .i64 N) ∧ wq.cell? ⟨w.heap.size, 1, none⟩ = some (.slice A n c) := by
          have hx := (bcell hB).1
          exact ⟨(hx _ _ (by simp; omega)).trans (by simp [go_sem]), (hx _ _ (by simp; omega)).trans (by simp [go_sem])⟩
        clear hmk hml hF hB hbw HE HEL HE0 hgc0 hgc1 NG
        by_cases hlt2 : t < k
        · have htl : t < V.length := by have := HK.out; omega
          obtain ⟨g2, o2, rfl, hg2, hc2⟩ := K2.out.cell (by omega)
          have p1 := hc2 t htl
          rw [← (bcell BW.out).1 _ _ hg2] at p1
          have SN := Lib.hid (take_snocI htl)
          have hv := HV.out V[t] (List.getElem_mem htl)
          generalize V[t] = s at *
          obtain ⟨hv0, hv1⟩ := hv
          have i0 : (0 : Int) ≤ (t : Int) := by omega
          have i1 : (t : Int) < (k : Int) := by omega
          clear hc2
          gi_wp2_with fail
          refine ⟨trivial, rfl, CallsIn.mono (callsIn_wide.2 (nearestFrom_any N s A n c _)) ?_⟩
          rintro e w3 ⟨rfl, hw3⟩
          have HW3 := Lib.hid hw3
          clear hw3 hgd0 hgd1 p1
          gi_wp2_with fail
          have hs3 : w3.heap.size = wq.heap.size + 4 := by rw [HW3.out]; simp
          have hb3 : Bl wq w3 := by rw [HW3.out]; exact ((((Bl.refl wq).alloc_ _).alloc_ _).alloc_ _).alloc_ _
          have hin : NIn w3 (wq.heap.size + 3) (wq.heap.size + 2) (wq.heap.size + 1) N s A n c L := by
            refine ⟨?_, ?_, ?_, ?_, (K1.out.bl BW.out).bl hb3⟩ <;> (rw [HW3.out]; simp [go_sem])
          have hn0 : NumsAt w3 (w.heap.size + 2) (minE F []) := by rw [minE_nil NF.out.len]; exact NF.out.bl hb3
          refine wpIn_range (gf := 135) (lb := #[.pointer (some ⟨wq.heap.size + 3, 0, none⟩), .pointer (some ⟨wq.heap.size + 2, 0, none⟩), .pointer (some ⟨wq.heap.size + 1, 0, none⟩)]) ?e1 ?e2
            (near_stops N s A n c (wq.heap.size + 3) (wq.heap.size + 2) (wq.heap.size + 1) L HN.out hc HO.out hv0 hv1 w3 hin) (Bl.refl _) (fun i hi => inBlocks_lt hin hi) ?e3
            (fun pre K W' => (∀ i, K i ↔ i = w.heap.size + 2) ∧ NumsAt W' (w.heap.size + 2) (minE F pre))
            (fun _ _ _ _ => False)
            (fun pre x a K W' => ∃ xb : Nat, ∃ z0 z1 z2 z3 z4 z6 z7 z8 z10 z11 z12 z13 z14 z15 z16 z17 z18 z19 z20 z21 z22 z23 z24 z25 z26 z27 z28 z29 z30 z31 z32 z33 z34 z35 z36 z37 : Value, (∀ i, K i ↔ (i = w.heap.size + 2 ∨ i = xb)) ∧ NumsAt W' (w.heap.size + 2) (minE F pre) ∧ (xb ≠ w.heap.size + 2 ∧ W'.cell? ⟨xb, 0, none⟩ = some (.int .i64 x.1) ∧ W'.cell? ⟨xb, 1, none⟩ = some (.int .i64 x.2)) ∧
              a = { tmps := #[z0, z1, z2, z3, z4, .pointer (some ⟨w.heap.size + 1 + 1, 0, none⟩), z6, z7, z8, .pointer (some ⟨xb, 0, none⟩), z10, z11, z12, z13, z14, z15, z16, z17, z18, z19, z20, z21, z22, z23, z24, z25, z26, z27, z28, z29, z30, z31, z32, z33, z34, z35, z36, z37], defers := [] })
            (fun i => i = w.heap.size + 2) ?hK0 ?hI (fun _ _ _ _ _ h _ => h) ?hM ?hlt ⟨fun i => Iff.rfl, hn0⟩ ?assign ?body ?done (fun _ _ _ _ _ _ _ h _ _ _ => h.elim)
          case e1 => rfl
          case e2 => exact enters_of Try.func135 (by kernel_rfl) rfl
          case e3 => exact fun x => rfl
          case hK0 =>
            rintro i rfl hi
            rcases hi with h | h | h | ⟨hl, h⟩
            · omega
            · omega
            · omega
            · obtain ⟨g, off, rfl, hg, -⟩ := K1.out hl
              have : g = w.heap.size + 2 := by simpa [blockOf] using h
              omega
          case hI =>
            rintro pre K X Y ⟨hk, hnum⟩ ht
            exact ⟨hk, hnum.turn ht (fun h => h ((hk _).2 rfl))⟩
          case hM =>
            rintro pre x a K X Y ⟨xb, z0, z1, z2, z3, z4, z6, z7, z8, z10, z11, z12, z13, z14, z15, z16, z17, z18, z19, z20, z21, z22, z23, z24, z25, z26, z27, z28, z29, z30, z31, z32, z33, z34, z35, z36, z37, hk, hnum, ⟨hne, hc0, hc1⟩, he⟩ ht
            have hx := World.block_lt_of_cell? _ _ hc0
            have hs := fun o => (ht.cells hx (fun h => h ((hk _).2 (.inr rfl))) o).1
            exact ⟨xb, z0, z1, z2, z3, z4, z6, z7, z8, z10, z11, z12, z13, z14, z15, z16, z17, z18, z19, z20, z21, z22, z23, z24, z25, z26, z27, z28, z29, z30, z31, z32, z33, z34, z35, z36, z37, hk, hnum.turn ht (fun h => h ((hk _).2 (.inl rfl))), ⟨hne, (hs 0).trans hc0, (hs 1).trans hc1⟩, he⟩
          case hlt =>
            rintro pre K X ⟨hk, hnum⟩ i hi
            rw [(hk i).1 hi]
            exact hnum.lt
          case assign =>
            rintro l pre ⟨x, y⟩ K X R ⟨hk, hnum⟩ hpre hR
            have HKK := Lib.hid hk
            have HNM := Lib.hid hnum
            have HR := Lib.hid hR
            clear hk hnum hpre hR hs3 hb3 hin hn0
            dsimp only [encI]
            gi_wp2_with fail
            have hlt := HNM.out.lt
            refine HR.out _ (fun i => i = w.heap.size + 2 ∨ i = X.heap.size) _ ⟨Turn.of_bl (by repeat' (first | exact Bl.refl _ | with_reducible assumption | with_reducible refine Bl.drew_ ?_ | with_reducible refine Bl.drewN_ ?_ _ | with_reducible refine Bl.alloc_ ?_ _ | with_reducible refine Bl.trans_ ?_ (by assumption) | with_reducible refine Bl.trans_ ?_ (And.left (by assumption)))), fun i hi => hi.imp (fun h => (HKK.out i).2 h) (fun h => by rw [h]; exact Nat.le_refl _)⟩ ⟨X.heap.size, _, _, _, _, _, _, _, _, _, _, _, _, _, _, _, _, _, _, _, _, _, _, _, _, _, _, _, _, _, _, _, _, _, _, _, _, fun i => Iff.rfl, HNM.out.bl (by repeat' (first | exact Bl.refl _ | with_reducible assumption | with_reducible refine Bl.drew_ ?_ | with_reducible refine Bl.drewN_ ?_ _ | with_reducible refine Bl.alloc_ ?_ _ | with_reducible refine Bl.trans_ ?_ (by assumption) | with_reducible refine Bl.trans_ ?_ (And.left (by assumption)))), ⟨by omega, by simp [go_sem], by simp [go_sem]⟩, rfl⟩
          case body =>
            rintro l pre ⟨x, y⟩ a₁ K X ⟨xb, z0, z1, z2, z3, z4, z6, z7, z8, z10, z11, z12, z13, z14, z15, z16, z17, z18, z19, z20, z21, z22, z23, z24, z25, z26, z27, z28, z29, z30, z31, z32, z33, z34, z35, z36, z37, hk, hnum, ⟨hne, hc0, hc1⟩, rfl⟩ ⟨Z, hZ⟩
            obtain ⟨f1, f2, f3, -, -⟩ := NextFacts (arcsIn_of_ok HO.out) hN24 hZ
            simp only at f1 f2 f3
            obtain ⟨u, rfl⟩ : ∃ u : Nat, y = u := ⟨y.toNat, by omega⟩
            have hu : u < 24 := by omega
            have hx0 : 0 ≤ x := f2.1
            have hu0 : (0 : Int) ≤ (u : Int) := by omega
            have hu1 : (u : Int) < 24 := by omega
            have hml2 := minE_len F pre
            have q0 := hnum.cell u (by rw [hml2]; exact hu)
            have q1 := hnum.free u hu
            have SE := Lib.hid (minE_snoc (E := F) (Y := pre) (x := x) (u := u) f3 hx0 (by rw [hml2]; exact hu))
            generalize (minE F pre)[u]'(by rw [hml2]; exact hu) = ej at q0 SE
            have hxl := World.block_lt_of_cell? _ _ hc0
            have hnl := hnum.lt
            have HKK := Lib.hid hk
            have HNM := Lib.hid hnum
            have hne' : w.heap.size + 2 ≠ xb := fun h => hne h.symm
            simp only at hxl hc0 hc1
            clear hk hnum f1 f2 f3 hs3 hb3 hin hn0 hZ hml2
            gi_wp2_with fail
            refine wpInR_region_held (S := fun wx => wx.cell? ⟨xb, 0, none⟩ = some (.int .i64 x) ∧ wx.cell? ⟨xb, 1, none⟩ = some (.int .i64 (u : Int))) (by kernel_rfl) (by kernel_rfl) ?_ (fun hHeld => ?_)
            · (refine ⟨?_, ?_⟩ <;> (simp [go_sem, *]; done))
            refine wpAnyH_take (i := 0) (v := ?_) rfl (by kernel_rfl) (by kernel_rfl) (by kernel_rfl) (fun _ _ _ h => h) (Or.inl ⟨by kernel_rfl, ?_⟩) (by assumption) ?_
            rotate_left
            · (intro wx hSw; (try dsimp only at hSw); go_simp; try (with_reducible rfl))
            try simp only [Act.put, List.getElem_toArray, List.getElem_cons_succ, List.getElem_cons_zero, List.setIfInBounds_toArray, List.set_cons_zero, List.set_cons_succ]
            refine wpAnyH_take (i := 1) (v := ?_) rfl (by kernel_rfl) (by kernel_rfl) (by kernel_rfl) (fun _ _ _ h => h) (Or.inl ⟨by kernel_rfl, ?_⟩) (by assumption) ?_
            rotate_left
            · (intro wx hSw; (try dsimp only at hSw); go_simp; try (with_reducible rfl))
            try simp only [Act.put, List.getElem_toArray, List.getElem_cons_succ, List.getElem_cons_zero, List.setIfInBounds_toArray, List.set_cons_zero, List.set_cons_succ]
            refine wpAnyH_take (i := 2) (v := ?_) rfl (by kernel_rfl) (by kernel_rfl) (by kernel_rfl) (fun _ _ _ h => h) (Or.inl ⟨by kernel_rfl, ?_⟩) (by assumption) ?_
            rotate_left
            · (intro wx hSw; (try dsimp only at hSw); go_simp; try (with_reducible rfl))
            try simp only [Act.put, List.getElem_toArray, List.getElem_cons_succ, List.getElem_cons_zero, List.setIfInBounds_toArray, List.set_cons_zero, List.set_cons_succ]
            refine wpAnyH_take (i := 3) (v := ?_) rfl (by kernel_rfl) (by kernel_rfl) (by kernel_rfl) (fun _ _ _ h => h) (Or.inl ⟨by kernel_rfl, ?_⟩) (by assumption) ?_
            rotate_left
            · (intro wx hSw; (try dsimp only at hSw); go_simp; try (with_reducible rfl))
            try simp only [Act.put, List.getElem_toArray, List.getElem_cons_succ, List.getElem_cons_zero, List.setIfInBounds_toArray, List.set_cons_zero, List.set_cons_succ]
            refine wpAnyH_take (i := 4) (v := ?_) rfl (by kernel_rfl) (by kernel_rfl) (by kernel_rfl) (fun _ _ _ h => h) (Or.inl ⟨by kernel_rfl, ?_⟩) (by assumption) ?_
            rotate_left
            · (intro wx hSw; (try dsimp only at hSw); go_simp; try (with_reducible rfl))
            try simp only [Act.put, List.getElem_toArray, List.getElem_cons_succ, List.getElem_cons_zero, List.setIfInBounds_toArray, List.set_cons_zero, List.set_cons_succ]
            refine wpAnyH_take (i := 6) (v := ?_) rfl (by kernel_rfl) (by kernel_rfl) (by kernel_rfl) (fun _ _ _ h => h) (Or.inl ⟨by kernel_rfl, ?_⟩) (by assumption) ?_
            rotate_left
            · (intro wx hSw; (try dsimp only at hSw); go_simp; try (with_reducible rfl))
            try simp only [Act.put, List.getElem_toArray, List.getElem_cons_succ, List.getElem_cons_zero, List.setIfInBounds_toArray, List.set_cons_zero, List.set_cons_succ]
            refine wpAnyH_take (i := 7) (v := ?_) rfl (by kernel_rfl) (by kernel_rfl) (by kernel_rfl) (fun _ _ _ h => h) (Or.inl ⟨by kernel_rfl, ?_⟩) (by assumption) ?_
            rotate_left
            · (intro wx hSw; (try dsimp only at hSw); go_simp; try (with_reducible rfl))
            try simp only [Act.put, List.getElem_toArray, List.getElem_cons_succ, List.getElem_cons_zero, List.setIfInBounds_toArray, List.set_cons_zero, List.set_cons_succ]
            refine wpAnyH_ready (rs := [5]) (by kernel_rfl) (by simp) ?_
            refine AllReadyH.cons rfl (fun K hK => ?_) AllReadyH.nil
            go_simp
            refine hK.out _ _ ?_ (fun hHeld => ?_)
            · (refine ⟨?_, ?_⟩ <;> (simp [go_sem, *]; done))
            clear hK K
            try simp only [Act.put, List.getElem_toArray, List.getElem_cons_succ, List.getElem_cons_zero, List.setIfInBounds_toArray, List.set_cons_zero, List.set_cons_succ]
            refine wpAnyH_ready (rs := [8]) (by kernel_rfl) (by simp) ?_
            refine AllReadyH.cons rfl (fun K hK => ?_) AllReadyH.nil
            go_simp
            refine hK.out _ _ ?_ (fun hHeld => ?_)
            · (refine ⟨?_, ?_⟩ <;> (simp [go_sem, *]; done))
            clear hK K
            try simp only [Act.put, List.getElem_toArray, List.getElem_cons_succ, List.getElem_cons_zero, List.setIfInBounds_toArray, List.set_cons_zero, List.set_cons_succ]
            refine wpAnyH_take (i := 9) (v := ?_) rfl (by kernel_rfl) (by kernel_rfl) (by kernel_rfl) (fun _ _ _ h => h) (Or.inl ⟨by kernel_rfl, ?_⟩) (by assumption) ?_
            rotate_left
            · (intro wx hSw; (try dsimp only at hSw); go_simp; try (with_reducible rfl))
            try simp only [Act.put, List.getElem_toArray, List.getElem_cons_succ, List.getElem_cons_zero, List.setIfInBounds_toArray, List.set_cons_zero, List.set_cons_succ]
            refine wpAnyH_ready (rs := [10]) (by kernel_rfl) (by simp) ?_
            refine AllReadyH.cons rfl (fun K hK => ?_) AllReadyH.nil
            go_simp
            refine hK.out _ _ ?_ (fun hHeld => ?_)
            · (refine ⟨?_, ?_⟩ <;> (simp [go_sem, *]; done))
            clear hK K
            try simp only [Act.put, List.getElem_toArray, List.getElem_cons_succ, List.getElem_cons_zero, List.setIfInBounds_toArray, List.set_cons_zero, List.set_cons_succ]
            refine wpAnyH_done (by kernel_rfl) ?_ _
            refine NoOut.normal ?_
            gi_wp2_with fail
            refine ⟨fun i => i = w.heap.size + 2, ⟨(Turn.set (p := ⟨w.heap.size + 2, u, none⟩) (Turn.refl K X) (.inl ((HKK.out _).2 (.inl rfl))) _).bl ((Bl.refl _).drew_), fun i hi => .inl ((HKK.out i).2 (.inl hi))⟩, fun i => Iff.rfl, ?_⟩
            rw [SE.out]
            exact (HNM.out.set _).bl ((Bl.refl _).drew_)
          case done =>
            rintro D xs K X hD hall ⟨hk, hnum⟩ hT hKD hdef
            have HNM := Lib.hid hnum
            have HT := Lib.hid hT
            have HA := Lib.hid hall
            have HD := Lib.hid hdef
            have B3 := Lib.hid hb3
            have hD' := hD
            clear hk hnum hT hall hdef hs3 hb3 hin hn0
            gi_wp2_with fail
            gi_roundg (k - (t + 1))
            case rel =>
              refine ⟨t + 1, D :: Ds, minE F xs, ⟨by omega, rfl, by go_num⟩, ⟨?_, ?_⟩, ⟨HNM.out, Lib.hid ?_⟩, ?_⟩
              · have h1 := (MK.out.bl B3.out).turn HT.out (fun D hD e => by have := ML.out D hD; omega)
                exact h1.cons HD.out (fun h => by have := MK.out.lt D h; have := B3.out.size; omega)
              · intro E hE
                rcases List.mem_cons.1 hE with rfl | hE
                · have := B3.out.size; omega
                · exact ML.out E hE
              · rw [SN.out]
                exact minE_done HO.out HA.out FE.out
              · exact Turn.to_bl (HBQ.out.trans_ B3.out) HT.out (fun i hi => by rw [hi]; simp)
            case measure => omega
        · have FT := Lib.hid (show ∀ v : Nat, (v : Int) < N → F.getD v 0 = nearV N L (v : Int) V from fun v hv => by
            have := FE.out v hv
            rwa [List.take_of_length_le (by have := HK.out; omega)] at this)
          have hrb : wq.there (w.heap.size + 1) 0 24 := by
            refine there_of_cells fun i hi => ?_
            obtain ⟨y1, y2⟩ := bcell HBQ.out
            rw [y1 _ _ (by simp), y2 _ _ (by simp)]
            match i, hi with
            | 0, _ | 1, _ | 2, _ | 3, _ | 4, _ | 5, _ | 6, _ | 7, _ | 8, _ | 9, _ | 10, _ | 11, _ | 12, _ | 13, _ | 14, _ | 15, _ | 16, _ | 17, _ | 18, _ | 19, _ | 20, _ | 21, _ | 22, _ | 23, _ => simp [go_sem]
            | (k + 24), h => exact absurd h (by omega)
          have HRB := Lib.hid hrb
          have HSZ := Lib.hid (show (Try.prog.info? 82).map (·.size) = some 24 from by kernel_rfl)
          clear hrb hgd0 hgd1
          gi_wp2_with (first | (refine wpListIn_load_mid rfl 82 (.tmp 5) rfl (w.heap.size + 2) 0 rfl (csI F) _ NF.out.range Try.underlying82 rfl (by rw [csI_len, NF.out.len]; exact HSZ.out) ?_) | (refine wpListIn_store_mid rfl 82 (.tmp 4) (.tmp 37) rfl (w.heap.size + 1) 0 (csI F).toArray rfl rfl ?c1 ?c2 (csI_one _) ?_))
          case c1 => simpa [csI_len, NF.out.len] using HRB.out
          case c2 => simpa [csI_len, NF.out.len] using HSZ.out
          have hts : Turn (fun i => i = w.heap.size + 1) wq (wq.setCells (w.heap.size + 1) 0 (csI F)) := Turn.setCells_ (S := fun i => i = w.heap.size + 1) (w.heap.size + 1) rfl _ _ _ (Turn.refl _ _)
          refine leaves_marks Ds ds _ (MK.out.turn hts (fun D hD e => by have := ML.out D hD; omega)) fun w' t' => ?_
          have hnums := NumsAt.stored NF.out.len (show w.heap.size + 1 < wq.heap.size by omega) HRB.out
          have hnums2 := hnums.turn t' (fun h => by have := ML.out _ h; omega)
          refine ⟨_, results_cell_mid rfl _ _ (w.heap.size + 1) (csI F) _ rfl hnums2.range Try.underlying82 rfl (by rw [csI_len, NF.out.len]; exact HSZ.out), ?_⟩
          refine ⟨F, rfl, NF.out.len, FT.out, ?_⟩
          have h4 := Bl.setCells_ (w.heap.size + 1) (by omega) (csI F) 0 wq BW.out
          exact Turn.to_bl h4 t' (fun i hi => by have := ML.out i hi; omega)

set_option maxRecDepth 100000 in
set_option maxHeartbeats 4000000 in
theorem implFarthest_any (N : Int) (A : Option Addr) (n c : Nat) (L : List Arc3) (hn : n = L.length) (hc : n ≤ c) (A2 : Option Addr) (k c2 : Nat) (V : List Int) (hk : k = V.length) (w : World) (hm : n ≤ 1048576) (hkm : k ≤ 1048576) (H1 : ArcsAt w w.heap.size A L) (H2 : IntsAt w w.heap.size A2 V) :
    Calls Try.prog 34 #[.agg #[.int .i64 N, .slice A n c], .slice A2 k c2] w fun e w' => e = .returned (.int .i64 (farI N L V)) ∧ Bl w w' := by
  have K1 := Lib.hid H1
  have K2 := Lib.hid H2
  have HN := Lib.hid hn
  have HK := Lib.hid hk
  clear H1 H2 hn hk
  cases hh : hasUB N L V with
  | false =>
    have HH := Lib.hid hh
    clear hh
    go_enter Try.func34, Try.ntmps34
    go_wp2_with fail
    refine (hasUnlike_any N A n c L HN.out A2 k c2 V HK.out _ (by omega) hkm (K1.out.bl (by repeat' (first | exact Bl.refl _ | with_reducible assumption | with_reducible refine Bl.drew_ ?_ | with_reducible refine Bl.drewN_ ?_ _ | with_reducible refine Bl.alloc_ ?_ _ | with_reducible refine Bl.trans_ ?_ (by assumption) | with_reducible refine Bl.trans_ ?_ (And.left (by assumption))))) (K2.out.bl (by repeat' (first | exact Bl.refl _ | with_reducible assumption | with_reducible refine Bl.drew_ ?_ | with_reducible refine Bl.drewN_ ?_ _ | with_reducible refine Bl.alloc_ ?_ _ | with_reducible refine Bl.trans_ ?_ (by assumption) | with_reducible refine Bl.trans_ ?_ (And.left (by assumption)))))).mono ?_
    rintro e w1 ⟨rfl, hb1⟩
    rw [HH.out]
    go_wp2
    go_ret
    exact ⟨ret_int (show -1 = farI N L V from (if_neg (by rw [HH.out]; simp)).symm), (by repeat' (first | exact Bl.refl _ | with_reducible assumption | with_reducible refine Bl.drew_ ?_ | with_reducible refine Bl.drewN_ ?_ _ | with_reducible refine Bl.alloc_ ?_ _ | with_reducible refine Bl.trans_ ?_ (by assumption) | with_reducible refine Bl.trans_ ?_ (And.left (by assumption))))⟩
  | true =>
    have HH := Lib.hid hh
    obtain ⟨ho, hv, -⟩ := hasUB_iff.1 hh
    have hN1 := (okB_elim ho).1
    have hN24 := (okB_elim ho).2.1
    have HO := Lib.hid ho
    have HV := Lib.hid hv
    obtain ⟨q, rfl⟩ : ∃ q : Nat, N = q := ⟨N.toNat, by omega⟩
    clear hh ho hv
    go_enter Try.func34, Try.ntmps34
    go_wp2_with fail
    refine (hasUnlike_any q A n c L HN.out A2 k c2 V HK.out _ (by omega) hkm (K1.out.bl (by repeat' (first | exact Bl.refl _ | with_reducible assumption | with_reducible refine Bl.drew_ ?_ | with_reducible refine Bl.drewN_ ?_ _ | with_reducible refine Bl.alloc_ ?_ _ | with_reducible refine Bl.trans_ ?_ (by assumption) | with_reducible refine Bl.trans_ ?_ (And.left (by assumption))))) (K2.out.bl (by repeat' (first | exact Bl.refl _ | with_reducible assumption | with_reducible refine Bl.drew_ ?_ | with_reducible refine Bl.drewN_ ?_ _ | with_reducible refine Bl.alloc_ ?_ _ | with_reducible refine Bl.trans_ ?_ (by assumption) | with_reducible refine Bl.trans_ ?_ (And.left (by assumption)))))).mono ?_
    rintro e w1 ⟨rfl, hb1⟩
    rw [HH.out]
    obtain ⟨q0, q1⟩ := box2 hb1
    have BW1 := Lib.hid (show Bl w w1 from (Bl.alloc_ (Bl.refl w) _).trans_ hb1)
    have hsw : w.heap.size < w1.heap.size := by have := hb1.size; simp at this; omega
    clear hb1
    go_wp2_with fail
    refine (nearestOf_any q A n c L HN.out hc HO.out A2 k c2 V HK.out HV.out _ hkm (K1.out.bl BW1.out) (K2.out.bl BW1.out)).mono ?_
    rintro e w2 ⟨E, rfl, hE, hEd, hb2⟩
    have EL := Lib.hid hE
    have ED := Lib.hid hEd
    have r0 := ((bcell hb2).1 _ _ hsw).trans q0
    have s2 := hb2.size
    have B2 := Lib.hid (BW1.out.trans_ hb2)
    clear hE hEd q0 q1 hb2
    have NS := Lib.hid (NumsAt.stored EL.out (by simp) (there_new w2 82))
    have hbS := Bl.setCells_ w2.heap.size (Nat.le_refl _) (csI E) 0 _ ((Bl.refl w2).alloc_ (.cells #[.int .i64 0, .int .i64 0, .int .i64 0, .int .i64 0, .int .i64 0, .int .i64 0, .int .i64 0, .int .i64 0, .int .i64 0, .int .i64 0, .int .i64 0, .int .i64 0, .int .i64 0, .int .i64 0, .int .i64 0, .int .i64 0, .int .i64 0, .int .i64 0, .int .i64 0, .int .i64 0, .int .i64 0, .int .i64 0, .int .i64 0, .int .i64 0] 82))
    have HBS := Lib.hid hbS
    have r1 := ((bcell hbS).1 w.heap.size 0 (by omega)).trans r0
    clear hbS r0
    go_wp2_with (refine wpList_store_mid rfl 82 (.tmp 5) (.tmp 14) rfl w2.heap.size 0 (csI E).toArray rfl rfl ?c1 ?c2 (csI_one _) ?_)
    case c1 => simpa [csI_len, EL.out] using there_new w2 82
    case c2 => simpa [csI_len, EL.out] using size24
    obtain ⟨w5, hw5⟩ : ∃ w5, w5 = (w2.alloc (.cells #[.int .i64 0, .int .i64 0, .int .i64 0, .int .i64 0, .int .i64 0, .int .i64 0, .int .i64 0, .int .i64 0, .int .i64 0, .int .i64 0, .int .i64 0, .int .i64 0, .int .i64 0, .int .i64 0, .int .i64 0, .int .i64 0, .int .i64 0, .int .i64 0, .int .i64 0, .int .i64 0, .int .i64 0, .int .i64 0, .int .i64 0, .int .i64 0] 82)).setCells w2.heap.size 0 (csI E) := ⟨_, rfl⟩
    have NS5 := Lib.hid (show NumsAt w5 w2.heap.size E from by rw [hw5]; exact NS.out)
    have B5 := Lib.hid (show Bl w w5 from by rw [hw5]; exact B2.out.trans_ HBS.out)
    rw [← hw5] at r1 ⊢
    clear hw5 NS HBS
    go_wp2_with fail
    go_loopw [6, 17] (fun f i wr => ∃ j : Nat, j ≤ q ∧ i = .int .i64 j ∧ f = .int .i64 ((topK (nearF q L V) j : Nat) : Int) ∧ Bl w5 wr) (fun _ i _ => q - (intOf i).toNat)
    case atStart => exact ⟨0, by omega, rfl, rfl, Bl.refl _⟩
    case round =>
      obtain ⟨j, hj, rfl, rfl, hbl⟩ := hrel
      have BB := Lib.hid hbl
      have NR := Lib.hid (NS5.out.bl hbl)
      by_cases hlt : j < q
      · have hlt' : (j : Int) < (q : Int) := by omega
        have htk := topK_le (nearF q L V) j
        have e1 := ED.out j (by omega)
        have e2 := ED.out (topK (nearF q L V) j) (by omega)
        have EY := Lib.hid (show E.getD j 0 = nearF q L V j from e1)
        have ET := Lib.hid (show E.getD (topK (nearF q L V) j) 0 = nearF q L V (topK (nearF q L V) j) from e2)
        clear e1 e2
        have TY := Lib.hid (fun h => topK_yes (f := nearF q L V) (k := j) h)
        have TN := Lib.hid (fun h => topK_no (f := nearF q L V) (k := j) h)
        rw [← EY.out, ← ET.out] at TY TN
        obtain ⟨tk, htkk⟩ : ∃ tk, tk = topK (nearF q L V) j := ⟨_, rfl⟩
        have TK := Lib.hid htkk
        rw [← htkk] at htk TY TN ⊢
        clear htkk EY ET
        have c1 := NR.out.cell j (by rw [EL.out]; omega)
        have c2 := NR.out.cell tk (by rw [EL.out]; omega)
        have d1 : E.getD j 0 = E[j]'(by rw [EL.out]; omega) := by simp [EL.out, show j < 24 by omega]
        have d2 : E.getD tk 0 = E[tk]'(by rw [EL.out]; omega) := by simp [EL.out, show tk < 24 by omega]
        rw [d1, d2] at TY TN
        clear d1 d2
        generalize E[j]'(by rw [EL.out]; omega) = ej at *
        generalize E[tk]'(by rw [EL.out]; omega) = et at *
        have j0 : (0 : Int) ≤ (j : Int) := by omega
        have j1 : (j : Int) < 24 := by omega
        have k0 : (0 : Int) ≤ (tk : Int) := by omega
        have k1 : (tk : Int) < 24 := by omega
        by_cases hb : et < ej
        · have bd : decide (et < ej) = true := by simpa using hb
          have HY := Lib.hid (TY.out hb)
          clear TY TN
          go_wp2_with fail
          go_quiet (fail)
          go_wp2
          go_roundw
          case rel => exact ⟨j + 1, by omega, by go_num, by rw [HY.out], BB.out.trans_ (by repeat' (first | exact Bl.refl _ | with_reducible assumption | with_reducible refine Bl.drew_ ?_ | with_reducible refine Bl.drewN_ ?_ _ | with_reducible refine Bl.alloc_ ?_ _ | with_reducible refine Bl.trans_ ?_ (by assumption) | with_reducible refine Bl.trans_ ?_ (And.left (by assumption))))⟩
          case measure => simp [intOf]; omega
        · have bd : decide (et < ej) = false := by simpa using hb
          have HY := Lib.hid (TN.out hb)
          clear TY TN
          go_wp2_with fail
          go_quiet (fail)
          go_wp2
          go_roundw
          case rel => exact ⟨j + 1, by omega, by go_num, by rw [HY.out, TK.out], BB.out.trans_ (by repeat' (first | exact Bl.refl _ | with_reducible assumption | with_reducible refine Bl.drew_ ?_ | with_reducible refine Bl.drewN_ ?_ _ | with_reducible refine Bl.alloc_ ?_ _ | with_reducible refine Bl.trans_ ?_ (by assumption) | with_reducible refine Bl.trans_ ?_ (And.left (by assumption))))⟩
          case measure => simp [intOf]; omega
      · have HF := Lib.hid (show ((topK (nearF q L V) j : Nat) : Int) = farI q L V from by
          unfold farI
          rw [if_pos HH.out]
          congr 2
          simp
          omega)
        go_wp2
        go_ret
        exact ⟨ret_int HF.out, B5.out.trans_ BB.out⟩

end Go.Proofs.Ytmdmbobjdhjadaa

set_option linter.unusedSimpArgs false
set_option linter.unusedVariables false
namespace Go.Proofs.Ytmdmbobjdhjadaa
open Go.RowKit

set_option maxRecDepth 100000 in
set_option maxHeartbeats 1000000 in
theorem lawFarthest_any (N : Int) (A : Option Addr) (n c : Nat) (L : List Arc3) (hn : n = L.length) (A2 : Option Addr) (k c2 : Nat) (P : List Int) (hk : k = P.length) (w : World) (hm : n ≤ 9223372036854775807) (hkm : k ≤ 9223372036854775807) (H1 : ArcsAt w w.heap.size A L) (H2 : IntsAt w w.heap.size A2 P) :
    Calls Try.prog 6 #[.agg #[.int .i64 N, .slice A n c], .slice A2 k c2] w fun e w' => e = .returned (.bool true) ∧ Bl w w' := by
  have K1 := Lib.hid H1
  have K2 := Lib.hid H2
  have HN := Lib.hid hn
  have HK := Lib.hid hk
  clear H1 H2 hn hk
  by_cases hk1 : (1048576 : Int) < (k : Int)
  · have b1 : decide ((1048576 : Int) < (k : Int)) = true := by simpa using hk1
    go_enter Try.func6, Try.ntmps6
    go_wp2
    go_ret
    exact ⟨rfl, (by repeat' (first | exact Bl.refl _ | with_reducible assumption | with_reducible refine Bl.drew_ ?_ | with_reducible refine Bl.drewN_ ?_ _ | with_reducible refine Bl.alloc_ ?_ _ | with_reducible refine Bl.trans_ ?_ (by assumption) | with_reducible refine Bl.trans_ ?_ (And.left (by assumption))))⟩
  · have b1 : decide ((1048576 : Int) < (k : Int)) = false := by simpa using hk1
    have hk' : k ≤ 1048576 := by omega
    clear hk1
    by_cases hbig : (1048576 : Int) - n < 0
    · go_enter Try.func6, Try.ntmps6
      go_wp2_with (go_at_call 20; refine (szGraph_any _ _ _ _ _ _ hm (by omega) (by omega)).mono ?_; rintro e w' ⟨rfl, hb⟩; obtain ⟨hc, hf⟩ := bcell hb)
      go_ret
      exact ⟨rfl, (by repeat' (first | exact Bl.refl _ | with_reducible assumption | with_reducible refine Bl.drew_ ?_ | with_reducible refine Bl.drewN_ ?_ _ | with_reducible refine Bl.alloc_ ?_ _ | with_reducible refine Bl.trans_ ?_ (by assumption) | with_reducible refine Bl.trans_ ?_ (And.left (by assumption))))⟩
    · have hm' : n ≤ 1048576 := by omega
      clear hbig
      go_enter Try.func6, Try.ntmps6
      go_wp2_with fail
      refine (szGraph_small N A n c _ hm').mono ?_
      rintro e w1 ⟨rfl, hb1⟩
      obtain ⟨q0, q1⟩ := box2 hb1
      have p1 : (0 : Int) ≤ 1048576 - (n : Int) := by omega
      go_wp2_with fail
      refine (toGraph_any N A n c L HN.out _ hm' (K1.out.bl (by repeat' (first | exact Bl.refl _ | with_reducible assumption | with_reducible refine Bl.drew_ ?_ | with_reducible refine Bl.drewN_ ?_ _ | with_reducible refine Bl.alloc_ ?_ _ | with_reducible refine Bl.trans_ ?_ (by assumption) | with_reducible refine Bl.trans_ ?_ (And.left (by assumption)))))).mono ?_
      rintro e w2 ⟨g2, rfl, ha2, hg2, hb2⟩
      have hb2 := hb1.trans_ hb2
      obtain ⟨q0, q1⟩ := box2 hb2
      have HA2 := Lib.hid ha2
      clear ha2
      go_wp2_with fail
      refine (toInt64S_any A2 k c2 P HK.out _ hk' (K2.out.bl ((Bl.alloc_ (Bl.refl w) _).trans_ hb2))).mono ?_
      rintro e w3 ⟨rfl, hi3, hb3⟩
      have HI3 := Lib.hid hi3
      have HA3 := Lib.hid (HA2.out.bl hb3)
      have hb3 := hb2.trans_ hb3
      obtain ⟨q0, q1⟩ := box2 hb3
      clear hi3
      go_wp2_with fail
      refine (specFarthest_any N _ n n L HN.out (Nat.le_refl _) _ k k P HK.out (Nat.le_refl _) _ hm' hk' HA3.out HI3.out).mono ?_
      rintro e w4 ⟨rfl, hb4⟩
      have hb4 := hb3.trans_ hb4
      obtain ⟨q0, q1⟩ := box2 hb4
      go_wp2_with fail
      refine (toGraph_any N A n c L HN.out _ hm' (K1.out.bl ((Bl.alloc_ (Bl.refl w) _).trans_ hb4))).mono ?_
      rintro e w5 ⟨g5, rfl, ha5, hg5, hb5⟩
      have HA5 := Lib.hid (ha5.bl (Bl.alloc_ (Bl.refl w5) (.cells #[.int .i64 N, .slice (some ⟨g5, 0, none⟩) n n] 42)))
      have hB5 := hb4.trans_ (hb5.trans_ (Bl.alloc_ (Bl.refl w5) (.cells #[.int .i64 N, .slice (some ⟨g5, 0, none⟩) n n] 42)))
      have hX5 : Bl (w5.alloc (.cells #[.int .i64 N, .slice (some ⟨g5, 0, none⟩) n n] 42)) (w5.alloc (.cells #[.int .i64 N, .slice (some ⟨g5, 0, none⟩) n n] 42)) := Bl.refl _
      clear ha5 q0 q1
      go_wp2_with fail
      refine (toInt64S_any A2 k c2 P HK.out _ hk' (K2.out.bl ((Bl.alloc_ (Bl.refl w) _).trans_ hB5))).mono ?_
      rintro e w6 ⟨rfl, hi6, hb6⟩
      have HI6 := Lib.hid (show IntsAt w6 w6.heap.size (some ⟨w5.heap.size + 1, 0, none⟩) P from by simpa only [World.size_alloc] using hi6)
      have HA6 := Lib.hid (HA5.out.bl hb6)
      obtain ⟨x0, x1⟩ := box2 hb6
      have hB6 := hB5.trans_ hb6
      clear hi6
      go_wp2_with fail
      refine (implFarthest_any N _ n n L HN.out (Nat.le_refl _) _ k k P HK.out _ hm' hk' HA6.out HI6.out).mono ?_
      rintro e w7 ⟨rfl, hb7⟩
      have HI7 := Lib.hid (HI6.out.bl hb7)
      have HA7 := Lib.hid (HA6.out.bl hb7)
      have hX7 := hb6.trans_ hb7
      have hB7 := hB6.trans_ hb7
      have hne : (farI N L P != farI N L P) = false := by simp
      have HSH := Lib.hid (show ∀ wx, Bl w7 wx → Bl w7 wx ∧ wx.cell? ⟨w.heap.size, 0, none⟩ = some (.int .i64 N) ∧ wx.cell? ⟨w.heap.size, 1, none⟩ = some (.slice A n c) ∧ wx.cell? ⟨w5.heap.size, 0, none⟩ = some (.int .i64 N) ∧ wx.cell? ⟨w5.heap.size, 1, none⟩ = some (.slice (some ⟨g5, 0, none⟩) n n) from fun wx hb =>
        ⟨hb, (box2 (hB7.trans_ hb)).1, (box2 (hB7.trans_ hb)).2, (box2 (hX7.trans_ hb)).1, (box2 (hX7.trans_ hb)).2⟩)
      have hbw : Bl w w7 := (Bl.alloc_ (Bl.refl w) _).trans_ hB7
      clear x0 x1
      go_wp2_with fail
      refine wp_region_held_drew (S := fun wx => Bl w7 wx ∧ wx.cell? ⟨w.heap.size, 0, none⟩ = some (.int .i64 N) ∧ wx.cell? ⟨w.heap.size, 1, none⟩ = some (.slice A n c) ∧ wx.cell? ⟨w5.heap.size, 0, none⟩ = some (.int .i64 N) ∧ wx.cell? ⟨w5.heap.size, 1, none⟩ = some (.slice (some ⟨g5, 0, none⟩) n n)) (by kernel_rfl) ?_ (fun hHeld => ?_)
      · (exact HSH.out _ (by repeat' (first | exact Bl.refl _ | with_reducible assumption | with_reducible refine Bl.drew_ ?_ | with_reducible refine Bl.drewN_ ?_ _ | with_reducible refine Bl.alloc_ ?_ _ | with_reducible refine Bl.trans_ ?_ (by assumption) | with_reducible refine Bl.trans_ ?_ (And.left (by assumption)))))
      refine wpAnyH_take (i := 0) (v := ?_) rfl (by kernel_rfl) (by kernel_rfl) (by kernel_rfl) (fun _ _ _ h => h) (Or.inl ⟨by kernel_rfl, ?_⟩) (by assumption) ?_
      rotate_left
      · (intro wx hSw; (try dsimp only at hSw); go_simp; try (with_reducible rfl))
      try simp only [Act.put, List.getElem_toArray, List.getElem_cons_succ, List.getElem_cons_zero, List.setIfInBounds_toArray, List.set_cons_zero, List.set_cons_succ]
      refine wpAnyH_take (i := 1) (v := ?_) rfl (by kernel_rfl) (by kernel_rfl) (by kernel_rfl) (fun _ _ _ h => h) (Or.inl ⟨by kernel_rfl, ?_⟩) (by assumption) ?_
      rotate_left
      · (intro wx hSw; (try dsimp only at hSw); go_simp; try (with_reducible rfl))
      try simp only [Act.put, List.getElem_toArray, List.getElem_cons_succ, List.getElem_cons_zero, List.setIfInBounds_toArray, List.set_cons_zero, List.set_cons_succ]
      refine wpAnyH_ready (rs := [2]) (by kernel_rfl) (by simp) ?_
      refine AllReadyH.cons rfl (fun K hK => ?_) AllReadyH.nil
      go_simp
      (go_at_call 22; refine (toGraph_any N A n c L HN.out _ hm' (K1.out.bl (hbw.trans_ (by repeat' (first | exact Bl.refl _ | with_reducible assumption | with_reducible refine Bl.drew_ ?_ | with_reducible refine Bl.drewN_ ?_ _ | with_reducible refine Bl.alloc_ ?_ _ | with_reducible refine Bl.trans_ ?_ (by assumption) | with_reducible refine Bl.trans_ ?_ (And.left (by assumption))))))).mono ?_; rintro e w8 ⟨g8, rfl, ha8, hg8, hb8⟩; have HA8 := Lib.hid ha8; clear ha8)
      try (go_wp2_with fail)
      refine hK.out _ _ ?_ (fun hHeld => ?_)
      · (exact HSH.out _ (by repeat' (first | exact Bl.refl _ | with_reducible assumption | with_reducible refine Bl.drew_ ?_ | with_reducible refine Bl.drewN_ ?_ _ | with_reducible refine Bl.alloc_ ?_ _ | with_reducible refine Bl.trans_ ?_ (by assumption) | with_reducible refine Bl.trans_ ?_ (And.left (by assumption)))))
      clear hK K
      try simp only [Act.put, List.getElem_toArray, List.getElem_cons_succ, List.getElem_cons_zero, List.setIfInBounds_toArray, List.set_cons_zero, List.set_cons_succ]
      refine wpAnyH_ready (rs := [3]) (by kernel_rfl) (by simp) ?_
      refine AllReadyH.cons rfl (fun K hK => ?_) AllReadyH.nil
      go_simp
      (go_at_call 25; refine (eqGraph_yes N _ _ n n L n HN.out _ hm (HA7.out.bl (by repeat' (first | exact Bl.refl _ | with_reducible assumption | with_reducible refine Bl.drew_ ?_ | with_reducible refine Bl.drewN_ ?_ _ | with_reducible refine Bl.alloc_ ?_ _ | with_reducible refine Bl.trans_ ?_ (by assumption) | with_reducible refine Bl.trans_ ?_ (And.left (by assumption))))) HA8.out).mono ?_; rintro e w9 ⟨rfl, hb9⟩)
      try (go_wp2_with fail)
      refine hK.out _ _ ?_ (fun hHeld => ?_)
      · (exact HSH.out _ (by repeat' (first | exact Bl.refl _ | with_reducible assumption | with_reducible refine Bl.drew_ ?_ | with_reducible refine Bl.drewN_ ?_ _ | with_reducible refine Bl.alloc_ ?_ _ | with_reducible refine Bl.trans_ ?_ (by assumption) | with_reducible refine Bl.trans_ ?_ (And.left (by assumption)))))
      clear hK K
      try simp only [Act.put, List.getElem_toArray, List.getElem_cons_succ, List.getElem_cons_zero, List.setIfInBounds_toArray, List.set_cons_zero, List.set_cons_succ]
      refine wpAnyH_take (i := 4) (v := ?_) rfl (by kernel_rfl) (by kernel_rfl) (by kernel_rfl) (fun _ _ _ h => h) (Or.inl ⟨by kernel_rfl, ?_⟩) (by assumption) ?_
      rotate_left
      · (intro wx hSw; (try dsimp only at hSw); go_simp; try (with_reducible rfl))
      try simp only [Act.put, List.getElem_toArray, List.getElem_cons_succ, List.getElem_cons_zero, List.setIfInBounds_toArray, List.set_cons_zero, List.set_cons_succ]
      refine wpAnyH_done (by kernel_rfl) ?_ _
      have P9 : Bl w7 w9 := (by repeat' (first | exact Bl.refl _ | with_reducible assumption | with_reducible refine Bl.drew_ ?_ | with_reducible refine Bl.drewN_ ?_ _ | with_reducible refine Bl.alloc_ ?_ _ | with_reducible refine Bl.trans_ ?_ (by assumption) | with_reducible refine Bl.trans_ ?_ (And.left (by assumption))))
      go_wp2_with fail
      refine (toInt64S_any A2 k c2 P HK.out _ hk' (K2.out.bl (hbw.trans_ P9))).mono ?_
      rintro e w10 ⟨rfl, hi10, hb10⟩
      have HI10 := Lib.hid hi10
      clear hi10
      go_wp2_with fail
      refine (eqInt64S_yes _ _ k k P k HK.out _ (by omega) (HI7.out.bl (P9.trans_ hb10)) HI10.out).mono ?_
      rintro e w11 ⟨rfl, hb11⟩
      go_wp2
      go_ret
      exact ⟨rfl, hbw.trans_ (P9.trans_ (hb10.trans_ hb11))⟩

end Go.Proofs.Ytmdmbobjdhjadaa

set_option linter.unusedSimpArgs false
set_option linter.unusedVariables false
namespace Go.Proofs.Ytmdmbobjdhjadaa
open Go.ChangeShapes Go.WideShapes Go.ChangeAt Go.RowKit

set_option maxRecDepth 100000 in
theorem fnExactFarthest_lifted (os : Os) (started : os.Started) (H : Type) (enc : TypeId × Value → H) :
    ReturnsInHanded {} Try.checked os 6 .any (Rows.fnExactFarthestSpec.pre6 enc Try.prog Try.f6 Rows.fnExactFarthestRow.domain false) (Rows.fnExactFarthestSpec.post enc Try.prog Try.f6 false true false false) := by
  refine returnsInHanded_of_change (C := Try.checked) Try.own_ started (by kernel_rfl) Try.func6
    (ChangeSpec.witness6 (enc := enc) (C := Try.checked) false ⟨#[], #[.agg #[.int .i64 0, .slice none 0 0], .slice none 0 0], []⟩ 8 (by kernel_rfl) (by kernel_rfl) (by kernel_rfl) (by kernel_rfl)) ?_
  intro W base args ds gs before hval0 hW hcnd _
  have hval : ∀ (j : Nat) t v, Try.f6.params[j]? = some t → args[j]? = some v → Value.okWide Try.prog W .any base t v := hval0
  have hW' := hW
  obtain ⟨p, q, hA0, hV, rfl, hfz, hnd⟩ := hW
  have hA : DataW.TrodAll enc Try.prog W 0 (fun _ => true) true Try.f6.params.toList args.toList ds p := hA0
  rw [Try.params6] at hA hval
  obtain ⟨v0, vs0, d0, ds0, p0, q0, hargs, rfl, rfl, h0, r0⟩ := trodAll_cons hA
  obtain ⟨v1, vs1, d1, ds1, p1, q1, rfl, rfl, rfl, h1, r1⟩ := trodAll_cons r0
  obtain ⟨rfl, rfl, rfl⟩ := trodAll_nil r1
  obtain rfl : args = #[v0, v1] := by cases args; simp_all
  obtain ⟨rfl, rfl⟩ := trodVars_none hV
  have k0 := h0
  have lt0 : ∀ x ∈ p0, x.block < W.heap.size := by obtain ⟨m, hm⟩ := k0; exact DataW.trod_lt m _ _ _ hm
  obtain ⟨N, A, n, c, L, rfl, hn, hm, hL⟩ := open_graph (hval 0 36 v0 rfl rfl) h0
  have k1 := h1
  have lt1 : ∀ x ∈ p1, x.block < W.heap.size := by obtain ⟨m, hm⟩ := k1; exact DataW.trod_lt m _ _ _ hm
  obtain ⟨A2, k, c2, P, rfl, hk, hkm, hkc, hP⟩ := open_nums (hval 1 22 v1 rfl rfl) h1
  clear hA0 hval0
  refine (lawFarthest_any N A n c L hn A2 k c2 P hk W hm hkm hL hP).mono fun e W' ⟨he, bel0⟩ => ?_
  have bel : Below W.heap.size W W' := bel0
  subst he
  exact ⟨_, rfl, _, _, _, [], _, [], hW', trodAll_mk1 (shut_bool Try.underlying4 _), (trodAll_cons_mk (Below.trod Try.laidOut_ (by kernel_rfl) (of_decide_eq_true (by kernel_rfl)) k0 bel lt0) (trodAll_cons_mk (Below.trod Try.laidOut_ (by kernel_rfl) (of_decide_eq_true (by kernel_rfl)) k1 bel lt1) trodAll_mk0)), rfl, bel.frame _, fun h => by cases h⟩

theorem fnExactFarthest_holds : Rows.FnExactFarthestSaid :=
  OpenClaim.holds_of_wide 6 Try.f6 rfl rfl rfl rfl rfl rfl rfl ⟨rfl, rfl, rfl, rfl, rfl⟩ rfl rfl rfl rfl rfl (by kernel_rfl) Try.func6 (by kernel_rfl)
    (of_decide_eq_true (by kernel_rfl)) (by unfold Func.isWrapper; first | (rw [if_pos (by decide +kernel)]; kernel_rfl) | (rw [if_neg (by decide +kernel)]; exact ⟨rfl, rfl⟩))
    (fun os started H enc _ => fnExactFarthest_lifted os started H enc)

end Go.Proofs.Ytmdmbobjdhjadaa
