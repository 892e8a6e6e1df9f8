/-
  What is proved here: the walk of the law FnFirstPath: at every code that can be read it returns true and leaves what was there as it was. No conditions beyond those that each theorem states.
-/
import Derived.Test.YtpbgnidjgmmebaaQDP
import Derived.Test.YtpbgnidjgmmebaaQPSQ
import Derived.Test.YtpbgnidjgmmebaaQSM
set_option linter.unusedSimpArgs false
set_option linter.unusedVariables false
namespace Go.Proofs.Ytpbgnidjgmmebaa
open Go.RowKit

/-- Where there is a path the nodes are nodes, and there is a way. -/
theorem pathL_pos {N s t : Int} {L : List Arc3} (h : 0 < (pathL N L s t).length) : has2 N L s t = true ∧ 0 ≤ dAt (distL N (revL L) t) s := by
  unfold pathL at h
  split at h
  · rename_i hc
    rw [Bool.and_eq_true] at hc
    exact ⟨hc.1, by simpa using hc.2⟩
  · simp at h
theorem path_nodes {N s t : Int} {L : List Arc3} : ∀ x ∈ pathL N L s t, 0 ≤ x ∧ x < N := fun x hx => by
  have hl : 0 < (pathL N L s t).length := List.length_pos_of_mem hx
  obtain ⟨hh, hd⟩ := pathL_pos hl
  obtain ⟨ho, hs, ht⟩ := has2_of hh
  have hE := distL_is (s := t) (arcsIn_of_ok (revL_ok ho)) (okB_elim ho).2.1 ht.1 ht.2
  exact ((way_path hh hd).nodes ht (by rw [hE.start]; omega) x hx).1
/-- No lesser node could be the next one. -/
theorem path_first {N s t : Int} {L : List Arc3} (h : 0 < (pathL N L s t).length) (i : Nat) (hi : i + 1 < (pathL N L s t).length) (v : Int) (h0 : 0 ≤ v) (h1 : v < (pathL N L s t)[i + 1]) :
    ¬ (0 < wtL ((pathL N L s t)[i]'(by omega)) v L ∧ 0 ≤ distOfI N L v t ∧ wtL ((pathL N L s t)[i]'(by omega)) v L + distOfI N L v t = distOfI N L ((pathL N L s t)[i]'(by omega)) t) := by
  obtain ⟨hh, hd⟩ := pathL_pos h
  obtain ⟨ho, hs, ht⟩ := has2_of hh
  have hw := way_path hh hd
  have hE := distL_is (s := t) (arcsIn_of_ok (revL_ok ho)) (okB_elim ho).2.1 ht.1 ht.2
  obtain ⟨a, hn, haL, ha1, ha2, -, -⟩ := hw.step i hi
  obtain ⟨hx, -, -⟩ := hw.nodes ht (by rw [hE.start]; omega) _ (List.getElem_mem (show i < (pathL N L s t).length by omega))
  obtain ⟨hy, -, -⟩ := hw.nodes ht (by rw [hE.start]; omega) _ (List.getElem_mem hi)
  have hv : 0 ≤ v ∧ v < N := ⟨h0, by omega⟩
  generalize (pathL N L s t)[i]'(by omega) = x at *
  generalize (pathL N L s t)[i + 1] = y at *
  rintro ⟨k1, k2, k3⟩
  rw [distOfI_of ho hv ht, ← distL_of_turned ho hv ht] at k2 k3
  rw [distOfI_of ho hx ht, ← distL_of_turned ho hx ht] at k3
  have hb := wtL_pos k1
  have hq : nextB (distL N (revL L) t) x (x, v, wtL x v L) = true := by
    simp only [nextB, decide_eq_true_eq]
    exact ⟨k2, k3⟩
  have hsort : (fromL x L).Pairwise AheadP := by unfold fromL; exact (okB_elim ho).2.2.2.2.filter _
  have hbm : (x, v, wtL x v L) ∈ fromL x L := by unfold fromL; exact List.mem_filter.2 ⟨hb, by simp⟩
  unfold nextL at hn
  obtain ⟨-, l1, l2, hab, hno⟩ := List.find?_eq_some_iff_append.1 hn
  rw [hab] at hbm hsort
  rcases List.mem_append.1 hbm with h2 | h2
  · have := hno _ h2
    rw [hq] at this
    simp at this
  · rcases List.mem_cons.1 h2 with h3 | h3
    · have : v = a.2.1 := by rw [← h3]
      omega
    · have h4 := (List.pairwise_cons.1 (List.pairwise_append.1 hsort).2.1).1 _ h3
      unfold AheadP at h4
      simp only [aheadB, decide_eq_true_eq] at h4
      omega

set_option maxRecDepth 100000 in
set_option maxHeartbeats 8000000 in
theorem lawFirstPath_any (A : Option Addr) (n c : Nat) (w : World) (H : BytesAt w A n) :
    Calls Try.prog 5 #[.slice A n c] w fun e w' => e = .returned (.bool true) ∧ Bl w w' := by
  have K := Lib.hid H
  clear H
  by_cases hbig : (1048576 : Int) < (n : Int)
  · have hb : decide ((1048576 : Int) < (n : Int)) = true := by simpa using hbig
    clear hbig
    go_enter Try.func5, Try.ntmps5
    go_wp2_with (go_at_call 17; refine (big_any _ _ _ _).mono ?_; rintro e w' ⟨rfl, rfl⟩)
    go_ret
    exact ⟨rfl, (by repeat' (first | exact Bl.refl _ | with_reducible assumption | with_reducible refine Bl.drew_ ?_ | with_reducible refine Bl.drewN_ ?_ _ | with_reducible refine Bl.alloc_ ?_ _ | with_reducible refine Bl.trans_ ?_ (by assumption) | with_reducible refine Bl.trans_ ?_ (And.left (by assumption))))⟩
  · have hb : decide ((1048576 : Int) < (n : Int)) = false := by simpa using hbig
    have hn : n ≤ 1099511627776 := by omega
    clear hbig
    go_enter Try.func5, Try.ntmps5
    go_wp2_with fail
    refine (big_any _ _ _ _).mono ?_
    rintro e w1 ⟨rfl, rfl⟩
    go_wp2_with fail
    refine (drawPathOf_any A n c _ hn K.out).mono ?_
    rintro e w1 ⟨N, A', l, c', L, s, t, rfl, hd, hs, ht, hb1⟩
    obtain ⟨ha, hlc⟩ := hd.arcs
    have HL := Lib.hid hd.1
    have hl200 := hd.2.1
    have HA := Lib.hid (ha.bl (Bl.alloc_ (Bl.refl w1) (.cells #[.int .i64 N, .slice A' l c'] 26)))
    have B1 := Lib.hid (hb1.alloc_ (.cells #[.int .i64 N, .slice A' l c'] 26))
    clear hd hs ht hb1 ha
    go_wp2_with fail
    refine (implPathOf_any N s t A' l c' L HL.out hlc _ (by omega) HA.out).mono ?_
    rintro e w2 ⟨v2, rfl, hv2, hb2⟩
    obtain ⟨A2, c2, rfl, -, hi2, -, -⟩ := OwnN.shape hv2
    obtain ⟨P, hP⟩ : ∃ P, P = pathL N L s t := ⟨_, rfl⟩
    have FST := Lib.hid (show 0 < P.length → ∀ (i : Nat) (hi : i + 1 < P.length) (v : Int), 0 ≤ v → v < P[i + 1] → ¬ (0 < wtL (P[i]'(by omega)) v L ∧ 0 ≤ distOfI N L v t ∧ wtL (P[i]'(by omega)) v L + distOfI N L v t = distOfI N L (P[i]'(by omega)) t) from by subst hP; exact path_first)
    have POS := Lib.hid (show 0 < P.length → has2 N L s t = true ∧ 0 ≤ dAt (distL N (revL L) t) s from by subst hP; exact pathL_pos)
    have PN := Lib.hid (show ∀ x ∈ P, 0 ≤ x ∧ x < N from by subst hP; exact path_nodes)
    have hk20 : P.length ≤ 1048576 := by rw [hP]; exact pathL_len N L s t
    rw [← hP] at hi2 ⊢
    have I2 := Lib.hid hi2
    obtain ⟨k, hk⟩ : ∃ k, k = P.length := ⟨_, rfl⟩
    rw [← hk] at hk20 ⊢
    have HK := Lib.hid hk
    obtain ⟨q0, q1⟩ := box2 hb2
    clear hv2 hi2 hk
    go_wp2_with fail
    refine (specPathOf_any N s t A' l c' L HL.out _ (by omega) (HA.out.bl hb2)).mono ?_
    rintro e w3 ⟨v3, rfl, hv3, hb3⟩
    rw [← hP] at hv3 ⊢
    obtain ⟨A3, c3, rfl, -, hi3, -, -⟩ := OwnN.shape hv3
    rw [← HK.out]
    have P3 := Lib.hid (hb2.trans_ hb3)
    have J3 := Lib.hid (I2.out.bl hb3)
    clear hv3 hi3 q0 q1 hP
    by_cases hk0 : 0 < k
    · have bk : decide (0 < k) = true := by simpa using hk0
      have hPp : 0 < P.length := by rw [← HK.out]; exact hk0
      have HH := Lib.hid (POS.out hPp).1
      have FS := Lib.hid (FST.out hPp)
      have HWT := Lib.hid (show ∀ u v, weightOf N L u v = wtL u v L from fun u v => if_pos (has2_of HH.out).1)
      have hN24 := (okB_elim (has2_of HH.out).1).2.1
      have HO := Lib.hid (has2_of HH.out).1
      clear hPp
      rw [bk]
      have CL := Lib.hid bk
      clear bk
      go_wp2_with fail
      go_loopw [10] (fun iv wr => ∃ i : Nat, i ≤ k ∧ iv = .int .i64 i ∧ Bl w3 wr) (fun iv _ => k - (intOf iv).toNat)
      case atStart => exact ⟨0, by omega, rfl, Bl.refl _⟩
      case round =>
        obtain ⟨i, hi, rfl, hbl⟩ := hrel
        by_cases hlt : i + 1 < k
        · have hgb := P3.out.trans_ hbl
          have hil : i + 1 < P.length := by have := HK.out; omega
          have hil0 : i < P.length := by omega
          obtain ⟨g2, o2, rfl, hg2, hc2⟩ := (J3.out.bl hbl).cell (by omega)
          have p1 := hc2 i hil0
          have p2 := hc2 (i + 1) hil
          have F1 := Lib.hid (fun (v : Int) h0 h1 => FS.out i hil v h0 h1)
          have hyb := PN.out _ (List.getElem_mem hil)
          clear hc2
          generalize P[i]'hil0 = x at *
          generalize P[i + 1]'hil = y at *
          have HSH := Lib.hid (show ∀ wx, Bl wr wx → (wx.cell? ⟨w1.heap.size, 0, none⟩ = some (.int .i64 N) ∧ wx.cell? ⟨w1.heap.size, 1, none⟩ = some (.slice A' l c') ∧ wx.cell? ⟨g2, o2 + i, none⟩ = some (.int .i64 x)) ∧ wx.cell? ⟨g2, o2 + (i + 1), none⟩ = some (.int .i64 y) from fun wx hy => by
            obtain ⟨y0, y1⟩ := box2 (hgb.trans_ hy)
            exact ⟨⟨y0, y1, ((bcell hy).1 _ _ hg2).trans p1⟩, ((bcell hy).1 _ _ hg2).trans p2⟩)
          have i0 : (0 : Int) ≤ (i : Int) := by omega
          have i1 : (i : Int) < (k : Int) := by omega
          have i2 : (i : Int) + 1 < (k : Int) := by omega
          have iw : IntKind.i64.wrap ((i : Int) + 1) = ((i + 1 : Nat) : Int) := by rw [IntWalk.i64_in _ (by omega)]; omega
          have i3 : (0 : Int) ≤ ((i + 1 : Nat) : Int) := by omega
          have i4 : ((i + 1 : Nat) : Int) < (k : Int) := by omega
          go_wp2_with fail
          refine wp_region_held_drew (S := fun wx => wx.cell? ⟨w1.heap.size, 0, none⟩ = some (.int .i64 N) ∧ wx.cell? ⟨w1.heap.size, 1, none⟩ = some (.slice A' l c') ∧ wx.cell? ⟨g2, o2 + i, none⟩ = some (.int .i64 x)) (by kernel_rfl) ?_ (fun hHeld => ?_)
          · (exact (HSH.out _ (by repeat' (first | exact Bl.refl _ | with_reducible assumption | with_reducible refine Bl.drew_ ?_ | with_reducible refine Bl.drewN_ ?_ _ | with_reducible refine Bl.alloc_ ?_ _ | with_reducible refine Bl.trans_ ?_ (by assumption) | with_reducible refine Bl.trans_ ?_ (And.left (by assumption))))).1)
          refine wpAnyH_take (i := 0) (v := ?_) rfl (by kernel_rfl) (by kernel_rfl) (by kernel_rfl) (fun _ _ _ h => h) (Or.inl ⟨by kernel_rfl, ?_⟩) (by assumption) ?_
          rotate_left
          · (intro wx hSw; (try dsimp only at hSw); go_simp; try (with_reducible rfl))
          try simp only [Act.put, List.getElem_toArray, List.getElem_cons_succ, List.getElem_cons_zero, List.setIfInBounds_toArray, List.set_cons_zero, List.set_cons_succ]
          refine wpAnyH_take (i := 1) (v := ?_) rfl (by kernel_rfl) (by kernel_rfl) (by kernel_rfl) (fun _ _ _ h => h) (Or.inl ⟨by kernel_rfl, ?_⟩) (by assumption) ?_
          rotate_left
          · (intro wx hSw; (try dsimp only at hSw); go_simp; try (with_reducible rfl))
          try simp only [Act.put, List.getElem_toArray, List.getElem_cons_succ, List.getElem_cons_zero, List.setIfInBounds_toArray, List.set_cons_zero, List.set_cons_succ]
          refine wpAnyH_take (i := 2) (v := ?_) rfl (by kernel_rfl) (by kernel_rfl) (by kernel_rfl) (fun _ _ _ h => h) (Or.inl ⟨by kernel_rfl, ?_⟩) (by assumption) ?_
          rotate_left
          · (intro wx hSw; (try dsimp only at hSw); go_simp; try (with_reducible rfl))
          try simp only [Act.put, List.getElem_toArray, List.getElem_cons_succ, List.getElem_cons_zero, List.setIfInBounds_toArray, List.set_cons_zero, List.set_cons_succ]
          refine wpAnyH_take (i := 3) (v := ?_) rfl (by kernel_rfl) (by kernel_rfl) (by kernel_rfl) (fun _ _ _ h => h) (Or.inl ⟨by kernel_rfl, ?_⟩) (by assumption) ?_
          rotate_left
          · (intro wx hSw; (try dsimp only at hSw); go_simp; try (with_reducible rfl))
          try simp only [Act.put, List.getElem_toArray, List.getElem_cons_succ, List.getElem_cons_zero, List.setIfInBounds_toArray, List.set_cons_zero, List.set_cons_succ]
          refine wpAnyH_take (i := 4) (v := ?_) rfl (by kernel_rfl) (by kernel_rfl) (by kernel_rfl) (fun _ _ _ h => h) (Or.inl ⟨by kernel_rfl, ?_⟩) (by assumption) ?_
          rotate_left
          · (intro wx hSw; (try dsimp only at hSw); go_simp; try (with_reducible rfl))
          try simp only [Act.put, List.getElem_toArray, List.getElem_cons_succ, List.getElem_cons_zero, List.setIfInBounds_toArray, List.set_cons_zero, List.set_cons_succ]
          refine wpAnyH_take (i := 5) (v := ?_) rfl (by kernel_rfl) (by kernel_rfl) (by kernel_rfl) (fun _ _ _ h => h) (Or.inl ⟨by kernel_rfl, ?_⟩) (by assumption) ?_
          rotate_left
          · (intro wx hSw; (try dsimp only at hSw); go_simp; try (with_reducible rfl))
          try simp only [Act.put, List.getElem_toArray, List.getElem_cons_succ, List.getElem_cons_zero, List.setIfInBounds_toArray, List.set_cons_zero, List.set_cons_succ]
          refine wpAnyH_ready (rs := [6]) (by kernel_rfl) (by simp) ?_
          refine AllReadyH.cons rfl (fun K hK => ?_) AllReadyH.nil
          go_simp
          (go_at_call 31; refine (implDistOf_any N x t A' l c' L HL.out hlc _ (by omega) (HA.out.bl (hgb.trans_ (by repeat' (first | exact Bl.refl _ | with_reducible assumption | with_reducible refine Bl.drew_ ?_ | with_reducible refine Bl.drewN_ ?_ _ | with_reducible refine Bl.alloc_ ?_ _ | with_reducible refine Bl.trans_ ?_ (by assumption) | with_reducible refine Bl.trans_ ?_ (And.left (by assumption))))))).mono ?_; rintro e w5 ⟨rfl, hb5⟩)
          try (go_wp2_with fail)
          refine hK.out _ _ ?_ (fun hHeld => ?_)
          · (exact (HSH.out _ (by repeat' (first | exact Bl.refl _ | with_reducible assumption | with_reducible refine Bl.drew_ ?_ | with_reducible refine Bl.drewN_ ?_ _ | with_reducible refine Bl.alloc_ ?_ _ | with_reducible refine Bl.trans_ ?_ (by assumption) | with_reducible refine Bl.trans_ ?_ (And.left (by assumption))))).1)
          clear hK K
          try simp only [Act.put, List.getElem_toArray, List.getElem_cons_succ, List.getElem_cons_zero, List.setIfInBounds_toArray, List.set_cons_zero, List.set_cons_succ]
          refine wpAnyH_take (i := 7) (v := ?_) rfl (by kernel_rfl) (by kernel_rfl) (by kernel_rfl) (fun _ _ _ h => h) (Or.inl ⟨by kernel_rfl, ?_⟩) (by assumption) ?_
          rotate_left
          · (intro wx hSw; (try dsimp only at hSw); go_simp; try (with_reducible rfl))
          try simp only [Act.put, List.getElem_toArray, List.getElem_cons_succ, List.getElem_cons_zero, List.setIfInBounds_toArray, List.set_cons_zero, List.set_cons_succ]
          refine wpAnyH_done (by kernel_rfl) ?_ _
          clear hHeld
          have D0 := Lib.hid (distOfI_bounds (N := N) (s := x) (t := t) (L := L))
          have B5 := Lib.hid (show Bl wr w5 from (by repeat' (first | exact Bl.refl _ | with_reducible assumption | with_reducible refine Bl.drew_ ?_ | with_reducible refine Bl.drewN_ ?_ _ | with_reducible refine Bl.alloc_ ?_ _ | with_reducible refine Bl.trans_ ?_ (by assumption) | with_reducible refine Bl.trans_ ?_ (And.left (by assumption)))))
          generalize hdd : distOfI N L x t = d at *
          go_wp2_with fail
          go_loopw [12] (fun vv wx => ∃ q : Nat, (q : Int) ≤ y ∧ vv = .int .i64 q ∧ Bl wr wx) (fun vv _ => (y - intOf vv).toNat)
          case atStart => exact ⟨0, by omega, rfl, B5.out⟩
          case round =>
            obtain ⟨q, hq, rfl, hb6⟩ := hrel
            obtain ⟨⟨y0, y1, z1⟩, z2⟩ := HSH.out _ hb6
            have q0 : (0 : Int) ≤ (q : Int) := by omega
            by_cases hlt2 : (q : Int) < y
            · have HSH2 := Lib.hid (show ∀ wx, Bl wr wx → wx.cell? ⟨w1.heap.size, 0, none⟩ = some (.int .i64 N) ∧ wx.cell? ⟨w1.heap.size, 1, none⟩ = some (.slice A' l c') ∧ wx.cell? ⟨g2, o2 + i, none⟩ = some (.int .i64 x) from fun wx hy => (HSH.out _ (hb6.trans_ hy)).1)
              have F2 := Lib.hid (F1.out q q0 hlt2)
              have WB := Lib.hid (wtL_bounds (u := x) (v := (q : Int)) HO.out)
              have DB := Lib.hid (distOfI_bounds (N := N) (s := (q : Int)) (t := t) (L := L))
              go_wp2_with fail
              refine wp_region_held_drew (S := fun wx => wx.cell? ⟨w1.heap.size, 0, none⟩ = some (.int .i64 N) ∧ wx.cell? ⟨w1.heap.size, 1, none⟩ = some (.slice A' l c') ∧ wx.cell? ⟨g2, o2 + i, none⟩ = some (.int .i64 x)) (by kernel_rfl) ?_ (fun hHeld => ?_)
              · (exact HSH2.out _ (by repeat' (first | exact Bl.refl _ | with_reducible assumption | with_reducible refine Bl.drew_ ?_ | with_reducible refine Bl.drewN_ ?_ _ | with_reducible refine Bl.alloc_ ?_ _ | with_reducible refine Bl.trans_ ?_ (by assumption) | with_reducible refine Bl.trans_ ?_ (And.left (by assumption)))))
              refine wpAnyH_take (i := 0) (v := ?_) rfl (by kernel_rfl) (by kernel_rfl) (by kernel_rfl) (fun _ _ _ h => h) (Or.inl ⟨by kernel_rfl, ?_⟩) (by assumption) ?_
              rotate_left
              · (intro wx hSw; (try dsimp only at hSw); go_simp; try (with_reducible rfl))
              try simp only [Act.put, List.getElem_toArray, List.getElem_cons_succ, List.getElem_cons_zero, List.setIfInBounds_toArray, List.set_cons_zero, List.set_cons_succ]
              refine wpAnyH_take (i := 1) (v := ?_) rfl (by kernel_rfl) (by kernel_rfl) (by kernel_rfl) (fun _ _ _ h => h) (Or.inl ⟨by kernel_rfl, ?_⟩) (by assumption) ?_
              rotate_left
              · (intro wx hSw; (try dsimp only at hSw); go_simp; try (with_reducible rfl))
              try simp only [Act.put, List.getElem_toArray, List.getElem_cons_succ, List.getElem_cons_zero, List.setIfInBounds_toArray, List.set_cons_zero, List.set_cons_succ]
              refine wpAnyH_take (i := 2) (v := ?_) rfl (by kernel_rfl) (by kernel_rfl) (by kernel_rfl) (fun _ _ _ h => h) (Or.inl ⟨by kernel_rfl, ?_⟩) (by assumption) ?_
              rotate_left
              · (intro wx hSw; (try dsimp only at hSw); go_simp; try (with_reducible rfl))
              try simp only [Act.put, List.getElem_toArray, List.getElem_cons_succ, List.getElem_cons_zero, List.setIfInBounds_toArray, List.set_cons_zero, List.set_cons_succ]
              refine wpAnyH_take (i := 3) (v := ?_) rfl (by kernel_rfl) (by kernel_rfl) (by kernel_rfl) (fun _ _ _ h => h) (Or.inl ⟨by kernel_rfl, ?_⟩) (by assumption) ?_
              rotate_left
              · (intro wx hSw; (try dsimp only at hSw); go_simp; try (with_reducible rfl))
              try simp only [Act.put, List.getElem_toArray, List.getElem_cons_succ, List.getElem_cons_zero, List.setIfInBounds_toArray, List.set_cons_zero, List.set_cons_succ]
              refine wpAnyH_take (i := 4) (v := ?_) rfl (by kernel_rfl) (by kernel_rfl) (by kernel_rfl) (fun _ _ _ h => h) (Or.inl ⟨by kernel_rfl, ?_⟩) (by assumption) ?_
              rotate_left
              · (intro wx hSw; (try dsimp only at hSw); go_simp; try (with_reducible rfl))
              try simp only [Act.put, List.getElem_toArray, List.getElem_cons_succ, List.getElem_cons_zero, List.setIfInBounds_toArray, List.set_cons_zero, List.set_cons_succ]
              refine wpAnyH_take (i := 5) (v := ?_) rfl (by kernel_rfl) (by kernel_rfl) (by kernel_rfl) (fun _ _ _ h => h) (Or.inl ⟨by kernel_rfl, ?_⟩) (by assumption) ?_
              rotate_left
              · (intro wx hSw; (try dsimp only at hSw); go_simp; try (with_reducible rfl))
              try simp only [Act.put, List.getElem_toArray, List.getElem_cons_succ, List.getElem_cons_zero, List.setIfInBounds_toArray, List.set_cons_zero, List.set_cons_succ]
              refine wpAnyH_ready (rs := [6]) (by kernel_rfl) (by simp) ?_
              refine AllReadyH.cons rfl (fun K hK => ?_) AllReadyH.nil
              go_simp
              (go_at_call 33; refine (implWeight_any N x q A' l c' L HL.out _ (by omega) (HA.out.bl (hgb.trans_ (hb6.trans_ (by repeat' (first | exact Bl.refl _ | with_reducible assumption | with_reducible refine Bl.drew_ ?_ | with_reducible refine Bl.drewN_ ?_ _ | with_reducible refine Bl.alloc_ ?_ _ | with_reducible refine Bl.trans_ ?_ (by assumption) | with_reducible refine Bl.trans_ ?_ (And.left (by assumption)))))))).mono ?_; rintro e w7 ⟨rfl, hb7⟩; rw [HWT.out])
              try (go_wp2_with fail)
              refine hK.out _ _ ?_ (fun hHeld => ?_)
              · (exact HSH2.out _ (by repeat' (first | exact Bl.refl _ | with_reducible assumption | with_reducible refine Bl.drew_ ?_ | with_reducible refine Bl.drewN_ ?_ _ | with_reducible refine Bl.alloc_ ?_ _ | with_reducible refine Bl.trans_ ?_ (by assumption) | with_reducible refine Bl.trans_ ?_ (And.left (by assumption)))))
              clear hK K
              try simp only [Act.put, List.getElem_toArray, List.getElem_cons_succ, List.getElem_cons_zero, List.setIfInBounds_toArray, List.set_cons_zero, List.set_cons_succ]
              refine wpAnyH_take (i := 7) (v := ?_) rfl (by kernel_rfl) (by kernel_rfl) (by kernel_rfl) (fun _ _ _ h => h) (Or.inl ⟨by kernel_rfl, ?_⟩) (by assumption) ?_
              rotate_left
              · (intro wx hSw; (try dsimp only at hSw); go_simp; try (with_reducible rfl))
              try simp only [Act.put, List.getElem_toArray, List.getElem_cons_succ, List.getElem_cons_zero, List.setIfInBounds_toArray, List.set_cons_zero, List.set_cons_succ]
              refine wpAnyH_done (by kernel_rfl) ?_ _
              obtain ⟨u0, u1, u2⟩ := hHeld
              have B7 := Lib.hid (show Bl wr w7 from (by repeat' (first | exact Bl.refl _ | with_reducible assumption | with_reducible refine Bl.drew_ ?_ | with_reducible refine Bl.drewN_ ?_ _ | with_reducible refine Bl.alloc_ ?_ _ | with_reducible refine Bl.trans_ ?_ (by assumption) | with_reducible refine Bl.trans_ ?_ (And.left (by assumption)))))
              clear hb7 y0 y1 z1 z2
              go_wp2_with fail
              refine (implDistOf_any N q t A' l c' L HL.out hlc _ (by omega) (HA.out.bl (hgb.trans_ (hb6.trans_ B7.out)))).mono ?_
              rintro e w8 ⟨rfl, hb8⟩
              have Q9 := Lib.hid (hb6.trans_ (B7.out.trans_ hb8))
              have wb := WB.out
              have db := DB.out
              generalize wtL x (q : Int) L = a at *
              generalize distOfI N L q t = b at *
              have a1 : IntKind.i64.wrap (a + b) = a + b := IntWalk.i64_in _ (by omega)
              clear u0 u1 u2 hb8 B7
              by_cases e1 : 0 < a
              · have b1 : decide (0 < a) = true := by simpa using e1
                by_cases e2 : 0 ≤ b
                · have b2 : decide (0 ≤ b) = true := by simpa using e2
                  have b3 : (a + b == d) = false := by
                    rw [beq_eq_false_iff_ne]
                    exact fun h => F2.out ⟨e1, e2, h⟩
                  go_wp2
                  go_roundw
                  case rel => exact ⟨q + 1, by omega, by go_num, Q9.out⟩
                  case measure => simp [intOf]; omega
                · have b2 : decide (0 ≤ b) = false := by simpa using e2
                  go_wp2
                  go_roundw
                  case rel => exact ⟨q + 1, by omega, by go_num, Q9.out⟩
                  case measure => simp [intOf]; omega
              · have b1 : decide (0 < a) = false := by simpa using e1
                go_wp2
                go_roundw
                case rel => exact ⟨q + 1, by omega, by go_num, Q9.out⟩
                case measure => simp [intOf]; omega
            · go_wp2
              go_roundw
              case rel => exact ⟨i + 1, by omega, by go_num, hbl.trans_ hb6⟩
              case measure => simp [intOf]; omega
        · go_wp2
          go_ret
          exact ⟨rfl, B1.out.trans_ (P3.out.trans_ hbl)⟩
    · have bk : decide (0 < k) = false := by simpa using hk0
      rw [bk]
      go_wp2
      go_ret
      exact ⟨rfl, B1.out.trans_ P3.out⟩

end Go.Proofs.Ytpbgnidjgmmebaa
