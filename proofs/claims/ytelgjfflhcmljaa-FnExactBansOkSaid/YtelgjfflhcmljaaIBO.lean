/-
  What is proved here: impl.BansOk tells whether bans are right. No conditions beyond those that each theorem states.
-/
import Derived.Test.YtelgjfflhcmljaaBOK
set_option linter.unusedSimpArgs false
set_option linter.unusedVariables false
namespace Go.Proofs.Ytelgjfflhcmljaa
open Go.RowKit

theorem bansB_1 {L M : List Arc3} {k : Nat} (h : k < M.length) (e : (wtL M[k].1 M[k].2.1 L == 0) = true) : bansB L M k h = false := by
  unfold bansB
  rw [e]
  rfl
theorem bansB_2 {L M : List Arc3} {k : Nat} (h : k < M.length) (e : (wtL M[k].2.1 M[k].2.2 L == 0) = true) : bansB L M k h = false := by
  unfold bansB
  rw [e]
  simp
theorem bansB_0 {L M : List Arc3} (h : 0 < M.length) (e : (wtL M[0].1 M[0].2.1 L == 0) = false) (e' : (wtL M[0].2.1 M[0].2.2 L == 0) = false) : bansB L M 0 h = true := by
  unfold bansB
  rw [e, e']
  rfl
theorem bansB_s {L M : List Arc3} {j : Nat} (h : j + 1 < M.length) (e : (wtL M[j + 1].1 M[j + 1].2.1 L == 0) = false) (e' : (wtL M[j + 1].2.1 M[j + 1].2.2 L == 0) = false) : bansB L M (j + 1) h = aheadT (M[j]'(by omega)) M[j + 1] := by
  unfold bansB
  rw [e, e']
  simp
theorem box23 {w wr wx : World} {a b x y z : Value} {t t' : TypeId} (h0 : Bl (w.alloc (.cells #[a, b] t)) wr) (h : Bl (wr.alloc (.cells #[x, y, z] t')) wx) :
    Bl (wr.alloc (.cells #[x, y, z] t')) wx ∧ wx.cell? ⟨w.heap.size, 0, none⟩ = some a ∧ wx.cell? ⟨w.heap.size, 1, none⟩ = some b ∧ wx.cell? ⟨wr.heap.size, 0, none⟩ = some x ∧ wx.cell? ⟨wr.heap.size, 1, none⟩ = some y ∧ wx.cell? ⟨wr.heap.size, 2, none⟩ = some z :=
  ⟨h, (box2 (h0.trans_ ((Bl.alloc_ (Bl.refl wr) _).trans_ h))).1, (box2 (h0.trans_ ((Bl.alloc_ (Bl.refl wr) _).trans_ h))).2, (box3 h).1, (box3 h).2.1, (box3 h).2.2⟩

set_option maxRecDepth 100000 in
set_option maxHeartbeats 4000000 in
theorem implBansOk_any (N : Int) (A : Option Addr) (n c : Nat) (L : List Arc3) (hn : n = L.length) (A2 : Option Addr) (m c2 : Nat) (M : List Arc3) (hk : m = M.length) (w : World) (hm : n ≤ 1048576) (hkm : m ≤ 1048576) (H1 : ArcsAt w w.heap.size A L) (H2 : ArcsAt w w.heap.size A2 M) :
    Calls Try.prog 31 #[.agg #[.int .i64 N, .slice A n c], .slice A2 m c2] w fun e w' => e = .returned (.bool (bansOkB N L M)) ∧ Bl w w' := by
  have K1 := Lib.hid H1
  have K2 := Lib.hid H2
  have HN := Lib.hid hn
  have HM := Lib.hid hk
  clear H1 H2 hn hk
  cases ho : okB N L with
  | false =>
    have HO := Lib.hid ho
    clear ho
    go_enter Try.func31, Try.ntmps31
    go_wp2_with fail
    refine (implOk_any N A n c L HN.out _ (by omega) (K1.out.bl (by repeat' (first | exact Bl.refl _ | with_reducible assumption | with_reducible refine Bl.drew_ ?_ | with_reducible refine Bl.drewN_ ?_ _ | with_reducible refine Bl.alloc_ ?_ _ | with_reducible refine Bl.trans_ ?_ (by assumption) | with_reducible refine Bl.trans_ ?_ (And.left (by assumption)))))).mono ?_
    rintro e w1 ⟨rfl, hb1⟩
    rw [HO.out]
    go_wp2
    go_ret
    exact ⟨ret_bool (by unfold bansOkB; rw [HO.out]; rfl), (by repeat' (first | exact Bl.refl _ | with_reducible assumption | with_reducible refine Bl.drew_ ?_ | with_reducible refine Bl.drewN_ ?_ _ | with_reducible refine Bl.alloc_ ?_ _ | with_reducible refine Bl.trans_ ?_ (by assumption) | with_reducible refine Bl.trans_ ?_ (And.left (by assumption))))⟩
  | true =>
    have HO := Lib.hid ho
    have HSO := Lib.hid (sorted_of_ok ho)
    clear ho
    by_cases h30 : m ≤ 30
    · have h30' : decide ((30 : Int) < (m : Int)) = false := by simp; omega
      go_enter Try.func31, Try.ntmps31
      go_wp2_with fail
      refine (implOk_any N A n c L HN.out _ (by omega) (K1.out.bl (by repeat' (first | exact Bl.refl _ | with_reducible assumption | with_reducible refine Bl.drew_ ?_ | with_reducible refine Bl.drewN_ ?_ _ | with_reducible refine Bl.alloc_ ?_ _ | with_reducible refine Bl.trans_ ?_ (by assumption) | with_reducible refine Bl.trans_ ?_ (And.left (by assumption)))))).mono ?_
      rintro e w1 ⟨rfl, hb1⟩
      rw [HO.out]
      have HB1 := Lib.hid hb1
      clear hb1
      go_wp2_with fail
      clear h30'
      go_loopw [4, 17] (fun r i wr => ∃ k : Nat, k ≤ m ∧ r = .bool false ∧ i = .int .i64 k ∧ bansF L M k = true ∧ Bl (w.alloc (.cells #[.int .i64 N, .slice A n c] 29)) wr) (fun _ i _ => m - (intOf i).toNat)
      case atStart => exact ⟨0, by omega, rfl, rfl, rfl, HB1.out⟩
      case round =>
        obtain ⟨k, hk, rfl, rfl, hF, hbl⟩ := hrel
        have HF := Lib.hid hF
        have BB := Lib.hid hbl
        obtain ⟨q0, q1⟩ := box2 hbl
        have hsz := hbl.size
        simp only [World.size_alloc] at hsz
        have hgw : w.heap.size < wr.heap.size := by omega
        have BW := Lib.hid (show Bl w wr from (Bl.alloc_ (Bl.refl w) _).trans_ hbl)
        clear hF
        by_cases hlt : k < m
        · have hkl : k < M.length := by have := HM.out; omega
          obtain ⟨g1, o1, rfl, hg1, hc1⟩ := K2.out (by omega)
          have HC := Lib.hid (show ∀ wx, Bl wr wx → ∀ j (h : j < M.length), wx.cell? ⟨g1, o1 + j * 3, none⟩ = some (.int .i64 M[j].1) ∧ wx.cell? ⟨g1, o1 + j * 3 + 1, none⟩ = some (.int .i64 M[j].2.1) ∧ wx.cell? ⟨g1, o1 + j * 3 + 2, none⟩ = some (.int .i64 M[j].2.2) from fun wx hb j h => by
            have hh := (bcell (BW.out.trans_ hb)).1
            rw [hh _ _ hg1, hh _ _ hg1, hh _ _ hg1]
            exact hc1 j h)
          obtain ⟨p1, p2, p3⟩ := HC.out _ (Bl.refl _) k hkl
          have hg1' : g1 < wr.heap.size := by omega
          clear hc1 hg1
          have N1 := Lib.hid (fun e => bansOk_no (N := N) hkl (bansB_1 (L := L) hkl e))
          have N2 := Lib.hid (fun e => bansOk_no (N := N) hkl (bansB_2 (L := L) hkl e))
          have hx : ∃ x y z, M[k].1 = x ∧ M[k].2.1 = y ∧ M[k].2.2 = z := ⟨_, _, _, rfl, rfl, rfl⟩
          obtain ⟨x, y, z, ex, ey, ez⟩ := hx
          rw [ex] at p1
          rw [ey] at p2
          rw [ez] at p3
          rw [ex, ey] at N1
          rw [ey, ez] at N2
          have EX := Lib.hid ex
          have EY := Lib.hid ey
          have EZ := Lib.hid ez
          have j0 : (0 : Int) ≤ (k : Int) := by omega
          have j1 : (k : Int) < (m : Int) := by omega
          clear ex ey ez
          cases e1 : wtL x y L == 0 with
          | true =>
            have N1' := Lib.hid (N1.out e1)
            clear N1 N2
            go_wp2_with fail
            refine (arcWeight_any N x y A n c L HN.out _ hm HSO.out (K1.out.bl (BW.out.alloc_ _))).mono ?_
            rintro e w3 ⟨rfl, hb3⟩
            go_wp2
            go_ret
            exact ⟨ret_bool N1'.out.symm, (BW.out.alloc_ _).trans_ hb3⟩
          | false =>
            go_wp2_with fail
            refine (arcWeight_any N x y A n c L HN.out _ hm HSO.out (K1.out.bl (BW.out.alloc_ _))).mono ?_
            rintro e w3 ⟨rfl, hb3⟩
            obtain ⟨-, q0, q1, y0, y1, y2⟩ := box23 BB.out hb3
            cases e2 : wtL y z L == 0 with
            | true =>
              have N2' := Lib.hid (N2.out e2)
              clear N1 N2
              go_wp2_with fail
              refine (arcWeight_any N y z A n c L HN.out _ hm HSO.out (K1.out.bl ((BW.out.alloc_ _).trans_ hb3))).mono ?_
              rintro e w4 ⟨rfl, hb4⟩
              go_wp2
              go_ret
              exact ⟨ret_bool N2'.out.symm, (BW.out.alloc_ _).trans_ (hb3.trans_ hb4)⟩
            | false =>
              clear N1 N2
              go_wp2_with fail
              refine (arcWeight_any N y z A n c L HN.out _ hm HSO.out (K1.out.bl ((BW.out.alloc_ _).trans_ hb3))).mono ?_
              rintro e w4 ⟨rfl, hb4⟩
              have hb4 := hb3.trans_ hb4
              have B4 := Lib.hid hb4
              have WR := Lib.hid ((Bl.alloc_ (Bl.refl wr) _).trans_ hb4)
              obtain ⟨-, q0, q1, y0, y1, y2⟩ := box23 BB.out hb4
              have E1 := Lib.hid e1
              have E2 := Lib.hid e2
              clear hb3 hb4
              rcases Nat.eq_zero_or_pos k with rfl | hk0
              · have FS := Lib.hid (show bansF L M 1 = true from by
                  rw [show (1 : Nat) = 0 + 1 from rfl, bansF_step hkl, bansB_0 hkl (by rw [EX.out, EY.out]; exact E1.out) (by rw [EY.out, EZ.out]; exact E2.out), HF.out]
                  rfl)
                go_wp2_with fail
                refine wp_region_held_drew (S := fun wx => Bl w4 wx) (by kernel_rfl) ?_ (fun hHeld => ?_)
                · (exact (by repeat' (first | exact Bl.refl _ | with_reducible assumption | with_reducible refine Bl.drew_ ?_ | with_reducible refine Bl.drewN_ ?_ _ | with_reducible refine Bl.alloc_ ?_ _ | with_reducible refine Bl.trans_ ?_ (by assumption) | with_reducible refine Bl.trans_ ?_ (And.left (by assumption)))))
                refine wpAnyH_take (i := 0) (v := ?_) rfl (by kernel_rfl) (by kernel_rfl) (by kernel_rfl) (fun _ _ _ h => h) (Or.inl ⟨by kernel_rfl, ?_⟩) (by assumption) ?_
                rotate_left
                · (intro wx hSw; (try dsimp only at hSw); go_simp; try (with_reducible rfl))
                try simp only [Act.put, List.getElem_toArray, List.getElem_cons_succ, List.getElem_cons_zero, List.setIfInBounds_toArray, List.set_cons_zero, List.set_cons_succ]
                refine wpAnyH_take (i := 1) (v := ?_) rfl (by kernel_rfl) (by kernel_rfl) (by kernel_rfl) (fun _ _ _ h => h) (Or.inl ⟨by kernel_rfl, ?_⟩) (by assumption) ?_
                rotate_left
                · (intro wx hSw; (try dsimp only at hSw); go_simp; try (with_reducible rfl))
                try simp only [Act.put, List.getElem_toArray, List.getElem_cons_succ, List.getElem_cons_zero, List.setIfInBounds_toArray, List.set_cons_zero, List.set_cons_succ]
                refine wpAnyH_take (i := 2) (v := ?_) rfl (by kernel_rfl) (by kernel_rfl) (by kernel_rfl) (fun _ _ _ h => h) (Or.inl ⟨by kernel_rfl, ?_⟩) (by assumption) ?_
                rotate_left
                · (intro wx hSw; (try dsimp only at hSw); go_simp; try (with_reducible rfl))
                try simp only [Act.put, List.getElem_toArray, List.getElem_cons_succ, List.getElem_cons_zero, List.setIfInBounds_toArray, List.set_cons_zero, List.set_cons_succ]
                refine wpAnyH_take (i := 3) (v := undef) rfl (by kernel_rfl) (by kernel_rfl) (by kernel_rfl) (fun _ _ _ h => h) (Or.inr ⟨by kernel_rfl, rfl⟩) (by assumption) ?_
                try simp only [Act.put, List.getElem_toArray, List.getElem_cons_succ, List.getElem_cons_zero, List.setIfInBounds_toArray, List.set_cons_zero, List.set_cons_succ]
                refine wpAnyH_take (i := 4) (v := undef) rfl (by kernel_rfl) (by kernel_rfl) (by kernel_rfl) (fun _ _ _ h => h) (Or.inr ⟨by kernel_rfl, rfl⟩) (by assumption) ?_
                try simp only [Act.put, List.getElem_toArray, List.getElem_cons_succ, List.getElem_cons_zero, List.setIfInBounds_toArray, List.set_cons_zero, List.set_cons_succ]
                refine wpAnyH_take (i := 5) (v := undef) rfl (by kernel_rfl) (by kernel_rfl) (by kernel_rfl) (fun _ _ _ h => h) (Or.inr ⟨by kernel_rfl, rfl⟩) (by assumption) ?_
                try simp only [Act.put, List.getElem_toArray, List.getElem_cons_succ, List.getElem_cons_zero, List.setIfInBounds_toArray, List.set_cons_zero, List.set_cons_succ]
                refine wpAnyH_take (i := 6) (v := undef) rfl (by kernel_rfl) (by kernel_rfl) (by kernel_rfl) (fun _ _ _ h => h) (Or.inr ⟨by kernel_rfl, rfl⟩) (by assumption) ?_
                try simp only [Act.put, List.getElem_toArray, List.getElem_cons_succ, List.getElem_cons_zero, List.setIfInBounds_toArray, List.set_cons_zero, List.set_cons_succ]
                refine wpAnyH_take (i := 7) (v := undef) rfl (by kernel_rfl) (by kernel_rfl) (by kernel_rfl) (fun _ _ _ h => h) (Or.inr ⟨by kernel_rfl, rfl⟩) (by assumption) ?_
                try simp only [Act.put, List.getElem_toArray, List.getElem_cons_succ, List.getElem_cons_zero, List.setIfInBounds_toArray, List.set_cons_zero, List.set_cons_succ]
                refine wpAnyH_take (i := 8) (v := undef) rfl (by kernel_rfl) (by kernel_rfl) (by kernel_rfl) (fun _ _ _ h => h) (Or.inr ⟨by kernel_rfl, rfl⟩) (by assumption) ?_
                try simp only [Act.put, List.getElem_toArray, List.getElem_cons_succ, List.getElem_cons_zero, List.setIfInBounds_toArray, List.set_cons_zero, List.set_cons_succ]
                refine wpAnyH_ready (rs := [9]) (by kernel_rfl) (by simp) ?_
                refine AllReadyH.cons rfl (fun K hK => ?_) AllReadyH.nil
                go_simp
                refine hK.out _ _ ?_ (fun hHeld => ?_)
                · (exact (by repeat' (first | exact Bl.refl _ | with_reducible assumption | with_reducible refine Bl.drew_ ?_ | with_reducible refine Bl.drewN_ ?_ _ | with_reducible refine Bl.alloc_ ?_ _ | with_reducible refine Bl.trans_ ?_ (by assumption) | with_reducible refine Bl.trans_ ?_ (And.left (by assumption)))))
                clear hK K
                try simp only [Act.put, List.getElem_toArray, List.getElem_cons_succ, List.getElem_cons_zero, List.setIfInBounds_toArray, List.set_cons_zero, List.set_cons_succ]
                refine wpAnyH_take (i := 10) (v := undef) rfl (by kernel_rfl) (by kernel_rfl) (by kernel_rfl) (fun _ _ _ h => h) (Or.inr ⟨by kernel_rfl, rfl⟩) (by assumption) ?_
                try simp only [Act.put, List.getElem_toArray, List.getElem_cons_succ, List.getElem_cons_zero, List.setIfInBounds_toArray, List.set_cons_zero, List.set_cons_succ]
                refine wpAnyH_take (i := 11) (v := ?_) rfl (by kernel_rfl) (by kernel_rfl) (by kernel_rfl) (fun _ _ _ h => h) (Or.inl ⟨by kernel_rfl, ?_⟩) (by assumption) ?_
                rotate_left
                · (intro wx hSw; (try dsimp only at hSw); go_simp; try (with_reducible rfl))
                try simp only [Act.put, List.getElem_toArray, List.getElem_cons_succ, List.getElem_cons_zero, List.setIfInBounds_toArray, List.set_cons_zero, List.set_cons_succ]
                refine wpAnyH_done (by kernel_rfl) ?_ _
                go_wp2
                go_roundw
                case rel => exact ⟨1, by omega, rfl, by go_num, FS.out, BB.out.trans_ (WR.out.trans_ (by repeat' (first | exact Bl.refl _ | with_reducible assumption | with_reducible refine Bl.drew_ ?_ | with_reducible refine Bl.drewN_ ?_ _ | with_reducible refine Bl.alloc_ ?_ _ | with_reducible refine Bl.trans_ ?_ (by assumption) | with_reducible refine Bl.trans_ ?_ (And.left (by assumption)))))⟩
                case measure => simp [intOf]; omega
              · obtain ⟨j, rfl⟩ : ∃ j, k = j + 1 := ⟨k - 1, by omega⟩
                obtain ⟨r1, r2, r3⟩ := HC.out _ WR.out j (by omega)
                have hj : ∃ x y z, M[j].1 = x ∧ M[j].2.1 = y ∧ M[j].2.2 = z := ⟨_, _, _, rfl, rfl, rfl⟩
                obtain ⟨x', y', z', ex, ey, ez⟩ := hj
                rw [ex] at r1
                rw [ey] at r2
                rw [ez] at r3
                have FS := Lib.hid (show bansF L M (j + 1 + 1) = aheadT (x', y', z') (x, y, z) from by
                  rw [bansF_step hkl, bansB_s hkl (by rw [EX.out, EY.out]; exact E1.out) (by rw [EY.out, EZ.out]; exact E2.out), HF.out, Bool.true_and]
                  rw [show M[j] = (x', y', z') from by rw [← ex, ← ey, ← ez], show M[j + 1] = (x, y, z) from by rw [← EX.out, ← EY.out, ← EZ.out]])
                have FN := Lib.hid (show aheadT (x', y', z') (x, y, z) = false → bansOkB N L M = false from fun e => by
                  unfold bansOkB
                  rw [bansF_no (k := j + 1 + 1) (by rw [FS.out, e]) _ (by omega), Bool.and_false])
                have BA := Lib.hid (bansI_ahead (x', y', z') (x, y, z))
                clear ex ey ez
                have u1 : IntKind.i64.wrap (j : Int) = (j : Int) := IntWalk.i64_in _ (by omega)
                have hj0 : (0 : Int) ≤ (j : Int) := by omega
                have hj1 : (j : Int) < (m : Int) := by omega
                have hgt : decide ((0 : Int) < (j : Int) + 1) = true := by rw [decide_eq_true_eq]; omega
                have HSH := Lib.hid (show ∀ wx, Bl w4 wx → Bl w4 wx ∧ wx.cell? ⟨g1, o1 + j * 3, none⟩ = some (.int .i64 x') ∧ wx.cell? ⟨g1, o1 + j * 3 + 1, none⟩ = some (.int .i64 y') ∧ wx.cell? ⟨g1, o1 + j * 3 + 2, none⟩ = some (.int .i64 z') ∧ wx.cell? ⟨wr.heap.size, 0, none⟩ = some (.int .i64 x) ∧ wx.cell? ⟨wr.heap.size, 1, none⟩ = some (.int .i64 y) ∧ wx.cell? ⟨wr.heap.size, 2, none⟩ = some (.int .i64 z) from fun wx hb => by
                  have hh := (bcell hb).1
                  have hs4 := WR.out.size
                  have hs5 : wr.heap.size < w4.heap.size := by have := B4.out.size; simp at this; omega
                  rw [hh _ _ (by omega), hh _ _ (by omega), hh _ _ (by omega), hh _ _ hs5, hh _ _ hs5, hh _ _ hs5]
                  exact ⟨hb, r1, r2, r3, y0, y1, y2⟩)
                clear q0 q1 y0 y1 y2 r1 r2 r3 p1 p2 p3
                cases ea : aheadT (x', y', z') (x, y, z) with
                | true =>
                  have hd : decide (0 ≤ bansI (x', y', z') (x, y, z)) = false := by rw [BA.out, ea]; rfl
                  have FS' := Lib.hid (FS.out.trans ea)
                  clear ea
                  go_wp2_with fail
                  refine wp_region_held_drew (S := fun wx => Bl w4 wx ∧ wx.cell? ⟨g1, o1 + j * 3, none⟩ = some (.int .i64 x') ∧ wx.cell? ⟨g1, o1 + j * 3 + 1, none⟩ = some (.int .i64 y') ∧ wx.cell? ⟨g1, o1 + j * 3 + 2, none⟩ = some (.int .i64 z') ∧ wx.cell? ⟨wr.heap.size, 0, none⟩ = some (.int .i64 x) ∧ wx.cell? ⟨wr.heap.size, 1, none⟩ = some (.int .i64 y) ∧ wx.cell? ⟨wr.heap.size, 2, none⟩ = some (.int .i64 z)) (by kernel_rfl) ?_ (fun hHeld => ?_)
                  · (exact HSH.out _ (by repeat' (first | exact Bl.refl _ | with_reducible assumption | with_reducible refine Bl.drew_ ?_ | with_reducible refine Bl.drewN_ ?_ _ | with_reducible refine Bl.alloc_ ?_ _ | with_reducible refine Bl.trans_ ?_ (by assumption) | with_reducible refine Bl.trans_ ?_ (And.left (by assumption)))))
                  refine wpAnyH_take (i := 0) (v := ?_) rfl (by kernel_rfl) (by kernel_rfl) (by kernel_rfl) (fun _ _ _ h => h) (Or.inl ⟨by kernel_rfl, ?_⟩) (by assumption) ?_
                  rotate_left
                  · (intro wx hSw; (try dsimp only at hSw); go_simp; try (with_reducible rfl))
                  try simp only [Act.put, List.getElem_toArray, List.getElem_cons_succ, List.getElem_cons_zero, List.setIfInBounds_toArray, List.set_cons_zero, List.set_cons_succ]
                  refine wpAnyH_take (i := 1) (v := ?_) rfl (by kernel_rfl) (by kernel_rfl) (by kernel_rfl) (fun _ _ _ h => h) (Or.inl ⟨by kernel_rfl, ?_⟩) (by assumption) ?_
                  rotate_left
                  · (intro wx hSw; (try dsimp only at hSw); go_simp; try (with_reducible rfl))
                  try simp only [Act.put, List.getElem_toArray, List.getElem_cons_succ, List.getElem_cons_zero, List.setIfInBounds_toArray, List.set_cons_zero, List.set_cons_succ]
                  refine wpAnyH_take (i := 2) (v := ?_) rfl (by kernel_rfl) (by kernel_rfl) (by kernel_rfl) (fun _ _ _ h => h) (Or.inl ⟨by kernel_rfl, ?_⟩) (by assumption) ?_
                  rotate_left
                  · (intro wx hSw; (try dsimp only at hSw); go_simp; try (with_reducible rfl))
                  try simp only [Act.put, List.getElem_toArray, List.getElem_cons_succ, List.getElem_cons_zero, List.setIfInBounds_toArray, List.set_cons_zero, List.set_cons_succ]
                  refine wpAnyH_take (i := 3) (v := ?_) rfl (by kernel_rfl) (by kernel_rfl) (by kernel_rfl) (fun _ _ _ h => h) (Or.inl ⟨by kernel_rfl, ?_⟩) (by assumption) ?_
                  rotate_left
                  · (intro wx hSw; (try dsimp only at hSw); go_simp; try (with_reducible rfl))
                  try simp only [Act.put, List.getElem_toArray, List.getElem_cons_succ, List.getElem_cons_zero, List.setIfInBounds_toArray, List.set_cons_zero, List.set_cons_succ]
                  refine wpAnyH_take (i := 4) (v := ?_) rfl (by kernel_rfl) (by kernel_rfl) (by kernel_rfl) (fun _ _ _ h => h) (Or.inl ⟨by kernel_rfl, ?_⟩) (by assumption) ?_
                  rotate_left
                  · (intro wx hSw; (try dsimp only at hSw); go_simp; try (with_reducible rfl))
                  try simp only [Act.put, List.getElem_toArray, List.getElem_cons_succ, List.getElem_cons_zero, List.setIfInBounds_toArray, List.set_cons_zero, List.set_cons_succ]
                  refine wpAnyH_take (i := 5) (v := ?_) rfl (by kernel_rfl) (by kernel_rfl) (by kernel_rfl) (fun _ _ _ h => h) (Or.inl ⟨by kernel_rfl, ?_⟩) (by assumption) ?_
                  rotate_left
                  · (intro wx hSw; (try dsimp only at hSw); go_simp; try (with_reducible rfl))
                  try simp only [Act.put, List.getElem_toArray, List.getElem_cons_succ, List.getElem_cons_zero, List.setIfInBounds_toArray, List.set_cons_zero, List.set_cons_succ]
                  refine wpAnyH_take (i := 6) (v := ?_) rfl (by kernel_rfl) (by kernel_rfl) (by kernel_rfl) (fun _ _ _ h => h) (Or.inl ⟨by kernel_rfl, ?_⟩) (by assumption) ?_
                  rotate_left
                  · (intro wx hSw; (try dsimp only at hSw); go_simp; try (with_reducible rfl))
                  try simp only [Act.put, List.getElem_toArray, List.getElem_cons_succ, List.getElem_cons_zero, List.setIfInBounds_toArray, List.set_cons_zero, List.set_cons_succ]
                  refine wpAnyH_take (i := 7) (v := ?_) rfl (by kernel_rfl) (by kernel_rfl) (by kernel_rfl) (fun _ _ _ h => h) (Or.inl ⟨by kernel_rfl, ?_⟩) (by assumption) ?_
                  rotate_left
                  · (intro wx hSw; (try dsimp only at hSw); go_simp; try (with_reducible rfl))
                  try simp only [Act.put, List.getElem_toArray, List.getElem_cons_succ, List.getElem_cons_zero, List.setIfInBounds_toArray, List.set_cons_zero, List.set_cons_succ]
                  refine wpAnyH_take (i := 8) (v := ?_) rfl (by kernel_rfl) (by kernel_rfl) (by kernel_rfl) (fun _ _ _ h => h) (Or.inl ⟨by kernel_rfl, ?_⟩) (by assumption) ?_
                  rotate_left
                  · (intro wx hSw; (try dsimp only at hSw); go_simp; try (with_reducible rfl))
                  try simp only [Act.put, List.getElem_toArray, List.getElem_cons_succ, List.getElem_cons_zero, List.setIfInBounds_toArray, List.set_cons_zero, List.set_cons_succ]
                  refine wpAnyH_ready (rs := [9]) (by kernel_rfl) (by simp) ?_
                  refine AllReadyH.cons rfl (fun K hK => ?_) AllReadyH.nil
                  go_simp
                  (go_at_call 94; refine (compareBans_any x' y' z' x y z _).mono ?_; rintro e w5 ⟨rfl, hb5⟩)
                  try (go_wp2_with fail)
                  refine hK.out _ _ ?_ (fun hHeld => ?_)
                  · (exact HSH.out _ (by repeat' (first | exact Bl.refl _ | with_reducible assumption | with_reducible refine Bl.drew_ ?_ | with_reducible refine Bl.drewN_ ?_ _ | with_reducible refine Bl.alloc_ ?_ _ | with_reducible refine Bl.trans_ ?_ (by assumption) | with_reducible refine Bl.trans_ ?_ (And.left (by assumption)))))
                  clear hK K
                  try simp only [Act.put, List.getElem_toArray, List.getElem_cons_succ, List.getElem_cons_zero, List.setIfInBounds_toArray, List.set_cons_zero, List.set_cons_succ]
                  refine wpAnyH_take (i := 10) (v := ?_) rfl (by kernel_rfl) (by kernel_rfl) (by kernel_rfl) (fun _ _ _ h => h) (Or.inl ⟨by kernel_rfl, ?_⟩) (by assumption) ?_
                  rotate_left
                  · (intro wx hSw; (try dsimp only at hSw); go_simp; try (with_reducible rfl))
                  try simp only [Act.put, List.getElem_toArray, List.getElem_cons_succ, List.getElem_cons_zero, List.setIfInBounds_toArray, List.set_cons_zero, List.set_cons_succ]
                  refine wpAnyH_take (i := 11) (v := ?_) rfl (by kernel_rfl) (by kernel_rfl) (by kernel_rfl) (fun _ _ _ h => h) (Or.inl ⟨by kernel_rfl, ?_⟩) (by assumption) ?_
                  rotate_left
                  · (intro wx hSw; (try dsimp only at hSw); go_simp; try (with_reducible rfl))
                  try simp only [Act.put, List.getElem_toArray, List.getElem_cons_succ, List.getElem_cons_zero, List.setIfInBounds_toArray, List.set_cons_zero, List.set_cons_succ]
                  refine wpAnyH_done (by kernel_rfl) ?_ _
                  clear u1 hgt
                  go_wp2
                  go_roundw
                  case rel => exact ⟨j + 1 + 1, by omega, rfl, by go_num, FS'.out, BB.out.trans_ (WR.out.trans_ (by repeat' (first | exact Bl.refl _ | with_reducible assumption | with_reducible refine Bl.drew_ ?_ | with_reducible refine Bl.drewN_ ?_ _ | with_reducible refine Bl.alloc_ ?_ _ | with_reducible refine Bl.trans_ ?_ (by assumption) | with_reducible refine Bl.trans_ ?_ (And.left (by assumption)))))⟩
                  case measure => simp [intOf]; omega
                | false =>
                  have hd : decide (0 ≤ bansI (x', y', z') (x, y, z)) = true := by rw [BA.out, ea]; rfl
                  have FN' := Lib.hid (FN.out ea)
                  clear ea
                  go_wp2_with fail
                  refine wp_region_held_drew (S := fun wx => Bl w4 wx ∧ wx.cell? ⟨g1, o1 + j * 3, none⟩ = some (.int .i64 x') ∧ wx.cell? ⟨g1, o1 + j * 3 + 1, none⟩ = some (.int .i64 y') ∧ wx.cell? ⟨g1, o1 + j * 3 + 2, none⟩ = some (.int .i64 z') ∧ wx.cell? ⟨wr.heap.size, 0, none⟩ = some (.int .i64 x) ∧ wx.cell? ⟨wr.heap.size, 1, none⟩ = some (.int .i64 y) ∧ wx.cell? ⟨wr.heap.size, 2, none⟩ = some (.int .i64 z)) (by kernel_rfl) ?_ (fun hHeld => ?_)
                  · (exact HSH.out _ (by repeat' (first | exact Bl.refl _ | with_reducible assumption | with_reducible refine Bl.drew_ ?_ | with_reducible refine Bl.drewN_ ?_ _ | with_reducible refine Bl.alloc_ ?_ _ | with_reducible refine Bl.trans_ ?_ (by assumption) | with_reducible refine Bl.trans_ ?_ (And.left (by assumption)))))
                  refine wpAnyH_take (i := 0) (v := ?_) rfl (by kernel_rfl) (by kernel_rfl) (by kernel_rfl) (fun _ _ _ h => h) (Or.inl ⟨by kernel_rfl, ?_⟩) (by assumption) ?_
                  rotate_left
                  · (intro wx hSw; (try dsimp only at hSw); go_simp; try (with_reducible rfl))
                  try simp only [Act.put, List.getElem_toArray, List.getElem_cons_succ, List.getElem_cons_zero, List.setIfInBounds_toArray, List.set_cons_zero, List.set_cons_succ]
                  refine wpAnyH_take (i := 1) (v := ?_) rfl (by kernel_rfl) (by kernel_rfl) (by kernel_rfl) (fun _ _ _ h => h) (Or.inl ⟨by kernel_rfl, ?_⟩) (by assumption) ?_
                  rotate_left
                  · (intro wx hSw; (try dsimp only at hSw); go_simp; try (with_reducible rfl))
                  try simp only [Act.put, List.getElem_toArray, List.getElem_cons_succ, List.getElem_cons_zero, List.setIfInBounds_toArray, List.set_cons_zero, List.set_cons_succ]
                  refine wpAnyH_take (i := 2) (v := ?_) rfl (by kernel_rfl) (by kernel_rfl) (by kernel_rfl) (fun _ _ _ h => h) (Or.inl ⟨by kernel_rfl, ?_⟩) (by assumption) ?_
                  rotate_left
                  · (intro wx hSw; (try dsimp only at hSw); go_simp; try (with_reducible rfl))
                  try simp only [Act.put, List.getElem_toArray, List.getElem_cons_succ, List.getElem_cons_zero, List.setIfInBounds_toArray, List.set_cons_zero, List.set_cons_succ]
                  refine wpAnyH_take (i := 3) (v := ?_) rfl (by kernel_rfl) (by kernel_rfl) (by kernel_rfl) (fun _ _ _ h => h) (Or.inl ⟨by kernel_rfl, ?_⟩) (by assumption) ?_
                  rotate_left
                  · (intro wx hSw; (try dsimp only at hSw); go_simp; try (with_reducible rfl))
                  try simp only [Act.put, List.getElem_toArray, List.getElem_cons_succ, List.getElem_cons_zero, List.setIfInBounds_toArray, List.set_cons_zero, List.set_cons_succ]
                  refine wpAnyH_take (i := 4) (v := ?_) rfl (by kernel_rfl) (by kernel_rfl) (by kernel_rfl) (fun _ _ _ h => h) (Or.inl ⟨by kernel_rfl, ?_⟩) (by assumption) ?_
                  rotate_left
                  · (intro wx hSw; (try dsimp only at hSw); go_simp; try (with_reducible rfl))
                  try simp only [Act.put, List.getElem_toArray, List.getElem_cons_succ, List.getElem_cons_zero, List.setIfInBounds_toArray, List.set_cons_zero, List.set_cons_succ]
                  refine wpAnyH_take (i := 5) (v := ?_) rfl (by kernel_rfl) (by kernel_rfl) (by kernel_rfl) (fun _ _ _ h => h) (Or.inl ⟨by kernel_rfl, ?_⟩) (by assumption) ?_
                  rotate_left
                  · (intro wx hSw; (try dsimp only at hSw); go_simp; try (with_reducible rfl))
                  try simp only [Act.put, List.getElem_toArray, List.getElem_cons_succ, List.getElem_cons_zero, List.setIfInBounds_toArray, List.set_cons_zero, List.set_cons_succ]
                  refine wpAnyH_take (i := 6) (v := ?_) rfl (by kernel_rfl) (by kernel_rfl) (by kernel_rfl) (fun _ _ _ h => h) (Or.inl ⟨by kernel_rfl, ?_⟩) (by assumption) ?_
                  rotate_left
                  · (intro wx hSw; (try dsimp only at hSw); go_simp; try (with_reducible rfl))
                  try simp only [Act.put, List.getElem_toArray, List.getElem_cons_succ, List.getElem_cons_zero, List.setIfInBounds_toArray, List.set_cons_zero, List.set_cons_succ]
                  refine wpAnyH_take (i := 7) (v := ?_) rfl (by kernel_rfl) (by kernel_rfl) (by kernel_rfl) (fun _ _ _ h => h) (Or.inl ⟨by kernel_rfl, ?_⟩) (by assumption) ?_
                  rotate_left
                  · (intro wx hSw; (try dsimp only at hSw); go_simp; try (with_reducible rfl))
                  try simp only [Act.put, List.getElem_toArray, List.getElem_cons_succ, List.getElem_cons_zero, List.setIfInBounds_toArray, List.set_cons_zero, List.set_cons_succ]
                  refine wpAnyH_take (i := 8) (v := ?_) rfl (by kernel_rfl) (by kernel_rfl) (by kernel_rfl) (fun _ _ _ h => h) (Or.inl ⟨by kernel_rfl, ?_⟩) (by assumption) ?_
                  rotate_left
                  · (intro wx hSw; (try dsimp only at hSw); go_simp; try (with_reducible rfl))
                  try simp only [Act.put, List.getElem_toArray, List.getElem_cons_succ, List.getElem_cons_zero, List.setIfInBounds_toArray, List.set_cons_zero, List.set_cons_succ]
                  refine wpAnyH_ready (rs := [9]) (by kernel_rfl) (by simp) ?_
                  refine AllReadyH.cons rfl (fun K hK => ?_) AllReadyH.nil
                  go_simp
                  (go_at_call 94; refine (compareBans_any x' y' z' x y z _).mono ?_; rintro e w5 ⟨rfl, hb5⟩)
                  try (go_wp2_with fail)
                  refine hK.out _ _ ?_ (fun hHeld => ?_)
                  · (exact HSH.out _ (by repeat' (first | exact Bl.refl _ | with_reducible assumption | with_reducible refine Bl.drew_ ?_ | with_reducible refine Bl.drewN_ ?_ _ | with_reducible refine Bl.alloc_ ?_ _ | with_reducible refine Bl.trans_ ?_ (by assumption) | with_reducible refine Bl.trans_ ?_ (And.left (by assumption)))))
                  clear hK K
                  try simp only [Act.put, List.getElem_toArray, List.getElem_cons_succ, List.getElem_cons_zero, List.setIfInBounds_toArray, List.set_cons_zero, List.set_cons_succ]
                  refine wpAnyH_take (i := 10) (v := ?_) rfl (by kernel_rfl) (by kernel_rfl) (by kernel_rfl) (fun _ _ _ h => h) (Or.inl ⟨by kernel_rfl, ?_⟩) (by assumption) ?_
                  rotate_left
                  · (intro wx hSw; (try dsimp only at hSw); go_simp; try (with_reducible rfl))
                  try simp only [Act.put, List.getElem_toArray, List.getElem_cons_succ, List.getElem_cons_zero, List.setIfInBounds_toArray, List.set_cons_zero, List.set_cons_succ]
                  refine wpAnyH_take (i := 11) (v := ?_) rfl (by kernel_rfl) (by kernel_rfl) (by kernel_rfl) (fun _ _ _ h => h) (Or.inl ⟨by kernel_rfl, ?_⟩) (by assumption) ?_
                  rotate_left
                  · (intro wx hSw; (try dsimp only at hSw); go_simp; try (with_reducible rfl))
                  try simp only [Act.put, List.getElem_toArray, List.getElem_cons_succ, List.getElem_cons_zero, List.setIfInBounds_toArray, List.set_cons_zero, List.set_cons_succ]
                  refine wpAnyH_done (by kernel_rfl) ?_ _
                  clear u1 hgt
                  go_wp2
                  go_ret
                  exact ⟨ret_bool FN'.out.symm, BW.out.trans_ (WR.out.trans_ (by repeat' (first | exact Bl.refl _ | with_reducible assumption | with_reducible refine Bl.drew_ ?_ | with_reducible refine Bl.drewN_ ?_ _ | with_reducible refine Bl.alloc_ ?_ _ | with_reducible refine Bl.trans_ ?_ (by assumption) | with_reducible refine Bl.trans_ ?_ (And.left (by assumption)))))⟩
        · obtain rfl : k = m := by omega
          have FY := Lib.hid (show bansOkB N L M = true from by
            rw [bansOk_yes HO.out (by rw [← HM.out]; exact HF.out)]
            simpa [← HM.out] using h30)
          go_wp2
          go_ret
          exact ⟨ret_bool FY.out.symm, BW.out⟩
    · have h30' : decide ((30 : Int) < (m : Int)) = true := by simp; omega
      have FN := Lib.hid (show bansOkB N L M = false from by
        unfold bansOkB
        rw [show decide (M.length ≤ 30) = false from by rw [decide_eq_false_iff_not]; have := HM.out; omega]
        simp)
      go_enter Try.func31, Try.ntmps31
      go_wp2_with fail
      refine (implOk_any N A n c L HN.out _ (by omega) (K1.out.bl (by repeat' (first | exact Bl.refl _ | with_reducible assumption | with_reducible refine Bl.drew_ ?_ | with_reducible refine Bl.drewN_ ?_ _ | with_reducible refine Bl.alloc_ ?_ _ | with_reducible refine Bl.trans_ ?_ (by assumption) | with_reducible refine Bl.trans_ ?_ (And.left (by assumption)))))).mono ?_
      rintro e w1 ⟨rfl, hb1⟩
      rw [HO.out]
      go_wp2
      go_ret
      exact ⟨ret_bool FN.out.symm, (by repeat' (first | exact Bl.refl _ | with_reducible assumption | with_reducible refine Bl.drew_ ?_ | with_reducible refine Bl.drewN_ ?_ _ | with_reducible refine Bl.alloc_ ?_ _ | with_reducible refine Bl.trans_ ?_ (by assumption) | with_reducible refine Bl.trans_ ?_ (And.left (by assumption))))⟩

end Go.Proofs.Ytelgjfflhcmljaa
