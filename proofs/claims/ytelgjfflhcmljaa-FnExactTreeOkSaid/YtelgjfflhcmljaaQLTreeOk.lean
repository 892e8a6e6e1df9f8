/-
  What is proved here: the walk of the exact law on TreeOk: at every graph and tree that can be read it returns true and leaves what was there as it was. No conditions beyond those that each theorem states.
-/
import Derived.Test.YtelgjfflhcmljaaQITK
import Derived.Test.YtelgjfflhcmljaaB1
set_option linter.unusedSimpArgs false
set_option linter.unusedVariables false
namespace Go.Proofs.Ytelgjfflhcmljaa
open Go.RowKit

set_option maxHeartbeats 400000 in
theorem eqTree_yes (R : Int) (A1 A2 : Option Addr) (c1 c2 : Nat) (V : List Int) (n : Nat) (hn : n = V.length) (w : World) (hm : n ≤ 9223372036854775807) (H1 : IntsAt w w.heap.size A1 V) (H2 : IntsAt w w.heap.size A2 V) :
    Calls Try.prog 35 #[.agg #[.int .i64 R, .slice A1 n c1], .agg #[.int .i64 R, .slice A2 n c2]] w fun e w' => e = .returned (.bool true) ∧ Bl w w' := by
  have hnn : (R != R) = false := by simp
  have K1 := Lib.hid H1
  have K2 := Lib.hid H2
  have HN := Lib.hid hn
  clear H1 H2 hn
  go_enter Try.func35, Try.ntmps35
  go_wp2_with (go_at_call 44; refine (eqInt64S_yes _ _ _ _ V n HN.out _ hm (IntsAt.bl K1.out (by repeat' (first | exact Bl.refl _ | with_reducible assumption | with_reducible refine Bl.drew_ ?_ | with_reducible refine Bl.drewN_ ?_ _ | with_reducible refine Bl.alloc_ ?_ _ | with_reducible refine Bl.trans_ ?_ (by assumption) | with_reducible refine Bl.trans_ ?_ (And.left (by assumption))))) (IntsAt.bl K2.out (by repeat' (first | exact Bl.refl _ | with_reducible assumption | with_reducible refine Bl.drew_ ?_ | with_reducible refine Bl.drewN_ ?_ _ | with_reducible refine Bl.alloc_ ?_ _ | with_reducible refine Bl.trans_ ?_ (by assumption) | with_reducible refine Bl.trans_ ?_ (And.left (by assumption)))))).mono ?_; rintro e w' ⟨rfl, hb⟩; obtain ⟨hc, hf⟩ := bcell hb)
  go_ret
  exact ⟨rfl, (by repeat' (first | exact Bl.refl _ | with_reducible assumption | with_reducible refine Bl.drew_ ?_ | with_reducible refine Bl.drewN_ ?_ _ | with_reducible refine Bl.alloc_ ?_ _ | with_reducible refine Bl.trans_ ?_ (by assumption) | with_reducible refine Bl.trans_ ?_ (And.left (by assumption))))⟩
set_option maxHeartbeats 400000 in
theorem szTree_any (R : Int) (A : Option Addr) (n c : Nat) (l : Int) (w : World) (hn : n ≤ 9223372036854775807) (hl0 : 0 ≤ l) (hl1 : l ≤ 1048576) :
    Calls Try.prog 38 #[.agg #[.int .i64 R, .slice A n c], .int .i64 l] w fun e w' => e = .returned (.int .i64 (if l - n < 0 then -1 else l - n)) ∧ Bl w w' := by
  by_cases h1 : l - n < 0
  · go_enter Try.func38, Try.ntmps38
    go_wp2_with (go_at_call 98; refine (szInt64S_any _ _ _ _ _ hn hl0 hl1).mono ?_; rintro e w' ⟨rfl, rfl⟩)
    go_ret
    exact ⟨ret_int (by first | rfl | rw [if_pos h1]), (by repeat' (first | exact Bl.refl _ | with_reducible assumption | with_reducible refine Bl.drew_ ?_ | with_reducible refine Bl.drewN_ ?_ _ | with_reducible refine Bl.alloc_ ?_ _ | with_reducible refine Bl.trans_ ?_ (by assumption) | with_reducible refine Bl.trans_ ?_ (And.left (by assumption))))⟩
  · go_enter Try.func38, Try.ntmps38
    go_wp2_with (go_at_call 98; refine (szInt64S_any _ _ _ _ _ hn hl0 hl1).mono ?_; rintro e w' ⟨rfl, rfl⟩)
    go_ret
    exact ⟨ret_int (by first | rfl | rw [if_neg (by omega)]), (by repeat' (first | exact Bl.refl _ | with_reducible assumption | with_reducible refine Bl.drew_ ?_ | with_reducible refine Bl.drewN_ ?_ _ | with_reducible refine Bl.alloc_ ?_ _ | with_reducible refine Bl.trans_ ?_ (by assumption) | with_reducible refine Bl.trans_ ?_ (And.left (by assumption))))⟩
set_option maxHeartbeats 400000 in
theorem toTree_any (R : Int) (A : Option Addr) (n c : Nat) (V : List Int) (hn : n = V.length) (w : World) (hm : n ≤ 1048576) (H1 : IntsAt w w.heap.size A V) :
    Calls Try.prog 40 #[.agg #[.int .i64 R, .slice A n c]] w fun e w' => ∃ g, e = .returned (.agg #[.int .i64 R, .slice (some ⟨g, 0, none⟩) n n]) ∧ IntsAt w' w'.heap.size (some ⟨g, 0, none⟩) V ∧ w.heap.size ≤ g ∧ Bl w w' := by
  have K1 := Lib.hid H1
  have HN := Lib.hid hn
  clear H1 hn
  go_enter Try.func40, Try.ntmps40
  go_wp2_with fail
  refine (toInt64S_any _ _ _ V HN.out _ hm (K1.out.bl (by repeat' (first | exact Bl.refl _ | with_reducible assumption | with_reducible refine Bl.drew_ ?_ | with_reducible refine Bl.drewN_ ?_ _ | with_reducible refine Bl.alloc_ ?_ _ | with_reducible refine Bl.trans_ ?_ (by assumption) | with_reducible refine Bl.trans_ ?_ (And.left (by assumption)))))).mono ?_
  rintro e w1 ⟨rfl, ha, hb⟩
  obtain ⟨hc, hf⟩ := bcell hb
  have HA := Lib.hid ha
  have hs := hb.size
  clear ha
  go_wp2
  refine bodyPost_ret (v := .agg #[.int .i64 R, .slice (some ⟨w.heap.size + 1 + 1 + 1, 0, none⟩) n n]) (by simp [results, Try.results40, go_sem, hc]) rfl ?_
  have HA' : IntsAt w1 w1.heap.size (some ⟨w.heap.size + 1 + 1 + 1, 0, none⟩) V := by simpa only [World.size_alloc] using HA.out
  refine ⟨_, rfl, ?_, by omega, Bl.set_ (Bl.set_ (Bl.set_ (by repeat' (first | exact Bl.refl _ | with_reducible assumption | with_reducible refine Bl.drew_ ?_ | with_reducible refine Bl.drewN_ ?_ _ | with_reducible refine Bl.alloc_ ?_ _ | with_reducible refine Bl.trans_ ?_ (by assumption) | with_reducible refine Bl.trans_ ?_ (And.left (by assumption)))) ?_ _) ?_ _) ?_ _⟩
  · rw [World.size_setCell, World.size_setCell, World.size_setCell]
    intro hp
    obtain ⟨g, off, e, hg, hcell⟩ := HA' hp
    injection e with e
    injection e with e1 e2 e3
    subst e1; subst e2
    refine ⟨_, _, rfl, hg, fun j hj => ?_⟩
    rw [World.cell?_setCell_other _ _ _ _ (fun e => by injection e; omega), World.cell?_setCell_other _ _ _ _ (fun e => by injection e; omega), World.cell?_setCell_other _ _ _ _ (fun e => by injection e; omega)]
    exact hcell j hj
  · show w.heap.size ≤ w.heap.size + 1 + 1; omega
  · show w.heap.size ≤ w.heap.size + 1; omega
  · show w.heap.size ≤ w.heap.size + 1; omega

set_option maxRecDepth 100000 in
set_option maxHeartbeats 2000000 in
theorem lawTreeOk_any (N : Int) (A : Option Addr) (n c : Nat) (L : List Arc3) (hn : n = L.length) (R : Int) (A2 : Option Addr) (k c2 : Nat) (P : List Int) (hk : k = P.length) (w : World) (hm : n ≤ 9223372036854775807) (hkm : k ≤ 9223372036854775807) (H1 : ArcsAt w w.heap.size A L) (H2 : IntsAt w w.heap.size A2 P) :
    Calls Try.prog 7 #[.agg #[.int .i64 N, .slice A n c], .agg #[.int .i64 R, .slice A2 k c2]] w fun e w' => e = .returned (.bool true) ∧ Bl w w' := by
  have K1 := Lib.hid H1
  have K2 := Lib.hid H2
  have HN := Lib.hid hn
  have HK := Lib.hid hk
  have BX := Lib.hid (show ∀ wx, Bl ((w.alloc (.cells #[.int .i64 N, .slice A n c] 24)).alloc (.cells #[.int .i64 R, .slice A2 k c2] 53)) wx → wx.cell? ⟨w.heap.size, 0, none⟩ = some (.int .i64 N) ∧ wx.cell? ⟨w.heap.size, 1, none⟩ = some (.slice A n c) ∧ wx.cell? ⟨w.heap.size + 1, 0, none⟩ = some (.int .i64 R) ∧ wx.cell? ⟨w.heap.size + 1, 1, none⟩ = some (.slice A2 k c2) from fun wx hb => by
    obtain ⟨a, b, c, d, -, -, -⟩ := box22t hb
    exact ⟨a, b, c, d⟩)
  have BW := Lib.hid (show ∀ wx, Bl ((w.alloc (.cells #[.int .i64 N, .slice A n c] 24)).alloc (.cells #[.int .i64 R, .slice A2 k c2] 53)) wx → Bl w wx from fun wx hb => (Bl.alloc_ (Bl.alloc_ (Bl.refl w) _) _).trans_ hb)
  clear H1 H2 hn hk
  by_cases hbig : (1048576 : Int) - n < 0
  · go_enter Try.func7, Try.ntmps7
    go_wp2_with (go_at_call 17; refine (szGraph_any _ _ _ _ _ _ hm (by omega) (by omega)).mono ?_; rintro e w' ⟨rfl, hb⟩; obtain ⟨hc, hf⟩ := bcell hb)
    go_ret
    exact ⟨rfl, (by repeat' (first | exact Bl.refl _ | with_reducible assumption | with_reducible refine Bl.drew_ ?_ | with_reducible refine Bl.drewN_ ?_ _ | with_reducible refine Bl.alloc_ ?_ _ | with_reducible refine Bl.trans_ ?_ (by assumption) | with_reducible refine Bl.trans_ ?_ (And.left (by assumption))))⟩
  · have hm' : n ≤ 1048576 := by omega
    clear hbig
    by_cases hk1 : (1048576 : Int) - n - k < 0
    · go_enter Try.func7, Try.ntmps7
      go_wp2_with fail
      refine (szGraph_small N A n c _ hm').mono ?_
      rintro e w1 ⟨rfl, hb1⟩
      obtain ⟨q0, q1, q2, q3⟩ := BX.out _ hb1
      have p1 : (0 : Int) ≤ 1048576 - (n : Int) := by omega
      go_wp2_with fail
      refine (szTree_any R A2 k c2 (1048576 - n) _ hkm (by omega) (by omega)).mono ?_
      rintro e w1' ⟨rfl, hb1'⟩
      rw [if_pos (by omega)]
      go_wp2
      go_ret
      exact ⟨rfl, BW.out _ (hb1.trans_ hb1')⟩
    · have hk' : k ≤ 1048576 := by omega
      go_enter Try.func7, Try.ntmps7
      go_wp2_with fail
      refine (szGraph_small N A n c _ hm').mono ?_
      rintro e w1 ⟨rfl, hb1⟩
      obtain ⟨q0, q1, q2, q3⟩ := BX.out _ hb1
      have p1 : (0 : Int) ≤ 1048576 - (n : Int) := by omega
      go_wp2_with fail
      refine (szTree_any R A2 k c2 (1048576 - n) _ hkm (by omega) (by omega)).mono ?_
      rintro e w2 ⟨rfl, hb2⟩
      rw [if_neg (by omega)]
      have p2 : (0 : Int) ≤ 1048576 - (n : Int) - (k : Int) := by omega
      have hb2 := hb1.trans_ hb2
      have B2 := Lib.hid hb2
      clear q0 q1 q2 q3
      have HSH := Lib.hid (show ∀ wx, Bl w2 wx → Bl w2 wx ∧ wx.cell? ⟨w.heap.size, 0, none⟩ = some (.int .i64 N) ∧ wx.cell? ⟨w.heap.size, 1, none⟩ = some (.slice A n c) ∧ wx.cell? ⟨w.heap.size + 1, 0, none⟩ = some (.int .i64 R) ∧ wx.cell? ⟨w.heap.size + 1, 1, none⟩ = some (.slice A2 k c2) from fun wx hb => ⟨hb, BX.out _ (B2.out.trans_ hb)⟩)
      go_wp2_with fail
      refine wp_region_held_drew (S := fun wx => Bl w2 wx ∧ wx.cell? ⟨w.heap.size, 0, none⟩ = some (.int .i64 N) ∧ wx.cell? ⟨w.heap.size, 1, none⟩ = some (.slice A n c) ∧ wx.cell? ⟨w.heap.size + 1, 0, none⟩ = some (.int .i64 R) ∧ wx.cell? ⟨w.heap.size + 1, 1, none⟩ = some (.slice A2 k c2)) (by kernel_rfl) ?_ (fun hHeld => ?_)
      · (exact HSH.out _ (by repeat' (first | exact Bl.refl _ | with_reducible assumption | with_reducible refine Bl.drew_ ?_ | with_reducible refine Bl.drewN_ ?_ _ | with_reducible refine Bl.alloc_ ?_ _ | with_reducible refine Bl.trans_ ?_ (by assumption) | with_reducible refine Bl.trans_ ?_ (And.left (by assumption)))))
      refine wpAnyH_take (i := 0) (v := ?_) rfl (by kernel_rfl) (by kernel_rfl) (by kernel_rfl) (fun _ _ _ h => h) (Or.inl ⟨by kernel_rfl, ?_⟩) (by assumption) ?_
      rotate_left
      · (intro wx hSw; (try dsimp only at hSw); go_simp; try (with_reducible rfl))
      try simp only [Act.put, List.getElem_toArray, List.getElem_cons_succ, List.getElem_cons_zero, List.setIfInBounds_toArray, List.set_cons_zero, List.set_cons_succ]
      refine wpAnyH_take (i := 2) (v := ?_) rfl (by kernel_rfl) (by kernel_rfl) (by kernel_rfl) (fun _ _ _ h => h) (Or.inl ⟨by kernel_rfl, ?_⟩) (by assumption) ?_
      rotate_left
      · (intro wx hSw; (try dsimp only at hSw); go_simp; try (with_reducible rfl))
      try simp only [Act.put, List.getElem_toArray, List.getElem_cons_succ, List.getElem_cons_zero, List.setIfInBounds_toArray, List.set_cons_zero, List.set_cons_succ]
      refine wpAnyH_ready (rs := [1]) (by kernel_rfl) (by simp) ?_
      refine AllReadyH.cons rfl (fun K hK => ?_) AllReadyH.nil
      go_simp
      (go_at_call 19; refine (toGraph_any N A n c L HN.out _ hm' (K1.out.bl (BW.out _ (B2.out.trans_ (show Bl w2 _ from (by repeat' (first | exact Bl.refl _ | with_reducible assumption | with_reducible refine Bl.drew_ ?_ | with_reducible refine Bl.drewN_ ?_ _ | with_reducible refine Bl.alloc_ ?_ _ | with_reducible refine Bl.trans_ ?_ (by assumption) | with_reducible refine Bl.trans_ ?_ (And.left (by assumption))))))))).mono ?_; rintro e w3 ⟨g3, rfl, ha3, hg3, hb3⟩; have HA3 := Lib.hid ha3; clear ha3)
      try (go_wp2_with fail)
      refine hK.out _ _ ?_ (fun hHeld => ?_)
      · (exact HSH.out _ (by repeat' (first | exact Bl.refl _ | with_reducible assumption | with_reducible refine Bl.drew_ ?_ | with_reducible refine Bl.drewN_ ?_ _ | with_reducible refine Bl.alloc_ ?_ _ | with_reducible refine Bl.trans_ ?_ (by assumption) | with_reducible refine Bl.trans_ ?_ (And.left (by assumption)))))
      clear hK K
      try simp only [Act.put, List.getElem_toArray, List.getElem_cons_succ, List.getElem_cons_zero, List.setIfInBounds_toArray, List.set_cons_zero, List.set_cons_succ]
      refine wpAnyH_ready (rs := [3]) (by kernel_rfl) (by simp) ?_
      refine AllReadyH.cons rfl (fun K hK => ?_) AllReadyH.nil
      go_simp
      (go_at_call 40; refine (toTree_any R A2 k c2 P HK.out _ hk' (K2.out.bl (BW.out _ (B2.out.trans_ (show Bl w2 _ from (by repeat' (first | exact Bl.refl _ | with_reducible assumption | with_reducible refine Bl.drew_ ?_ | with_reducible refine Bl.drewN_ ?_ _ | with_reducible refine Bl.alloc_ ?_ _ | with_reducible refine Bl.trans_ ?_ (by assumption) | with_reducible refine Bl.trans_ ?_ (And.left (by assumption))))))))).mono ?_; rintro e w4 ⟨g4, rfl, hi4, hg4, hb4⟩; have HI4 := Lib.hid hi4; clear hi4)
      try (go_wp2_with fail)
      refine hK.out _ _ ?_ (fun hHeld => ?_)
      · (exact HSH.out _ (by repeat' (first | exact Bl.refl _ | with_reducible assumption | with_reducible refine Bl.drew_ ?_ | with_reducible refine Bl.drewN_ ?_ _ | with_reducible refine Bl.alloc_ ?_ _ | with_reducible refine Bl.trans_ ?_ (by assumption) | with_reducible refine Bl.trans_ ?_ (And.left (by assumption)))))
      clear hK K
      try simp only [Act.put, List.getElem_toArray, List.getElem_cons_succ, List.getElem_cons_zero, List.setIfInBounds_toArray, List.set_cons_zero, List.set_cons_succ]
      refine wpAnyH_ready (rs := [4]) (by kernel_rfl) (by simp) ?_
      refine AllReadyH.cons rfl (fun K hK => ?_) AllReadyH.nil
      go_simp
      (go_at_call 39; refine (specTreeOk_any N _ n n L HN.out (Nat.le_refl _) R _ k k P HK.out _ hm' hk' (HA3.out.bl (by repeat' (first | exact Bl.refl _ | with_reducible assumption | with_reducible refine Bl.drew_ ?_ | with_reducible refine Bl.drewN_ ?_ _ | with_reducible refine Bl.alloc_ ?_ _ | with_reducible refine Bl.trans_ ?_ (by assumption) | with_reducible refine Bl.trans_ ?_ (And.left (by assumption))))) (HI4.out.bl (by repeat' (first | exact Bl.refl _ | with_reducible assumption | with_reducible refine Bl.drew_ ?_ | with_reducible refine Bl.drewN_ ?_ _ | with_reducible refine Bl.alloc_ ?_ _ | with_reducible refine Bl.trans_ ?_ (by assumption) | with_reducible refine Bl.trans_ ?_ (And.left (by assumption)))))).mono ?_; rintro e w5 ⟨rfl, hb5⟩)
      try (go_wp2_with fail)
      refine hK.out _ _ ?_ (fun hHeld => ?_)
      · (exact HSH.out _ (by repeat' (first | exact Bl.refl _ | with_reducible assumption | with_reducible refine Bl.drew_ ?_ | with_reducible refine Bl.drewN_ ?_ _ | with_reducible refine Bl.alloc_ ?_ _ | with_reducible refine Bl.trans_ ?_ (by assumption) | with_reducible refine Bl.trans_ ?_ (And.left (by assumption)))))
      clear hK K
      try simp only [Act.put, List.getElem_toArray, List.getElem_cons_succ, List.getElem_cons_zero, List.setIfInBounds_toArray, List.set_cons_zero, List.set_cons_succ]
      refine wpAnyH_take (i := 5) (v := ?_) rfl (by kernel_rfl) (by kernel_rfl) (by kernel_rfl) (fun _ _ _ h => h) (Or.inl ⟨by kernel_rfl, ?_⟩) (by assumption) ?_
      rotate_left
      · (intro wx hSw; (try dsimp only at hSw); go_simp; try (with_reducible rfl))
      try simp only [Act.put, List.getElem_toArray, List.getElem_cons_succ, List.getElem_cons_zero, List.setIfInBounds_toArray, List.set_cons_zero, List.set_cons_succ]
      refine wpAnyH_done (by kernel_rfl) ?_ _
      have c5 : Bl w2 w5 := (by repeat' (first | exact Bl.refl _ | with_reducible assumption | with_reducible refine Bl.drew_ ?_ | with_reducible refine Bl.drewN_ ?_ _ | with_reducible refine Bl.alloc_ ?_ _ | with_reducible refine Bl.trans_ ?_ (by assumption) | with_reducible refine Bl.trans_ ?_ (And.left (by assumption))))
      have B5 := Lib.hid (B2.out.trans_ c5)
      obtain ⟨q0, q1, q2, q3⟩ := BX.out _ B5.out
      clear c5
      go_wp2_with fail
      refine (toGraph_any N A n c L HN.out _ hm' (K1.out.bl (BW.out _ B5.out))).mono ?_
      rintro e w6 ⟨g6, rfl, ha6, hg6, hb6⟩
      have B6 := Lib.hid (B5.out.trans_ hb6)
      have HA6 := Lib.hid (ha6.bl (Bl.alloc_ (Bl.refl w6) (.cells #[.int .i64 N, .slice (some ⟨g6, 0, none⟩) n n] 29)))
      have C6 := Lib.hid (B6.out.trans_ (Bl.alloc_ (Bl.refl w6) (.cells #[.int .i64 N, .slice (some ⟨g6, 0, none⟩) n n] 29)))
      have s6 := B6.out.size
      simp only [World.size_alloc] at s6
      have hw6 : w.heap.size + 1 < w6.heap.size := by omega
      clear q0 q1 q2 q3 ha6
      obtain ⟨q0, q1, q2, q3⟩ := BX.out _ B6.out
      go_wp2_with fail
      refine (toTree_any R A2 k c2 P HK.out _ hk' (K2.out.bl (BW.out _ C6.out))).mono ?_
      rintro e w7 ⟨g7, rfl, hi7, hg7, hb7⟩
      have X7 := Lib.hid hb7
      have HI7 := Lib.hid (hi7.bl (Bl.alloc_ (Bl.refl w7) (.cells #[.int .i64 R, .slice (some ⟨g7, 0, none⟩) k k] 47)))
      have HA7 := Lib.hid (HA6.out.bl (hb7.trans_ (Bl.alloc_ (Bl.refl w7) (.cells #[.int .i64 R, .slice (some ⟨g7, 0, none⟩) k k] 47))))
      have C7 := Lib.hid (C6.out.trans_ (hb7.trans_ (Bl.alloc_ (Bl.refl w7) (.cells #[.int .i64 R, .slice (some ⟨g7, 0, none⟩) k k] 47))))
      obtain ⟨x0, x1⟩ := box2 hb7
      have s7 := hb7.size
      simp only [World.size_alloc] at s7
      have hw67 : w6.heap.size < w7.heap.size := by omega
      clear q0 q1 q2 q3 hi7
      go_wp2_with fail
      refine (implTreeOk_any N _ n n L HN.out (Nat.le_refl _) R _ k k P HK.out _ hm' hk' HA7.out HI7.out).mono ?_
      rintro e w8 ⟨rfl, hb8⟩
      have B8 := Lib.hid (C7.out.trans_ hb8)
      have HA8 := Lib.hid (HA7.out.bl hb8)
      have HI8 := Lib.hid (HI7.out.bl hb8)
      have XG := Lib.hid (show ∀ wx, Bl w8 wx → wx.cell? ⟨w6.heap.size, 0, none⟩ = some (.int .i64 N) ∧ wx.cell? ⟨w6.heap.size, 1, none⟩ = some (.slice (some ⟨g6, 0, none⟩) n n) from fun wx hb => box2 (X7.out.trans_ ((Bl.alloc_ (Bl.refl w7) _).trans_ (hb8.trans_ hb))))
      have XT := Lib.hid (show ∀ wx, Bl w8 wx → wx.cell? ⟨w7.heap.size, 0, none⟩ = some (.int .i64 R) ∧ wx.cell? ⟨w7.heap.size, 1, none⟩ = some (.slice (some ⟨g7, 0, none⟩) k k) from fun wx hb => box2 (hb8.trans_ hb))
      have hne : (treeOkB N L R P != treeOkB N L R P) = false := by simp
      have HSH2 := Lib.hid (show ∀ wx, Bl w8 wx → Bl w8 wx ∧ wx.cell? ⟨w.heap.size, 0, none⟩ = some (.int .i64 N) ∧ wx.cell? ⟨w.heap.size, 1, none⟩ = some (.slice A n c) ∧ wx.cell? ⟨w6.heap.size, 0, none⟩ = some (.int .i64 N) ∧ wx.cell? ⟨w6.heap.size, 1, none⟩ = some (.slice (some ⟨g6, 0, none⟩) n n) from fun wx hb =>
        ⟨hb, (BX.out _ (B8.out.trans_ hb)).1, (BX.out _ (B8.out.trans_ hb)).2.1, (XG.out _ hb).1, (XG.out _ hb).2⟩)
      clear x0 x1 hb8
      go_wp2_with fail
      refine wp_region_held_drew (S := fun wx => Bl w8 wx ∧ wx.cell? ⟨w.heap.size, 0, none⟩ = some (.int .i64 N) ∧ wx.cell? ⟨w.heap.size, 1, none⟩ = some (.slice A n c) ∧ wx.cell? ⟨w6.heap.size, 0, none⟩ = some (.int .i64 N) ∧ wx.cell? ⟨w6.heap.size, 1, none⟩ = some (.slice (some ⟨g6, 0, none⟩) n n)) (by kernel_rfl) ?_ (fun hHeld => ?_)
      · (exact HSH2.out _ (by repeat' (first | exact Bl.refl _ | with_reducible assumption | with_reducible refine Bl.drew_ ?_ | with_reducible refine Bl.drewN_ ?_ _ | with_reducible refine Bl.alloc_ ?_ _ | with_reducible refine Bl.trans_ ?_ (by assumption) | with_reducible refine Bl.trans_ ?_ (And.left (by assumption)))))
      refine wpAnyH_take (i := 0) (v := ?_) rfl (by kernel_rfl) (by kernel_rfl) (by kernel_rfl) (fun _ _ _ h => h) (Or.inl ⟨by kernel_rfl, ?_⟩) (by assumption) ?_
      rotate_left
      · (intro wx hSw; (try dsimp only at hSw); go_simp; try (with_reducible rfl))
      try simp only [Act.put, List.getElem_toArray, List.getElem_cons_succ, List.getElem_cons_zero, List.setIfInBounds_toArray, List.set_cons_zero, List.set_cons_succ]
      refine wpAnyH_take (i := 1) (v := ?_) rfl (by kernel_rfl) (by kernel_rfl) (by kernel_rfl) (fun _ _ _ h => h) (Or.inl ⟨by kernel_rfl, ?_⟩) (by assumption) ?_
      rotate_left
      · (intro wx hSw; (try dsimp only at hSw); go_simp; try (with_reducible rfl))
      try simp only [Act.put, List.getElem_toArray, List.getElem_cons_succ, List.getElem_cons_zero, List.setIfInBounds_toArray, List.set_cons_zero, List.set_cons_succ]
      refine wpAnyH_ready (rs := [2]) (by kernel_rfl) (by simp) ?_
      refine AllReadyH.cons rfl (fun K hK => ?_) AllReadyH.nil
      go_simp
      (go_at_call 19; refine (toGraph_any N A n c L HN.out _ hm' (K1.out.bl (BW.out _ (B8.out.trans_ (show Bl w8 _ from (by repeat' (first | exact Bl.refl _ | with_reducible assumption | with_reducible refine Bl.drew_ ?_ | with_reducible refine Bl.drewN_ ?_ _ | with_reducible refine Bl.alloc_ ?_ _ | with_reducible refine Bl.trans_ ?_ (by assumption) | with_reducible refine Bl.trans_ ?_ (And.left (by assumption))))))))).mono ?_; rintro e w9 ⟨g9, rfl, ha9, hg9, hb9⟩; have HA9 := Lib.hid ha9; clear ha9)
      try (go_wp2_with fail)
      refine hK.out _ _ ?_ (fun hHeld => ?_)
      · (exact HSH2.out _ (by repeat' (first | exact Bl.refl _ | with_reducible assumption | with_reducible refine Bl.drew_ ?_ | with_reducible refine Bl.drewN_ ?_ _ | with_reducible refine Bl.alloc_ ?_ _ | with_reducible refine Bl.trans_ ?_ (by assumption) | with_reducible refine Bl.trans_ ?_ (And.left (by assumption)))))
      clear hK K
      try simp only [Act.put, List.getElem_toArray, List.getElem_cons_succ, List.getElem_cons_zero, List.setIfInBounds_toArray, List.set_cons_zero, List.set_cons_succ]
      refine wpAnyH_ready (rs := [3]) (by kernel_rfl) (by simp) ?_
      refine AllReadyH.cons rfl (fun K hK => ?_) AllReadyH.nil
      go_simp
      (go_at_call 21; refine (eqGraph_yes N _ _ n n L n HN.out _ hm (HA8.out.bl (by repeat' (first | exact Bl.refl _ | with_reducible assumption | with_reducible refine Bl.drew_ ?_ | with_reducible refine Bl.drewN_ ?_ _ | with_reducible refine Bl.alloc_ ?_ _ | with_reducible refine Bl.trans_ ?_ (by assumption) | with_reducible refine Bl.trans_ ?_ (And.left (by assumption))))) HA9.out).mono ?_; rintro e w10 ⟨rfl, hb10⟩)
      try (go_wp2_with fail)
      refine hK.out _ _ ?_ (fun hHeld => ?_)
      · (exact HSH2.out _ (by repeat' (first | exact Bl.refl _ | with_reducible assumption | with_reducible refine Bl.drew_ ?_ | with_reducible refine Bl.drewN_ ?_ _ | with_reducible refine Bl.alloc_ ?_ _ | with_reducible refine Bl.trans_ ?_ (by assumption) | with_reducible refine Bl.trans_ ?_ (And.left (by assumption)))))
      clear hK K
      try simp only [Act.put, List.getElem_toArray, List.getElem_cons_succ, List.getElem_cons_zero, List.setIfInBounds_toArray, List.set_cons_zero, List.set_cons_succ]
      refine wpAnyH_take (i := 4) (v := ?_) rfl (by kernel_rfl) (by kernel_rfl) (by kernel_rfl) (fun _ _ _ h => h) (Or.inl ⟨by kernel_rfl, ?_⟩) (by assumption) ?_
      rotate_left
      · (intro wx hSw; (try dsimp only at hSw); go_simp; try (with_reducible rfl))
      try simp only [Act.put, List.getElem_toArray, List.getElem_cons_succ, List.getElem_cons_zero, List.setIfInBounds_toArray, List.set_cons_zero, List.set_cons_succ]
      refine wpAnyH_done (by kernel_rfl) ?_ _
      have c10 : Bl w8 w10 := (by repeat' (first | exact Bl.refl _ | with_reducible assumption | with_reducible refine Bl.drew_ ?_ | with_reducible refine Bl.drewN_ ?_ _ | with_reducible refine Bl.alloc_ ?_ _ | with_reducible refine Bl.trans_ ?_ (by assumption) | with_reducible refine Bl.trans_ ?_ (And.left (by assumption))))
      have C10 := Lib.hid c10
      have HSH3 := Lib.hid (show ∀ wx, Bl w10 wx → Bl w10 wx ∧ wx.cell? ⟨w.heap.size + 1, 0, none⟩ = some (.int .i64 R) ∧ wx.cell? ⟨w.heap.size + 1, 1, none⟩ = some (.slice A2 k c2) ∧ wx.cell? ⟨w7.heap.size, 0, none⟩ = some (.int .i64 R) ∧ wx.cell? ⟨w7.heap.size, 1, none⟩ = some (.slice (some ⟨g7, 0, none⟩) k k) from fun wx hb =>
        ⟨hb, (BX.out _ (B8.out.trans_ (C10.out.trans_ hb))).2.2.1, (BX.out _ (B8.out.trans_ (C10.out.trans_ hb))).2.2.2, (XT.out _ (C10.out.trans_ hb)).1, (XT.out _ (C10.out.trans_ hb)).2⟩)
      clear c10
      go_wp2_with fail
      refine wp_region_held_drew (S := fun wx => Bl w10 wx ∧ wx.cell? ⟨w.heap.size + 1, 0, none⟩ = some (.int .i64 R) ∧ wx.cell? ⟨w.heap.size + 1, 1, none⟩ = some (.slice A2 k c2) ∧ wx.cell? ⟨w7.heap.size, 0, none⟩ = some (.int .i64 R) ∧ wx.cell? ⟨w7.heap.size, 1, none⟩ = some (.slice (some ⟨g7, 0, none⟩) k k)) (by kernel_rfl) ?_ (fun hHeld => ?_)
      · (exact HSH3.out _ (by repeat' (first | exact Bl.refl _ | with_reducible assumption | with_reducible refine Bl.drew_ ?_ | with_reducible refine Bl.drewN_ ?_ _ | with_reducible refine Bl.alloc_ ?_ _ | with_reducible refine Bl.trans_ ?_ (by assumption) | with_reducible refine Bl.trans_ ?_ (And.left (by assumption)))))
      refine wpAnyH_take (i := 0) (v := ?_) rfl (by kernel_rfl) (by kernel_rfl) (by kernel_rfl) (fun _ _ _ h => h) (Or.inl ⟨by kernel_rfl, ?_⟩) (by assumption) ?_
      rotate_left
      · (intro wx hSw; (try dsimp only at hSw); go_simp; try (with_reducible rfl))
      try simp only [Act.put, List.getElem_toArray, List.getElem_cons_succ, List.getElem_cons_zero, List.setIfInBounds_toArray, List.set_cons_zero, List.set_cons_succ]
      refine wpAnyH_take (i := 1) (v := ?_) rfl (by kernel_rfl) (by kernel_rfl) (by kernel_rfl) (fun _ _ _ h => h) (Or.inl ⟨by kernel_rfl, ?_⟩) (by assumption) ?_
      rotate_left
      · (intro wx hSw; (try dsimp only at hSw); go_simp; try (with_reducible rfl))
      try simp only [Act.put, List.getElem_toArray, List.getElem_cons_succ, List.getElem_cons_zero, List.setIfInBounds_toArray, List.set_cons_zero, List.set_cons_succ]
      refine wpAnyH_ready (rs := [2]) (by kernel_rfl) (by simp) ?_
      refine AllReadyH.cons rfl (fun K hK => ?_) AllReadyH.nil
      go_simp
      (go_at_call 40; refine (toTree_any R A2 k c2 P HK.out _ hk' (K2.out.bl (BW.out _ (B8.out.trans_ (C10.out.trans_ (show Bl w10 _ from (by repeat' (first | exact Bl.refl _ | with_reducible assumption | with_reducible refine Bl.drew_ ?_ | with_reducible refine Bl.drewN_ ?_ _ | with_reducible refine Bl.alloc_ ?_ _ | with_reducible refine Bl.trans_ ?_ (by assumption) | with_reducible refine Bl.trans_ ?_ (And.left (by assumption)))))))))).mono ?_; rintro e w11 ⟨g11, rfl, hi11, hg11, hb11⟩; have HI11 := Lib.hid hi11; clear hi11)
      try (go_wp2_with fail)
      refine hK.out _ _ ?_ (fun hHeld => ?_)
      · (exact HSH3.out _ (by repeat' (first | exact Bl.refl _ | with_reducible assumption | with_reducible refine Bl.drew_ ?_ | with_reducible refine Bl.drewN_ ?_ _ | with_reducible refine Bl.alloc_ ?_ _ | with_reducible refine Bl.trans_ ?_ (by assumption) | with_reducible refine Bl.trans_ ?_ (And.left (by assumption)))))
      clear hK K
      try simp only [Act.put, List.getElem_toArray, List.getElem_cons_succ, List.getElem_cons_zero, List.setIfInBounds_toArray, List.set_cons_zero, List.set_cons_succ]
      refine wpAnyH_ready (rs := [3]) (by kernel_rfl) (by simp) ?_
      refine AllReadyH.cons rfl (fun K hK => ?_) AllReadyH.nil
      go_simp
      (go_at_call 35; refine (eqTree_yes R _ _ k k P k HK.out _ (by omega) (HI8.out.bl (C10.out.trans_ (show Bl w10 _ from (by repeat' (first | exact Bl.refl _ | with_reducible assumption | with_reducible refine Bl.drew_ ?_ | with_reducible refine Bl.drewN_ ?_ _ | with_reducible refine Bl.alloc_ ?_ _ | with_reducible refine Bl.trans_ ?_ (by assumption) | with_reducible refine Bl.trans_ ?_ (And.left (by assumption))))))) HI11.out).mono ?_; rintro e w12 ⟨rfl, hb12⟩)
      try (go_wp2_with fail)
      refine hK.out _ _ ?_ (fun hHeld => ?_)
      · (exact HSH3.out _ (by repeat' (first | exact Bl.refl _ | with_reducible assumption | with_reducible refine Bl.drew_ ?_ | with_reducible refine Bl.drewN_ ?_ _ | with_reducible refine Bl.alloc_ ?_ _ | with_reducible refine Bl.trans_ ?_ (by assumption) | with_reducible refine Bl.trans_ ?_ (And.left (by assumption)))))
      clear hK K
      try simp only [Act.put, List.getElem_toArray, List.getElem_cons_succ, List.getElem_cons_zero, List.setIfInBounds_toArray, List.set_cons_zero, List.set_cons_succ]
      refine wpAnyH_take (i := 4) (v := ?_) rfl (by kernel_rfl) (by kernel_rfl) (by kernel_rfl) (fun _ _ _ h => h) (Or.inl ⟨by kernel_rfl, ?_⟩) (by assumption) ?_
      rotate_left
      · (intro wx hSw; (try dsimp only at hSw); go_simp; try (with_reducible rfl))
      try simp only [Act.put, List.getElem_toArray, List.getElem_cons_succ, List.getElem_cons_zero, List.setIfInBounds_toArray, List.set_cons_zero, List.set_cons_succ]
      refine wpAnyH_done (by kernel_rfl) ?_ _
      have c12 : Bl w10 w12 := (by repeat' (first | exact Bl.refl _ | with_reducible assumption | with_reducible refine Bl.drew_ ?_ | with_reducible refine Bl.drewN_ ?_ _ | with_reducible refine Bl.alloc_ ?_ _ | with_reducible refine Bl.trans_ ?_ (by assumption) | with_reducible refine Bl.trans_ ?_ (And.left (by assumption))))
      go_wp2
      go_ret
      exact ⟨rfl, BW.out _ (B8.out.trans_ (C10.out.trans_ (c12.trans_ (by repeat' (first | exact Bl.refl _ | with_reducible assumption | with_reducible refine Bl.drew_ ?_ | with_reducible refine Bl.drewN_ ?_ _ | with_reducible refine Bl.alloc_ ?_ _ | with_reducible refine Bl.trans_ ?_ (by assumption) | with_reducible refine Bl.trans_ ?_ (And.left (by assumption)))))))⟩

end Go.Proofs.Ytelgjfflhcmljaa
