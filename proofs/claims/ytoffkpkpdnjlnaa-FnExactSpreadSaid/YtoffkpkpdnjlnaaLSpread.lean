/-
  What is proved here: the walk of the exact law on Spread: at every graph and all numbers that can be read it returns true and leaves what was there as it was. No conditions beyond those that each theorem states.
-/
import Derived.Test.YtoffkpkpdnjlnaaICE
import Derived.Test.YtoffkpkpdnjlnaaE2
import Derived.Test.YtoffkpkpdnjlnaaE3b
import Derived.Test.YtoffkpkpdnjlnaaB1
set_option linter.unusedSimpArgs false
set_option linter.unusedVariables false
namespace Go.Proofs.Ytoffkpkpdnjlnaa
open Go.RowKit

set_option maxHeartbeats 1000000 in
theorem lawSpread_any (N s : Int) (A : Option Addr) (n c : Nat) (L : List Arc3) (hn : n = L.length) (w : World) (hm : n ≤ 9223372036854775807) (H1 : ArcsAt w w.heap.size A L) :
    Calls Try.prog 11 #[.agg #[.int .i64 N, .slice A n c], .int .i64 s] w fun e w' => e = .returned (.bool true) ∧ Bl w w' := by
  have K1 := Lib.hid H1
  have HN := Lib.hid hn
  clear H1 hn
  by_cases hbig : (1048576 : Int) - n < 0
  · go_enter Try.func11, Try.ntmps11
    go_wp2_with (go_at_call 15; refine (szGraph_any _ _ _ _ _ _ hm (by omega) (by omega)).mono ?_; rintro e w' ⟨rfl, hb⟩; obtain ⟨hc, hf⟩ := bcell hb)
    go_ret
    exact ⟨rfl, (by repeat' (first | exact Bl.refl _ | with_reducible assumption | with_reducible refine Bl.drew_ ?_ | with_reducible refine Bl.drewN_ ?_ _ | with_reducible refine Bl.alloc_ ?_ _ | with_reducible refine Bl.trans_ ?_ (by assumption) | with_reducible refine Bl.trans_ ?_ (And.left (by assumption))))⟩
  · have hm' : n ≤ 1048576 := by omega
    clear hbig
    go_enter Try.func11, Try.ntmps11
    go_wp2_with fail
    refine (szGraph_small N A n c _ hm').mono ?_
    rintro e w1 ⟨rfl, hb1⟩
    obtain ⟨q0, q1⟩ := box2 hb1
    have p1 : (0 : Int) ≤ 1048576 - (n : Int) := by omega
    go_wp2_with fail
    refine (toGraph_any N A n c L HN.out _ hm' (K1.out.bl (by repeat' (first | exact Bl.refl _ | with_reducible assumption | with_reducible refine Bl.drew_ ?_ | with_reducible refine Bl.drewN_ ?_ _ | with_reducible refine Bl.alloc_ ?_ _ | with_reducible refine Bl.trans_ ?_ (by assumption) | with_reducible refine Bl.trans_ ?_ (And.left (by assumption)))))).mono ?_
    rintro e w2 ⟨g2, rfl, ha2, hg2, hb2⟩
    have hb2 := hb1.trans_ hb2
    obtain ⟨q0, q1⟩ := box2 hb2
    have HA2 := Lib.hid ha2
    clear ha2
    go_wp2_with fail
    refine (specSpread_any N s _ n n L HN.out (Nat.le_refl _) _ hm' HA2.out).mono ?_
    rintro e w3 ⟨rfl, hb3⟩
    have hb3 := hb2.trans_ hb3
    obtain ⟨q0, q1⟩ := box2 hb3
    go_wp2_with fail
    refine (toGraph_any N A n c L HN.out _ hm' (K1.out.bl (by repeat' (first | exact Bl.refl _ | with_reducible assumption | with_reducible refine Bl.drew_ ?_ | with_reducible refine Bl.drewN_ ?_ _ | with_reducible refine Bl.alloc_ ?_ _ | with_reducible refine Bl.trans_ ?_ (by assumption) | with_reducible refine Bl.trans_ ?_ (And.left (by assumption)))))).mono ?_
    rintro e w4 ⟨g4, rfl, ha4, hg4, hb4⟩
    have hb4 := hb3.trans_ hb4
    obtain ⟨q0, q1⟩ := box2 hb4
    have HA4 := Lib.hid ha4
    clear ha4
    go_wp2_with fail
    refine (implSpread_any N s _ n n L HN.out (Nat.le_refl _) _ hm' (HA4.out.bl (by repeat' (first | exact Bl.refl _ | with_reducible assumption | with_reducible refine Bl.drew_ ?_ | with_reducible refine Bl.drewN_ ?_ _ | with_reducible refine Bl.alloc_ ?_ _ | with_reducible refine Bl.trans_ ?_ (by assumption) | with_reducible refine Bl.trans_ ?_ (And.left (by assumption)))))).mono ?_
    rintro e w5 ⟨rfl, hb5⟩
    obtain ⟨x0, x1⟩ := box2 hb5
    have hb5a := (Bl.alloc_ (Bl.refl w4) _).trans_ hb5
    have HA5 := Lib.hid (ArcsAt.bl HA4.out hb5a)
    have hB5 := hb4.trans_ hb5a
    obtain ⟨q0, q1⟩ := box2 hB5
    have hne : (spreadI N L s != spreadI N L s) = false := by simp
    have HSH := Lib.hid (show ∀ wx, Bl w5 wx → Bl w5 wx ∧ wx.cell? ⟨w.heap.size, 0, none⟩ = some (.int .i64 N) ∧ wx.cell? ⟨w.heap.size, 1, none⟩ = some (.slice A n c) ∧ wx.cell? ⟨w4.heap.size, 0, none⟩ = some (.int .i64 N) ∧ wx.cell? ⟨w4.heap.size, 1, none⟩ = some (.slice (some ⟨g4, 0, none⟩) n n) from fun wx hb =>
      ⟨hb, (box2 (hB5.trans_ hb)).1, (box2 (hB5.trans_ hb)).2, (box2 (hb5.trans_ hb)).1, (box2 (hb5.trans_ hb)).2⟩)
    go_wp2_with fail
    refine wp_region_held_drew (S := fun wx => Bl w5 wx ∧ wx.cell? ⟨w.heap.size, 0, none⟩ = some (.int .i64 N) ∧ wx.cell? ⟨w.heap.size, 1, none⟩ = some (.slice A n c) ∧ wx.cell? ⟨w4.heap.size, 0, none⟩ = some (.int .i64 N) ∧ wx.cell? ⟨w4.heap.size, 1, none⟩ = some (.slice (some ⟨g4, 0, none⟩) n n)) (by kernel_rfl) ?_ (fun hHeld => ?_)
    · (exact HSH.out _ (by repeat' (first | exact Bl.refl _ | with_reducible assumption | with_reducible refine Bl.drew_ ?_ | with_reducible refine Bl.drewN_ ?_ _ | with_reducible refine Bl.alloc_ ?_ _ | with_reducible refine Bl.trans_ ?_ (by assumption) | with_reducible refine Bl.trans_ ?_ (And.left (by assumption)))))
    refine wpAnyH_take (i := 0) (v := ?_) rfl (by kernel_rfl) (by kernel_rfl) (by kernel_rfl) (fun _ _ _ h => h) (Or.inl ⟨by kernel_rfl, ?_⟩) (by assumption) ?_
    rotate_left
    · (intro wx hSw; (try dsimp only at hSw); go_simp; try (with_reducible rfl))
    try simp only [Act.put, List.getElem_toArray, List.getElem_cons_succ, List.getElem_cons_zero, List.setIfInBounds_toArray, List.set_cons_zero, List.set_cons_succ]
    refine wpAnyH_take (i := 1) (v := ?_) rfl (by kernel_rfl) (by kernel_rfl) (by kernel_rfl) (fun _ _ _ h => h) (Or.inl ⟨by kernel_rfl, ?_⟩) (by assumption) ?_
    rotate_left
    · (intro wx hSw; (try dsimp only at hSw); go_simp; try (with_reducible rfl))
    try simp only [Act.put, List.getElem_toArray, List.getElem_cons_succ, List.getElem_cons_zero, List.setIfInBounds_toArray, List.set_cons_zero, List.set_cons_succ]
    refine wpAnyH_ready (rs := [2]) (by kernel_rfl) (by simp) ?_
    refine AllReadyH.cons rfl (fun K hK => ?_) AllReadyH.nil
    go_simp
    (go_at_call 17; refine (toGraph_any N A n c L HN.out _ hm' (K1.out.bl (by repeat' (first | exact Bl.refl _ | with_reducible assumption | with_reducible refine Bl.drew_ ?_ | with_reducible refine Bl.drewN_ ?_ _ | with_reducible refine Bl.alloc_ ?_ _ | with_reducible refine Bl.trans_ ?_ (by assumption) | with_reducible refine Bl.trans_ ?_ (And.left (by assumption)))))).mono ?_; rintro e w6 ⟨g6, rfl, ha6, hg6, hb6⟩; have HA6 := Lib.hid ha6; clear ha6)
    try (go_wp2_with fail)
    refine hK.out _ _ ?_ (fun hHeld => ?_)
    · (exact HSH.out _ (by repeat' (first | exact Bl.refl _ | with_reducible assumption | with_reducible refine Bl.drew_ ?_ | with_reducible refine Bl.drewN_ ?_ _ | with_reducible refine Bl.alloc_ ?_ _ | with_reducible refine Bl.trans_ ?_ (by assumption) | with_reducible refine Bl.trans_ ?_ (And.left (by assumption)))))
    clear hK K
    try simp only [Act.put, List.getElem_toArray, List.getElem_cons_succ, List.getElem_cons_zero, List.setIfInBounds_toArray, List.set_cons_zero, List.set_cons_succ]
    refine wpAnyH_ready (rs := [3]) (by kernel_rfl) (by simp) ?_
    refine AllReadyH.cons rfl (fun K hK => ?_) AllReadyH.nil
    go_simp
    (go_at_call 20; refine (eqGraph_yes N _ _ n n L n HN.out _ hm (HA5.out.bl (by repeat' (first | exact Bl.refl _ | with_reducible assumption | with_reducible refine Bl.drew_ ?_ | with_reducible refine Bl.drewN_ ?_ _ | with_reducible refine Bl.alloc_ ?_ _ | with_reducible refine Bl.trans_ ?_ (by assumption) | with_reducible refine Bl.trans_ ?_ (And.left (by assumption))))) HA6.out).mono ?_; rintro e w7 ⟨rfl, hb7⟩)
    try (go_wp2_with fail)
    refine hK.out _ _ ?_ (fun hHeld => ?_)
    · (exact HSH.out _ (by repeat' (first | exact Bl.refl _ | with_reducible assumption | with_reducible refine Bl.drew_ ?_ | with_reducible refine Bl.drewN_ ?_ _ | with_reducible refine Bl.alloc_ ?_ _ | with_reducible refine Bl.trans_ ?_ (by assumption) | with_reducible refine Bl.trans_ ?_ (And.left (by assumption)))))
    clear hK K
    try simp only [Act.put, List.getElem_toArray, List.getElem_cons_succ, List.getElem_cons_zero, List.setIfInBounds_toArray, List.set_cons_zero, List.set_cons_succ]
    refine wpAnyH_take (i := 4) (v := ?_) rfl (by kernel_rfl) (by kernel_rfl) (by kernel_rfl) (fun _ _ _ h => h) (Or.inl ⟨by kernel_rfl, ?_⟩) (by assumption) ?_
    rotate_left
    · (intro wx hSw; (try dsimp only at hSw); go_simp; try (with_reducible rfl))
    try simp only [Act.put, List.getElem_toArray, List.getElem_cons_succ, List.getElem_cons_zero, List.setIfInBounds_toArray, List.set_cons_zero, List.set_cons_succ]
    refine wpAnyH_done (by kernel_rfl) ?_ _
    go_wp2
    go_ret
    exact ⟨rfl, (by repeat' (first | exact Bl.refl _ | with_reducible assumption | with_reducible refine Bl.drew_ ?_ | with_reducible refine Bl.drewN_ ?_ _ | with_reducible refine Bl.alloc_ ?_ _ | with_reducible refine Bl.trans_ ?_ (by assumption) | with_reducible refine Bl.trans_ ?_ (And.left (by assumption))))⟩


end Go.Proofs.Ytoffkpkpdnjlnaa
