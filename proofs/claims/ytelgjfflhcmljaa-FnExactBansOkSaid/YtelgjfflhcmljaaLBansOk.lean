/-
  What is proved here: the walk of the exact law on BansOk: at every graph and all bans that can be read it returns true and leaves what was there as it was. No conditions beyond those that each theorem states.
-/
import Derived.Test.YtelgjfflhcmljaaSBO
import Derived.Test.YtelgjfflhcmljaaB1
set_option linter.unusedSimpArgs false
set_option linter.unusedVariables false
namespace Go.Proofs.Ytelgjfflhcmljaa
open Go.RowKit

set_option maxRecDepth 100000 in
set_option maxHeartbeats 1000000 in
theorem lawBansOk_any (N : Int) (A : Option Addr) (n c : Nat) (L : List Arc3) (hn : n = L.length) (A2 : Option Addr) (k c2 : Nat) (P : List Arc3) (hk : k = P.length) (w : World) (hm : n ≤ 9223372036854775807) (hkm : k ≤ 9223372036854775807) (H1 : ArcsAt w w.heap.size A L) (H2 : ArcsAt w w.heap.size A2 P) :
    Calls Try.prog 5 #[.agg #[.int .i64 N, .slice A n c], .slice A2 k c2] w fun e w' => e = .returned (.bool true) ∧ Bl w w' := by
  have K1 := Lib.hid H1
  have K2 := Lib.hid H2
  have HN := Lib.hid hn
  have HK := Lib.hid hk
  clear H1 H2 hn hk
  by_cases hbig : (1048576 : Int) - n < 0
  · go_enter Try.func5, Try.ntmps5
    go_wp2_with (go_at_call 17; refine (szGraph_any _ _ _ _ _ _ hm (by omega) (by omega)).mono ?_; rintro e w' ⟨rfl, hb⟩; obtain ⟨hc, hf⟩ := bcell hb)
    go_ret
    exact ⟨rfl, (by repeat' (first | exact Bl.refl _ | with_reducible assumption | with_reducible refine Bl.drew_ ?_ | with_reducible refine Bl.drewN_ ?_ _ | with_reducible refine Bl.alloc_ ?_ _ | with_reducible refine Bl.trans_ ?_ (by assumption) | with_reducible refine Bl.trans_ ?_ (And.left (by assumption))))⟩
  · have hm' : n ≤ 1048576 := by omega
    clear hbig
    by_cases hk1 : (1048576 : Int) - n - k < 0
    · go_enter Try.func5, Try.ntmps5
      go_wp2_with fail
      refine (szGraph_small N A n c _ hm').mono ?_
      rintro e w1 ⟨rfl, hb1⟩
      have p1 : (0 : Int) ≤ 1048576 - (n : Int) := by omega
      go_wp2_with fail
      refine (szBanS_any A2 k c2 (1048576 - n) _ hkm (by omega) (by omega)).mono ?_
      rintro e w1' ⟨rfl, rfl⟩
      rw [if_pos hk1]
      go_wp2
      go_ret
      exact ⟨rfl, (by repeat' (first | exact Bl.refl _ | with_reducible assumption | with_reducible refine Bl.drew_ ?_ | with_reducible refine Bl.drewN_ ?_ _ | with_reducible refine Bl.alloc_ ?_ _ | with_reducible refine Bl.trans_ ?_ (by assumption) | with_reducible refine Bl.trans_ ?_ (And.left (by assumption))))⟩
    · have hk' : k ≤ 1048576 := by omega
      go_enter Try.func5, Try.ntmps5
      go_wp2_with fail
      refine (szGraph_small N A n c _ hm').mono ?_
      rintro e w1 ⟨rfl, hb1⟩
      obtain ⟨q0, q1⟩ := box2 hb1
      have p1 : (0 : Int) ≤ 1048576 - (n : Int) := by omega
      go_wp2_with fail
      refine (szBanS_any A2 k c2 (1048576 - n) _ hkm (by omega) (by omega)).mono ?_
      rintro e w1' ⟨rfl, rfl⟩
      rw [if_neg (by omega)]
      have p2 : (0 : Int) ≤ 1048576 - (n : Int) - (k : Int) := by omega
      go_wp2_with fail
      refine (toGraph_any N A n c L HN.out _ hm' (K1.out.bl (by repeat' (first | exact Bl.refl _ | with_reducible assumption | with_reducible refine Bl.drew_ ?_ | with_reducible refine Bl.drewN_ ?_ _ | with_reducible refine Bl.alloc_ ?_ _ | with_reducible refine Bl.trans_ ?_ (by assumption) | with_reducible refine Bl.trans_ ?_ (And.left (by assumption)))))).mono ?_
      rintro e w2 ⟨g2, rfl, ha2, hg2, hb2⟩
      have hb2 := hb1.trans_ hb2
      obtain ⟨q0, q1⟩ := box2 hb2
      have HA2 := Lib.hid ha2
      clear ha2
      go_wp2_with fail
      refine (toBanS_any A2 k c2 P HK.out _ hk' (K2.out.bl ((Bl.alloc_ (Bl.refl w) _).trans_ hb2))).mono ?_
      rintro e w3 ⟨rfl, hi3, hb3⟩
      have HI3 := Lib.hid hi3
      have HA3 := Lib.hid (HA2.out.bl hb3)
      have hb3 := hb2.trans_ hb3
      obtain ⟨q0, q1⟩ := box2 hb3
      clear hi3
      go_wp2_with fail
      refine (specBansOk_any N _ n n L HN.out _ k k P HK.out _ hm' hk' HA3.out HI3.out).mono ?_
      rintro e w4 ⟨rfl, hb4⟩
      have hb4 := hb3.trans_ hb4
      obtain ⟨q0, q1⟩ := box2 hb4
      go_wp2_with fail
      refine (toGraph_any N A n c L HN.out _ hm' (K1.out.bl ((Bl.alloc_ (Bl.refl w) _).trans_ hb4))).mono ?_
      rintro e w5 ⟨g5, rfl, ha5, hg5, hb5⟩
      have HA5 := Lib.hid (ha5.bl (Bl.alloc_ (Bl.refl w5) (.cells #[.int .i64 N, .slice (some ⟨g5, 0, none⟩) n n] 29)))
      have hB5 := hb4.trans_ (hb5.trans_ (Bl.alloc_ (Bl.refl w5) (.cells #[.int .i64 N, .slice (some ⟨g5, 0, none⟩) n n] 29)))
      have hX5 : Bl (w5.alloc (.cells #[.int .i64 N, .slice (some ⟨g5, 0, none⟩) n n] 29)) (w5.alloc (.cells #[.int .i64 N, .slice (some ⟨g5, 0, none⟩) n n] 29)) := Bl.refl _
      clear ha5 q0 q1
      go_wp2_with fail
      refine (toBanS_any A2 k c2 P HK.out _ hk' (K2.out.bl ((Bl.alloc_ (Bl.refl w) _).trans_ hB5))).mono ?_
      rintro e w6 ⟨rfl, hi6, hb6⟩
      have HI6 := Lib.hid (show ArcsAt w6 w6.heap.size (some ⟨w5.heap.size + 1, 0, none⟩) P from by simpa only [World.size_alloc] using hi6)
      have HA6 := Lib.hid (HA5.out.bl hb6)
      obtain ⟨x0, x1⟩ := box2 hb6
      have hB6 := hB5.trans_ hb6
      clear hi6
      go_wp2_with fail
      refine (implBansOk_any N _ n n L HN.out _ k k P HK.out _ hm' hk' HA6.out HI6.out).mono ?_
      rintro e w7 ⟨rfl, hb7⟩
      have HI7 := Lib.hid (HI6.out.bl hb7)
      have HA7 := Lib.hid (HA6.out.bl hb7)
      have hX7 := hb6.trans_ hb7
      have hB7 := hB6.trans_ hb7
      have hne : (bansOkB N L P != bansOkB N L P) = false := by simp
      have HSH := Lib.hid (show ∀ wx, Bl w7 wx → Bl w7 wx ∧ wx.cell? ⟨w.heap.size, 0, none⟩ = some (.int .i64 N) ∧ wx.cell? ⟨w.heap.size, 1, none⟩ = some (.slice A n c) ∧ wx.cell? ⟨w5.heap.size, 0, none⟩ = some (.int .i64 N) ∧ wx.cell? ⟨w5.heap.size, 1, none⟩ = some (.slice (some ⟨g5, 0, none⟩) n n) from fun wx hb =>
        ⟨hb, (box2 (hB7.trans_ hb)).1, (box2 (hB7.trans_ hb)).2, (box2 (hX7.trans_ hb)).1, (box2 (hX7.trans_ hb)).2⟩)
      have hbw : Bl w w7 := (Bl.alloc_ (Bl.refl w) _).trans_ hB7
      clear x0 x1
      go_wp2_with fail
      refine wp_region_held_drew (S := fun wx => Bl w7 wx ∧ wx.cell? ⟨w.heap.size, 0, none⟩ = some (.int .i64 N) ∧ wx.cell? ⟨w.heap.size, 1, none⟩ = some (.slice A n c) ∧ wx.cell? ⟨w5.heap.size, 0, none⟩ = some (.int .i64 N) ∧ wx.cell? ⟨w5.heap.size, 1, none⟩ = some (.slice (some ⟨g5, 0, none⟩) n n)) (by kernel_rfl) ?_ (fun hHeld => ?_)
      · (exact HSH.out _ (by repeat' (first | exact Bl.refl _ | with_reducible assumption | with_reducible refine Bl.drew_ ?_ | with_reducible refine Bl.drewN_ ?_ _ | with_reducible refine Bl.alloc_ ?_ _ | with_reducible refine Bl.trans_ ?_ (by assumption) | with_reducible refine Bl.trans_ ?_ (And.left (by assumption)))))
      refine wpAnyH_take (i := 0) (v := ?_) rfl (by kernel_rfl) (by kernel_rfl) (by kernel_rfl) (fun _ _ _ h => h) (Or.inl ⟨by kernel_rfl, ?_⟩) (by assumption) ?_
      rotate_left
      · (intro wx hSw; (try dsimp only at hSw); go_simp; try (with_reducible rfl))
      try simp only [Act.put, List.getElem_toArray, List.getElem_cons_succ, List.getElem_cons_zero, List.setIfInBounds_toArray, List.set_cons_zero, List.set_cons_succ]
      refine wpAnyH_take (i := 1) (v := ?_) rfl (by kernel_rfl) (by kernel_rfl) (by kernel_rfl) (fun _ _ _ h => h) (Or.inl ⟨by kernel_rfl, ?_⟩) (by assumption) ?_
      rotate_left
      · (intro wx hSw; (try dsimp only at hSw); go_simp; try (with_reducible rfl))
      try simp only [Act.put, List.getElem_toArray, List.getElem_cons_succ, List.getElem_cons_zero, List.setIfInBounds_toArray, List.set_cons_zero, List.set_cons_succ]
      refine wpAnyH_ready (rs := [2]) (by kernel_rfl) (by simp) ?_
      refine AllReadyH.cons rfl (fun K hK => ?_) AllReadyH.nil
      go_simp
      (go_at_call 19; refine (toGraph_any N A n c L HN.out _ hm' (K1.out.bl (hbw.trans_ (by repeat' (first | exact Bl.refl _ | with_reducible assumption | with_reducible refine Bl.drew_ ?_ | with_reducible refine Bl.drewN_ ?_ _ | with_reducible refine Bl.alloc_ ?_ _ | with_reducible refine Bl.trans_ ?_ (by assumption) | with_reducible refine Bl.trans_ ?_ (And.left (by assumption))))))).mono ?_; rintro e w8 ⟨g8, rfl, ha8, hg8, hb8⟩; have HA8 := Lib.hid ha8; clear ha8)
      try (go_wp2_with fail)
      refine hK.out _ _ ?_ (fun hHeld => ?_)
      · (exact HSH.out _ (by repeat' (first | exact Bl.refl _ | with_reducible assumption | with_reducible refine Bl.drew_ ?_ | with_reducible refine Bl.drewN_ ?_ _ | with_reducible refine Bl.alloc_ ?_ _ | with_reducible refine Bl.trans_ ?_ (by assumption) | with_reducible refine Bl.trans_ ?_ (And.left (by assumption)))))
      clear hK K
      try simp only [Act.put, List.getElem_toArray, List.getElem_cons_succ, List.getElem_cons_zero, List.setIfInBounds_toArray, List.set_cons_zero, List.set_cons_succ]
      refine wpAnyH_ready (rs := [3]) (by kernel_rfl) (by simp) ?_
      refine AllReadyH.cons rfl (fun K hK => ?_) AllReadyH.nil
      go_simp
      (go_at_call 21; refine (eqGraph_yes N _ _ n n L n HN.out _ hm (HA7.out.bl (by repeat' (first | exact Bl.refl _ | with_reducible assumption | with_reducible refine Bl.drew_ ?_ | with_reducible refine Bl.drewN_ ?_ _ | with_reducible refine Bl.alloc_ ?_ _ | with_reducible refine Bl.trans_ ?_ (by assumption) | with_reducible refine Bl.trans_ ?_ (And.left (by assumption))))) HA8.out).mono ?_; rintro e w9 ⟨rfl, hb9⟩)
      try (go_wp2_with fail)
      refine hK.out _ _ ?_ (fun hHeld => ?_)
      · (exact HSH.out _ (by repeat' (first | exact Bl.refl _ | with_reducible assumption | with_reducible refine Bl.drew_ ?_ | with_reducible refine Bl.drewN_ ?_ _ | with_reducible refine Bl.alloc_ ?_ _ | with_reducible refine Bl.trans_ ?_ (by assumption) | with_reducible refine Bl.trans_ ?_ (And.left (by assumption)))))
      clear hK K
      try simp only [Act.put, List.getElem_toArray, List.getElem_cons_succ, List.getElem_cons_zero, List.setIfInBounds_toArray, List.set_cons_zero, List.set_cons_succ]
      refine wpAnyH_take (i := 4) (v := ?_) rfl (by kernel_rfl) (by kernel_rfl) (by kernel_rfl) (fun _ _ _ h => h) (Or.inl ⟨by kernel_rfl, ?_⟩) (by assumption) ?_
      rotate_left
      · (intro wx hSw; (try dsimp only at hSw); go_simp; try (with_reducible rfl))
      try simp only [Act.put, List.getElem_toArray, List.getElem_cons_succ, List.getElem_cons_zero, List.setIfInBounds_toArray, List.set_cons_zero, List.set_cons_succ]
      refine wpAnyH_done (by kernel_rfl) ?_ _
      have P9 : Bl w7 w9 := (by repeat' (first | exact Bl.refl _ | with_reducible assumption | with_reducible refine Bl.drew_ ?_ | with_reducible refine Bl.drewN_ ?_ _ | with_reducible refine Bl.alloc_ ?_ _ | with_reducible refine Bl.trans_ ?_ (by assumption) | with_reducible refine Bl.trans_ ?_ (And.left (by assumption))))
      go_wp2_with fail
      refine (toBanS_any A2 k c2 P HK.out _ hk' (K2.out.bl (hbw.trans_ P9))).mono ?_
      rintro e w10 ⟨rfl, hi10, hb10⟩
      have HI10 := Lib.hid hi10
      clear hi10
      go_wp2_with fail
      refine (eqBanS_yes _ _ k k P k HK.out _ (by omega) (HI7.out.bl (P9.trans_ hb10)) HI10.out).mono ?_
      rintro e w11 ⟨rfl, hb11⟩
      go_wp2
      go_ret
      exact ⟨rfl, hbw.trans_ (P9.trans_ (hb10.trans_ hb11))⟩

end Go.Proofs.Ytelgjfflhcmljaa
