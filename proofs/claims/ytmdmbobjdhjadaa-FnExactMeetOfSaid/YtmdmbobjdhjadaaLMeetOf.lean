/-
  What is proved here: the walk of the exact law on MeetOf: at all halves that can be read it returns true and leaves what was there as it was. No conditions beyond those that each theorem states.
-/
import Derived.Test.YtmdmbobjdhjadaaMF
import Derived.Test.YtmdmbobjdhjadaaK3
set_option linter.unusedSimpArgs false
set_option linter.unusedVariables false
namespace Go.Proofs.Ytmdmbobjdhjadaa
open Go.RowKit

set_option maxRecDepth 100000 in
set_option maxHeartbeats 2000000 in
theorem lawMeetOf_any (A1 B1 A2 B2 : Option Addr) (n1 c1 m1 d1 n2 c2 m2 d2 : Nat) (D1 E1 D2 E2 : List Int) (hn1 : n1 = D1.length) (hm1 : m1 = E1.length) (hn2 : n2 = D2.length) (hm2 : m2 = E2.length) (r1 r2 : Int) (w : World) (b1 : n1 ≤ 9223372036854775807) (b2 : m1 ≤ 9223372036854775807) (b3 : n2 ≤ 9223372036854775807) (b4 : m2 ≤ 9223372036854775807)
    (H1 : IntsAt w w.heap.size A1 D1) (H2 : IntsAt w w.heap.size B1 E1) (H3 : IntsAt w w.heap.size A2 D2) (H4 : IntsAt w w.heap.size B2 E2) :
    Calls Try.prog 14 #[.agg #[.slice A1 n1 c1, .slice B1 m1 d1, .int .i64 r1], .agg #[.slice A2 n2 c2, .slice B2 m2 d2, .int .i64 r2]] w fun e w' => e = .returned (.bool true) ∧ Bl w w' := by
  have K1 := Lib.hid H1
  have K2 := Lib.hid H2
  have K3 := Lib.hid H3
  have K4 := Lib.hid H4
  have N1 := Lib.hid hn1
  have M1 := Lib.hid hm1
  have N2 := Lib.hid hn2
  have M2 := Lib.hid hm2
  clear H1 H2 H3 H4 hn1 hm1 hn2 hm2
  have q3 : ∀ wx, Bl ((w.alloc (.cells #[.slice A1 n1 c1, .slice B1 m1 d1, .int .i64 r1] 70)).alloc (.cells #[.slice A2 n2 c2, .slice B2 m2 d2, .int .i64 r2] 70)) wx → wx.cell? ⟨w.heap.size, 0, none⟩ = some (.slice A1 n1 c1) ∧ wx.cell? ⟨w.heap.size, 1, none⟩ = some (.slice B1 m1 d1) ∧ wx.cell? ⟨w.heap.size, 2, none⟩ = some (.int .i64 r1) ∧ wx.cell? ⟨w.heap.size + 1, 0, none⟩ = some (.slice A2 n2 c2) ∧ wx.cell? ⟨w.heap.size + 1, 1, none⟩ = some (.slice B2 m2 d2) ∧ wx.cell? ⟨w.heap.size + 1, 2, none⟩ = some (.int .i64 r2) := fun wx hb => by
    obtain ⟨a0, a1, a2⟩ := box3 ((Bl.alloc_ (Bl.refl (w.alloc (.cells #[.slice A1 n1 c1, .slice B1 m1 d1, .int .i64 r1] 70))) _).trans_ hb)
    obtain ⟨z0, z1, z2⟩ := box3 hb
    simp only [World.size_alloc] at z0 z1 z2
    exact ⟨a0, a1, a2, z0, z1, z2⟩
  have Q3 := Lib.hid q3
  clear q3
  have W0 : Bl w ((w.alloc (.cells #[.slice A1 n1 c1, .slice B1 m1 d1, .int .i64 r1] 70)).alloc (.cells #[.slice A2 n2 c2, .slice B2 m2 d2, .int .i64 r2] 70)) := (by repeat' (first | exact Bl.refl _ | with_reducible assumption | with_reducible refine Bl.drew_ ?_ | with_reducible refine Bl.drewN_ ?_ _ | with_reducible refine Bl.alloc_ ?_ _ | with_reducible refine Bl.trans_ ?_ (by assumption) | with_reducible refine Bl.trans_ ?_ (And.left (by assumption))))
  have HW0 := Lib.hid W0
  clear W0
  by_cases big1 : (1048576 : Int) - n1 - m1 < 0
  · go_enter Try.func14, Try.ntmps14
    go_wp2_with fail
    refine (szHalf_any _ _ n1 _ m1 _ _ _ _ b1 b2 (by omega) (by omega)).mono ?_
    rintro e w1 ⟨rfl, hb1⟩
    rw [if_pos big1]
    go_wp2
    go_ret
    exact ⟨rfl, HW0.out.trans_ hb1⟩
  · by_cases big2 : (1048576 : Int) - n1 - m1 - n2 - m2 < 0
    · go_enter Try.func14, Try.ntmps14
      go_wp2_with fail
      refine (szHalf_any _ _ n1 _ m1 _ _ _ _ b1 b2 (by omega) (by omega)).mono ?_
      rintro e w1 ⟨rfl, hb1⟩
      rw [if_neg (by omega)]
      obtain ⟨a0, a1, a2, z0, z1, z2⟩ := Q3.out _ hb1
      have p1 : decide ((1048576 : Int) - n1 - m1 < 0) = false := by simp; omega
      go_wp2_with fail
      refine (szHalf_any _ _ n2 _ m2 _ _ _ _ b3 b4 (by omega) (by omega)).mono ?_
      rintro e w2 ⟨rfl, hb2⟩
      rw [if_pos (by omega)]
      go_wp2
      go_ret
      exact ⟨rfl, HW0.out.trans_ (hb1.trans_ hb2)⟩
    · have s1 : n1 ≤ 1048576 := by omega
      have s2 : m1 ≤ 1048576 := by omega
      have s3 : n2 ≤ 1048576 := by omega
      have s4 : m2 ≤ 1048576 := by omega
      go_enter Try.func14, Try.ntmps14
      go_wp2_with fail
      refine (szHalf_any _ _ n1 _ m1 _ _ _ _ b1 b2 (by omega) (by omega)).mono ?_
      rintro e w1 ⟨rfl, hb1⟩
      rw [if_neg (by omega)]
      obtain ⟨a0, a1, a2, z0, z1, z2⟩ := Q3.out _ hb1
      have p1 : decide ((1048576 : Int) - n1 - m1 < 0) = false := by simp; omega
      go_wp2_with fail
      refine (szHalf_any _ _ n2 _ m2 _ _ _ _ b3 b4 (by omega) (by omega)).mono ?_
      rintro e w2 ⟨rfl, hb2⟩
      rw [if_neg (by omega)]
      have p2 : decide ((1048576 : Int) - n1 - m1 - n2 - m2 < 0) = false := by simp; omega
      have BB2 := Lib.hid (hb1.trans_ hb2)
      clear hb1 hb2 a0 a1 a2 z0 z1 z2
      have HSH := Lib.hid (show ∀ wx, Bl w2 wx → Bl w2 wx ∧ wx.cell? ⟨w.heap.size, 0, none⟩ = some (.slice A1 n1 c1) ∧ wx.cell? ⟨w.heap.size, 1, none⟩ = some (.slice B1 m1 d1) ∧ wx.cell? ⟨w.heap.size, 2, none⟩ = some (.int .i64 r1) ∧ wx.cell? ⟨w.heap.size + 1, 0, none⟩ = some (.slice A2 n2 c2) ∧ wx.cell? ⟨w.heap.size + 1, 1, none⟩ = some (.slice B2 m2 d2) ∧ wx.cell? ⟨w.heap.size + 1, 2, none⟩ = some (.int .i64 r2) from fun wx hb => ⟨hb, Q3.out _ (BB2.out.trans_ hb)⟩)
      have BW := Lib.hid (HW0.out.trans_ BB2.out)
      go_wp2_with fail
      refine wp_region_held_drew (S := fun wx => Bl w2 wx ∧ wx.cell? ⟨w.heap.size, 0, none⟩ = some (.slice A1 n1 c1) ∧ wx.cell? ⟨w.heap.size, 1, none⟩ = some (.slice B1 m1 d1) ∧ wx.cell? ⟨w.heap.size, 2, none⟩ = some (.int .i64 r1) ∧ wx.cell? ⟨w.heap.size + 1, 0, none⟩ = some (.slice A2 n2 c2) ∧ wx.cell? ⟨w.heap.size + 1, 1, none⟩ = some (.slice B2 m2 d2) ∧ wx.cell? ⟨w.heap.size + 1, 2, none⟩ = some (.int .i64 r2)) (by kernel_rfl) ?_ (fun hHeld => ?_)
      · (exact HSH.out _ (by repeat' (first | exact Bl.refl _ | with_reducible assumption | with_reducible refine Bl.drew_ ?_ | with_reducible refine Bl.drewN_ ?_ _ | with_reducible refine Bl.alloc_ ?_ _ | with_reducible refine Bl.trans_ ?_ (by assumption) | with_reducible refine Bl.trans_ ?_ (And.left (by assumption)))))
      refine wpAnyH_take (i := 0) (v := ?_) rfl (by kernel_rfl) (by kernel_rfl) (by kernel_rfl) (fun _ _ _ h => h) (Or.inl ⟨by kernel_rfl, ?_⟩) (by assumption) ?_
      rotate_left
      · (intro wx hSw; (try dsimp only at hSw); go_simp; try (with_reducible rfl))
      try simp only [Act.put, List.getElem_toArray, List.getElem_cons_succ, List.getElem_cons_zero, List.setIfInBounds_toArray, List.set_cons_zero, List.set_cons_succ]
      refine wpAnyH_take (i := 2) (v := ?_) rfl (by kernel_rfl) (by kernel_rfl) (by kernel_rfl) (fun _ _ _ h => h) (Or.inl ⟨by kernel_rfl, ?_⟩) (by assumption) ?_
      rotate_left
      · (intro wx hSw; (try dsimp only at hSw); go_simp; try (with_reducible rfl))
      try simp only [Act.put, List.getElem_toArray, List.getElem_cons_succ, List.getElem_cons_zero, List.setIfInBounds_toArray, List.set_cons_zero, List.set_cons_succ]
      refine wpAnyH_ready (rs := [1]) (by kernel_rfl) (by simp) ?_
      refine AllReadyH.cons rfl (fun K hK => ?_) AllReadyH.nil
      go_simp
      (go_at_call 56; refine (toHalf_any A1 B1 n1 c1 m1 d1 D1 E1 N1.out M1.out r1 _ s1 s2 (K1.out.bl (BW.out.trans_ (by repeat' (first | exact Bl.refl _ | with_reducible assumption | with_reducible refine Bl.drew_ ?_ | with_reducible refine Bl.drewN_ ?_ _ | with_reducible refine Bl.alloc_ ?_ _ | with_reducible refine Bl.trans_ ?_ (by assumption) | with_reducible refine Bl.trans_ ?_ (And.left (by assumption)))))) (K2.out.bl (BW.out.trans_ (by repeat' (first | exact Bl.refl _ | with_reducible assumption | with_reducible refine Bl.drew_ ?_ | with_reducible refine Bl.drewN_ ?_ _ | with_reducible refine Bl.alloc_ ?_ _ | with_reducible refine Bl.trans_ ?_ (by assumption) | with_reducible refine Bl.trans_ ?_ (And.left (by assumption))))))).mono ?_; rintro e w3 ⟨g3, h3, rfl, hi3, -, hb3⟩; have HI3 := Lib.hid hi3; clear hi3)
      try (go_wp2_with fail)
      refine hK.out _ _ ?_ (fun hHeld => ?_)
      · (exact HSH.out _ (by repeat' (first | exact Bl.refl _ | with_reducible assumption | with_reducible refine Bl.drew_ ?_ | with_reducible refine Bl.drewN_ ?_ _ | with_reducible refine Bl.alloc_ ?_ _ | with_reducible refine Bl.trans_ ?_ (by assumption) | with_reducible refine Bl.trans_ ?_ (And.left (by assumption)))))
      clear hK K
      try simp only [Act.put, List.getElem_toArray, List.getElem_cons_succ, List.getElem_cons_zero, List.setIfInBounds_toArray, List.set_cons_zero, List.set_cons_succ]
      refine wpAnyH_ready (rs := [3]) (by kernel_rfl) (by simp) ?_
      refine AllReadyH.cons rfl (fun K hK => ?_) AllReadyH.nil
      go_simp
      (go_at_call 56; refine (toHalf_any A2 B2 n2 c2 m2 d2 D2 E2 N2.out M2.out r2 _ s3 s4 (K3.out.bl (BW.out.trans_ (by repeat' (first | exact Bl.refl _ | with_reducible assumption | with_reducible refine Bl.drew_ ?_ | with_reducible refine Bl.drewN_ ?_ _ | with_reducible refine Bl.alloc_ ?_ _ | with_reducible refine Bl.trans_ ?_ (by assumption) | with_reducible refine Bl.trans_ ?_ (And.left (by assumption)))))) (K4.out.bl (BW.out.trans_ (by repeat' (first | exact Bl.refl _ | with_reducible assumption | with_reducible refine Bl.drew_ ?_ | with_reducible refine Bl.drewN_ ?_ _ | with_reducible refine Bl.alloc_ ?_ _ | with_reducible refine Bl.trans_ ?_ (by assumption) | with_reducible refine Bl.trans_ ?_ (And.left (by assumption))))))).mono ?_; rintro e w4 ⟨g4, h4, rfl, hi4, -, hb4⟩; have HI4 := Lib.hid hi4; clear hi4)
      try (go_wp2_with fail)
      refine hK.out _ _ ?_ (fun hHeld => ?_)
      · (exact HSH.out _ (by repeat' (first | exact Bl.refl _ | with_reducible assumption | with_reducible refine Bl.drew_ ?_ | with_reducible refine Bl.drewN_ ?_ _ | with_reducible refine Bl.alloc_ ?_ _ | with_reducible refine Bl.trans_ ?_ (by assumption) | with_reducible refine Bl.trans_ ?_ (And.left (by assumption)))))
      clear hK K
      try simp only [Act.put, List.getElem_toArray, List.getElem_cons_succ, List.getElem_cons_zero, List.setIfInBounds_toArray, List.set_cons_zero, List.set_cons_succ]
      refine wpAnyH_ready (rs := [4]) (by kernel_rfl) (by simp) ?_
      refine AllReadyH.cons rfl (fun K hK => ?_) AllReadyH.nil
      go_simp
      (go_at_call 55; refine (specMeet_any _ _ n1 n1 n2 n2 D1 D2 N1.out N2.out _ _ _ _ _ b1 b3 (HI3.out.bl (by repeat' (first | exact Bl.refl _ | with_reducible assumption | with_reducible refine Bl.drew_ ?_ | with_reducible refine Bl.drewN_ ?_ _ | with_reducible refine Bl.alloc_ ?_ _ | with_reducible refine Bl.trans_ ?_ (by assumption) | with_reducible refine Bl.trans_ ?_ (And.left (by assumption))))) HI4.out).mono ?_; rintro e w5 ⟨rfl, hb5⟩)
      try (go_wp2_with fail)
      refine hK.out _ _ ?_ (fun hHeld => ?_)
      · (exact HSH.out _ (by repeat' (first | exact Bl.refl _ | with_reducible assumption | with_reducible refine Bl.drew_ ?_ | with_reducible refine Bl.drewN_ ?_ _ | with_reducible refine Bl.alloc_ ?_ _ | with_reducible refine Bl.trans_ ?_ (by assumption) | with_reducible refine Bl.trans_ ?_ (And.left (by assumption)))))
      clear hK K
      try simp only [Act.put, List.getElem_toArray, List.getElem_cons_succ, List.getElem_cons_zero, List.setIfInBounds_toArray, List.set_cons_zero, List.set_cons_succ]
      refine wpAnyH_take (i := 5) (v := ?_) rfl (by kernel_rfl) (by kernel_rfl) (by kernel_rfl) (fun _ _ _ h => h) (Or.inl ⟨by kernel_rfl, ?_⟩) (by assumption) ?_
      rotate_left
      · (intro wx hSw; (try dsimp only at hSw); go_simp; try (with_reducible rfl))
      try simp only [Act.put, List.getElem_toArray, List.getElem_cons_succ, List.getElem_cons_zero, List.setIfInBounds_toArray, List.set_cons_zero, List.set_cons_succ]
      refine wpAnyH_take (i := 6) (v := ?_) rfl (by kernel_rfl) (by kernel_rfl) (by kernel_rfl) (fun _ _ _ h => h) (Or.inl ⟨by kernel_rfl, ?_⟩) (by assumption) ?_
      rotate_left
      · (intro wx hSw; (try dsimp only at hSw); go_simp; try (with_reducible rfl))
      try simp only [Act.put, List.getElem_toArray, List.getElem_cons_succ, List.getElem_cons_zero, List.setIfInBounds_toArray, List.set_cons_zero, List.set_cons_succ]
      refine wpAnyH_take (i := 7) (v := ?_) rfl (by kernel_rfl) (by kernel_rfl) (by kernel_rfl) (fun _ _ _ h => h) (Or.inl ⟨by kernel_rfl, ?_⟩) (by assumption) ?_
      rotate_left
      · (intro wx hSw; (try dsimp only at hSw); go_simp; try (with_reducible rfl))
      try simp only [Act.put, List.getElem_toArray, List.getElem_cons_succ, List.getElem_cons_zero, List.setIfInBounds_toArray, List.set_cons_zero, List.set_cons_succ]
      refine wpAnyH_take (i := 8) (v := ?_) rfl (by kernel_rfl) (by kernel_rfl) (by kernel_rfl) (fun _ _ _ h => h) (Or.inl ⟨by kernel_rfl, ?_⟩) (by assumption) ?_
      rotate_left
      · (intro wx hSw; (try dsimp only at hSw); go_simp; try (with_reducible rfl))
      try simp only [Act.put, List.getElem_toArray, List.getElem_cons_succ, List.getElem_cons_zero, List.setIfInBounds_toArray, List.set_cons_zero, List.set_cons_succ]
      refine wpAnyH_take (i := 9) (v := ?_) rfl (by kernel_rfl) (by kernel_rfl) (by kernel_rfl) (fun _ _ _ h => h) (Or.inl ⟨by kernel_rfl, ?_⟩) (by assumption) ?_
      rotate_left
      · (intro wx hSw; (try dsimp only at hSw); go_simp; try (with_reducible rfl))
      try simp only [Act.put, List.getElem_toArray, List.getElem_cons_succ, List.getElem_cons_zero, List.setIfInBounds_toArray, List.set_cons_zero, List.set_cons_succ]
      refine wpAnyH_done (by kernel_rfl) ?_ _
      have P5 := Lib.hid (show Bl w2 w5 from (by repeat' (first | exact Bl.refl _ | with_reducible assumption | with_reducible refine Bl.drew_ ?_ | with_reducible refine Bl.drewN_ ?_ _ | with_reducible refine Bl.alloc_ ?_ _ | with_reducible refine Bl.trans_ ?_ (by assumption) | with_reducible refine Bl.trans_ ?_ (And.left (by assumption)))))
      have B5 := Lib.hid (BW.out.trans_ P5.out)
      clear hHeld hb3 hb4 hb5
      obtain ⟨-, a0, a1, a2, z0, z1, z2⟩ := HSH.out _ P5.out
      go_wp2_with fail
      refine (toHalf_any A1 B1 n1 c1 m1 d1 D1 E1 N1.out M1.out r1 _ s1 s2 (K1.out.bl B5.out) (K2.out.bl B5.out)).mono ?_
      rintro e w6 ⟨g6, h6, rfl, hi6, hj6, hb6⟩
      have HI6 := Lib.hid (hi6.bl (Bl.alloc_ (Bl.refl w6) (.cells #[.slice (some ⟨g6, 0, none⟩) n1 n1, .slice (some ⟨h6, 0, none⟩) m1 m1, .int .i64 r1] 63)))
      have HJ6 := Lib.hid (hj6.bl (Bl.alloc_ (Bl.refl w6) (.cells #[.slice (some ⟨g6, 0, none⟩) n1 n1, .slice (some ⟨h6, 0, none⟩) m1 m1, .int .i64 r1] 63)))
      have P6 := Lib.hid (P5.out.trans_ (hb6.trans_ (Bl.alloc_ (Bl.refl w6) (.cells #[.slice (some ⟨g6, 0, none⟩) n1 n1, .slice (some ⟨h6, 0, none⟩) m1 m1, .int .i64 r1] 63))))
      have B6 := Lib.hid (BW.out.trans_ P6.out)
      clear hi6 hj6 hb6 a0 a1 a2 z0 z1 z2
      obtain ⟨-, a0, a1, a2, z0, z1, z2⟩ := HSH.out _ P6.out
      go_wp2_with fail
      refine (toHalf_any A2 B2 n2 c2 m2 d2 D2 E2 N2.out M2.out r2 _ s3 s4 (K3.out.bl B6.out) (K4.out.bl B6.out)).mono ?_
      rintro e w7 ⟨g7, h7, rfl, hi7, hj7, hb7⟩
      have X7 := Lib.hid hb7
      have HI7 := Lib.hid (hi7.bl (Bl.alloc_ (Bl.refl w7) (.cells #[.slice (some ⟨g7, 0, none⟩) n2 n2, .slice (some ⟨h7, 0, none⟩) m2 m2, .int .i64 r2] 63)))
      have HJ7 := Lib.hid (hj7.bl (Bl.alloc_ (Bl.refl w7) (.cells #[.slice (some ⟨g7, 0, none⟩) n2 n2, .slice (some ⟨h7, 0, none⟩) m2 m2, .int .i64 r2] 63)))
      have Y7 := Lib.hid (hb7.trans_ (Bl.alloc_ (Bl.refl w7) (.cells #[.slice (some ⟨g7, 0, none⟩) n2 n2, .slice (some ⟨h7, 0, none⟩) m2 m2, .int .i64 r2] 63)))
      have P7 := Lib.hid (P6.out.trans_ Y7.out)
      have B7 := Lib.hid (BW.out.trans_ P7.out)
      obtain ⟨x0, x1, x2⟩ := box3 hb7
      have l7 : w6.heap.size < w7.heap.size := by have := hb7.size; simp at this; omega
      clear hi7 hj7 hb7 a0 a1 a2 z0 z1 z2
      go_wp2_with fail
      refine (implMeet_any _ _ n1 n1 n2 n2 D1 D2 N1.out N2.out _ _ _ _ _ b1 b3 (HI6.out.bl Y7.out) HI7.out).mono ?_
      rintro e w8 ⟨rfl, hb8⟩
      have Z8 := Lib.hid hb8
      have P8 := Lib.hid (P7.out.trans_ hb8)
      have B8 := Lib.hid (BW.out.trans_ P8.out)
      have hne1 : ((meetP D1 D2).1 != (meetP D1 D2).1) = false := by simp
      have hne2 : ((meetP D1 D2).2 != (meetP D1 D2).2) = false := by simp
      have HS8 := Lib.hid (show ∀ wx, Bl w8 wx → Bl w8 wx ∧ wx.cell? ⟨w.heap.size, 0, none⟩ = some (.slice A1 n1 c1) ∧ wx.cell? ⟨w.heap.size, 1, none⟩ = some (.slice B1 m1 d1) ∧ wx.cell? ⟨w.heap.size, 2, none⟩ = some (.int .i64 r1) ∧ wx.cell? ⟨w6.heap.size, 0, none⟩ = some (.slice (some ⟨g6, 0, none⟩) n1 n1) ∧ wx.cell? ⟨w6.heap.size, 1, none⟩ = some (.slice (some ⟨h6, 0, none⟩) m1 m1) ∧ wx.cell? ⟨w6.heap.size, 2, none⟩ = some (.int .i64 r1) from fun wx hb => by
        obtain ⟨-, a0, a1, a2, -, -, -⟩ := HSH.out _ (P8.out.trans_ hb)
        obtain ⟨y0, y1, y2⟩ := box3 (Y7.out.trans_ (Z8.out.trans_ hb))
        exact ⟨hb, a0, a1, a2, y0, y1, y2⟩)
      clear hb8 x0 x1 x2
      go_wp2_with fail
      refine wp_region_held_drew (S := fun wx => Bl w8 wx ∧ wx.cell? ⟨w.heap.size, 0, none⟩ = some (.slice A1 n1 c1) ∧ wx.cell? ⟨w.heap.size, 1, none⟩ = some (.slice B1 m1 d1) ∧ wx.cell? ⟨w.heap.size, 2, none⟩ = some (.int .i64 r1) ∧ wx.cell? ⟨w6.heap.size, 0, none⟩ = some (.slice (some ⟨g6, 0, none⟩) n1 n1) ∧ wx.cell? ⟨w6.heap.size, 1, none⟩ = some (.slice (some ⟨h6, 0, none⟩) m1 m1) ∧ wx.cell? ⟨w6.heap.size, 2, none⟩ = some (.int .i64 r1)) (by kernel_rfl) ?_ (fun hHeld => ?_)
      · (exact HS8.out _ (by repeat' (first | exact Bl.refl _ | with_reducible assumption | with_reducible refine Bl.drew_ ?_ | with_reducible refine Bl.drewN_ ?_ _ | with_reducible refine Bl.alloc_ ?_ _ | with_reducible refine Bl.trans_ ?_ (by assumption) | with_reducible refine Bl.trans_ ?_ (And.left (by assumption)))))
      refine wpAnyH_take (i := 0) (v := ?_) rfl (by kernel_rfl) (by kernel_rfl) (by kernel_rfl) (fun _ _ _ h => h) (Or.inl ⟨by kernel_rfl, ?_⟩) (by assumption) ?_
      rotate_left
      · (intro wx hSw; (try dsimp only at hSw); go_simp; try (with_reducible rfl))
      try simp only [Act.put, List.getElem_toArray, List.getElem_cons_succ, List.getElem_cons_zero, List.setIfInBounds_toArray, List.set_cons_zero, List.set_cons_succ]
      refine wpAnyH_take (i := 1) (v := ?_) rfl (by kernel_rfl) (by kernel_rfl) (by kernel_rfl) (fun _ _ _ h => h) (Or.inl ⟨by kernel_rfl, ?_⟩) (by assumption) ?_
      rotate_left
      · (intro wx hSw; (try dsimp only at hSw); go_simp; try (with_reducible rfl))
      try simp only [Act.put, List.getElem_toArray, List.getElem_cons_succ, List.getElem_cons_zero, List.setIfInBounds_toArray, List.set_cons_zero, List.set_cons_succ]
      refine wpAnyH_ready (rs := [2]) (by kernel_rfl) (by simp) ?_
      refine AllReadyH.cons rfl (fun K hK => ?_) AllReadyH.nil
      go_simp
      (go_at_call 56; refine (toHalf_any A1 B1 n1 c1 m1 d1 D1 E1 N1.out M1.out r1 _ s1 s2 (K1.out.bl (B8.out.trans_ (by repeat' (first | exact Bl.refl _ | with_reducible assumption | with_reducible refine Bl.drew_ ?_ | with_reducible refine Bl.drewN_ ?_ _ | with_reducible refine Bl.alloc_ ?_ _ | with_reducible refine Bl.trans_ ?_ (by assumption) | with_reducible refine Bl.trans_ ?_ (And.left (by assumption)))))) (K2.out.bl (B8.out.trans_ (by repeat' (first | exact Bl.refl _ | with_reducible assumption | with_reducible refine Bl.drew_ ?_ | with_reducible refine Bl.drewN_ ?_ _ | with_reducible refine Bl.alloc_ ?_ _ | with_reducible refine Bl.trans_ ?_ (by assumption) | with_reducible refine Bl.trans_ ?_ (And.left (by assumption))))))).mono ?_; rintro e w9 ⟨g9, h9, rfl, hi9, hj9, hb9⟩; have HI9 := Lib.hid hi9; have HJ9 := Lib.hid hj9; clear hi9 hj9)
      try (go_wp2_with fail)
      refine hK.out _ _ ?_ (fun hHeld => ?_)
      · (exact HS8.out _ (by repeat' (first | exact Bl.refl _ | with_reducible assumption | with_reducible refine Bl.drew_ ?_ | with_reducible refine Bl.drewN_ ?_ _ | with_reducible refine Bl.alloc_ ?_ _ | with_reducible refine Bl.trans_ ?_ (by assumption) | with_reducible refine Bl.trans_ ?_ (And.left (by assumption)))))
      clear hK K
      try simp only [Act.put, List.getElem_toArray, List.getElem_cons_succ, List.getElem_cons_zero, List.setIfInBounds_toArray, List.set_cons_zero, List.set_cons_succ]
      refine wpAnyH_ready (rs := [3]) (by kernel_rfl) (by simp) ?_
      refine AllReadyH.cons rfl (fun K hK => ?_) AllReadyH.nil
      go_simp
      (go_at_call 48; refine (eqHalf_yes _ _ _ _ n1 n1 n1 m1 m1 m1 D1 E1 N1.out M1.out r1 _ b1 b2 (HI6.out.bl (Y7.out.trans_ (Z8.out.trans_ (by repeat' (first | exact Bl.refl _ | with_reducible assumption | with_reducible refine Bl.drew_ ?_ | with_reducible refine Bl.drewN_ ?_ _ | with_reducible refine Bl.alloc_ ?_ _ | with_reducible refine Bl.trans_ ?_ (by assumption) | with_reducible refine Bl.trans_ ?_ (And.left (by assumption))))))) (HJ6.out.bl (Y7.out.trans_ (Z8.out.trans_ (by repeat' (first | exact Bl.refl _ | with_reducible assumption | with_reducible refine Bl.drew_ ?_ | with_reducible refine Bl.drewN_ ?_ _ | with_reducible refine Bl.alloc_ ?_ _ | with_reducible refine Bl.trans_ ?_ (by assumption) | with_reducible refine Bl.trans_ ?_ (And.left (by assumption))))))) HI9.out HJ9.out).mono ?_; rintro e w10 ⟨rfl, hb10⟩)
      try (go_wp2_with fail)
      refine hK.out _ _ ?_ (fun hHeld => ?_)
      · (exact HS8.out _ (by repeat' (first | exact Bl.refl _ | with_reducible assumption | with_reducible refine Bl.drew_ ?_ | with_reducible refine Bl.drewN_ ?_ _ | with_reducible refine Bl.alloc_ ?_ _ | with_reducible refine Bl.trans_ ?_ (by assumption) | with_reducible refine Bl.trans_ ?_ (And.left (by assumption)))))
      clear hK K
      try simp only [Act.put, List.getElem_toArray, List.getElem_cons_succ, List.getElem_cons_zero, List.setIfInBounds_toArray, List.set_cons_zero, List.set_cons_succ]
      refine wpAnyH_take (i := 4) (v := ?_) rfl (by kernel_rfl) (by kernel_rfl) (by kernel_rfl) (fun _ _ _ h => h) (Or.inl ⟨by kernel_rfl, ?_⟩) (by assumption) ?_
      rotate_left
      · (intro wx hSw; (try dsimp only at hSw); go_simp; try (with_reducible rfl))
      try simp only [Act.put, List.getElem_toArray, List.getElem_cons_succ, List.getElem_cons_zero, List.setIfInBounds_toArray, List.set_cons_zero, List.set_cons_succ]
      refine wpAnyH_done (by kernel_rfl) ?_ _
      have P10 := Lib.hid (show Bl w8 w10 from (by repeat' (first | exact Bl.refl _ | with_reducible assumption | with_reducible refine Bl.drew_ ?_ | with_reducible refine Bl.drewN_ ?_ _ | with_reducible refine Bl.alloc_ ?_ _ | with_reducible refine Bl.trans_ ?_ (by assumption) | with_reducible refine Bl.trans_ ?_ (And.left (by assumption)))))
      clear hHeld hb9 hb10
      have HS10 := Lib.hid (show ∀ wx, Bl w10 wx → Bl w10 wx ∧ wx.cell? ⟨w.heap.size + 1, 0, none⟩ = some (.slice A2 n2 c2) ∧ wx.cell? ⟨w.heap.size + 1, 1, none⟩ = some (.slice B2 m2 d2) ∧ wx.cell? ⟨w.heap.size + 1, 2, none⟩ = some (.int .i64 r2) ∧ wx.cell? ⟨w7.heap.size, 0, none⟩ = some (.slice (some ⟨g7, 0, none⟩) n2 n2) ∧ wx.cell? ⟨w7.heap.size, 1, none⟩ = some (.slice (some ⟨h7, 0, none⟩) m2 m2) ∧ wx.cell? ⟨w7.heap.size, 2, none⟩ = some (.int .i64 r2) from fun wx hb => by
        obtain ⟨-, -, -, -, a0, a1, a2⟩ := HSH.out _ (P8.out.trans_ (P10.out.trans_ hb))
        obtain ⟨y0, y1, y2⟩ := box3 (Z8.out.trans_ (P10.out.trans_ hb))
        exact ⟨hb, a0, a1, a2, y0, y1, y2⟩)
      have B10 := Lib.hid (B8.out.trans_ P10.out)
      have Z10 := Lib.hid (Z8.out.trans_ P10.out)
      go_wp2_with fail
      refine wp_region_held_drew (S := fun wx => Bl w10 wx ∧ wx.cell? ⟨w.heap.size + 1, 0, none⟩ = some (.slice A2 n2 c2) ∧ wx.cell? ⟨w.heap.size + 1, 1, none⟩ = some (.slice B2 m2 d2) ∧ wx.cell? ⟨w.heap.size + 1, 2, none⟩ = some (.int .i64 r2) ∧ wx.cell? ⟨w7.heap.size, 0, none⟩ = some (.slice (some ⟨g7, 0, none⟩) n2 n2) ∧ wx.cell? ⟨w7.heap.size, 1, none⟩ = some (.slice (some ⟨h7, 0, none⟩) m2 m2) ∧ wx.cell? ⟨w7.heap.size, 2, none⟩ = some (.int .i64 r2)) (by kernel_rfl) ?_ (fun hHeld => ?_)
      · (exact HS10.out _ (by repeat' (first | exact Bl.refl _ | with_reducible assumption | with_reducible refine Bl.drew_ ?_ | with_reducible refine Bl.drewN_ ?_ _ | with_reducible refine Bl.alloc_ ?_ _ | with_reducible refine Bl.trans_ ?_ (by assumption) | with_reducible refine Bl.trans_ ?_ (And.left (by assumption)))))
      refine wpAnyH_take (i := 0) (v := ?_) rfl (by kernel_rfl) (by kernel_rfl) (by kernel_rfl) (fun _ _ _ h => h) (Or.inl ⟨by kernel_rfl, ?_⟩) (by assumption) ?_
      rotate_left
      · (intro wx hSw; (try dsimp only at hSw); go_simp; try (with_reducible rfl))
      try simp only [Act.put, List.getElem_toArray, List.getElem_cons_succ, List.getElem_cons_zero, List.setIfInBounds_toArray, List.set_cons_zero, List.set_cons_succ]
      refine wpAnyH_take (i := 1) (v := ?_) rfl (by kernel_rfl) (by kernel_rfl) (by kernel_rfl) (fun _ _ _ h => h) (Or.inl ⟨by kernel_rfl, ?_⟩) (by assumption) ?_
      rotate_left
      · (intro wx hSw; (try dsimp only at hSw); go_simp; try (with_reducible rfl))
      try simp only [Act.put, List.getElem_toArray, List.getElem_cons_succ, List.getElem_cons_zero, List.setIfInBounds_toArray, List.set_cons_zero, List.set_cons_succ]
      refine wpAnyH_ready (rs := [2]) (by kernel_rfl) (by simp) ?_
      refine AllReadyH.cons rfl (fun K hK => ?_) AllReadyH.nil
      go_simp
      (go_at_call 56; refine (toHalf_any A2 B2 n2 c2 m2 d2 D2 E2 N2.out M2.out r2 _ s3 s4 (K3.out.bl (B10.out.trans_ (by repeat' (first | exact Bl.refl _ | with_reducible assumption | with_reducible refine Bl.drew_ ?_ | with_reducible refine Bl.drewN_ ?_ _ | with_reducible refine Bl.alloc_ ?_ _ | with_reducible refine Bl.trans_ ?_ (by assumption) | with_reducible refine Bl.trans_ ?_ (And.left (by assumption)))))) (K4.out.bl (B10.out.trans_ (by repeat' (first | exact Bl.refl _ | with_reducible assumption | with_reducible refine Bl.drew_ ?_ | with_reducible refine Bl.drewN_ ?_ _ | with_reducible refine Bl.alloc_ ?_ _ | with_reducible refine Bl.trans_ ?_ (by assumption) | with_reducible refine Bl.trans_ ?_ (And.left (by assumption))))))).mono ?_; rintro e w11 ⟨g11, h11, rfl, hi11, hj11, hb11⟩; have HI11 := Lib.hid hi11; have HJ11 := Lib.hid hj11; clear hi11 hj11)
      try (go_wp2_with fail)
      refine hK.out _ _ ?_ (fun hHeld => ?_)
      · (exact HS10.out _ (by repeat' (first | exact Bl.refl _ | with_reducible assumption | with_reducible refine Bl.drew_ ?_ | with_reducible refine Bl.drewN_ ?_ _ | with_reducible refine Bl.alloc_ ?_ _ | with_reducible refine Bl.trans_ ?_ (by assumption) | with_reducible refine Bl.trans_ ?_ (And.left (by assumption)))))
      clear hK K
      try simp only [Act.put, List.getElem_toArray, List.getElem_cons_succ, List.getElem_cons_zero, List.setIfInBounds_toArray, List.set_cons_zero, List.set_cons_succ]
      refine wpAnyH_ready (rs := [3]) (by kernel_rfl) (by simp) ?_
      refine AllReadyH.cons rfl (fun K hK => ?_) AllReadyH.nil
      go_simp
      (go_at_call 48; refine (eqHalf_yes _ _ _ _ n2 n2 n2 m2 m2 m2 D2 E2 N2.out M2.out r2 _ b3 b4 (HI7.out.bl (Z10.out.trans_ (by repeat' (first | exact Bl.refl _ | with_reducible assumption | with_reducible refine Bl.drew_ ?_ | with_reducible refine Bl.drewN_ ?_ _ | with_reducible refine Bl.alloc_ ?_ _ | with_reducible refine Bl.trans_ ?_ (by assumption) | with_reducible refine Bl.trans_ ?_ (And.left (by assumption)))))) (HJ7.out.bl (Z10.out.trans_ (by repeat' (first | exact Bl.refl _ | with_reducible assumption | with_reducible refine Bl.drew_ ?_ | with_reducible refine Bl.drewN_ ?_ _ | with_reducible refine Bl.alloc_ ?_ _ | with_reducible refine Bl.trans_ ?_ (by assumption) | with_reducible refine Bl.trans_ ?_ (And.left (by assumption)))))) HI11.out HJ11.out).mono ?_; rintro e w12 ⟨rfl, hb12⟩)
      try (go_wp2_with fail)
      refine hK.out _ _ ?_ (fun hHeld => ?_)
      · (exact HS10.out _ (by repeat' (first | exact Bl.refl _ | with_reducible assumption | with_reducible refine Bl.drew_ ?_ | with_reducible refine Bl.drewN_ ?_ _ | with_reducible refine Bl.alloc_ ?_ _ | with_reducible refine Bl.trans_ ?_ (by assumption) | with_reducible refine Bl.trans_ ?_ (And.left (by assumption)))))
      clear hK K
      try simp only [Act.put, List.getElem_toArray, List.getElem_cons_succ, List.getElem_cons_zero, List.setIfInBounds_toArray, List.set_cons_zero, List.set_cons_succ]
      refine wpAnyH_take (i := 4) (v := ?_) rfl (by kernel_rfl) (by kernel_rfl) (by kernel_rfl) (fun _ _ _ h => h) (Or.inl ⟨by kernel_rfl, ?_⟩) (by assumption) ?_
      rotate_left
      · (intro wx hSw; (try dsimp only at hSw); go_simp; try (with_reducible rfl))
      try simp only [Act.put, List.getElem_toArray, List.getElem_cons_succ, List.getElem_cons_zero, List.setIfInBounds_toArray, List.set_cons_zero, List.set_cons_succ]
      refine wpAnyH_done (by kernel_rfl) ?_ _
      go_wp2
      go_ret
      exact ⟨rfl, B10.out.trans_ (by repeat' (first | exact Bl.refl _ | with_reducible assumption | with_reducible refine Bl.drew_ ?_ | with_reducible refine Bl.drewN_ ?_ _ | with_reducible refine Bl.alloc_ ?_ _ | with_reducible refine Bl.trans_ ?_ (by assumption) | with_reducible refine Bl.trans_ ?_ (And.left (by assumption))))⟩

end Go.Proofs.Ytmdmbobjdhjadaa
