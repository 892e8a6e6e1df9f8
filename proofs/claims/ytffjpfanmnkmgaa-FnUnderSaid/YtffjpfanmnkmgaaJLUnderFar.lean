/-
  What is proved here: the walk of the law on what is under a node: at every code it returns true, and leaves what was there as it was. No conditions beyond those that each theorem states.
-/
import Derived.Test.YtffjpfanmnkmgaaJG14
import Derived.Test.YtffjpfanmnkmgaaJG15
import Derived.Test.YtffjpfanmnkmgaaJG16
import Derived.Test.YtffjpfanmnkmgaaJHL
set_option linter.unusedSimpArgs false
set_option linter.unusedVariables false
namespace Go.Proofs.Ytffjpfanmnkmgaa
open Go.RowKit

set_option maxRecDepth 100000 in
set_option maxHeartbeats 3000000 in
theorem lawUnderFar_any (A : Option Addr) (n c : Nat) (w : World) (H : BytesAt w A n) :
    Calls Try.prog 6 #[.slice A n c] w fun e w' => e = .returned (.bool true) ∧ Bl w w' := by
  have K := Lib.hid H
  clear H
  by_cases hbig : (1048576 : Int) < (n : Int)
  · have hb : decide ((1048576 : Int) < (n : Int)) = true := by simpa using hbig
    clear hbig
    go_enter Try.func6, Try.ntmps6
    go_wp2_with (go_at_call 24; refine (big_any _ _ _ _).mono ?_; rintro e w' ⟨rfl, rfl⟩)
    go_ret
    exact ⟨rfl, (by repeat' (first | exact Bl.refl _ | with_reducible assumption | with_reducible refine Bl.drew_ ?_ | with_reducible refine Bl.drewN_ ?_ _ | with_reducible refine Bl.alloc_ ?_ _ | with_reducible refine Bl.trans_ ?_ (by assumption) | with_reducible refine Bl.trans_ ?_ (And.left (by assumption))))⟩
  · have hb : decide ((1048576 : Int) < (n : Int)) = false := by simpa using hbig
    have hn : n ≤ 1099511627776 := by omega
    clear hbig
    go_enter Try.func6, Try.ntmps6
    go_wp2_with fail
    refine (big_any _ _ _ _).mono ?_
    rintro e w1 ⟨rfl, rfl⟩
    go_wp2_with fail
    refine (drawUnder_any A n c _ hn K.out).mono ?_
    rintro e w1 ⟨R, A3, k, c3, U, v, rfl, hk, hk20, ho, hv, hb1⟩
    obtain ⟨A3', c3', ev, -, hi3, -, -⟩ := OwnN.shape ho
    injection ev with e1 e2 e3
    subst e1 e3
    have HK := Lib.hid hk
    obtain ⟨X, hX⟩ : ∃ X, X = w1.alloc (.cells #[.int .i64 R, .slice A3 k c3] 27) := ⟨_, rfl⟩
    have BX := Lib.hid (show Bl w1 X from by rw [hX]; exact Bl.alloc_ (Bl.refl w1) _)
    have HU := Lib.hid (hi3.bl BX.out)
    have B1 := Lib.hid (hb1.trans_ BX.out)
    have BXX := Lib.hid (show ∀ wx, Bl X wx → wx.cell? ⟨w1.heap.size, 0, none⟩ = some (.int .i64 R) ∧ wx.cell? ⟨w1.heap.size, 1, none⟩ = some (.slice A3 k c3) from fun wx hb => by rw [hX] at hb; exact box2 hb)
    clear ho hb1 hi3 e2 hk
    go_wp2_with fail
    rw [← hX]
    clear hX
    refine (implUnder_any R v A3 k c3 U HK.out _ hk20 HU.out).mono ?_
    rintro e w2 ⟨v2, rfl, hv2, hb2⟩
    obtain ⟨A2, c2, rfl, -, hi2, -, -⟩ := OwnN.shape hv2
    obtain ⟨P, hP⟩ : ∃ P, P = underU U R v := ⟨_, rfl⟩
    have hp20 : P.length ≤ 1048576 := by rw [hP]; exact underU_len U R v
    have HP := Lib.hid hP
    rw [← hP] at hi2 ⊢
    obtain ⟨kp, hkp⟩ : ∃ kp, kp = P.length := ⟨_, rfl⟩
    rw [← hkp] at hp20 ⊢
    have HKP := Lib.hid hkp
    have IP := Lib.hid hi2
    have P2 := Lib.hid hb2
    clear hv2 hi2 hP hkp hb2
    go_wp2_with fail
    refine (drawPathIn_any A n c _ hn (K.out.bl (B1.out.trans_ P2.out))).mono ?_
    rintro e w3 ⟨R2, A4, k2, c4, U2, y, rfl, hk2, hk22, ho2, hy, hb3⟩
    obtain ⟨A4', c4', ev, -, hi4, -, -⟩ := OwnN.shape ho2
    injection ev with e1 e2 e3
    subst e1 e3
    have HK2 := Lib.hid hk2
    obtain ⟨Y, hY⟩ : ∃ Y, Y = w3.alloc (.cells #[.int .i64 R2, .slice A4 k2 c4] 27) := ⟨_, rfl⟩
    have BY := Lib.hid (show Bl w3 Y from by rw [hY]; exact Bl.alloc_ (Bl.refl w3) _)
    have HU2 := Lib.hid (hi4.bl BY.out)
    have P3 := Lib.hid (P2.out.trans_ (hb3.trans_ BY.out))
    have IP3 := Lib.hid (IP.out.bl (hb3.trans_ BY.out))
    obtain ⟨tb, htb⟩ : ∃ tb, tb = w1.heap.size := ⟨_, rfl⟩
    obtain ⟨xb, hxb⟩ : ∃ xb, xb = w3.heap.size := ⟨_, rfl⟩
    have HSH := Lib.hid (show ∀ wx, Bl Y wx → Bl Y wx ∧ (wx.cell? ⟨tb, 0, none⟩ = some (.int .i64 R) ∧ wx.cell? ⟨tb, 1, none⟩ = some (.slice A3 k c3)) ∧ wx.cell? ⟨xb, 0, none⟩ = some (.int .i64 R2) ∧ wx.cell? ⟨xb, 1, none⟩ = some (.slice A4 k2 c4) from fun wx hbx => by
      subst htb hxb
      exact ⟨hbx, BXX.out wx (P3.out.trans_ hbx), box2 (by rw [hY] at hbx; exact hbx)⟩)
    obtain ⟨Q, hQ⟩ : ∃ Q, Q = pathInU U2 R2 y := ⟨_, rfl⟩
    have hq20 : Q.length ≤ 1048576 := by rw [hQ]; exact pathInU_len U2 R2 y
    have HQ := Lib.hid hQ
    obtain ⟨kq, hkq⟩ : ∃ kq, kq = Q.length := ⟨_, rfl⟩
    rw [← hkq] at hq20
    have HKQ := Lib.hid hkq
    clear ho2 hi4 e2 hk2 hb3 IP hQ hkq hv hy
    go_wp2_with fail
    rw [← hY, ← htb, ← hxb]
    clear hY htb hxb BXX
    obtain ⟨-, ⟨q0, q1⟩, q2, q3⟩ := HSH.out _ (Bl.refl Y)
    refine wp_region_held_drew (S := fun wx => Bl Y wx ∧ (wx.cell? ⟨tb, 0, none⟩ = some (.int .i64 R) ∧ wx.cell? ⟨tb, 1, none⟩ = some (.slice A3 k c3)) ∧ wx.cell? ⟨xb, 0, none⟩ = some (.int .i64 R2) ∧ wx.cell? ⟨xb, 1, none⟩ = some (.slice A4 k2 c4)) (by kernel_rfl) ?_ (fun hHeld => ?_)
    · (exact HSH.out _ (by repeat' (first | exact Bl.refl _ | with_reducible assumption | with_reducible refine Bl.drew_ ?_ | with_reducible refine Bl.drewN_ ?_ _ | with_reducible refine Bl.alloc_ ?_ _ | with_reducible refine Bl.trans_ ?_ (by assumption) | with_reducible refine Bl.trans_ ?_ (And.left (by assumption)))))
    refine wpAnyH_take (i := 0) (v := ?_) rfl (by kernel_rfl) (by kernel_rfl) (by kernel_rfl) (fun _ _ _ h => h) (Or.inl ⟨by kernel_rfl, ?_⟩) (by assumption) ?_
    rotate_left
    · (intro wx hSw; (try dsimp only at hSw); go_simp; try (with_reducible rfl))
    try simp only [Act.put, List.getElem_toArray, List.getElem_cons_succ, List.getElem_cons_zero, List.setIfInBounds_toArray, List.set_cons_zero, List.set_cons_succ]
    refine wpAnyH_take (i := 1) (v := ?_) rfl (by kernel_rfl) (by kernel_rfl) (by kernel_rfl) (fun _ _ _ h => h) (Or.inl ⟨by kernel_rfl, ?_⟩) (by assumption) ?_
    rotate_left
    · (intro wx hSw; (try dsimp only at hSw); go_simp; try (with_reducible rfl))
    try simp only [Act.put, List.getElem_toArray, List.getElem_cons_succ, List.getElem_cons_zero, List.setIfInBounds_toArray, List.set_cons_zero, List.set_cons_succ]
    refine wpAnyH_take (i := 2) (v := ?_) rfl (by kernel_rfl) (by kernel_rfl) (by kernel_rfl) (fun _ _ _ h => h) (Or.inl ⟨by kernel_rfl, ?_⟩) (by assumption) ?_
    rotate_left
    · (intro wx hSw; (try dsimp only at hSw); go_simp; try (with_reducible rfl))
    try simp only [Act.put, List.getElem_toArray, List.getElem_cons_succ, List.getElem_cons_zero, List.setIfInBounds_toArray, List.set_cons_zero, List.set_cons_succ]
    refine wpAnyH_ready (rs := [3]) (by kernel_rfl) (by simp) ?_
    refine AllReadyH.cons rfl (fun K hK => ?_) AllReadyH.nil
    go_simp
    (go_at_call 22; refine (specUnder_any R v A3 k c3 U HK.out _ hk20 (HU.out.bl (P3.out.trans_ (by repeat' (first | exact Bl.refl _ | with_reducible assumption | with_reducible refine Bl.drew_ ?_ | with_reducible refine Bl.drewN_ ?_ _ | with_reducible refine Bl.alloc_ ?_ _ | with_reducible refine Bl.trans_ ?_ (by assumption) | with_reducible refine Bl.trans_ ?_ (And.left (by assumption))))))).mono ?_; rintro e w5 ⟨v5, rfl, hv5, hb5⟩; obtain ⟨A5, c5, rfl, -, hi5, -, -⟩ := OwnN.shape hv5; rw [← HP.out] at hi5 ⊢; rw [← HKP.out]; have I5 := Lib.hid hi5; clear hv5 hi5)
    try (go_wp2_with fail)
    refine hK.out _ _ ?_ (fun hHeld => ?_)
    · (exact HSH.out _ (by repeat' (first | exact Bl.refl _ | with_reducible assumption | with_reducible refine Bl.drew_ ?_ | with_reducible refine Bl.drewN_ ?_ _ | with_reducible refine Bl.alloc_ ?_ _ | with_reducible refine Bl.trans_ ?_ (by assumption) | with_reducible refine Bl.trans_ ?_ (And.left (by assumption)))))
    clear hK K
    try simp only [Act.put, List.getElem_toArray, List.getElem_cons_succ, List.getElem_cons_zero, List.setIfInBounds_toArray, List.set_cons_zero, List.set_cons_succ]
    refine wpAnyH_ready (rs := [4]) (by kernel_rfl) (by simp) ?_
    refine AllReadyH.cons rfl (fun K hK => ?_) AllReadyH.nil
    go_simp
    (go_at_call 36; refine (sameInts_yes A2 A5 c2 c5 P kp HKP.out _ (by omega) (IP3.out.bl ((Bl.refl Y).trans_ (by repeat' (first | exact Bl.refl _ | with_reducible assumption | with_reducible refine Bl.drew_ ?_ | with_reducible refine Bl.drewN_ ?_ _ | with_reducible refine Bl.alloc_ ?_ _ | with_reducible refine Bl.trans_ ?_ (by assumption) | with_reducible refine Bl.trans_ ?_ (And.left (by assumption)))))) (I5.out.bl (by repeat' (first | exact Bl.refl _ | with_reducible assumption | with_reducible refine Bl.drew_ ?_ | with_reducible refine Bl.drewN_ ?_ _ | with_reducible refine Bl.alloc_ ?_ _ | with_reducible refine Bl.trans_ ?_ (by assumption) | with_reducible refine Bl.trans_ ?_ (And.left (by assumption)))))).mono ?_; rintro e w6 ⟨rfl, hb6⟩)
    try (go_wp2_with fail)
    refine hK.out _ _ ?_ (fun hHeld => ?_)
    · (exact HSH.out _ (by repeat' (first | exact Bl.refl _ | with_reducible assumption | with_reducible refine Bl.drew_ ?_ | with_reducible refine Bl.drewN_ ?_ _ | with_reducible refine Bl.alloc_ ?_ _ | with_reducible refine Bl.trans_ ?_ (by assumption) | with_reducible refine Bl.trans_ ?_ (And.left (by assumption)))))
    clear hK K
    try simp only [Act.put, List.getElem_toArray, List.getElem_cons_succ, List.getElem_cons_zero, List.setIfInBounds_toArray, List.set_cons_zero, List.set_cons_succ]
    refine wpAnyH_take (i := 5) (v := ?_) rfl (by kernel_rfl) (by kernel_rfl) (by kernel_rfl) (fun _ _ _ h => h) (Or.inl ⟨by kernel_rfl, ?_⟩) (by assumption) ?_
    rotate_left
    · (intro wx hSw; (try dsimp only at hSw); go_simp; try (with_reducible rfl))
    try simp only [Act.put, List.getElem_toArray, List.getElem_cons_succ, List.getElem_cons_zero, List.setIfInBounds_toArray, List.set_cons_zero, List.set_cons_succ]
    refine wpAnyH_take (i := 6) (v := ?_) rfl (by kernel_rfl) (by kernel_rfl) (by kernel_rfl) (fun _ _ _ h => h) (Or.inl ⟨by kernel_rfl, ?_⟩) (by assumption) ?_
    rotate_left
    · (intro wx hSw; (try dsimp only at hSw); go_simp; try (with_reducible rfl))
    try simp only [Act.put, List.getElem_toArray, List.getElem_cons_succ, List.getElem_cons_zero, List.setIfInBounds_toArray, List.set_cons_zero, List.set_cons_succ]
    refine wpAnyH_take (i := 7) (v := ?_) rfl (by kernel_rfl) (by kernel_rfl) (by kernel_rfl) (fun _ _ _ h => h) (Or.inl ⟨by kernel_rfl, ?_⟩) (by assumption) ?_
    rotate_left
    · (intro wx hSw; (try dsimp only at hSw); go_simp; try (with_reducible rfl))
    try simp only [Act.put, List.getElem_toArray, List.getElem_cons_succ, List.getElem_cons_zero, List.setIfInBounds_toArray, List.set_cons_zero, List.set_cons_succ]
    refine wpAnyH_take (i := 8) (v := ?_) rfl (by kernel_rfl) (by kernel_rfl) (by kernel_rfl) (fun _ _ _ h => h) (Or.inl ⟨by kernel_rfl, ?_⟩) (by assumption) ?_
    rotate_left
    · (intro wx hSw; (try dsimp only at hSw); go_simp; try (with_reducible rfl))
    try simp only [Act.put, List.getElem_toArray, List.getElem_cons_succ, List.getElem_cons_zero, List.setIfInBounds_toArray, List.set_cons_zero, List.set_cons_succ]
    refine wpAnyH_take (i := 10) (v := ?_) rfl (by kernel_rfl) (by kernel_rfl) (by kernel_rfl) (fun _ _ _ h => h) (Or.inl ⟨by kernel_rfl, ?_⟩) (by assumption) ?_
    rotate_left
    · (intro wx hSw; (try dsimp only at hSw); go_simp; try (with_reducible rfl))
    try simp only [Act.put, List.getElem_toArray, List.getElem_cons_succ, List.getElem_cons_zero, List.setIfInBounds_toArray, List.set_cons_zero, List.set_cons_succ]
    refine wpAnyH_take (i := 11) (v := ?_) rfl (by kernel_rfl) (by kernel_rfl) (by kernel_rfl) (fun _ _ _ h => h) (Or.inl ⟨by kernel_rfl, ?_⟩) (by assumption) ?_
    rotate_left
    · (intro wx hSw; (try dsimp only at hSw); go_simp; try (with_reducible rfl))
    try simp only [Act.put, List.getElem_toArray, List.getElem_cons_succ, List.getElem_cons_zero, List.setIfInBounds_toArray, List.set_cons_zero, List.set_cons_succ]
    refine wpAnyH_ready (rs := [9]) (by kernel_rfl) (by simp) ?_
    refine AllReadyH.cons rfl (fun K hK => ?_) AllReadyH.nil
    go_simp
    (go_at_call 16; refine (implPathIn_any R2 y A4 k2 c4 U2 HK2.out _ hk22 (HU2.out.bl ((Bl.refl Y).trans_ (by repeat' (first | exact Bl.refl _ | with_reducible assumption | with_reducible refine Bl.drew_ ?_ | with_reducible refine Bl.drewN_ ?_ _ | with_reducible refine Bl.alloc_ ?_ _ | with_reducible refine Bl.trans_ ?_ (by assumption) | with_reducible refine Bl.trans_ ?_ (And.left (by assumption))))))).mono ?_; rintro e w7 ⟨v7, rfl, hv7, hb7⟩; obtain ⟨A7, c7, rfl, -, hi7, -, -⟩ := OwnN.shape hv7; rw [← HQ.out] at hi7 ⊢; rw [← HKQ.out]; have I7 := Lib.hid hi7; clear hv7 hi7)
    try (go_wp2_with fail)
    refine hK.out _ _ ?_ (fun hHeld => ?_)
    · (exact HSH.out _ (by repeat' (first | exact Bl.refl _ | with_reducible assumption | with_reducible refine Bl.drew_ ?_ | with_reducible refine Bl.drewN_ ?_ _ | with_reducible refine Bl.alloc_ ?_ _ | with_reducible refine Bl.trans_ ?_ (by assumption) | with_reducible refine Bl.trans_ ?_ (And.left (by assumption)))))
    clear hK K
    try simp only [Act.put, List.getElem_toArray, List.getElem_cons_succ, List.getElem_cons_zero, List.setIfInBounds_toArray, List.set_cons_zero, List.set_cons_succ]
    refine wpAnyH_ready (rs := [12]) (by kernel_rfl) (by simp) ?_
    refine AllReadyH.cons rfl (fun K hK => ?_) AllReadyH.nil
    go_simp
    (go_at_call 14; refine (specPathIn_any R2 y A4 k2 c4 U2 HK2.out _ hk22 (HU2.out.bl ((Bl.refl Y).trans_ (by repeat' (first | exact Bl.refl _ | with_reducible assumption | with_reducible refine Bl.drew_ ?_ | with_reducible refine Bl.drewN_ ?_ _ | with_reducible refine Bl.alloc_ ?_ _ | with_reducible refine Bl.trans_ ?_ (by assumption) | with_reducible refine Bl.trans_ ?_ (And.left (by assumption))))))).mono ?_; rintro e w8 ⟨v8, rfl, hv8, hb8⟩; obtain ⟨A8, c8, rfl, -, hi8, -, -⟩ := OwnN.shape hv8; rw [← HQ.out] at hi8 ⊢; rw [← HKQ.out]; have I8 := Lib.hid hi8; clear hv8 hi8)
    try (go_wp2_with fail)
    refine hK.out _ _ ?_ (fun hHeld => ?_)
    · (exact HSH.out _ (by repeat' (first | exact Bl.refl _ | with_reducible assumption | with_reducible refine Bl.drew_ ?_ | with_reducible refine Bl.drewN_ ?_ _ | with_reducible refine Bl.alloc_ ?_ _ | with_reducible refine Bl.trans_ ?_ (by assumption) | with_reducible refine Bl.trans_ ?_ (And.left (by assumption)))))
    clear hK K
    try simp only [Act.put, List.getElem_toArray, List.getElem_cons_succ, List.getElem_cons_zero, List.setIfInBounds_toArray, List.set_cons_zero, List.set_cons_succ]
    refine wpAnyH_ready (rs := [13]) (by kernel_rfl) (by simp) ?_
    refine AllReadyH.cons rfl (fun K hK => ?_) AllReadyH.nil
    go_simp
    (go_at_call 36; refine (sameInts_yes A7 A8 c7 c8 Q kq HKQ.out _ (by omega) (I7.out.bl (by repeat' (first | exact Bl.refl _ | with_reducible assumption | with_reducible refine Bl.drew_ ?_ | with_reducible refine Bl.drewN_ ?_ _ | with_reducible refine Bl.alloc_ ?_ _ | with_reducible refine Bl.trans_ ?_ (by assumption) | with_reducible refine Bl.trans_ ?_ (And.left (by assumption))))) (I8.out.bl (by repeat' (first | exact Bl.refl _ | with_reducible assumption | with_reducible refine Bl.drew_ ?_ | with_reducible refine Bl.drewN_ ?_ _ | with_reducible refine Bl.alloc_ ?_ _ | with_reducible refine Bl.trans_ ?_ (by assumption) | with_reducible refine Bl.trans_ ?_ (And.left (by assumption)))))).mono ?_; rintro e w9 ⟨rfl, hb9⟩)
    try (go_wp2_with fail)
    refine hK.out _ _ ?_ (fun hHeld => ?_)
    · (exact HSH.out _ (by repeat' (first | exact Bl.refl _ | with_reducible assumption | with_reducible refine Bl.drew_ ?_ | with_reducible refine Bl.drewN_ ?_ _ | with_reducible refine Bl.alloc_ ?_ _ | with_reducible refine Bl.trans_ ?_ (by assumption) | with_reducible refine Bl.trans_ ?_ (And.left (by assumption)))))
    clear hK K
    try simp only [Act.put, List.getElem_toArray, List.getElem_cons_succ, List.getElem_cons_zero, List.setIfInBounds_toArray, List.set_cons_zero, List.set_cons_succ]
    refine wpAnyH_take (i := 14) (v := ?_) rfl (by kernel_rfl) (by kernel_rfl) (by kernel_rfl) (fun _ _ _ h => h) (Or.inl ⟨by kernel_rfl, ?_⟩) (by assumption) ?_
    rotate_left
    · (intro wx hSw; (try dsimp only at hSw); go_simp; try (with_reducible rfl))
    try simp only [Act.put, List.getElem_toArray, List.getElem_cons_succ, List.getElem_cons_zero, List.setIfInBounds_toArray, List.set_cons_zero, List.set_cons_succ]
    refine wpAnyH_take (i := 15) (v := ?_) rfl (by kernel_rfl) (by kernel_rfl) (by kernel_rfl) (fun _ _ _ h => h) (Or.inl ⟨by kernel_rfl, ?_⟩) (by assumption) ?_
    rotate_left
    · (intro wx hSw; (try dsimp only at hSw); go_simp; try (with_reducible rfl))
    try simp only [Act.put, List.getElem_toArray, List.getElem_cons_succ, List.getElem_cons_zero, List.setIfInBounds_toArray, List.set_cons_zero, List.set_cons_succ]
    refine wpAnyH_done (by kernel_rfl) ?_ _
    have B9 := Lib.hid (show Bl Y w9 from (by repeat' (first | exact Bl.refl _ | with_reducible assumption | with_reducible refine Bl.drew_ ?_ | with_reducible refine Bl.drewN_ ?_ _ | with_reducible refine Bl.alloc_ ?_ _ | with_reducible refine Bl.trans_ ?_ (by assumption) | with_reducible refine Bl.trans_ ?_ (And.left (by assumption)))))
    have P9 := Lib.hid (P3.out.trans_ B9.out)
    have IP9 := Lib.hid (IP3.out.bl B9.out)
    have HSH2 := Lib.hid (show ∀ wx, Bl w9 wx → Bl w9 wx ∧ wx.cell? ⟨tb, 0, none⟩ = some (.int .i64 R) ∧ wx.cell? ⟨tb, 1, none⟩ = some (.slice A3 k c3) from fun wx hb => ⟨hb, (HSH.out wx (B9.out.trans_ hb)).2.1⟩)
    clear q0 q1 q2 q3 HSH I5 I7 I8 hb5 hb6 hb7 hb8 hb9 hHeld
    go_wp2_with fail
    go_loopw [8] (fun iv wr => ∃ u : Nat, u ≤ k ∧ iv = .int .i64 (u : Int) ∧ Bl w9 wr) (fun iv _ => k - (intOf iv).toNat)
    case atStart => exact ⟨0, by omega, rfl, Bl.refl _⟩
    case round =>
      obtain ⟨u, hu, rfl, hbl⟩ := hrel
      have BB := Lib.hid hbl
      obtain ⟨-, q0, q1⟩ := HSH2.out _ hbl
      clear hbl
      by_cases huk : u < k
      · by_cases hkp0 : 0 < kp
        · have u0 : (0 : Int) ≤ (u : Int) := by omega
          have u1 : (u : Int) < (k : Int) := by omega
          have d0 : decide ((0 : Int) < (kp : Int)) = true := by simpa using hkp0
          have UH := Lib.hid (show decide ((u : Int) ∈ P) = decide (v ∈ pathInU U R (u : Int)) from by
            rw [HP.out]
            exact under_has (by rw [← HP.out, ← HKP.out]; exact hkp0) (by have := HK.out; omega))
          obtain ⟨Z, hZ⟩ : ∃ Z, Z = pathInU U R (u : Int) := ⟨_, rfl⟩
          have hz20 : Z.length ≤ 1048576 := by rw [hZ]; exact pathInU_len U R u
          rw [← hZ] at UH
          have HZ := Lib.hid hZ
          obtain ⟨kz, hkz⟩ : ∃ kz, kz = Z.length := ⟨_, rfl⟩
          rw [← hkz] at hz20
          have HKZ := Lib.hid hkz
          obtain ⟨b, hbb⟩ : ∃ b, b = decide (v ∈ Z) := ⟨_, rfl⟩
          rw [← hbb] at UH
          have HBB := Lib.hid hbb
          have nb : (b != b) = false := by simp
          have HSH3 := Lib.hid (show ∀ wx, Bl wr wx → Bl wr wx ∧ wx.cell? ⟨tb, 0, none⟩ = some (.int .i64 R) ∧ wx.cell? ⟨tb, 1, none⟩ = some (.slice A3 k c3) from fun wx hb => ⟨hb, (HSH2.out wx (BB.out.trans_ hb)).2⟩)
          clear hZ hkz hbb
          go_wp2_with fail
          refine wp_region_held_drew (S := fun wx => Bl wr wx ∧ wx.cell? ⟨tb, 0, none⟩ = some (.int .i64 R) ∧ wx.cell? ⟨tb, 1, none⟩ = some (.slice A3 k c3)) (by kernel_rfl) ?_ (fun hHeld => ?_)
          · (exact HSH3.out _ (by repeat' (first | exact Bl.refl _ | with_reducible assumption | with_reducible refine Bl.drew_ ?_ | with_reducible refine Bl.drewN_ ?_ _ | with_reducible refine Bl.alloc_ ?_ _ | with_reducible refine Bl.trans_ ?_ (by assumption) | with_reducible refine Bl.trans_ ?_ (And.left (by assumption)))))
          refine wpAnyH_take (i := 0) (v := ?_) rfl (by kernel_rfl) (by kernel_rfl) (by kernel_rfl) (fun _ _ _ h => h) (Or.inl ⟨by kernel_rfl, ?_⟩) (by assumption) ?_
          rotate_left
          · (intro wx hSw; (try dsimp only at hSw); go_simp; try (with_reducible rfl))
          try simp only [Act.put, List.getElem_toArray, List.getElem_cons_succ, List.getElem_cons_zero, List.setIfInBounds_toArray, List.set_cons_zero, List.set_cons_succ]
          refine wpAnyH_take (i := 1) (v := ?_) rfl (by kernel_rfl) (by kernel_rfl) (by kernel_rfl) (fun _ _ _ h => h) (Or.inl ⟨by kernel_rfl, ?_⟩) (by assumption) ?_
          rotate_left
          · (intro wx hSw; (try dsimp only at hSw); go_simp; try (with_reducible rfl))
          try simp only [Act.put, List.getElem_toArray, List.getElem_cons_succ, List.getElem_cons_zero, List.setIfInBounds_toArray, List.set_cons_zero, List.set_cons_succ]
          refine wpAnyH_take (i := 3) (v := ?_) rfl (by kernel_rfl) (by kernel_rfl) (by kernel_rfl) (fun _ _ _ h => h) (Or.inl ⟨by kernel_rfl, ?_⟩) (by assumption) ?_
          rotate_left
          · (intro wx hSw; (try dsimp only at hSw); go_simp; try (with_reducible rfl))
          try simp only [Act.put, List.getElem_toArray, List.getElem_cons_succ, List.getElem_cons_zero, List.setIfInBounds_toArray, List.set_cons_zero, List.set_cons_succ]
          refine wpAnyH_take (i := 4) (v := ?_) rfl (by kernel_rfl) (by kernel_rfl) (by kernel_rfl) (fun _ _ _ h => h) (Or.inl ⟨by kernel_rfl, ?_⟩) (by assumption) ?_
          rotate_left
          · (intro wx hSw; (try dsimp only at hSw); go_simp; try (with_reducible rfl))
          try simp only [Act.put, List.getElem_toArray, List.getElem_cons_succ, List.getElem_cons_zero, List.setIfInBounds_toArray, List.set_cons_zero, List.set_cons_succ]
          refine wpAnyH_take (i := 6) (v := ?_) rfl (by kernel_rfl) (by kernel_rfl) (by kernel_rfl) (fun _ _ _ h => h) (Or.inl ⟨by kernel_rfl, ?_⟩) (by assumption) ?_
          rotate_left
          · (intro wx hSw; (try dsimp only at hSw); go_simp; try (with_reducible rfl))
          try simp only [Act.put, List.getElem_toArray, List.getElem_cons_succ, List.getElem_cons_zero, List.setIfInBounds_toArray, List.set_cons_zero, List.set_cons_succ]
          refine wpAnyH_ready (rs := [2]) (by kernel_rfl) (by simp) ?_
          refine AllReadyH.cons rfl (fun K hK => ?_) AllReadyH.nil
          go_simp
          (go_at_call 37; refine (hasL_any A2 c2 P kp HKP.out (u : Int) _ (by omega) (IP9.out.bl (BB.out.trans_ (by repeat' (first | exact Bl.refl _ | with_reducible assumption | with_reducible refine Bl.drew_ ?_ | with_reducible refine Bl.drewN_ ?_ _ | with_reducible refine Bl.alloc_ ?_ _ | with_reducible refine Bl.trans_ ?_ (by assumption) | with_reducible refine Bl.trans_ ?_ (And.left (by assumption))))))).mono ?_; rintro e w11 ⟨rfl, hb11⟩; rw [UH.out])
          try (go_wp2_with fail)
          refine hK.out _ _ ?_ (fun hHeld => ?_)
          · (exact HSH3.out _ (by repeat' (first | exact Bl.refl _ | with_reducible assumption | with_reducible refine Bl.drew_ ?_ | with_reducible refine Bl.drewN_ ?_ _ | with_reducible refine Bl.alloc_ ?_ _ | with_reducible refine Bl.trans_ ?_ (by assumption) | with_reducible refine Bl.trans_ ?_ (And.left (by assumption)))))
          clear hK K
          try simp only [Act.put, List.getElem_toArray, List.getElem_cons_succ, List.getElem_cons_zero, List.setIfInBounds_toArray, List.set_cons_zero, List.set_cons_succ]
          refine wpAnyH_ready (rs := [5]) (by kernel_rfl) (by simp) ?_
          refine AllReadyH.cons rfl (fun K hK => ?_) AllReadyH.nil
          go_simp
          (go_at_call 16; refine (implPathIn_any R u A3 k c3 U HK.out _ hk20 (HU.out.bl (P9.out.trans_ (BB.out.trans_ (by repeat' (first | exact Bl.refl _ | with_reducible assumption | with_reducible refine Bl.drew_ ?_ | with_reducible refine Bl.drewN_ ?_ _ | with_reducible refine Bl.alloc_ ?_ _ | with_reducible refine Bl.trans_ ?_ (by assumption) | with_reducible refine Bl.trans_ ?_ (And.left (by assumption)))))))).mono ?_; rintro e w12 ⟨v12, rfl, hv12, hb12⟩; obtain ⟨A12, c12, rfl, -, hi12, -, -⟩ := OwnN.shape hv12; rw [← HZ.out] at hi12 ⊢; rw [← HKZ.out]; have I12 := Lib.hid hi12; clear hv12 hi12)
          try (go_wp2_with fail)
          refine hK.out _ _ ?_ (fun hHeld => ?_)
          · (exact HSH3.out _ (by repeat' (first | exact Bl.refl _ | with_reducible assumption | with_reducible refine Bl.drew_ ?_ | with_reducible refine Bl.drewN_ ?_ _ | with_reducible refine Bl.alloc_ ?_ _ | with_reducible refine Bl.trans_ ?_ (by assumption) | with_reducible refine Bl.trans_ ?_ (And.left (by assumption)))))
          clear hK K
          try simp only [Act.put, List.getElem_toArray, List.getElem_cons_succ, List.getElem_cons_zero, List.setIfInBounds_toArray, List.set_cons_zero, List.set_cons_succ]
          refine wpAnyH_ready (rs := [7]) (by kernel_rfl) (by simp) ?_
          refine AllReadyH.cons rfl (fun K hK => ?_) AllReadyH.nil
          go_simp
          (go_at_call 37; refine (hasL_any A12 c12 Z kz HKZ.out v _ (by omega) (I12.out.bl (by repeat' (first | exact Bl.refl _ | with_reducible assumption | with_reducible refine Bl.drew_ ?_ | with_reducible refine Bl.drewN_ ?_ _ | with_reducible refine Bl.alloc_ ?_ _ | with_reducible refine Bl.trans_ ?_ (by assumption) | with_reducible refine Bl.trans_ ?_ (And.left (by assumption)))))).mono ?_; rintro e w13 ⟨rfl, hb13⟩; rw [← HBB.out])
          try (go_wp2_with fail)
          refine hK.out _ _ ?_ (fun hHeld => ?_)
          · (exact HSH3.out _ (by repeat' (first | exact Bl.refl _ | with_reducible assumption | with_reducible refine Bl.drew_ ?_ | with_reducible refine Bl.drewN_ ?_ _ | with_reducible refine Bl.alloc_ ?_ _ | with_reducible refine Bl.trans_ ?_ (by assumption) | with_reducible refine Bl.trans_ ?_ (And.left (by assumption)))))
          clear hK K
          try simp only [Act.put, List.getElem_toArray, List.getElem_cons_succ, List.getElem_cons_zero, List.setIfInBounds_toArray, List.set_cons_zero, List.set_cons_succ]
          refine wpAnyH_take (i := 8) (v := ?_) rfl (by kernel_rfl) (by kernel_rfl) (by kernel_rfl) (fun _ _ _ h => h) (Or.inl ⟨by kernel_rfl, ?_⟩) (by assumption) ?_
          rotate_left
          · (intro wx hSw; (try dsimp only at hSw); go_simp; try (with_reducible rfl))
          try simp only [Act.put, List.getElem_toArray, List.getElem_cons_succ, List.getElem_cons_zero, List.setIfInBounds_toArray, List.set_cons_zero, List.set_cons_succ]
          refine wpAnyH_done (by kernel_rfl) ?_ _
          have B13 := Lib.hid (show Bl wr w13 from (by repeat' (first | exact Bl.refl _ | with_reducible assumption | with_reducible refine Bl.drew_ ?_ | with_reducible refine Bl.drewN_ ?_ _ | with_reducible refine Bl.alloc_ ?_ _ | with_reducible refine Bl.trans_ ?_ (by assumption) | with_reducible refine Bl.trans_ ?_ (And.left (by assumption)))))
          clear q0 q1 hHeld hb11 hb12 hb13 I12
          go_wp2
          go_roundw
          case rel => exact ⟨u + 1, by omega, by go_num, BB.out.trans_ B13.out⟩
          case measure => simp [intOf]; omega
        · have d0 : decide ((0 : Int) < (kp : Int)) = false := by simpa using hkp0
          have u1 : (u : Int) < (k : Int) := by omega
          go_wp2
          go_ret
          exact ⟨rfl, B1.out.trans_ (P9.out.trans_ BB.out)⟩
      · obtain rfl : u = k := by omega
        go_wp2
        go_ret
        exact ⟨rfl, B1.out.trans_ (P9.out.trans_ BB.out)⟩

end Go.Proofs.Ytffjpfanmnkmgaa
