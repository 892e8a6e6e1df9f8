/-
  What is proved here: the walk of the law on what is under all nodes of a tree: at every code it returns true, and leaves what was there as it was. No conditions beyond those that each theorem states.
-/
import Derived.Test.YtffjpfanmnkmgaaJG18
import Derived.Test.YtffjpfanmnkmgaaJG14
import Derived.Test.YtffjpfanmnkmgaaJG16
import Derived.Test.YtffjpfanmnkmgaaJHL
set_option linter.unusedSimpArgs false
set_option linter.unusedVariables false
namespace Go.Proofs.Ytffjpfanmnkmgaa
open Go.RowKit

theorem treeR_yes {N s : Int} {L : List Arc3} (h : has1 N L s = true) : treeR N L s = s := by unfold treeR; rw [if_pos h]
theorem treeOfU_yes {N s : Int} {L : List Arc3} (h : has1 N L s = true) : treeOfU N L s = treeU N.toNat L (distL N L s) := by unfold treeOfU; rw [if_pos h]

set_option maxRecDepth 100000 in
set_option maxHeartbeats 3000000 in
theorem lawUnderAll_any (A : Option Addr) (n c : Nat) (w : World) (H : BytesAt w A n) :
    Calls Try.prog 7 #[.slice A n c] w fun e w' => e = .returned (.bool true) ∧ Bl w w' := by
  have K := Lib.hid H
  clear H
  by_cases hbig : (1048576 : Int) < (n : Int)
  · have hb : decide ((1048576 : Int) < (n : Int)) = true := by simpa using hbig
    clear hbig
    go_enter Try.func7, Try.ntmps7
    go_wp2_with (go_at_call 24; refine (big_any _ _ _ _).mono ?_; rintro e w' ⟨rfl, rfl⟩)
    go_ret
    exact ⟨rfl, (by repeat' (first | exact Bl.refl _ | with_reducible assumption | with_reducible refine Bl.drew_ ?_ | with_reducible refine Bl.drewN_ ?_ _ | with_reducible refine Bl.alloc_ ?_ _ | with_reducible refine Bl.trans_ ?_ (by assumption) | with_reducible refine Bl.trans_ ?_ (And.left (by assumption))))⟩
  · have hb : decide ((1048576 : Int) < (n : Int)) = false := by simpa using hbig
    have hn : n ≤ 1099511627776 := by omega
    clear hbig
    go_enter Try.func7, Try.ntmps7
    go_wp2_with fail
    refine (big_any _ _ _ _).mono ?_
    rintro e w1 ⟨rfl, rfl⟩
    go_wp2_with fail
    refine (drawTreeOf_any A n c _ hn K.out).mono ?_
    rintro e w1 ⟨N, A', l, c', L, s, rfl, hd, hs, hb1⟩
    obtain ⟨ha, hlc⟩ := hd.arcs
    have HL := Lib.hid hd.1
    have hl200 := hd.2.1
    obtain ⟨X, hX⟩ : ∃ X, X = w1.alloc (.cells #[.int .i64 N, .slice A' l c'] 38) := ⟨_, rfl⟩
    have BX := Lib.hid (show Bl w1 X from by rw [hX]; exact Bl.alloc_ (Bl.refl w1) _)
    have HA := Lib.hid (ha.bl BX.out)
    have B1 := Lib.hid (hb1.trans_ BX.out)
    have BXX := Lib.hid (show ∀ wx, Bl X wx → wx.cell? ⟨w1.heap.size, 0, none⟩ = some (.int .i64 N) ∧ wx.cell? ⟨w1.heap.size, 1, none⟩ = some (.slice A' l c') from fun wx hb => by rw [hX] at hb; exact box2 hb)
    clear hd hb1 ha hs
    go_wp2_with fail
    rw [← hX]
    clear hX
    refine (implTreeOf_any N s A' l c' L HL.out hlc _ (by omega) HA.out).mono ?_
    rintro e w2 ⟨v2, rfl, hv2, hb2⟩
    obtain ⟨A2, c2, rfl, -, hi2, -, -⟩ := OwnN.shape hv2
    obtain ⟨R, hR⟩ : ∃ R, R = treeR N L s := ⟨_, rfl⟩
    obtain ⟨U, hU⟩ : ∃ U, U = treeOfU N L s := ⟨_, rfl⟩
    have hk20 : U.length ≤ 1048576 := by rw [hU]; exact treeOfU_small N L s
    rw [← hU] at hi2 ⊢
    rw [← hR]
    have HR := Lib.hid hR
    have HU := Lib.hid hU
    obtain ⟨k, hk⟩ : ∃ k, k = U.length := ⟨_, rfl⟩
    rw [← hk] at hk20 ⊢
    have HK := Lib.hid hk
    obtain ⟨Y, hY⟩ : ∃ Y, Y = w2.alloc (.cells #[.int .i64 R, .slice A2 k c2] 27) := ⟨_, rfl⟩
    have BY := Lib.hid (show Bl w2 Y from by rw [hY]; exact Bl.alloc_ (Bl.refl w2) _)
    have IU := Lib.hid (hi2.bl BY.out)
    have P2 := Lib.hid (hb2.trans_ BY.out)
    obtain ⟨gb, hgb⟩ : ∃ gb, gb = w1.heap.size := ⟨_, rfl⟩
    obtain ⟨tb, htb⟩ : ∃ tb, tb = w2.heap.size := ⟨_, rfl⟩
    have HSH := Lib.hid (show ∀ wx, Bl Y wx → Bl Y wx ∧ (wx.cell? ⟨gb, 0, none⟩ = some (.int .i64 N) ∧ wx.cell? ⟨gb, 1, none⟩ = some (.slice A' l c')) ∧ wx.cell? ⟨tb, 0, none⟩ = some (.int .i64 R) ∧ wx.cell? ⟨tb, 1, none⟩ = some (.slice A2 k c2) from fun wx hbx => by
      subst hgb htb
      exact ⟨hbx, BXX.out wx (P2.out.trans_ hbx), box2 (by rw [hY] at hbx; exact hbx)⟩)
    obtain ⟨q0, q1⟩ := BXX.out w2 hb2
    have hlt2 : w1.heap.size < w2.heap.size := World.block_lt_of_cell? _ _ q0
    clear hv2 hi2 hU hR hk hb2
    go_wp2_with fail
    rw [← hY]
    clear hY BXX q0 q1 hlt2
    refine (specTreeOf_any N s A' l c' L HL.out hlc _ (by omega) (HA.out.bl P2.out)).mono ?_
    rintro e w3 ⟨v3, rfl, hv3, hb3⟩
    obtain ⟨A9, c9, rfl, -, -, -, -⟩ := OwnN.shape hv3
    clear hv3
    generalize (treeOfU N L s).length = k9
    generalize treeR N L s = R9
    obtain ⟨Z, hZ⟩ : ∃ Z, Z = w3.alloc (.cells #[.int .i64 R9, .slice A9 k9 c9] 27) := ⟨_, rfl⟩
    have B3 := Lib.hid (show Bl Y Z from by rw [hZ]; exact hb3.trans_ (Bl.alloc_ (Bl.refl w3) _))
    have hlt3 : tb < w3.heap.size := by
      have := (HSH.out _ hb3).2.2.1
      exact World.block_lt_of_cell? _ _ this
    obtain ⟨-, ⟨q0, q1⟩, q2, q3⟩ := HSH.out _ hb3
    have hlt4 : gb < w3.heap.size := World.block_lt_of_cell? _ _ q0
    clear hb3
    rw [← hgb, ← htb]
    clear hgb htb
    cases hh : has1 N L s with
    | false =>
      go_wp2
      rw [← hZ]
      clear hZ
      go_ret
      exact ⟨rfl, B1.out.trans_ (P2.out.trans_ B3.out)⟩
    | true =>
      have HH := Lib.hid hh
      obtain ⟨ho, hs0, hs1⟩ := has1_of hh
      have hN24 := (okB_elim ho).2.1
      obtain ⟨q, rfl⟩ : ∃ q : Nat, N = q := ⟨N.toNat, by omega⟩
      obtain ⟨r, rfl⟩ : ∃ r : Nat, s = r := ⟨s.toNat, by omega⟩
      have hRr : R = (r : Int) := by rw [HR.out, treeR_yes hh]
      subst hRr
      have HUT := Lib.hid (show U = treeU q L (distL q L r) from by rw [HU.out, treeOfU_yes hh]; rfl)
      have hkq : k = q := by rw [HK.out, HUT.out, treeU_len]
      subst hkq
      have HO := Lib.hid ho
      have RU := Lib.hid (show rightU U (r : Int) = true from by rw [HUT.out]; exact tree_right (N := (k : Int)) ho ⟨hs0, hs1⟩)
      have DI := Lib.hid (distL_is (s := (r : Int)) (arcsIn_of_ok ho) hN24 hs0 hs1)
      have FINL := Lib.hid (show underU U (r : Int) (r : Int) = seenFL k L r from by
        have h1 := tree_seen (N := (k : Int)) ho ⟨hs0, hs1⟩ DI.out k (by simp)
        rw [underU_yes RU.out, ← HK.out]
        unfold seenFL
        rw [if_pos hh, Int.toNat_natCast, ← h1, HUT.out]
        rfl)
      have hr0 : (0 : Int) ≤ (r : Int) := hs0
      have B30 := Lib.hid (B1.out.trans_ (P2.out.trans_ B3.out))
      have HSZ := Lib.hid (show ∀ wx, Bl Z wx → Bl Z wx ∧ (wx.cell? ⟨gb, 0, none⟩ = some (.int .i64 (k : Int)) ∧ wx.cell? ⟨gb, 1, none⟩ = some (.slice A' l c')) ∧ wx.cell? ⟨tb, 0, none⟩ = some (.int .i64 (r : Int)) ∧ wx.cell? ⟨tb, 1, none⟩ = some (.slice A2 k c2) from fun wx hb => ⟨hb, (HSH.out wx (B3.out.trans_ hb)).2⟩)
      have IUZ := Lib.hid (IU.out.bl B3.out)
      have HAZ := Lib.hid (HA.out.bl (P2.out.trans_ B3.out))
      have nk : ((k : Int) != (k : Int)) = false := by simp
      clear hh ho HSH HR HU
      go_wp2_with fail
      rw [← hZ]
      clear hZ nk q0 q1 q2 q3 hlt3 hlt4
      go_loopw [9] (fun iv wr => ∃ u : Nat, u ≤ k ∧ iv = .int .i64 (u : Int) ∧ Bl Z wr) (fun iv _ => k - (intOf iv).toNat)
      case atStart => exact ⟨0, by omega, rfl, Bl.refl _⟩
      case round =>
        obtain ⟨wa, rfl⟩ : ∃ wa : World, wa = wr := ⟨_, rfl⟩
        obtain ⟨u, hu, rfl, hbl⟩ := hrel
        have BB := Lib.hid hbl
        obtain ⟨-, ⟨q0, q1⟩, q2, q3⟩ := HSZ.out _ hbl
        clear hbl
        by_cases huk : u < k
        · have hul : u < U.length := by have := HK.out; omega
          obtain ⟨gu, ou, rfl, hgu, hcu⟩ := (IUZ.out.bl BB.out).cell (by omega)
          have p1 := hcu u hul
          have HX := Lib.hid (show dAt U (u : Int) = U[u] from by simp [dAt, hul])
          generalize U[u] = x at p1 HX
          have u0 : (0 : Int) ≤ (u : Int) := by omega
          have u1 : (u : Int) < (k : Int) := by omega
          clear hcu
          by_cases hx : x < 0
          · go_wp2
            go_roundw
            case rel => exact ⟨u + 1, by omega, by go_num, BB.out⟩
            case measure => simp [intOf]; omega
          · have hur : 0 ≤ (u : Int) ∧ (u : Int) < U.length := by omega
            obtain ⟨hne, hpos⟩ : (u : Int) ≠ (r : Int) ∧ 0 < (pathU U (r : Int) (u : Int)).length := by
              have h := tree_up_pos (N := (k : Int)) (v := (u : Int)) HO.out ⟨hs0, hs1⟩ DI.out u0 u1 (by
                show 0 ≤ dAt (treeU k L (distL k L r)) (u : Int)
                rw [← HUT.out, HX.out]
                omega)
              rw [HUT.out]
              exact h
            have SUB := Lib.hid (show ∀ y ∈ underU U (r : Int) (u : Int), y ∈ underU U (r : Int) x from fun y hy => by
              have h := (under_up RU.out hur hne hy).1
              rwa [HX.out] at h)
            have NOT := Lib.hid (show decide (x ∈ underU U (r : Int) (u : Int)) = false from by
              have h := under_not RU.out hur hne
              rw [HX.out] at h
              simpa using h)
            have SELF := Lib.hid (show decide ((u : Int) ∈ underU U (r : Int) (u : Int)) = true from by simpa using under_self RU.out hur hpos)
            obtain ⟨P, hP⟩ : ∃ P, P = underU U (r : Int) (u : Int) := ⟨_, rfl⟩
            obtain ⟨Q, hQ⟩ : ∃ Q, Q = underU U (r : Int) x := ⟨_, rfl⟩
            have hp20 : P.length ≤ 1048576 := by rw [hP]; exact underU_len U r u
            have hq20 : Q.length ≤ 1048576 := by rw [hQ]; exact underU_len U r x
            rw [← hP, ← hQ] at SUB
            rw [← hP] at NOT SELF
            have HP := Lib.hid hP
            have HQ := Lib.hid hQ
            obtain ⟨kp, hkp⟩ : ∃ kp, kp = P.length := ⟨_, rfl⟩
            obtain ⟨kq, hkq⟩ : ∃ kq, kq = Q.length := ⟨_, rfl⟩
            rw [← hkp] at hp20
            rw [← hkq] at hq20
            have HKP := Lib.hid hkp
            have HKQ := Lib.hid hkq
            clear hP hQ hkp hkq hne hpos hur
            go_wp2_with fail
            refine (implUnder_any r u _ k c2 U HK.out _ hk20 (IUZ.out.bl BB.out)).mono ?_
            rintro e w5 ⟨v5, rfl, hv5, hb5⟩
            obtain ⟨A5, c5, rfl, -, hi5, -, -⟩ := OwnN.shape hv5
            rw [← HP.out] at hi5 ⊢
            rw [← HKP.out]
            have I5 := Lib.hid hi5
            have B5 := Lib.hid hb5
            have G5 := Lib.hid (show gu < w5.heap.size from Nat.lt_of_lt_of_le hgu hb5.size)
            have p1' := ((bcell hb5).1 _ _ hgu).trans p1
            have HS5 := Lib.hid (show ∀ wx, Bl w5 wx → Bl w5 wx ∧ (wx.cell? ⟨tb, 0, none⟩ = some (.int .i64 (r : Int)) ∧ wx.cell? ⟨tb, 1, none⟩ = some (.slice (some ⟨gu, ou, none⟩) k c2)) ∧ wx.cell? ⟨gu, ou + u, none⟩ = some (.int .i64 x) from fun wx hb => ⟨hb, (HSZ.out wx (BB.out.trans_ (B5.out.trans_ hb))).2.2, ((bcell hb).1 _ _ G5.out).trans p1'⟩)
            clear hv5 hi5 q0 q1 q2 q3 p1 hb5 p1'
            obtain ⟨-, ⟨q2, q3⟩, p1⟩ := HS5.out _ (Bl.refl w5)
            go_wp2_with fail
            refine wp_region_held_drew (S := fun wx => Bl w5 wx ∧ (wx.cell? ⟨tb, 0, none⟩ = some (.int .i64 (r : Int)) ∧ wx.cell? ⟨tb, 1, none⟩ = some (.slice (some ⟨gu, ou, none⟩) k c2)) ∧ wx.cell? ⟨gu, ou + u, none⟩ = some (.int .i64 x)) (by kernel_rfl) ?_ (fun hHeld => ?_)
            · (exact HS5.out _ (by repeat' (first | exact Bl.refl _ | with_reducible assumption | with_reducible refine Bl.drew_ ?_ | with_reducible refine Bl.drewN_ ?_ _ | with_reducible refine Bl.alloc_ ?_ _ | with_reducible refine Bl.trans_ ?_ (by assumption) | with_reducible refine Bl.trans_ ?_ (And.left (by assumption)))))
            refine wpAnyH_take (i := 0) (v := ?_) rfl (by kernel_rfl) (by kernel_rfl) (by kernel_rfl) (fun _ _ _ h => h) (Or.inl ⟨by kernel_rfl, ?_⟩) (by assumption) ?_
            rotate_left
            · (intro wx hSw; (try dsimp only at hSw); go_simp; try (with_reducible rfl))
            try simp only [Act.put, List.getElem_toArray, List.getElem_cons_succ, List.getElem_cons_zero, List.setIfInBounds_toArray, List.set_cons_zero, List.set_cons_succ]
            refine wpAnyH_take (i := 1) (v := ?_) rfl (by kernel_rfl) (by kernel_rfl) (by kernel_rfl) (fun _ _ _ h => h) (Or.inl ⟨by kernel_rfl, ?_⟩) (by assumption) ?_
            rotate_left
            · (intro wx hSw; (try dsimp only at hSw); go_simp; try (with_reducible rfl))
            try simp only [Act.put, List.getElem_toArray, List.getElem_cons_succ, List.getElem_cons_zero, List.setIfInBounds_toArray, List.set_cons_zero, List.set_cons_succ]
            refine wpAnyH_take (i := 2) (v := ?_) rfl (by kernel_rfl) (by kernel_rfl) (by kernel_rfl) (fun _ _ _ h => h) (Or.inl ⟨by kernel_rfl, ?_⟩) (by assumption) ?_
            rotate_left
            · (intro wx hSw; (try dsimp only at hSw); go_simp; try (with_reducible rfl))
            try simp only [Act.put, List.getElem_toArray, List.getElem_cons_succ, List.getElem_cons_zero, List.setIfInBounds_toArray, List.set_cons_zero, List.set_cons_succ]
            refine wpAnyH_take (i := 3) (v := ?_) rfl (by kernel_rfl) (by kernel_rfl) (by kernel_rfl) (fun _ _ _ h => h) (Or.inl ⟨by kernel_rfl, ?_⟩) (by assumption) ?_
            rotate_left
            · (intro wx hSw; (try dsimp only at hSw); go_simp; try (with_reducible rfl))
            try simp only [Act.put, List.getElem_toArray, List.getElem_cons_succ, List.getElem_cons_zero, List.setIfInBounds_toArray, List.set_cons_zero, List.set_cons_succ]
            refine wpAnyH_take (i := 4) (v := ?_) rfl (by kernel_rfl) (by kernel_rfl) (by kernel_rfl) (fun _ _ _ h => h) (Or.inl ⟨by kernel_rfl, ?_⟩) (by assumption) ?_
            rotate_left
            · (intro wx hSw; (try dsimp only at hSw); go_simp; try (with_reducible rfl))
            try simp only [Act.put, List.getElem_toArray, List.getElem_cons_succ, List.getElem_cons_zero, List.setIfInBounds_toArray, List.set_cons_zero, List.set_cons_succ]
            refine wpAnyH_take (i := 5) (v := ?_) rfl (by kernel_rfl) (by kernel_rfl) (by kernel_rfl) (fun _ _ _ h => h) (Or.inl ⟨by kernel_rfl, ?_⟩) (by assumption) ?_
            rotate_left
            · (intro wx hSw; (try dsimp only at hSw); go_simp; try (with_reducible rfl))
            try simp only [Act.put, List.getElem_toArray, List.getElem_cons_succ, List.getElem_cons_zero, List.setIfInBounds_toArray, List.set_cons_zero, List.set_cons_succ]
            refine wpAnyH_ready (rs := [6]) (by kernel_rfl) (by simp) ?_
            refine AllReadyH.cons rfl (fun K hK => ?_) AllReadyH.nil
            go_simp
            (go_at_call 23; refine (implUnder_any r x _ k c2 U HK.out _ hk20 (IUZ.out.bl (BB.out.trans_ (B5.out.trans_ (by repeat' (first | exact Bl.refl _ | with_reducible assumption | with_reducible refine Bl.drew_ ?_ | with_reducible refine Bl.drewN_ ?_ _ | with_reducible refine Bl.alloc_ ?_ _ | with_reducible refine Bl.trans_ ?_ (by assumption) | with_reducible refine Bl.trans_ ?_ (And.left (by assumption)))))))).mono ?_; rintro e w6 ⟨v6, rfl, hv6, hb6⟩; obtain ⟨A6, c6, rfl, -, hi6, -, -⟩ := OwnN.shape hv6; rw [← HQ.out] at hi6 ⊢; rw [← HKQ.out]; have I6 := Lib.hid hi6; clear hv6 hi6)
            try (go_wp2_with fail)
            refine hK.out _ _ ?_ (fun hHeld => ?_)
            · (exact HS5.out _ (by repeat' (first | exact Bl.refl _ | with_reducible assumption | with_reducible refine Bl.drew_ ?_ | with_reducible refine Bl.drewN_ ?_ _ | with_reducible refine Bl.alloc_ ?_ _ | with_reducible refine Bl.trans_ ?_ (by assumption) | with_reducible refine Bl.trans_ ?_ (And.left (by assumption)))))
            clear hK K
            try simp only [Act.put, List.getElem_toArray, List.getElem_cons_succ, List.getElem_cons_zero, List.setIfInBounds_toArray, List.set_cons_zero, List.set_cons_succ]
            refine wpAnyH_take (i := 7) (v := ?_) rfl (by kernel_rfl) (by kernel_rfl) (by kernel_rfl) (fun _ _ _ h => h) (Or.inl ⟨by kernel_rfl, ?_⟩) (by assumption) ?_
            rotate_left
            · (intro wx hSw; (try dsimp only at hSw); go_simp; try (with_reducible rfl))
            try simp only [Act.put, List.getElem_toArray, List.getElem_cons_succ, List.getElem_cons_zero, List.setIfInBounds_toArray, List.set_cons_zero, List.set_cons_succ]
            refine wpAnyH_done (by kernel_rfl) ?_ _
            have B6 := Lib.hid (show Bl w5 w6 from (by repeat' (first | exact Bl.refl _ | with_reducible assumption | with_reducible refine Bl.drew_ ?_ | with_reducible refine Bl.drewN_ ?_ _ | with_reducible refine Bl.alloc_ ?_ _ | with_reducible refine Bl.trans_ ?_ (by assumption) | with_reducible refine Bl.trans_ ?_ (And.left (by assumption)))))
            have I56 := Lib.hid (I5.out.bl B6.out)
            clear q2 q3 p1 hb6 hHeld
            go_wp2_with fail
            go_loopw [12] (fun iv wr => ∃ i : Nat, i ≤ kp ∧ iv = .int .i64 (i : Int) ∧ Bl w6 wr) (fun iv _ => kp - (intOf iv).toNat)
            case atStart => exact ⟨0, by omega, rfl, Bl.refl _⟩
            case round =>
              obtain ⟨wb, rfl⟩ : ∃ wb : World, wb = wr := ⟨_, rfl⟩
              obtain ⟨i, hi, rfl, hbl⟩ := hrel
              have BI := Lib.hid hbl
              clear hbl
              by_cases hik : i < kp
              · have hil : i < P.length := by have := HKP.out; omega
                obtain ⟨gp, op, rfl, hgp, hcp⟩ := (I56.out.bl BI.out).cell (by omega)
                have p1 := hcp i hil
                have MY := Lib.hid (show decide (P[i] ∈ Q) = true from by simpa using SUB.out _ (List.getElem_mem hil))
                generalize P[i] = y at p1 MY
                have i0 : (0 : Int) ≤ (i : Int) := by omega
                have i1 : (i : Int) < (kp : Int) := by omega
                clear hcp
                go_wp2_with fail
                refine (hasL_any A6 c6 Q kq HKQ.out y _ (by omega) (I6.out.bl BI.out)).mono ?_
                rintro e w7 ⟨rfl, hb7⟩
                rw [MY.out]
                go_wp2
                go_roundw
                case rel => exact ⟨i + 1, by omega, by go_num, BI.out.trans_ hb7⟩
                case measure => simp [intOf]; omega
              · obtain rfl : i = kp := by omega
                have B56 := Lib.hid (B6.out.trans_ BI.out)
                obtain ⟨-, ⟨q2, q3⟩, p1⟩ := HS5.out _ B56.out
                have hg6 : gu < wb.heap.size := Nat.lt_of_lt_of_le G5.out B56.out.size
                go_wp2_with fail
                refine (hasL_any A5 c5 P i HKP.out x _ (by omega) (I5.out.bl B56.out)).mono ?_
                rintro e w7 ⟨rfl, hb7⟩
                rw [NOT.out]
                go_wp2_with fail
                refine (hasL_any A5 c5 P i HKP.out (u : Int) _ (by omega) (I5.out.bl (B56.out.trans_ hb7))).mono ?_
                rintro e w8 ⟨rfl, hb8⟩
                rw [SELF.out]
                clear q2 q3 p1
                go_wp2
                go_roundw
                case rel => exact ⟨u + 1, by omega, by go_num, BB.out.trans_ (B5.out.trans_ (B56.out.trans_ (hb7.trans_ hb8)))⟩
                case measure => simp [intOf]; omega
        · obtain rfl : u = k := by omega
          have HSB := Lib.hid (show ∀ wx, Bl wa wx → Bl wa wx ∧ (wx.cell? ⟨gb, 0, none⟩ = some (.int .i64 (u : Int)) ∧ wx.cell? ⟨gb, 1, none⟩ = some (.slice A' l c')) ∧ wx.cell? ⟨tb, 0, none⟩ = some (.int .i64 (r : Int)) ∧ wx.cell? ⟨tb, 1, none⟩ = some (.slice A2 u c2) from fun wx hb => ⟨hb, (HSZ.out wx (BB.out.trans_ hb)).2⟩)
          obtain ⟨S, hS⟩ : ∃ S, S = seenFL u L r := ⟨_, rfl⟩
          rw [← hS] at FINL
          have hs20 : S.length ≤ 1048576 := by rw [hS]; exact seenFL_len u L r
          have HS := Lib.hid hS
          obtain ⟨ks, hks⟩ : ∃ ks, ks = S.length := ⟨_, rfl⟩
          rw [← hks] at hs20
          have HKS := Lib.hid hks
          clear hS hks
          go_wp2_with fail
          refine wp_region_held_drew (S := fun wx => Bl wa wx ∧ (wx.cell? ⟨gb, 0, none⟩ = some (.int .i64 (u : Int)) ∧ wx.cell? ⟨gb, 1, none⟩ = some (.slice A' l c')) ∧ wx.cell? ⟨tb, 0, none⟩ = some (.int .i64 (r : Int)) ∧ wx.cell? ⟨tb, 1, none⟩ = some (.slice A2 u c2)) (by kernel_rfl) ?_ (fun hHeld => ?_)
          · (exact HSB.out _ (by repeat' (first | exact Bl.refl _ | with_reducible assumption | with_reducible refine Bl.drew_ ?_ | with_reducible refine Bl.drewN_ ?_ _ | with_reducible refine Bl.alloc_ ?_ _ | with_reducible refine Bl.trans_ ?_ (by assumption) | with_reducible refine Bl.trans_ ?_ (And.left (by assumption)))))
          refine wpAnyH_take (i := 0) (v := ?_) rfl (by kernel_rfl) (by kernel_rfl) (by kernel_rfl) (fun _ _ _ h => h) (Or.inl ⟨by kernel_rfl, ?_⟩) (by assumption) ?_
          rotate_left
          · (intro wx hSw; (try dsimp only at hSw); go_simp; try (with_reducible rfl))
          try simp only [Act.put, List.getElem_toArray, List.getElem_cons_succ, List.getElem_cons_zero, List.setIfInBounds_toArray, List.set_cons_zero, List.set_cons_succ]
          refine wpAnyH_take (i := 1) (v := ?_) rfl (by kernel_rfl) (by kernel_rfl) (by kernel_rfl) (fun _ _ _ h => h) (Or.inl ⟨by kernel_rfl, ?_⟩) (by assumption) ?_
          rotate_left
          · (intro wx hSw; (try dsimp only at hSw); go_simp; try (with_reducible rfl))
          try simp only [Act.put, List.getElem_toArray, List.getElem_cons_succ, List.getElem_cons_zero, List.setIfInBounds_toArray, List.set_cons_zero, List.set_cons_succ]
          refine wpAnyH_take (i := 3) (v := ?_) rfl (by kernel_rfl) (by kernel_rfl) (by kernel_rfl) (fun _ _ _ h => h) (Or.inl ⟨by kernel_rfl, ?_⟩) (by assumption) ?_
          rotate_left
          · (intro wx hSw; (try dsimp only at hSw); go_simp; try (with_reducible rfl))
          try simp only [Act.put, List.getElem_toArray, List.getElem_cons_succ, List.getElem_cons_zero, List.setIfInBounds_toArray, List.set_cons_zero, List.set_cons_succ]
          refine wpAnyH_take (i := 4) (v := ?_) rfl (by kernel_rfl) (by kernel_rfl) (by kernel_rfl) (fun _ _ _ h => h) (Or.inl ⟨by kernel_rfl, ?_⟩) (by assumption) ?_
          rotate_left
          · (intro wx hSw; (try dsimp only at hSw); go_simp; try (with_reducible rfl))
          try simp only [Act.put, List.getElem_toArray, List.getElem_cons_succ, List.getElem_cons_zero, List.setIfInBounds_toArray, List.set_cons_zero, List.set_cons_succ]
          refine wpAnyH_ready (rs := [2]) (by kernel_rfl) (by simp) ?_
          refine AllReadyH.cons rfl (fun K hK => ?_) AllReadyH.nil
          go_simp
          (go_at_call 23; refine (implUnder_any r r A2 u c2 U HK.out _ hk20 (IUZ.out.bl (BB.out.trans_ (by repeat' (first | exact Bl.refl _ | with_reducible assumption | with_reducible refine Bl.drew_ ?_ | with_reducible refine Bl.drewN_ ?_ _ | with_reducible refine Bl.alloc_ ?_ _ | with_reducible refine Bl.trans_ ?_ (by assumption) | with_reducible refine Bl.trans_ ?_ (And.left (by assumption))))))).mono ?_; rintro e w6 ⟨v6, rfl, hv6, hb6⟩; obtain ⟨A6, c6, rfl, -, hi6, -, -⟩ := OwnN.shape hv6; rw [FINL.out] at hi6 ⊢; rw [← HKS.out]; have I6 := Lib.hid hi6; clear hv6 hi6)
          try (go_wp2_with fail)
          refine hK.out _ _ ?_ (fun hHeld => ?_)
          · (exact HSB.out _ (by repeat' (first | exact Bl.refl _ | with_reducible assumption | with_reducible refine Bl.drew_ ?_ | with_reducible refine Bl.drewN_ ?_ _ | with_reducible refine Bl.alloc_ ?_ _ | with_reducible refine Bl.trans_ ?_ (by assumption) | with_reducible refine Bl.trans_ ?_ (And.left (by assumption)))))
          clear hK K
          try simp only [Act.put, List.getElem_toArray, List.getElem_cons_succ, List.getElem_cons_zero, List.setIfInBounds_toArray, List.set_cons_zero, List.set_cons_succ]
          refine wpAnyH_ready (rs := [5]) (by kernel_rfl) (by simp) ?_
          refine AllReadyH.cons rfl (fun K hK => ?_) AllReadyH.nil
          go_simp
          (go_at_call 38; refine (implReachedFrom_any u r A' l c' L HL.out hlc _ (by omega) (HAZ.out.bl (BB.out.trans_ (by repeat' (first | exact Bl.refl _ | with_reducible assumption | with_reducible refine Bl.drew_ ?_ | with_reducible refine Bl.drewN_ ?_ _ | with_reducible refine Bl.alloc_ ?_ _ | with_reducible refine Bl.trans_ ?_ (by assumption) | with_reducible refine Bl.trans_ ?_ (And.left (by assumption))))))).mono ?_; rintro e w7 ⟨v7, rfl, hv7, hb7⟩; obtain ⟨A7, c7, rfl, -, hi7, -, -⟩ := OwnN.shape hv7; rw [← HS.out] at hi7 ⊢; rw [← HKS.out]; have I7 := Lib.hid hi7; clear hv7 hi7)
          try (go_wp2_with fail)
          refine hK.out _ _ ?_ (fun hHeld => ?_)
          · (exact HSB.out _ (by repeat' (first | exact Bl.refl _ | with_reducible assumption | with_reducible refine Bl.drew_ ?_ | with_reducible refine Bl.drewN_ ?_ _ | with_reducible refine Bl.alloc_ ?_ _ | with_reducible refine Bl.trans_ ?_ (by assumption) | with_reducible refine Bl.trans_ ?_ (And.left (by assumption)))))
          clear hK K
          try simp only [Act.put, List.getElem_toArray, List.getElem_cons_succ, List.getElem_cons_zero, List.setIfInBounds_toArray, List.set_cons_zero, List.set_cons_succ]
          refine wpAnyH_ready (rs := [6]) (by kernel_rfl) (by simp) ?_
          refine AllReadyH.cons rfl (fun K hK => ?_) AllReadyH.nil
          go_simp
          (go_at_call 36; refine (sameInts_yes A6 A7 c6 c7 S ks HKS.out _ (by omega) (I6.out.bl (by repeat' (first | exact Bl.refl _ | with_reducible assumption | with_reducible refine Bl.drew_ ?_ | with_reducible refine Bl.drewN_ ?_ _ | with_reducible refine Bl.alloc_ ?_ _ | with_reducible refine Bl.trans_ ?_ (by assumption) | with_reducible refine Bl.trans_ ?_ (And.left (by assumption))))) (I7.out.bl (by repeat' (first | exact Bl.refl _ | with_reducible assumption | with_reducible refine Bl.drew_ ?_ | with_reducible refine Bl.drewN_ ?_ _ | with_reducible refine Bl.alloc_ ?_ _ | with_reducible refine Bl.trans_ ?_ (by assumption) | with_reducible refine Bl.trans_ ?_ (And.left (by assumption)))))).mono ?_; rintro e w8 ⟨rfl, hb8⟩)
          try (go_wp2_with fail)
          refine hK.out _ _ ?_ (fun hHeld => ?_)
          · (exact HSB.out _ (by repeat' (first | exact Bl.refl _ | with_reducible assumption | with_reducible refine Bl.drew_ ?_ | with_reducible refine Bl.drewN_ ?_ _ | with_reducible refine Bl.alloc_ ?_ _ | with_reducible refine Bl.trans_ ?_ (by assumption) | with_reducible refine Bl.trans_ ?_ (And.left (by assumption)))))
          clear hK K
          try simp only [Act.put, List.getElem_toArray, List.getElem_cons_succ, List.getElem_cons_zero, List.setIfInBounds_toArray, List.set_cons_zero, List.set_cons_succ]
          refine wpAnyH_take (i := 7) (v := ?_) rfl (by kernel_rfl) (by kernel_rfl) (by kernel_rfl) (fun _ _ _ h => h) (Or.inl ⟨by kernel_rfl, ?_⟩) (by assumption) ?_
          rotate_left
          · (intro wx hSw; (try dsimp only at hSw); go_simp; try (with_reducible rfl))
          try simp only [Act.put, List.getElem_toArray, List.getElem_cons_succ, List.getElem_cons_zero, List.setIfInBounds_toArray, List.set_cons_zero, List.set_cons_succ]
          refine wpAnyH_done (by kernel_rfl) ?_ _
          go_wp2
          go_ret
          exact ⟨rfl, B30.out.trans_ (BB.out.trans_ (by repeat' (first | exact Bl.refl _ | with_reducible assumption | with_reducible refine Bl.drew_ ?_ | with_reducible refine Bl.drewN_ ?_ _ | with_reducible refine Bl.alloc_ ?_ _ | with_reducible refine Bl.trans_ ?_ (by assumption) | with_reducible refine Bl.trans_ ?_ (And.left (by assumption)))))⟩

end Go.Proofs.Ytffjpfanmnkmgaa
