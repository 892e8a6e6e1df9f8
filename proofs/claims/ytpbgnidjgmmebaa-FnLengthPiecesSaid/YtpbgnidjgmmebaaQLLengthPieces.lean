/-
  What is proved here: the walk of the law FnLengthPieces: at every code that can be read it returns true and leaves what was there as it was. No conditions beyond those that each theorem states.
-/
import Derived.Test.YtpbgnidjgmmebaaQDL
import Derived.Test.YtpbgnidjgmmebaaQPK
import Derived.Test.YtpbgnidjgmmebaaQLF
import Derived.Test.YtpbgnidjgmmebaaZS
import Derived.Test.YtpbgnidjgmmebaaQSM
set_option linter.unusedSimpArgs false
set_option linter.unusedVariables false
namespace Go.Proofs.Ytpbgnidjgmmebaa
open Go.RowKit

set_option maxRecDepth 100000 in
set_option maxHeartbeats 8000000 in
theorem lawLengthPieces_any (A : Option Addr) (n c : Nat) (w : World) (H : BytesAt w A n) :
    Calls Try.prog 9 #[.slice A n c] w fun e w' => e = .returned (.bool true) ∧ Bl w w' := by
  obtain ⟨i0, hi, hz0, hz1, hz2⟩ := info_parts infoInt
  have I0 := Lib.hid hi
  have I1 := Lib.hid hz0
  have I2 := Lib.hid hz1
  have I3 := Lib.hid hz2
  have K := Lib.hid H
  clear H hi hz0 hz1 hz2
  by_cases hbig : (1048576 : Int) < (n : Int)
  · have hb : decide ((1048576 : Int) < (n : Int)) = true := by simpa using hbig
    clear hbig
    go_enter Try.func9, Try.ntmps9
    go_wp2_with (go_at_call 17; refine (big_any _ _ _ _).mono ?_; rintro e w' ⟨rfl, rfl⟩)
    go_ret
    exact ⟨rfl, (by repeat' (first | exact Bl.refl _ | with_reducible assumption | with_reducible refine Bl.drew_ ?_ | with_reducible refine Bl.drewN_ ?_ _ | with_reducible refine Bl.alloc_ ?_ _ | with_reducible refine Bl.trans_ ?_ (by assumption) | with_reducible refine Bl.trans_ ?_ (And.left (by assumption))))⟩
  · have hb : decide ((1048576 : Int) < (n : Int)) = false := by simpa using hbig
    have hn : n ≤ 1099511627776 := by omega
    clear hbig
    go_enter Try.func9, Try.ntmps9
    go_wp2_with fail
    refine (big_any _ _ _ _).mono ?_
    rintro e w1 ⟨rfl, rfl⟩
    go_wp2_with fail
    refine (drawLengthOf_any A n c _ hn K.out).mono ?_
    rintro e w1 ⟨N, A', l, c', L, v2, P, rfl, hd, hv2, hp4, hb1⟩
    obtain ⟨ha, hlc⟩ := hd.arcs
    have HL := Lib.hid hd.1
    have hl200 := hd.2.1
    obtain ⟨A2, c2, rfl, hcap2, hi2, -, -⟩ := OwnN.shape hv2
    obtain ⟨k, hk⟩ : ∃ k, k = P.length := ⟨_, rfl⟩
    rw [← hk] at hp4 hcap2 ⊢
    have HK := Lib.hid hk
    have HA := Lib.hid (ha.bl (Bl.alloc_ (Bl.refl w1) (.cells #[.int .i64 N, .slice A' l c'] 26)))
    have J1 := Lib.hid (IntsAt.bl hi2 (Bl.alloc_ (Bl.refl w1) (.cells #[.int .i64 N, .slice A' l c'] 26)))
    have B1 := Lib.hid (hb1.alloc_ (.cells #[.int .i64 N, .slice A' l c'] 26))
    have HC2 := Lib.hid hcap2
    clear hd ha hb1 hv2 hi2 hk hcap2
    go_wp2_with fail
    refine (implLengthOf_any N A' l c' L HL.out A2 k c2 P HK.out _ (by omega) hp4 HC2.out HA.out J1.out).mono ?_
    rintro e w2 ⟨rfl, hb2⟩
    obtain ⟨q0, q1⟩ := box2 hb2
    go_wp2_with fail
    refine (specLengthOf_any N A' l c' L HL.out A2 k c2 P HK.out _ (by omega) hp4 (HA.out.bl hb2) (J1.out.bl hb2)).mono ?_
    rintro e w3 ⟨rfl, hb3⟩
    have P3 := Lib.hid (hb2.trans_ hb3)
    have J3 := Lib.hid (J1.out.bl P3.out)
    have e1 : (lenI N L P != lenI N L P) = false := by simp
    have e2 : (pathB N L P != pathB N L P) = false := by simp
    have e3 : (lenI N L P == lenI N L P) = true := by simp
    have e4 : (pathB N L P == pathB N L P) = true := by simp
    clear hb2 hb3 q0 q1
    cases hf : pathB N L P with
    | false =>
      rw [hf] at e2 e4
      clear hf
      generalize lenI N L P = le at *
      go_wp2
      go_ret
      exact ⟨rfl, B1.out.trans_ P3.out⟩
    | true =>
      rw [hf] at e2 e4
      have HO := Lib.hid (pathB_elim hf).1
      have hk0 : 0 < k := by rw [HK.out]; exact (pathB_elim hf).2.1
      have hk1000 : k ≤ 1000 := by rw [HK.out]; exact (pathB_elim hf).2.2.1
      have HRL := Lib.hid (revL_len (okB_elim HO.out).2.2.2.2)
      have BK := Lib.hid (path_back hf)
      have PCS := Lib.hid (fun i hi => pieces_add hf i hi)
      have hle : 0 ≤ lenI N L P ∧ lenI N L P ≤ 1000000 := by
        rw [lenI_yes hf]
        have := sumW_bounds (L := L) P HO.out (P.length - 1)
        have := HK.out
        omega
      generalize lenI N L P = le at *
      have kw : IntKind.i64.wrap ((k : Int) - 1) = (k : Int) - 1 := IntWalk.i64_in _ (by omega)
      clear hf
      have O5 := Lib.hid (show OwnN (w3.alloc (.cells #[] 2)) (w3.heap.size) (.slice (some ⟨w3.heap.size, 0, none⟩) 0 0) (P.drop k).reverse from by
        rw [List.drop_eq_nil_of_le (by have := HK.out; omega)]
        exact World.ownsRow_made (base := w3.heap.size) (e := 2) (size := 1) w3 #[] 0 (Nat.le_refl _) (by unfold maxLen; omega) rfl)
      go_wp2_with fail
      go_loopw [9, 10] (fun q iv wr => ∃ (j : Nat) (x : Int), j ≤ k ∧ iv = .int .i64 x ∧ x = (j : Int) - 1 ∧ OwnN wr w3.heap.size q (P.drop j).reverse ∧ Bl w3 wr) (fun _ iv _ => (intOf iv + 1).toNat)
      case atStart => exact ⟨k, (k : Int) - 1, by omega, rfl, rfl, O5.out, (by repeat' (first | exact Bl.refl _ | with_reducible assumption | with_reducible refine Bl.drew_ ?_ | with_reducible refine Bl.drewN_ ?_ _ | with_reducible refine Bl.alloc_ ?_ _ | with_reducible refine Bl.trans_ ?_ (by assumption) | with_reducible refine Bl.trans_ ?_ (And.left (by assumption))))⟩
      case round =>
        obtain ⟨j, x, hj, rfl, hx, hO, hbl⟩ := hrel
        have O := Lib.hid hO
        have hsz := hbl.size
        clear hO O5
        rcases j with _ | j
        · obtain rfl : x = -1 := by omega
          have O2 := O.out
          rw [List.drop_zero] at O2
          obtain ⟨A9, c9, rfl, hcap9, hi9, -, -⟩ := OwnN.shape O2
          have e9 : P.reverse.length = k := by rw [List.length_reverse, HK.out]
          rw [e9] at hcap9 ⊢
          have HR := Lib.hid e9
          have I9 := Lib.hid hi9
          have HC9 := Lib.hid hcap9
          clear O2 hi9 hcap9 e9 O hx
          go_wp2_with fail
          go_loopw [11] (fun iv wx => ∃ i : Nat, i ≤ k ∧ iv = .int .i64 i ∧ Bl wr wx) (fun iv _ => k - (intOf iv).toNat)
          case atStart => exact ⟨0, by omega, rfl, Bl.refl _⟩
          case round =>
            obtain ⟨i, hi, rfl, hbl2⟩ := hrel
            by_cases hlt : i < k
            · have hgb := P3.out.trans_ (hbl.trans_ hbl2)
              have hil : i < P.length := by have := HK.out; omega
              obtain ⟨g2, o2, rfl, hg2, hc2⟩ := (J3.out.bl (hbl.trans_ hbl2)).cell (by omega)
              obtain ⟨f1, f2, f3⟩ := PCS.out i hil
              rw [← HK.out] at f2 f3
              have PC1 := Lib.hid (pieceL_len (Nat.zero_le i) hil)
              have PC2 := Lib.hid (show (pieceL P i (k - 1)).length = k - i from by rw [pieceL_len (by omega) (by have := HK.out; omega)]; omega)
              have IPA := Lib.hid (show ∀ (a b : Nat), a ≤ b → b < P.length → ∀ w5, Bl wr w5 → IntsAt w5 w5.heap.size (some ⟨g2, o2 + a, none⟩) (pieceL P a b) from fun a b hab hbk w5 hy h0 => by
                refine ⟨g2, o2 + a, rfl, Nat.lt_of_lt_of_le hg2 hy.size, fun j hj => ?_⟩
                rw [csI_len] at hj
                rw [pieceL_len hab hbk] at hj
                have h1 := hc2 (a + j) (by omega)
                rw [← (bcell hy).1 _ _ hg2, show o2 + (a + j) = o2 + a + j from by omega] at h1
                rw [csI_at, h1]
                have h2 := pieceL_at hab hbk hj
                rw [List.getD_eq_getElem?_getD, List.getElem?_eq_getElem (by rw [pieceL_len hab hbk]; exact hj)] at h2
                rw [show (pieceL P a b)[j]'(by rw [pieceL_len hab hbk]; exact hj) = P[a + j]'(by omega) from h2])
              have IP1 := Lib.hid (show ∀ w5, Bl wr w5 → IntsAt w5 w5.heap.size (some ⟨g2, o2, none⟩) (pieceL P 0 i) from fun w5 hy => by simpa using IPA.out 0 i (by omega) hil w5 hy)
              have IP2 := Lib.hid (show ∀ w5, Bl wr w5 → IntsAt w5 w5.heap.size (some ⟨g2, o2 + i, none⟩) (pieceL P i (k - 1)) from fun w5 hy => IPA.out i (k - 1) (by omega) (by have := HK.out; omega) w5 hy)
              have F1 := Lib.hid f1
              have F2 := Lib.hid f2
              clear hc2 f1 f2 IPA
              generalize ha1 : lenI N L (pieceL P 0 i) = a1 at *
              generalize ha2 : lenI N L (pieceL P i (k - 1)) = a2 at *
              have G1 := Lib.hid ha1
              have G2 := Lib.hid ha2
              have sw : IntKind.i64.wrap (a1 + a2) = le := by rw [f3]; exact IntWalk.i64_in _ (by omega)
              have F3 := Lib.hid f3
              have lw : IntKind.i64.wrap le = le := IntWalk.i64_in _ (by omega)
              clear ha1 ha2 f3
              have HSH := Lib.hid (show ∀ w5, Bl wr w5 → w5.cell? ⟨w1.heap.size, 0, none⟩ = some (.int .i64 N) ∧ w5.cell? ⟨w1.heap.size, 1, none⟩ = some (.slice A' l c') from fun w5 hy => box2 (hgb.trans_ hy))
              have m0 : (0 : Int) ≤ (i : Int) := by omega
              have m1 : (i : Int) < (k : Int) := by omega
              have m8 : (i : Int) ≤ (k : Int) := by omega
              have m2 : (0 : Int) ≤ (i : Int) + 1 := by omega
              have m3 : (i : Int) + 1 ≤ (c2 : Int) := by have := HC2.out; omega
              have iw : IntKind.i64.wrap ((i : Int) + 1) = (i : Int) + 1 := IntWalk.i64_in _ (by omega)
              have m6 : ¬ (c2 = i) := by have := HC2.out; omega
              have m7 : ¬ (c2 - i = 0) := by have := HC2.out; omega
              have m9 : ¬ (c2 = 0) := by have := HC2.out; omega
              go_wp2_with fail
              refine wp_region_held_drew (S := fun wx => wx.cell? ⟨w1.heap.size, 0, none⟩ = some (.int .i64 N) ∧ wx.cell? ⟨w1.heap.size, 1, none⟩ = some (.slice A' l c')) (by kernel_rfl) ?_ (fun hHeld => ?_)
              · (exact HSH.out _ (by repeat' (first | exact Bl.refl _ | with_reducible assumption | with_reducible refine Bl.drew_ ?_ | with_reducible refine Bl.drewN_ ?_ _ | with_reducible refine Bl.alloc_ ?_ _ | with_reducible refine Bl.trans_ ?_ (by assumption) | with_reducible refine Bl.trans_ ?_ (And.left (by assumption)))))
              refine wpAnyH_take (i := 0) (v := ?_) rfl (by kernel_rfl) (by kernel_rfl) (by kernel_rfl) (fun _ _ _ h => h) (Or.inl ⟨by kernel_rfl, ?_⟩) (by assumption) ?_
              rotate_left
              · (intro wx hSw; (try dsimp only at hSw); go_simp; try (with_reducible rfl))
              try simp only [Act.put, List.getElem_toArray, List.getElem_cons_succ, List.getElem_cons_zero, List.setIfInBounds_toArray, List.set_cons_zero, List.set_cons_succ]
              refine wpAnyH_take (i := 1) (v := ?_) rfl (by kernel_rfl) (by kernel_rfl) (by kernel_rfl) (fun _ _ _ h => h) (Or.inl ⟨by kernel_rfl, ?_⟩) (by assumption) ?_
              rotate_left
              · (intro wx hSw; (try dsimp only at hSw); go_simp; try (with_reducible rfl))
              try simp only [Act.put, List.getElem_toArray, List.getElem_cons_succ, List.getElem_cons_zero, List.setIfInBounds_toArray, List.set_cons_zero, List.set_cons_succ]
              refine wpAnyH_take (i := 2) (v := ?_) rfl (by kernel_rfl) (by kernel_rfl) (by kernel_rfl) (fun _ _ _ h => h) (Or.inl ⟨by kernel_rfl, ?_⟩) (by assumption) ?_
              rotate_left
              · (intro wx hSw; (try dsimp only at hSw); go_simp; try (with_reducible rfl))
              try simp only [Act.put, List.getElem_toArray, List.getElem_cons_succ, List.getElem_cons_zero, List.setIfInBounds_toArray, List.set_cons_zero, List.set_cons_succ]
              refine wpAnyH_take (i := 3) (v := ?_) rfl (by kernel_rfl) (by kernel_rfl) (by kernel_rfl) (fun _ _ _ h => h) (Or.inl ⟨by kernel_rfl, ?_⟩) (by assumption) ?_
              rotate_left
              · (intro wx hSw; (try dsimp only at hSw); go_simp; try (with_reducible rfl))
              try simp only [Act.put, List.getElem_toArray, List.getElem_cons_succ, List.getElem_cons_zero, List.setIfInBounds_toArray, List.set_cons_zero, List.set_cons_succ]
              refine wpAnyH_take (i := 4) (v := ?_) rfl (by kernel_rfl) (by kernel_rfl) (by kernel_rfl) (fun _ _ _ h => h) (Or.inl ⟨by kernel_rfl, ?_⟩) (by assumption) ?_
              rotate_left
              · (intro wx hSw; (try dsimp only at hSw); go_simp; try (with_reducible rfl))
              try simp only [Act.put, List.getElem_toArray, List.getElem_cons_succ, List.getElem_cons_zero, List.setIfInBounds_toArray, List.set_cons_zero, List.set_cons_succ]
              refine wpAnyH_ready (rs := [5]) (by kernel_rfl) (by simp) ?_
              refine AllReadyH.cons rfl (fun K hK => ?_) AllReadyH.nil
              go_simp
              (go_at_call 28; refine (implLengthOf_any N A' l c' L HL.out (some ⟨g2, o2, none⟩) (i + 1) c2 (pieceL P 0 i) PC1.out.symm _ (by omega) (by omega) (by have := HC2.out; omega) (HA.out.bl (hgb.trans_ (by repeat' (first | exact Bl.refl _ | with_reducible assumption | with_reducible refine Bl.drew_ ?_ | with_reducible refine Bl.drewN_ ?_ _ | with_reducible refine Bl.alloc_ ?_ _ | with_reducible refine Bl.trans_ ?_ (by assumption) | with_reducible refine Bl.trans_ ?_ (And.left (by assumption)))))) (IP1.out _ (by repeat' (first | exact Bl.refl _ | with_reducible assumption | with_reducible refine Bl.drew_ ?_ | with_reducible refine Bl.drewN_ ?_ _ | with_reducible refine Bl.alloc_ ?_ _ | with_reducible refine Bl.trans_ ?_ (by assumption) | with_reducible refine Bl.trans_ ?_ (And.left (by assumption)))))).mono ?_; rintro e w5 ⟨rfl, hb5⟩; rw [F1.out, G1.out])
              try (go_wp2_with fail)
              refine hK.out _ _ ?_ (fun hHeld => ?_)
              · (exact HSH.out _ (by repeat' (first | exact Bl.refl _ | with_reducible assumption | with_reducible refine Bl.drew_ ?_ | with_reducible refine Bl.drewN_ ?_ _ | with_reducible refine Bl.alloc_ ?_ _ | with_reducible refine Bl.trans_ ?_ (by assumption) | with_reducible refine Bl.trans_ ?_ (And.left (by assumption)))))
              clear hK K
              try simp only [Act.put, List.getElem_toArray, List.getElem_cons_succ, List.getElem_cons_zero, List.setIfInBounds_toArray, List.set_cons_zero, List.set_cons_succ]
              refine wpAnyH_take (i := 6) (v := ?_) rfl (by kernel_rfl) (by kernel_rfl) (by kernel_rfl) (fun _ _ _ h => h) (Or.inl ⟨by kernel_rfl, ?_⟩) (by assumption) ?_
              rotate_left
              · (intro wx hSw; (try dsimp only at hSw); go_simp; try (with_reducible rfl))
              try simp only [Act.put, List.getElem_toArray, List.getElem_cons_succ, List.getElem_cons_zero, List.setIfInBounds_toArray, List.set_cons_zero, List.set_cons_succ]
              refine wpAnyH_take (i := 7) (v := ?_) rfl (by kernel_rfl) (by kernel_rfl) (by kernel_rfl) (fun _ _ _ h => h) (Or.inl ⟨by kernel_rfl, ?_⟩) (by assumption) ?_
              rotate_left
              · (intro wx hSw; (try dsimp only at hSw); go_simp; try (with_reducible rfl))
              try simp only [Act.put, List.getElem_toArray, List.getElem_cons_succ, List.getElem_cons_zero, List.setIfInBounds_toArray, List.set_cons_zero, List.set_cons_succ]
              refine wpAnyH_take (i := 8) (v := ?_) rfl (by kernel_rfl) (by kernel_rfl) (by kernel_rfl) (fun _ _ _ h => h) (Or.inl ⟨by kernel_rfl, ?_⟩) (by assumption) ?_
              rotate_left
              · (intro wx hSw; (try dsimp only at hSw); go_simp; try (with_reducible rfl))
              try simp only [Act.put, List.getElem_toArray, List.getElem_cons_succ, List.getElem_cons_zero, List.setIfInBounds_toArray, List.set_cons_zero, List.set_cons_succ]
              refine wpAnyH_take (i := 9) (v := ?_) rfl (by kernel_rfl) (by kernel_rfl) (by kernel_rfl) (fun _ _ _ h => h) (Or.inl ⟨by kernel_rfl, ?_⟩) (by assumption) ?_
              rotate_left
              · (intro wx hSw; (try dsimp only at hSw); go_simp; try (with_reducible rfl))
              try simp only [Act.put, List.getElem_toArray, List.getElem_cons_succ, List.getElem_cons_zero, List.setIfInBounds_toArray, List.set_cons_zero, List.set_cons_succ]
              refine wpAnyH_take (i := 10) (v := ?_) rfl (by kernel_rfl) (by kernel_rfl) (by kernel_rfl) (fun _ _ _ h => h) (Or.inl ⟨by kernel_rfl, ?_⟩) (by assumption) ?_
              rotate_left
              · (intro wx hSw; (try dsimp only at hSw); go_simp; try (with_reducible rfl))
              try simp only [Act.put, List.getElem_toArray, List.getElem_cons_succ, List.getElem_cons_zero, List.setIfInBounds_toArray, List.set_cons_zero, List.set_cons_succ]
              refine wpAnyH_done (by kernel_rfl) ?_ _
              clear hHeld
              have B5 := Lib.hid (show Bl wr w5 from (by repeat' (first | exact Bl.refl _ | with_reducible assumption | with_reducible refine Bl.drew_ ?_ | with_reducible refine Bl.drewN_ ?_ _ | with_reducible refine Bl.alloc_ ?_ _ | with_reducible refine Bl.trans_ ?_ (by assumption) | with_reducible refine Bl.trans_ ?_ (And.left (by assumption)))))
              clear hb5
              go_wp2_with fail
              refine wp_region_held_drew (S := fun wx => wx.cell? ⟨w1.heap.size, 0, none⟩ = some (.int .i64 N) ∧ wx.cell? ⟨w1.heap.size, 1, none⟩ = some (.slice A' l c')) (by kernel_rfl) ?_ (fun hHeld => ?_)
              · (exact HSH.out _ (B5.out.trans_ (by repeat' (first | exact Bl.refl _ | with_reducible assumption | with_reducible refine Bl.drew_ ?_ | with_reducible refine Bl.drewN_ ?_ _ | with_reducible refine Bl.alloc_ ?_ _ | with_reducible refine Bl.trans_ ?_ (by assumption) | with_reducible refine Bl.trans_ ?_ (And.left (by assumption))))))
              refine wpAnyH_take (i := 0) (v := ?_) rfl (by kernel_rfl) (by kernel_rfl) (by kernel_rfl) (fun _ _ _ h => h) (Or.inl ⟨by kernel_rfl, ?_⟩) (by assumption) ?_
              rotate_left
              · (intro wx hSw; (try dsimp only at hSw); go_simp; try (with_reducible rfl))
              try simp only [Act.put, List.getElem_toArray, List.getElem_cons_succ, List.getElem_cons_zero, List.setIfInBounds_toArray, List.set_cons_zero, List.set_cons_succ]
              refine wpAnyH_take (i := 1) (v := ?_) rfl (by kernel_rfl) (by kernel_rfl) (by kernel_rfl) (fun _ _ _ h => h) (Or.inl ⟨by kernel_rfl, ?_⟩) (by assumption) ?_
              rotate_left
              · (intro wx hSw; (try dsimp only at hSw); go_simp; try (with_reducible rfl))
              try simp only [Act.put, List.getElem_toArray, List.getElem_cons_succ, List.getElem_cons_zero, List.setIfInBounds_toArray, List.set_cons_zero, List.set_cons_succ]
              refine wpAnyH_take (i := 2) (v := ?_) rfl (by kernel_rfl) (by kernel_rfl) (by kernel_rfl) (fun _ _ _ h => h) (Or.inl ⟨by kernel_rfl, ?_⟩) (by assumption) ?_
              rotate_left
              · (intro wx hSw; (try dsimp only at hSw); go_simp; try (with_reducible rfl))
              try simp only [Act.put, List.getElem_toArray, List.getElem_cons_succ, List.getElem_cons_zero, List.setIfInBounds_toArray, List.set_cons_zero, List.set_cons_succ]
              refine wpAnyH_take (i := 3) (v := ?_) rfl (by kernel_rfl) (by kernel_rfl) (by kernel_rfl) (fun _ _ _ h => h) (Or.inl ⟨by kernel_rfl, ?_⟩) (by assumption) ?_
              rotate_left
              · (intro wx hSw; (try dsimp only at hSw); go_simp; try (with_reducible rfl))
              try simp only [Act.put, List.getElem_toArray, List.getElem_cons_succ, List.getElem_cons_zero, List.setIfInBounds_toArray, List.set_cons_zero, List.set_cons_succ]
              refine wpAnyH_ready (rs := [4]) (by kernel_rfl) (by simp) ?_
              refine AllReadyH.cons rfl (fun K hK => ?_) AllReadyH.nil
              go_simp
              (go_at_call 28; refine (implLengthOf_any N A' l c' L HL.out (some ⟨g2, o2 + i, none⟩) (k - i) (c2 - i) (pieceL P i (k - 1)) PC2.out.symm _ (by omega) (by omega) (by have := HC2.out; omega) (HA.out.bl (hgb.trans_ (B5.out.trans_ (by repeat' (first | exact Bl.refl _ | with_reducible assumption | with_reducible refine Bl.drew_ ?_ | with_reducible refine Bl.drewN_ ?_ _ | with_reducible refine Bl.alloc_ ?_ _ | with_reducible refine Bl.trans_ ?_ (by assumption) | with_reducible refine Bl.trans_ ?_ (And.left (by assumption))))))) (IP2.out _ (B5.out.trans_ (by repeat' (first | exact Bl.refl _ | with_reducible assumption | with_reducible refine Bl.drew_ ?_ | with_reducible refine Bl.drewN_ ?_ _ | with_reducible refine Bl.alloc_ ?_ _ | with_reducible refine Bl.trans_ ?_ (by assumption) | with_reducible refine Bl.trans_ ?_ (And.left (by assumption))))))).mono ?_; rintro e w6 ⟨rfl, hb6⟩; rw [F2.out, G2.out])
              try (go_wp2_with fail)
              refine hK.out _ _ ?_ (fun hHeld => ?_)
              · (exact HSH.out _ (B5.out.trans_ (by repeat' (first | exact Bl.refl _ | with_reducible assumption | with_reducible refine Bl.drew_ ?_ | with_reducible refine Bl.drewN_ ?_ _ | with_reducible refine Bl.alloc_ ?_ _ | with_reducible refine Bl.trans_ ?_ (by assumption) | with_reducible refine Bl.trans_ ?_ (And.left (by assumption))))))
              clear hK K
              try simp only [Act.put, List.getElem_toArray, List.getElem_cons_succ, List.getElem_cons_zero, List.setIfInBounds_toArray, List.set_cons_zero, List.set_cons_succ]
              refine wpAnyH_take (i := 5) (v := ?_) rfl (by kernel_rfl) (by kernel_rfl) (by kernel_rfl) (fun _ _ _ h => h) (Or.inl ⟨by kernel_rfl, ?_⟩) (by assumption) ?_
              rotate_left
              · (intro wx hSw; (try dsimp only at hSw); go_simp; try (with_reducible rfl))
              try simp only [Act.put, List.getElem_toArray, List.getElem_cons_succ, List.getElem_cons_zero, List.setIfInBounds_toArray, List.set_cons_zero, List.set_cons_succ]
              refine wpAnyH_take (i := 6) (v := ?_) rfl (by kernel_rfl) (by kernel_rfl) (by kernel_rfl) (fun _ _ _ h => h) (Or.inl ⟨by kernel_rfl, ?_⟩) (by assumption) ?_
              rotate_left
              · (intro wx hSw; (try dsimp only at hSw); go_simp; try (with_reducible rfl))
              try simp only [Act.put, List.getElem_toArray, List.getElem_cons_succ, List.getElem_cons_zero, List.setIfInBounds_toArray, List.set_cons_zero, List.set_cons_succ]
              refine wpAnyH_take (i := 7) (v := ?_) rfl (by kernel_rfl) (by kernel_rfl) (by kernel_rfl) (fun _ _ _ h => h) (Or.inl ⟨by kernel_rfl, ?_⟩) (by assumption) ?_
              rotate_left
              · (intro wx hSw; (try dsimp only at hSw); go_simp; try (with_reducible rfl))
              try simp only [Act.put, List.getElem_toArray, List.getElem_cons_succ, List.getElem_cons_zero, List.setIfInBounds_toArray, List.set_cons_zero, List.set_cons_succ]
              refine wpAnyH_take (i := 8) (v := ?_) rfl (by kernel_rfl) (by kernel_rfl) (by kernel_rfl) (fun _ _ _ h => h) (Or.inl ⟨by kernel_rfl, ?_⟩) (by assumption) ?_
              rotate_left
              · (intro wx hSw; (try dsimp only at hSw); go_simp; try (with_reducible rfl))
              try simp only [Act.put, List.getElem_toArray, List.getElem_cons_succ, List.getElem_cons_zero, List.setIfInBounds_toArray, List.set_cons_zero, List.set_cons_succ]
              refine wpAnyH_take (i := 9) (v := ?_) rfl (by kernel_rfl) (by kernel_rfl) (by kernel_rfl) (fun _ _ _ h => h) (Or.inl ⟨by kernel_rfl, ?_⟩) (by assumption) ?_
              rotate_left
              · (intro wx hSw; (try dsimp only at hSw); go_simp; try (with_reducible rfl))
              try simp only [Act.put, List.getElem_toArray, List.getElem_cons_succ, List.getElem_cons_zero, List.setIfInBounds_toArray, List.set_cons_zero, List.set_cons_succ]
              refine wpAnyH_done (by kernel_rfl) ?_ _
              have Q9 := Lib.hid (hbl2.trans_ (B5.out.trans_ (show Bl w5 w6 from (by repeat' (first | exact Bl.refl _ | with_reducible assumption | with_reducible refine Bl.drew_ ?_ | with_reducible refine Bl.drewN_ ?_ _ | with_reducible refine Bl.alloc_ ?_ _ | with_reducible refine Bl.trans_ ?_ (by assumption) | with_reducible refine Bl.trans_ ?_ (And.left (by assumption)))))))
              clear hHeld hb6
              go_wp2
              go_roundw
              case rel => exact ⟨i + 1, by omega, by go_num, Q9.out⟩
              case measure => simp [intOf]; omega
            · obtain rfl : i = k := by omega
              have hgb := P3.out.trans_ (hbl.trans_ hbl2)
              have HG := Lib.hid hgb
              obtain ⟨q0, q1⟩ := box2 hgb
              clear hgb
              go_wp2_with fail
              refine (implReversed_any N A' l c' L HL.out _ (by omega) (HA.out.bl HG.out)).mono ?_
              rintro e w8 ⟨v6, rfl, hv6, hb8⟩
              rw [show revN N L = N from if_pos HO.out]
              rw [show revG N L = revL L from if_pos HO.out] at hv6
              obtain ⟨A6, c6, rfl, ha6, -⟩ := hv6.shape
              have V6 := Lib.hid ha6
              have B8 := Lib.hid hb8
              clear hv6 ha6 hb8
              go_wp2_with fail
              refine (implLengthOf_any N A6 (revL L).length c6 (revL L) rfl A9 i c9 P.reverse HR.out.symm _ (by have := HRL.out; have := HL.out; omega) hp4 HC9.out V6.out (I9.out.bl (hbl2.trans_ B8.out))).mono ?_
              rintro e w9 ⟨rfl, hb9⟩
              rw [BK.out.1, BK.out.2]
              go_wp2
              go_ret
              exact ⟨rfl, B1.out.trans_ (HG.out.trans_ (B8.out.trans_ hb9))⟩
        · obtain rfl : x = (j : Int) := by omega
          have hjl : j < P.length := by have := HK.out; omega
          obtain ⟨g2, o2, rfl, hg2, hc2⟩ := (J3.out.bl hbl).cell (by omega)
          have p1 := hc2 j hjl
          have DR := Lib.hid (show (P.drop j).reverse = (P.drop (j + 1)).reverse ++ [P[j]'hjl] from by rw [List.drop_eq_getElem_cons hjl, List.reverse_cons])
          generalize P[j]'hjl = y at p1 DR
          obtain ⟨R, hR⟩ : ∃ R, R = (P.drop (j + 1)).reverse := ⟨_, rfl⟩
          have O2 := O.out
          rw [← hR] at O2
          have hRl : R.length ≤ 1000 := by rw [hR, List.length_reverse, List.length_drop]; have := HK.out; omega
          have RR := Lib.hid hR
          have O7 := Lib.hid O2
          have hs7 := hsz
          have m0 : (0 : Int) ≤ (j : Int) := by omega
          have m1 : (j : Int) < (k : Int) := by omega
          have iw : IntKind.i64.wrap ((j : Int) - 1) = (j : Int) - 1 := IntWalk.i64_in _ (by omega)
          clear O2 hR O hc2 hx
          go_wp2_with (at_builtin; refine wpList_append_any _ rfl (.tmp 65) (.tmp 70) _ rfl w3.heap.size 2 i0 _ 1 8 Try.underlying37 I0.out I1.out I2.out I3.out rfl (by decide) _ R.length (csI R) rfl (World.ownsRow.alloc O7.out _) (wr.heap.size + 1) (some ⟨wr.heap.size, 0, none⟩) 1 1 [.int .i64 y] rfl ?c0 (by simp [Value.oneCell']) ?c3 ?c4 ?c5 ?_)
          case c0 =>
            refine ⟨rfl, fun _ => ⟨_, rfl, by show wr.heap.size < wr.heap.size + 1; omega, fun x u hj => ?_⟩⟩
            match x, hj with
            | 0, hj => simp at hj; subst hj; simp [Addr.add, go_sem]
            | (x + 1), hj => simp at hj
          case c3 => unfold maxLen; omega
          case c4 => omega
          case c5 => simp; omega
          intro v' w8 hown' hgrow hwh
          have O8 := Lib.hid (OwnN.snoc (V := R) (x := y) (n := R.length) rfl (by simpa using hown'))
          have B8 := Lib.hid (show Bl w3 w8 from (hbl.alloc_ (.cells #[.int .i64 y] 2)).grown_ hgrow (fun g hg => by have := (Owns.lt O7.out g hg).1; omega))
          clear hown' hgrow hwh
          go_wp2
          go_roundw
          case rel => exact ⟨j, (j : Int) - 1, by omega, by go_num, rfl, by rw [DR.out, ← RR.out]; exact O8.out, B8.out⟩
          case measure => simp only [intOf]; omega

end Go.Proofs.Ytpbgnidjgmmebaa
