/-
  What is proved here: the walk of the law on rows of tables of distances: at every code it returns true, and leaves what was there as it was. No conditions beyond those that each theorem states.
-/
import Derived.Test.YtlddileiecnkjaaV9LMatFar
set_option linter.unusedSimpArgs false
set_option linter.unusedVariables false
namespace Go.Proofs.Ytlddileiecnkjaa
open Go.RowKit

theorem RowsG.cap {w : World} {B : Nat} {A : Option Addr} {n c : Nat} {G : List SlH} {R : List (List Int)} (h : RowsG w B (.slice A n c) G R) (hn : n = R.length) : n ≤ c := by
  have h' : w.ownsRow B 58 1 (.slice A n c) G.length (G.map slV) := h.own
  have hl := h.len
  rcases h'.2 with ⟨e, h0⟩ | ⟨g, cap, cur, e, hB, hg, hnc, hcm, -⟩
  · injection e with e1 e2 e3
    omega
  · injection e with e1 e2 e3
    omega
theorem mat_one {N : Int} {L : List Arc3} {F T : List Int} (h : matB N L F T = true) {i : Nat} (hi : i < F.length) : ∃ h1 : i < (matL N L F T).length, matL N L [F[i]] T = [(matL N L F T)[i]] := by
  obtain ⟨ho, hF, hT⟩ := matB_elim h
  have hf := (nodesB_elim hF).1 F[i] (List.getElem_mem hi)
  have e : matL N L F T = matR N L F T := matL_yes h
  have h1 : i < (matL N L F T).length := by rw [e, matR_len]; exact hi
  have hb : matB N L [F[i]] T = true := by
    unfold matB
    rw [ho, hT]
    unfold nodesB
    simp
    exact hf
  refine ⟨h1, ?_⟩
  rw [matL_yes hb]
  simp only [e]
  simp [matR]

set_option maxRecDepth 100000 in
set_option maxHeartbeats 4000000 in
theorem lawMatRow_any (A : Option Addr) (n c : Nat) (w : World) (H : BytesAt w A n) :
    Calls Try.prog 6 #[.slice A n c] w fun e w' => e = .returned (.bool true) ∧ Bl w w' := by
  have K := Lib.hid H
  clear H
  by_cases hbig : (1048576 : Int) < (n : Int)
  · have hb : decide ((1048576 : Int) < (n : Int)) = true := by simpa using hbig
    clear hbig
    go_enter Try.func6, Try.ntmps6
    go_wp2_with (go_at_call 16; refine (big_any _ _ _ _).mono ?_; rintro e w' ⟨rfl, rfl⟩)
    go_ret
    exact ⟨rfl, (by repeat' (first | exact Bl.refl _ | with_reducible assumption | with_reducible refine Bl.drew_ ?_ | with_reducible refine Bl.drewN_ ?_ _ | with_reducible refine Bl.alloc_ ?_ _ | with_reducible refine Bl.trans_ ?_ (by assumption) | with_reducible refine Bl.trans_ ?_ (And.left (by assumption))))⟩
  · have hb : decide ((1048576 : Int) < (n : Int)) = false := by simpa using hbig
    have hn : n ≤ 1099511627776 := by omega
    clear hbig
    go_enter Try.func6, Try.ntmps6
    go_wp2_with fail
    refine (big_any _ _ _ _).mono ?_
    rintro e w1 ⟨rfl, rfl⟩
    go_wp2_with fail
    refine (drawMatrix_any A n c _ hn K.out).mono ?_
    rintro e w1 ⟨N, A', l, c', L, A3, k3, c3, F, A4, k4, c4, T, rfl, hd, ⟨h31, h32, h33, h34⟩, ⟨h41, h42, h43, h44⟩, hb1⟩
    obtain ⟨ha, hlc⟩ := hd.arcs
    have HL := Lib.hid hd.1
    have hl200 := hd.2.1
    have HF := Lib.hid h31
    have HT := Lib.hid h41
    obtain ⟨X, hX⟩ : ∃ X, X = w1.alloc (.cells #[.int .i64 N, .slice A' l c'] 33) := ⟨_, rfl⟩
    have BX := Lib.hid (show Bl w1 X from by rw [hX]; exact Bl.alloc_ (Bl.refl w1) _)
    have HA := Lib.hid (ha.bl BX.out)
    have IF := Lib.hid (h34.bl BX.out)
    have IT := Lib.hid (h44.bl BX.out)
    have B1 := Lib.hid (hb1.trans_ BX.out)
    obtain ⟨gb, hgb⟩ : ∃ gb, gb = w1.heap.size := ⟨_, rfl⟩
    have HSH := Lib.hid (show ∀ wx, Bl X wx → wx.cell? ⟨gb, 0, none⟩ = some (.int .i64 N) ∧ wx.cell? ⟨gb, 1, none⟩ = some (.slice A' l c') from fun wx hb => by subst hgb; rw [hX] at hb; exact box2 hb)
    clear hd hb1 ha h31 h34 h41 h44
    go_wp2_with fail
    rw [← hX, ← hgb]
    clear hX hgb
    refine (implMatrix_any N A' l c' L HL.out hlc A3 k3 c3 F HF.out A4 k4 c4 T HT.out _ (by omega) (by omega) (by omega) HA.out IF.out IT.out).mono ?_
    rintro e w2 ⟨v2, G2, rfl, hv2, hb2⟩
    obtain ⟨A2, c2, rfl⟩ := hv2.slice
    have hcap := hv2.cap rfl
    have V2 := Lib.hid hv2.rowsAt
    obtain ⟨R, hR⟩ : ∃ R, R = matL N L F T := ⟨_, rfl⟩
    have HRR := Lib.hid hR
    have HRL := Lib.hid (show ∀ r ∈ R, r.length ≤ 9223372036854775807 from fun r hr => by have := (matL_small N L F T).2.1 r (by rw [← hR]; exact hr); omega)
    have HRN : R.length ≤ 60 := by rw [hR]; exact (matL_small N L F T).1
    rw [← hR] at V2 hcap ⊢
    obtain ⟨m, hm⟩ : ∃ m, m = R.length := ⟨_, rfl⟩
    rw [← hm] at HRN hcap ⊢
    have HM := Lib.hid hm
    have P2 := Lib.hid hb2
    clear hv2 hb2 hR hm
    obtain ⟨q0, q1⟩ := HSH.out _ P2.out
    go_wp2_with fail
    refine (specMatrix_any N A' l c' L HL.out A3 k3 c3 F HF.out A4 k4 c4 T HT.out _ (by omega) (by omega) (by omega) (HA.out.bl P2.out) (IF.out.bl P2.out) (IT.out.bl P2.out)).mono ?_
    rintro e w3 ⟨v3, G3, rfl, hv3, hb3⟩
    obtain ⟨A5, c5, rfl⟩ := hv3.slice
    have V3 := Lib.hid hv3.rowsAt
    rw [← HRR.out] at V3 ⊢
    rw [← HM.out]
    have P3 := Lib.hid (P2.out.trans_ hb3)
    have V23 := Lib.hid (V2.out.bl hb3)
    clear hv3 hb3 q0 q1
    go_wp2_with fail
    refine (sameRows_yes A2 A5 c2 c5 _ _ R m HM.out _ (by omega) HRL.out V23.out V3.out).mono ?_
    rintro e w4 ⟨rfl, hb4⟩
    have P4 := Lib.hid (P3.out.trans_ hb4)
    have V24 := Lib.hid (V23.out.bl hb4)
    clear hb4
    by_cases h0 : m = k3
    · have HMB := Lib.hid (show ∀ i (hi : i < F.length), matB N L F T = true from fun i hi => matL_pos (by have h1 := HM.out; have h2 := HF.out; rw [HRR.out] at h1; omega))
      subst h0
      have b0 : ((m : Int) != (m : Int)) = false := by simp
      go_wp2
      clear b0
      go_loopw [7] (fun iv wr => ∃ i : Nat, i ≤ m ∧ iv = .int .i64 i ∧ Bl w4 wr) (fun iv _ => m - (intOf iv).toNat)
      case atStart => exact ⟨0, by omega, rfl, Bl.refl _⟩
      case round =>
        obtain ⟨i, hi, rfl, hbl⟩ := hrel
        have BB := Lib.hid hbl
        clear hbl
        by_cases hlt : i < m
        · have hiF : i < F.length := by have := HF.out; omega
          obtain ⟨z1, z2⟩ := mat_one (HMB.out i hiF) hiF
          have hiR : i < R.length := by have := HM.out; omega
          have HZ := Lib.hid (show matL N L [F[i]] T = [R[i]] from by rw [z2]; simp [HRR.out])
          obtain ⟨g2, o2, A7, c7, rfl, hg2, hc2, hi2⟩ := V24.out.row hiR
          obtain ⟨gF, oF, rfl, hgF, hcF⟩ := (IF.out.bl P4.out).cell (by omega)
          have pF := hcF i hiF
          have ONE := Lib.hid (show ∀ wx, Bl wr wx → IntsAt wx wx.heap.size (some ⟨gF, oF + i, none⟩) [F[i]] from fun wx hb h0 => by
            have hb' := BB.out.trans_ hb
            refine ⟨gF, oF + i, rfl, Nat.lt_of_lt_of_le hgF hb'.size, fun j hj => ?_⟩
            have : j = 0 := by simp [csI] at hj; exact hj
            subst this
            rw [Nat.add_zero]
            exact ((bcell hb').1 _ _ hgF).trans pF)
          have ROW := Lib.hid (show ∀ wx, Bl wr wx → RowsAt wx 0 wx.heap.size (some ⟨g2, o2 + i, none⟩) [R[i]] from fun wx hb h0 => by
            have hb' := BB.out.trans_ hb
            refine ⟨g2, o2 + i, rfl, ⟨Nat.zero_le _, Nat.lt_of_lt_of_le hg2 hb'.size⟩, fun j hj => ?_⟩
            have : j = 0 := by simp at hj; exact hj
            subst this
            exact ⟨A7, c7, by rw [Nat.add_zero]; exact ((bcell hb').1 _ _ hg2).trans hc2, hi2.bl hb', fun _ _ _ => Nat.zero_le _⟩)
          have HRI := Lib.hid (show ∀ r ∈ [R[i]], r.length ≤ 9223372036854775807 from fun r hr => HRL.out r (by
            simp at hr
            rw [hr]; exact List.getElem_mem hiR))
          obtain ⟨s, hs⟩ : ∃ s, s = F[i] := ⟨_, rfl⟩
          obtain ⟨r, hr⟩ : ∃ r, r = R[i] := ⟨_, rfl⟩
          rw [← hs, ← hr] at HZ
          rw [← hs] at ONE
          rw [← hr] at ROW HRI
          have HS4 := Lib.hid (show ∀ wx, Bl wr wx → Bl wr wx ∧ wx.cell? ⟨gb, 0, none⟩ = some (.int .i64 N) ∧ wx.cell? ⟨gb, 1, none⟩ = some (.slice A' l c') from fun wx hb => ⟨hb, HSH.out _ (P4.out.trans_ (BB.out.trans_ hb))⟩)
          have u0 : (0 : Int) ≤ (i : Int) := by omega
          have u1 : (i : Int) < (m : Int) := by omega
          have u2 : (0 : Int) ≤ (i : Int) + 1 := by omega
          have u3 : (i : Int) + 1 ≤ (c3 : Int) := by omega
          have u3' : (i : Int) + 1 ≤ (c2 : Int) := by omega
          have iw : IntKind.i64.wrap ((i : Int) + 1) = (i : Int) + 1 := IntWalk.i64_in _ (by omega)
          have u4 : i + 1 ≤ c3 := by omega
          have u4' : i + 1 ≤ c2 := by omega
          have u6 : ¬ (c3 = i) := by omega
          have u6' : ¬ (c2 = i) := by omega
          have u7 : ¬ (c3 - i = 0) := by omega
          have u7' : ¬ (c2 - i = 0) := by omega
          clear z2 hi2 hg2 hc2 hgF hcF pF hs hr
          clear z1
          go_wp2_with fail
          refine wp_region_held_drew (S := fun wx => Bl wr wx ∧ wx.cell? ⟨gb, 0, none⟩ = some (.int .i64 N) ∧ wx.cell? ⟨gb, 1, none⟩ = some (.slice A' l c')) (by kernel_rfl) ?_ (fun hHeld => ?_)
          · (exact HS4.out _ (by repeat' (first | exact Bl.refl _ | with_reducible assumption | with_reducible refine Bl.drew_ ?_ | with_reducible refine Bl.drewN_ ?_ _ | with_reducible refine Bl.alloc_ ?_ _ | with_reducible refine Bl.trans_ ?_ (by assumption) | with_reducible refine Bl.trans_ ?_ (And.left (by assumption)))))
          refine wpAnyH_take (i := 0) (v := ?_) rfl (by kernel_rfl) (by kernel_rfl) (by kernel_rfl) (fun _ _ _ h => h) (Or.inl ⟨by kernel_rfl, ?_⟩) (by assumption) ?_
          rotate_left
          · (intro wx hSw; (try dsimp only at hSw); go_simp; try (with_reducible rfl))
          try simp only [Act.put, List.getElem_toArray, List.getElem_cons_succ, List.getElem_cons_zero, List.setIfInBounds_toArray, List.set_cons_zero, List.set_cons_succ]
          refine wpAnyH_take (i := 1) (v := ?_) rfl (by kernel_rfl) (by kernel_rfl) (by kernel_rfl) (fun _ _ _ h => h) (Or.inl ⟨by kernel_rfl, ?_⟩) (by assumption) ?_
          rotate_left
          · (intro wx hSw; (try dsimp only at hSw); go_simp; try (with_reducible rfl))
          try simp only [Act.put, List.getElem_toArray, List.getElem_cons_succ, List.getElem_cons_zero, List.setIfInBounds_toArray, List.set_cons_zero, List.set_cons_succ]
          refine wpAnyH_take (i := 2) (v := ?_) rfl (by kernel_rfl) (by kernel_rfl) (by kernel_rfl) (fun _ _ _ h => h) (Or.inl ⟨by kernel_rfl, ?_⟩) (by assumption) ?_
          rotate_left
          · (intro wx hSw; (try dsimp only at hSw); go_simp; try (with_reducible rfl))
          try simp only [Act.put, List.getElem_toArray, List.getElem_cons_succ, List.getElem_cons_zero, List.setIfInBounds_toArray, List.set_cons_zero, List.set_cons_succ]
          refine wpAnyH_take (i := 3) (v := ?_) rfl (by kernel_rfl) (by kernel_rfl) (by kernel_rfl) (fun _ _ _ h => h) (Or.inl ⟨by kernel_rfl, ?_⟩) (by assumption) ?_
          rotate_left
          · (intro wx hSw; (try dsimp only at hSw); go_simp; try (with_reducible rfl))
          try simp only [Act.put, List.getElem_toArray, List.getElem_cons_succ, List.getElem_cons_zero, List.setIfInBounds_toArray, List.set_cons_zero, List.set_cons_succ]
          refine wpAnyH_take (i := 4) (v := ?_) rfl (by kernel_rfl) (by kernel_rfl) (by kernel_rfl) (fun _ _ _ h => h) (Or.inl ⟨by kernel_rfl, ?_⟩) (by assumption) ?_
          rotate_left
          · (intro wx hSw; (try dsimp only at hSw); go_simp; try (with_reducible rfl))
          try simp only [Act.put, List.getElem_toArray, List.getElem_cons_succ, List.getElem_cons_zero, List.setIfInBounds_toArray, List.set_cons_zero, List.set_cons_succ]
          refine wpAnyH_take (i := 5) (v := ?_) rfl (by kernel_rfl) (by kernel_rfl) (by kernel_rfl) (fun _ _ _ h => h) (Or.inl ⟨by kernel_rfl, ?_⟩) (by assumption) ?_
          rotate_left
          · (intro wx hSw; (try dsimp only at hSw); go_simp; try (with_reducible rfl))
          try simp only [Act.put, List.getElem_toArray, List.getElem_cons_succ, List.getElem_cons_zero, List.setIfInBounds_toArray, List.set_cons_zero, List.set_cons_succ]
          refine wpAnyH_take (i := 6) (v := ?_) rfl (by kernel_rfl) (by kernel_rfl) (by kernel_rfl) (fun _ _ _ h => h) (Or.inl ⟨by kernel_rfl, ?_⟩) (by assumption) ?_
          rotate_left
          · (intro wx hSw; (try dsimp only at hSw); go_simp; try (with_reducible rfl))
          try simp only [Act.put, List.getElem_toArray, List.getElem_cons_succ, List.getElem_cons_zero, List.setIfInBounds_toArray, List.set_cons_zero, List.set_cons_succ]
          refine wpAnyH_take (i := 8) (v := ?_) rfl (by kernel_rfl) (by kernel_rfl) (by kernel_rfl) (fun _ _ _ h => h) (Or.inl ⟨by kernel_rfl, ?_⟩) (by assumption) ?_
          rotate_left
          · (intro wx hSw; (try dsimp only at hSw); go_simp; try (with_reducible rfl))
          try simp only [Act.put, List.getElem_toArray, List.getElem_cons_succ, List.getElem_cons_zero, List.setIfInBounds_toArray, List.set_cons_zero, List.set_cons_succ]
          refine wpAnyH_take (i := 9) (v := ?_) rfl (by kernel_rfl) (by kernel_rfl) (by kernel_rfl) (fun _ _ _ h => h) (Or.inl ⟨by kernel_rfl, ?_⟩) (by assumption) ?_
          rotate_left
          · (intro wx hSw; (try dsimp only at hSw); go_simp; try (with_reducible rfl))
          try simp only [Act.put, List.getElem_toArray, List.getElem_cons_succ, List.getElem_cons_zero, List.setIfInBounds_toArray, List.set_cons_zero, List.set_cons_succ]
          refine wpAnyH_take (i := 10) (v := ?_) rfl (by kernel_rfl) (by kernel_rfl) (by kernel_rfl) (fun _ _ _ h => h) (Or.inl ⟨by kernel_rfl, ?_⟩) (by assumption) ?_
          rotate_left
          · (intro wx hSw; (try dsimp only at hSw); go_simp; try (with_reducible rfl))
          try simp only [Act.put, List.getElem_toArray, List.getElem_cons_succ, List.getElem_cons_zero, List.setIfInBounds_toArray, List.set_cons_zero, List.set_cons_succ]
          refine wpAnyH_take (i := 11) (v := ?_) rfl (by kernel_rfl) (by kernel_rfl) (by kernel_rfl) (fun _ _ _ h => h) (Or.inl ⟨by kernel_rfl, ?_⟩) (by assumption) ?_
          rotate_left
          · (intro wx hSw; (try dsimp only at hSw); go_simp; try (with_reducible rfl))
          try simp only [Act.put, List.getElem_toArray, List.getElem_cons_succ, List.getElem_cons_zero, List.setIfInBounds_toArray, List.set_cons_zero, List.set_cons_succ]
          refine wpAnyH_take (i := 12) (v := ?_) rfl (by kernel_rfl) (by kernel_rfl) (by kernel_rfl) (fun _ _ _ h => h) (Or.inl ⟨by kernel_rfl, ?_⟩) (by assumption) ?_
          rotate_left
          · (intro wx hSw; (try dsimp only at hSw); go_simp; try (with_reducible rfl))
          try simp only [Act.put, List.getElem_toArray, List.getElem_cons_succ, List.getElem_cons_zero, List.setIfInBounds_toArray, List.set_cons_zero, List.set_cons_succ]
          refine wpAnyH_ready (rs := [7]) (by kernel_rfl) (by simp) ?_
          refine AllReadyH.cons rfl (fun K hK => ?_) AllReadyH.nil
          go_simp
          (go_at_call 29; refine (implMatrix_any N A' l c' L HL.out hlc (some ⟨gF, oF + i, none⟩) 1 (c3 - i) [s] rfl A4 k4 c4 T HT.out _ (by omega) (by omega) (by omega) (HA.out.bl (P4.out.trans_ (BB.out.trans_ (by repeat' (first | exact Bl.refl _ | with_reducible assumption | with_reducible refine Bl.drew_ ?_ | with_reducible refine Bl.drewN_ ?_ _ | with_reducible refine Bl.alloc_ ?_ _ | with_reducible refine Bl.trans_ ?_ (by assumption) | with_reducible refine Bl.trans_ ?_ (And.left (by assumption))))))) (ONE.out _ (by repeat' (first | exact Bl.refl _ | with_reducible assumption | with_reducible refine Bl.drew_ ?_ | with_reducible refine Bl.drewN_ ?_ _ | with_reducible refine Bl.alloc_ ?_ _ | with_reducible refine Bl.trans_ ?_ (by assumption) | with_reducible refine Bl.trans_ ?_ (And.left (by assumption))))) (IT.out.bl (P4.out.trans_ (BB.out.trans_ (by repeat' (first | exact Bl.refl _ | with_reducible assumption | with_reducible refine Bl.drew_ ?_ | with_reducible refine Bl.drewN_ ?_ _ | with_reducible refine Bl.alloc_ ?_ _ | with_reducible refine Bl.trans_ ?_ (by assumption) | with_reducible refine Bl.trans_ ?_ (And.left (by assumption)))))))).mono ?_; rintro e w7 ⟨v7, G7, rfl, hv7, hb7⟩; rw [HZ.out] at hv7; obtain ⟨A8, c8, rfl⟩ := hv7.slice; have V7 := Lib.hid hv7.rowsAt; clear hv7)
          try (go_wp2_with fail)
          refine hK.out _ _ ?_ (fun hHeld => ?_)
          · (exact HS4.out _ (by repeat' (first | exact Bl.refl _ | with_reducible assumption | with_reducible refine Bl.drew_ ?_ | with_reducible refine Bl.drewN_ ?_ _ | with_reducible refine Bl.alloc_ ?_ _ | with_reducible refine Bl.trans_ ?_ (by assumption) | with_reducible refine Bl.trans_ ?_ (And.left (by assumption)))))
          clear hK K
          try simp only [Act.put, List.getElem_toArray, List.getElem_cons_succ, List.getElem_cons_zero, List.setIfInBounds_toArray, List.set_cons_zero, List.set_cons_succ]
          refine wpAnyH_ready (rs := [13]) (by kernel_rfl) (by simp) ?_
          refine AllReadyH.cons rfl (fun K hK => ?_) AllReadyH.nil
          go_simp
          (go_at_call 38; refine (sameRows_yes A8 (some ⟨g2, o2 + i, none⟩) c8 (c2 - i) _ _ [r] 1 rfl _ (by omega) HRI.out V7.out (ROW.out _ (by repeat' (first | exact Bl.refl _ | with_reducible assumption | with_reducible refine Bl.drew_ ?_ | with_reducible refine Bl.drewN_ ?_ _ | with_reducible refine Bl.alloc_ ?_ _ | with_reducible refine Bl.trans_ ?_ (by assumption) | with_reducible refine Bl.trans_ ?_ (And.left (by assumption)))))).mono ?_; rintro e w8 ⟨rfl, hb8⟩)
          try (go_wp2_with fail)
          refine hK.out _ _ ?_ (fun hHeld => ?_)
          · (exact HS4.out _ (by repeat' (first | exact Bl.refl _ | with_reducible assumption | with_reducible refine Bl.drew_ ?_ | with_reducible refine Bl.drewN_ ?_ _ | with_reducible refine Bl.alloc_ ?_ _ | with_reducible refine Bl.trans_ ?_ (by assumption) | with_reducible refine Bl.trans_ ?_ (And.left (by assumption)))))
          clear hK K
          try simp only [Act.put, List.getElem_toArray, List.getElem_cons_succ, List.getElem_cons_zero, List.setIfInBounds_toArray, List.set_cons_zero, List.set_cons_succ]
          refine wpAnyH_take (i := 14) (v := ?_) rfl (by kernel_rfl) (by kernel_rfl) (by kernel_rfl) (fun _ _ _ h => h) (Or.inl ⟨by kernel_rfl, ?_⟩) (by assumption) ?_
          rotate_left
          · (intro wx hSw; (try dsimp only at hSw); go_simp; try (with_reducible rfl))
          try simp only [Act.put, List.getElem_toArray, List.getElem_cons_succ, List.getElem_cons_zero, List.setIfInBounds_toArray, List.set_cons_zero, List.set_cons_succ]
          refine wpAnyH_done (by kernel_rfl) ?_ _
          have HB8 := Lib.hid hHeld.1
          clear iw u2 u3 u3' u4 u4' u6 u6' u7 u7'
          go_wp2
          go_roundw
          case rel => exact ⟨i + 1, by omega, by go_num, BB.out.trans_ HB8.out⟩
          case measure => simp [intOf]; omega
        · obtain rfl : i = m := by omega
          go_wp2
          go_ret
          exact ⟨rfl, B1.out.trans_ (P4.out.trans_ BB.out)⟩
    · have b0 : ((m : Int) != (k3 : Int)) = true := by simp; omega
      obtain ⟨q0, q1⟩ := HSH.out _ P4.out
      clear h0
      go_wp2_with fail
      refine (specMatrix_any N A' l c' L HL.out A3 k3 c3 F HF.out A4 k4 c4 T HT.out _ (by omega) (by omega) (by omega) (HA.out.bl P4.out) (IF.out.bl P4.out) (IT.out.bl P4.out)).mono ?_
      rintro e w5 ⟨v5, G5, rfl, hv5, hb5⟩
      obtain ⟨A6, c6, rfl⟩ := hv5.slice
      have V5 := Lib.hid hv5.rowsAt
      rw [← HRR.out] at V5 ⊢
      rw [← HM.out]
      have P5 := Lib.hid (P4.out.trans_ hb5)
      have V25 := Lib.hid (V24.out.bl hb5)
      clear hv5 hb5 q0 q1
      go_wp2_with fail
      refine (sameRows_yes A2 A6 c2 c6 _ _ R m HM.out _ (by omega) HRL.out V25.out V5.out).mono ?_
      rintro e w6 ⟨rfl, hb6⟩
      have P6 := Lib.hid (P5.out.trans_ hb6)
      clear hb6
      go_wp2
      go_ret
      exact ⟨rfl, B1.out.trans_ P6.out⟩

end Go.Proofs.Ytlddileiecnkjaa
