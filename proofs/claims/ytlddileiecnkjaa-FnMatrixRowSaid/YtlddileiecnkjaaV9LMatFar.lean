/-
  What is proved here: the walk of the law on tables of distances: at every code it returns true, and leaves what was there as it was. No conditions beyond those that each theorem states.
-/
import Derived.Test.YtlddileiecnkjaaV9G14
import Derived.Test.YtlddileiecnkjaaV9G16
set_option linter.unusedSimpArgs false
set_option linter.unusedVariables false
namespace Go.Proofs.Ytlddileiecnkjaa
open Go.RowKit

theorem matL_pos {N : Int} {L : List Arc3} {F T : List Int} (h : 0 < (matL N L F T).length) : matB N L F T = true := by
  cases e : matB N L F T with
  | true => rfl
  | false => rw [matL_no e] at h; exact absurd h (by simp)
theorem matL_cell {N : Int} {L : List Arc3} {F T : List Int} (h : matB N L F T = true) {i k : Nat} (hi : i < F.length) (hk : k < T.length) :
    ∃ (h1 : i < (matL N L F T).length) (h2 : k < ((matL N L F T)[i]).length), ((matL N L F T)[i])[k] = distOfI N L F[i] T[k] := by
  obtain ⟨ho, hF, hT⟩ := matB_elim h
  have hf := (nodesB_elim hF).1 F[i] (List.getElem_mem hi)
  have ht := (nodesB_elim hT).1 T[k] (List.getElem_mem hk)
  have e : matL N L F T = matR N L F T := matL_yes h
  have h1 : i < (matL N L F T).length := by rw [e, matR_len]; exact hi
  have e2 : (matL N L F T)[i] = matRow N L T F[i] := by
    simp only [e]
    simp [matR]
  refine ⟨h1, by rw [e2, matRow_len]; exact hk, ?_⟩
  simp only [e2]
  unfold distOfI
  rw [if_pos (by unfold has2; rw [ho]; simp; omega)]
  simp [matRow]

set_option maxRecDepth 100000 in
set_option maxHeartbeats 4000000 in
theorem lawMatFar_any (A : Option Addr) (n c : Nat) (w : World) (H : BytesAt w A n) :
    Calls Try.prog 5 #[.slice A n c] w fun e w' => e = .returned (.bool true) ∧ Bl w w' := by
  have K := Lib.hid H
  clear H
  by_cases hbig : (1048576 : Int) < (n : Int)
  · have hb : decide ((1048576 : Int) < (n : Int)) = true := by simpa using hbig
    clear hbig
    go_enter Try.func5, Try.ntmps5
    go_wp2_with (go_at_call 16; refine (big_any _ _ _ _).mono ?_; rintro e w' ⟨rfl, rfl⟩)
    go_ret
    exact ⟨rfl, (by repeat' (first | exact Bl.refl _ | with_reducible assumption | with_reducible refine Bl.drew_ ?_ | with_reducible refine Bl.drewN_ ?_ _ | with_reducible refine Bl.alloc_ ?_ _ | with_reducible refine Bl.trans_ ?_ (by assumption) | with_reducible refine Bl.trans_ ?_ (And.left (by assumption))))⟩
  · have hb : decide ((1048576 : Int) < (n : Int)) = false := by simpa using hbig
    have hn : n ≤ 1099511627776 := by omega
    clear hbig
    go_enter Try.func5, Try.ntmps5
    go_wp2_with fail
    refine (big_any _ _ _ _).mono ?_
    rintro e w1 ⟨rfl, rfl⟩
    go_wp2_with fail
    refine (drawMatrix_any A n c _ hn K.out).mono ?_
    rintro e w1 ⟨N, A', l, c', L, A3, k3, c3, F, A4, k4, c4, T, rfl, hd, ⟨h31, h32, h33, h34⟩, ⟨h41, h42, h43, h44⟩, hb1⟩
    obtain ⟨ha, hlc⟩ := hd.arcs
    have HL := Lib.hid hd.1
    have hl200 := hd.2.1
    have HF := Lib.hid h31
    have HT := Lib.hid h41
    obtain ⟨X, hX⟩ : ∃ X, X = w1.alloc (.cells #[.int .i64 N, .slice A' l c'] 33) := ⟨_, rfl⟩
    have BX := Lib.hid (show Bl w1 X from by rw [hX]; exact Bl.alloc_ (Bl.refl w1) _)
    have HA := Lib.hid (ha.bl BX.out)
    have IF := Lib.hid (h34.bl BX.out)
    have IT := Lib.hid (h44.bl BX.out)
    have B1 := Lib.hid (hb1.trans_ BX.out)
    obtain ⟨gb, hgb⟩ : ∃ gb, gb = w1.heap.size := ⟨_, rfl⟩
    have HSH := Lib.hid (show ∀ wx, Bl X wx → wx.cell? ⟨gb, 0, none⟩ = some (.int .i64 N) ∧ wx.cell? ⟨gb, 1, none⟩ = some (.slice A' l c') from fun wx hb => by subst hgb; rw [hX] at hb; exact box2 hb)
    clear hd hb1 ha h31 h34 h41 h44
    go_wp2_with fail
    rw [← hX, ← hgb]
    clear hX hgb
    refine (implMatrix_any N A' l c' L HL.out hlc A3 k3 c3 F HF.out A4 k4 c4 T HT.out _ (by omega) (by omega) (by omega) HA.out IF.out IT.out).mono ?_
    rintro e w2 ⟨v2, G2, rfl, hv2, hb2⟩
    obtain ⟨A2, c2, rfl⟩ := hv2.slice
    have V2 := Lib.hid hv2.rowsAt
    obtain ⟨R, hR⟩ : ∃ R, R = matL N L F T := ⟨_, rfl⟩
    have HRR := Lib.hid hR
    have HRL := Lib.hid (show ∀ r ∈ R, r.length ≤ 9223372036854775807 from fun r hr => by have := (matL_small N L F T).2.1 r (by rw [← hR]; exact hr); omega)
    have HRN : R.length ≤ 60 := by rw [hR]; exact (matL_small N L F T).1
    rw [← hR] at V2 ⊢
    obtain ⟨m, hm⟩ : ∃ m, m = R.length := ⟨_, rfl⟩
    rw [← hm] at HRN ⊢
    have HM := Lib.hid hm
    have P2 := Lib.hid hb2
    clear hv2 hb2 hR hm
    obtain ⟨q0, q1⟩ := HSH.out _ P2.out
    go_wp2_with fail
    refine (specMatrix_any N A' l c' L HL.out A3 k3 c3 F HF.out A4 k4 c4 T HT.out _ (by omega) (by omega) (by omega) (HA.out.bl P2.out) (IF.out.bl P2.out) (IT.out.bl P2.out)).mono ?_
    rintro e w3 ⟨v3, G3, rfl, hv3, hb3⟩
    obtain ⟨A5, c5, rfl⟩ := hv3.slice
    have V3 := Lib.hid hv3.rowsAt
    rw [← HRR.out] at V3 ⊢
    rw [← HM.out]
    have P3 := Lib.hid (P2.out.trans_ hb3)
    have V23 := Lib.hid (V2.out.bl hb3)
    clear hv3 hb3 q0 q1
    go_wp2_with fail
    refine (sameRows_yes A2 A5 c2 c5 _ _ R m HM.out _ (by omega) HRL.out V23.out V3.out).mono ?_
    rintro e w4 ⟨rfl, hb4⟩
    have P4 := Lib.hid (P3.out.trans_ hb4)
    have V24 := Lib.hid (V23.out.bl hb4)
    clear hb4
    by_cases h0 : m = 0
    · have b0 : ((m : Int) == 0) = true := by simp; omega
      obtain ⟨q0, q1⟩ := HSH.out _ P4.out
      clear h0
      go_wp2_with fail
      refine (specMatrix_any N A' l c' L HL.out A3 k3 c3 F HF.out A4 k4 c4 T HT.out _ (by omega) (by omega) (by omega) (HA.out.bl P4.out) (IF.out.bl P4.out) (IT.out.bl P4.out)).mono ?_
      rintro e w5 ⟨v5, G5, rfl, hv5, hb5⟩
      obtain ⟨A6, c6, rfl⟩ := hv5.slice
      have V5 := Lib.hid hv5.rowsAt
      rw [← HRR.out] at V5 ⊢
      rw [← HM.out]
      have P5 := Lib.hid (P4.out.trans_ hb5)
      have V25 := Lib.hid (V24.out.bl hb5)
      clear hv5 hb5 q0 q1
      go_wp2_with fail
      refine (sameRows_yes A2 A6 c2 c6 _ _ R m HM.out _ (by omega) HRL.out V25.out V5.out).mono ?_
      rintro e w6 ⟨rfl, hb6⟩
      have P6 := Lib.hid (P5.out.trans_ hb6)
      clear hb6
      go_wp2
      go_ret
      exact ⟨rfl, B1.out.trans_ P6.out⟩
    · have b0 : ((m : Int) == 0) = false := by simp; omega
      have HMB := Lib.hid (matL_pos (by rw [← HRR.out, ← HM.out]; omega))
      have hmk : m = k3 := by rw [HM.out, HRR.out, matL_yes HMB.out, matR_len]; exact HF.out.symm
      have HCE := Lib.hid (fun (i k : Nat) hi hk => matL_cell HMB.out (i := i) (k := k) hi hk)
      rw [← HRR.out] at HCE
      subst hmk
      go_wp2
      go_loopw [7] (fun iv wr => ∃ i : Nat, i ≤ m ∧ iv = .int .i64 i ∧ Bl w4 wr) (fun iv _ => m - (intOf iv).toNat)
      case atStart => exact ⟨0, by omega, rfl, Bl.refl _⟩
      case round =>
        obtain ⟨i, hi, rfl, hbl⟩ := hrel
        have BI := Lib.hid hbl
        clear hbl
        by_cases hlt : i < m
        · have hiF : i < F.length := by have := HF.out; omega
          obtain ⟨wq, rfl⟩ : ∃ x : World, x = wr := ⟨_, rfl⟩
          have i1 : (i : Int) < (m : Int) := by omega
          go_wp2
          go_loopw [8] (fun kv wr => ∃ k : Nat, k ≤ k4 ∧ kv = .int .i64 k ∧ Bl w4 wr) (fun kv _ => k4 - (intOf kv).toNat)
          case atStart => exact ⟨0, by omega, rfl, BI.out⟩
          case round =>
            obtain ⟨k, hk, rfl, hbl⟩ := hrel
            have BB := Lib.hid hbl
            by_cases hlt2 : k < k4
            · have hkT : k < T.length := by have := HT.out; omega
              obtain ⟨z1, z2, z3⟩ := HCE.out i k hiF hkT
              obtain ⟨g2, o2, A7, c7, rfl, hg2, hc2, hi2⟩ := V24.out.row z1
              obtain ⟨g7, o7, rfl, hg7, hc7⟩ := hi2.cell (by omega)
              have p7 := hc7 k z2
              rw [z3] at p7
              obtain ⟨nr, hnr⟩ : ∃ nr, nr = R[i].length := ⟨_, rfl⟩
              rw [← hnr] at hc2
              have u4' : k < nr := by rw [hnr]; exact z2
              obtain ⟨gF, oF, rfl, hgF, hcF⟩ := (IF.out.bl P4.out).cell (by omega)
              have pF := hcF i hiF
              obtain ⟨gT, oT, rfl, hgT, hcT⟩ := (IT.out.bl P4.out).cell (by omega)
              have pT := hcT k hkT
              obtain ⟨s, hs⟩ : ∃ s, s = F[i] := ⟨_, rfl⟩
              obtain ⟨t, ht⟩ : ∃ t, t = T[k] := ⟨_, rfl⟩
              rw [← hs] at pF p7
              rw [← ht] at pT p7
              obtain ⟨d, hd⟩ : ∃ d, d = distOfI N L s t := ⟨_, rfl⟩
              rw [← hd] at p7
              have HD := Lib.hid hd
              have HS4 := Lib.hid (show ∀ wx, Bl wr wx → Bl wr wx ∧ (wx.cell? ⟨gb, 0, none⟩ = some (.int .i64 N) ∧ wx.cell? ⟨gb, 1, none⟩ = some (.slice A' l c')) ∧ wx.cell? ⟨g2, o2 + i, none⟩ = some (.slice (some ⟨g7, o7, none⟩) nr c7) ∧ wx.cell? ⟨g7, o7 + k, none⟩ = some (.int .i64 d) ∧ wx.cell? ⟨gF, oF + i, none⟩ = some (.int .i64 s) ∧ wx.cell? ⟨gT, oT + k, none⟩ = some (.int .i64 t) from fun wx hb => by
                have h := (bcell (BB.out.trans_ hb)).1
                exact ⟨hb, HSH.out _ (P4.out.trans_ (BB.out.trans_ hb)), (h _ _ hg2).trans hc2, (h _ _ hg7).trans p7, (h _ _ hgF).trans pF, (h _ _ hgT).trans pT⟩)
              have u0 : (0 : Int) ≤ (i : Int) := by omega
              have u2 : (0 : Int) ≤ (k : Int) := by omega
              have u3 : (k : Int) < (k4 : Int) := by omega
              have u4 : (k : Int) < (nr : Int) := by omega
              have hdd : (d != d) = false := by simp
              clear hbl z3 hc7 hg7 p7 hi2 hg2 hc2 hnr hcF hcT pF pT hs ht hd hgF hgT
              clear z2
              clear z1
              go_wp2_with fail
              refine wp_region_held_drew (S := fun wx => Bl wr wx ∧ (wx.cell? ⟨gb, 0, none⟩ = some (.int .i64 N) ∧ wx.cell? ⟨gb, 1, none⟩ = some (.slice A' l c')) ∧ wx.cell? ⟨g2, o2 + i, none⟩ = some (.slice (some ⟨g7, o7, none⟩) nr c7) ∧ wx.cell? ⟨g7, o7 + k, none⟩ = some (.int .i64 d) ∧ wx.cell? ⟨gF, oF + i, none⟩ = some (.int .i64 s) ∧ wx.cell? ⟨gT, oT + k, none⟩ = some (.int .i64 t)) (by kernel_rfl) ?_ (fun hHeld => ?_)
              · (exact HS4.out _ (by repeat' (first | exact Bl.refl _ | with_reducible assumption | with_reducible refine Bl.drew_ ?_ | with_reducible refine Bl.drewN_ ?_ _ | with_reducible refine Bl.alloc_ ?_ _ | with_reducible refine Bl.trans_ ?_ (by assumption) | with_reducible refine Bl.trans_ ?_ (And.left (by assumption)))))
              refine wpAnyH_take (i := 0) (v := ?_) rfl (by kernel_rfl) (by kernel_rfl) (by kernel_rfl) (fun _ _ _ h => h) (Or.inl ⟨by kernel_rfl, ?_⟩) (by assumption) ?_
              rotate_left
              · (intro wx hSw; (try dsimp only at hSw); go_simp; try (with_reducible rfl))
              try simp only [Act.put, List.getElem_toArray, List.getElem_cons_succ, List.getElem_cons_zero, List.setIfInBounds_toArray, List.set_cons_zero, List.set_cons_succ]
              refine wpAnyH_take (i := 1) (v := ?_) rfl (by kernel_rfl) (by kernel_rfl) (by kernel_rfl) (fun _ _ _ h => h) (Or.inl ⟨by kernel_rfl, ?_⟩) (by assumption) ?_
              rotate_left
              · (intro wx hSw; (try dsimp only at hSw); go_simp; try (with_reducible rfl))
              try simp only [Act.put, List.getElem_toArray, List.getElem_cons_succ, List.getElem_cons_zero, List.setIfInBounds_toArray, List.set_cons_zero, List.set_cons_succ]
              refine wpAnyH_take (i := 2) (v := ?_) rfl (by kernel_rfl) (by kernel_rfl) (by kernel_rfl) (fun _ _ _ h => h) (Or.inl ⟨by kernel_rfl, ?_⟩) (by assumption) ?_
              rotate_left
              · (intro wx hSw; (try dsimp only at hSw); go_simp; try (with_reducible rfl))
              try simp only [Act.put, List.getElem_toArray, List.getElem_cons_succ, List.getElem_cons_zero, List.setIfInBounds_toArray, List.set_cons_zero, List.set_cons_succ]
              refine wpAnyH_take (i := 3) (v := ?_) rfl (by kernel_rfl) (by kernel_rfl) (by kernel_rfl) (fun _ _ _ h => h) (Or.inl ⟨by kernel_rfl, ?_⟩) (by assumption) ?_
              rotate_left
              · (intro wx hSw; (try dsimp only at hSw); go_simp; try (with_reducible rfl))
              try simp only [Act.put, List.getElem_toArray, List.getElem_cons_succ, List.getElem_cons_zero, List.setIfInBounds_toArray, List.set_cons_zero, List.set_cons_succ]
              refine wpAnyH_take (i := 4) (v := ?_) rfl (by kernel_rfl) (by kernel_rfl) (by kernel_rfl) (fun _ _ _ h => h) (Or.inl ⟨by kernel_rfl, ?_⟩) (by assumption) ?_
              rotate_left
              · (intro wx hSw; (try dsimp only at hSw); go_simp; try (with_reducible rfl))
              try simp only [Act.put, List.getElem_toArray, List.getElem_cons_succ, List.getElem_cons_zero, List.setIfInBounds_toArray, List.set_cons_zero, List.set_cons_succ]
              refine wpAnyH_take (i := 5) (v := ?_) rfl (by kernel_rfl) (by kernel_rfl) (by kernel_rfl) (fun _ _ _ h => h) (Or.inl ⟨by kernel_rfl, ?_⟩) (by assumption) ?_
              rotate_left
              · (intro wx hSw; (try dsimp only at hSw); go_simp; try (with_reducible rfl))
              try simp only [Act.put, List.getElem_toArray, List.getElem_cons_succ, List.getElem_cons_zero, List.setIfInBounds_toArray, List.set_cons_zero, List.set_cons_succ]
              refine wpAnyH_take (i := 6) (v := ?_) rfl (by kernel_rfl) (by kernel_rfl) (by kernel_rfl) (fun _ _ _ h => h) (Or.inl ⟨by kernel_rfl, ?_⟩) (by assumption) ?_
              rotate_left
              · (intro wx hSw; (try dsimp only at hSw); go_simp; try (with_reducible rfl))
              try simp only [Act.put, List.getElem_toArray, List.getElem_cons_succ, List.getElem_cons_zero, List.setIfInBounds_toArray, List.set_cons_zero, List.set_cons_succ]
              refine wpAnyH_take (i := 7) (v := ?_) rfl (by kernel_rfl) (by kernel_rfl) (by kernel_rfl) (fun _ _ _ h => h) (Or.inl ⟨by kernel_rfl, ?_⟩) (by assumption) ?_
              rotate_left
              · (intro wx hSw; (try dsimp only at hSw); go_simp; try (with_reducible rfl))
              try simp only [Act.put, List.getElem_toArray, List.getElem_cons_succ, List.getElem_cons_zero, List.setIfInBounds_toArray, List.set_cons_zero, List.set_cons_succ]
              refine wpAnyH_take (i := 8) (v := ?_) rfl (by kernel_rfl) (by kernel_rfl) (by kernel_rfl) (fun _ _ _ h => h) (Or.inl ⟨by kernel_rfl, ?_⟩) (by assumption) ?_
              rotate_left
              · (intro wx hSw; (try dsimp only at hSw); go_simp; try (with_reducible rfl))
              try simp only [Act.put, List.getElem_toArray, List.getElem_cons_succ, List.getElem_cons_zero, List.setIfInBounds_toArray, List.set_cons_zero, List.set_cons_succ]
              refine wpAnyH_take (i := 9) (v := ?_) rfl (by kernel_rfl) (by kernel_rfl) (by kernel_rfl) (fun _ _ _ h => h) (Or.inl ⟨by kernel_rfl, ?_⟩) (by assumption) ?_
              rotate_left
              · (intro wx hSw; (try dsimp only at hSw); go_simp; try (with_reducible rfl))
              try simp only [Act.put, List.getElem_toArray, List.getElem_cons_succ, List.getElem_cons_zero, List.setIfInBounds_toArray, List.set_cons_zero, List.set_cons_succ]
              refine wpAnyH_take (i := 10) (v := ?_) rfl (by kernel_rfl) (by kernel_rfl) (by kernel_rfl) (fun _ _ _ h => h) (Or.inl ⟨by kernel_rfl, ?_⟩) (by assumption) ?_
              rotate_left
              · (intro wx hSw; (try dsimp only at hSw); go_simp; try (with_reducible rfl))
              try simp only [Act.put, List.getElem_toArray, List.getElem_cons_succ, List.getElem_cons_zero, List.setIfInBounds_toArray, List.set_cons_zero, List.set_cons_succ]
              refine wpAnyH_take (i := 11) (v := ?_) rfl (by kernel_rfl) (by kernel_rfl) (by kernel_rfl) (fun _ _ _ h => h) (Or.inl ⟨by kernel_rfl, ?_⟩) (by assumption) ?_
              rotate_left
              · (intro wx hSw; (try dsimp only at hSw); go_simp; try (with_reducible rfl))
              try simp only [Act.put, List.getElem_toArray, List.getElem_cons_succ, List.getElem_cons_zero, List.setIfInBounds_toArray, List.set_cons_zero, List.set_cons_succ]
              refine wpAnyH_take (i := 12) (v := ?_) rfl (by kernel_rfl) (by kernel_rfl) (by kernel_rfl) (fun _ _ _ h => h) (Or.inl ⟨by kernel_rfl, ?_⟩) (by assumption) ?_
              rotate_left
              · (intro wx hSw; (try dsimp only at hSw); go_simp; try (with_reducible rfl))
              try simp only [Act.put, List.getElem_toArray, List.getElem_cons_succ, List.getElem_cons_zero, List.setIfInBounds_toArray, List.set_cons_zero, List.set_cons_succ]
              refine wpAnyH_take (i := 13) (v := ?_) rfl (by kernel_rfl) (by kernel_rfl) (by kernel_rfl) (fun _ _ _ h => h) (Or.inl ⟨by kernel_rfl, ?_⟩) (by assumption) ?_
              rotate_left
              · (intro wx hSw; (try dsimp only at hSw); go_simp; try (with_reducible rfl))
              try simp only [Act.put, List.getElem_toArray, List.getElem_cons_succ, List.getElem_cons_zero, List.setIfInBounds_toArray, List.set_cons_zero, List.set_cons_succ]
              refine wpAnyH_take (i := 14) (v := ?_) rfl (by kernel_rfl) (by kernel_rfl) (by kernel_rfl) (fun _ _ _ h => h) (Or.inl ⟨by kernel_rfl, ?_⟩) (by assumption) ?_
              rotate_left
              · (intro wx hSw; (try dsimp only at hSw); go_simp; try (with_reducible rfl))
              try simp only [Act.put, List.getElem_toArray, List.getElem_cons_succ, List.getElem_cons_zero, List.setIfInBounds_toArray, List.set_cons_zero, List.set_cons_succ]
              refine wpAnyH_take (i := 15) (v := ?_) rfl (by kernel_rfl) (by kernel_rfl) (by kernel_rfl) (fun _ _ _ h => h) (Or.inl ⟨by kernel_rfl, ?_⟩) (by assumption) ?_
              rotate_left
              · (intro wx hSw; (try dsimp only at hSw); go_simp; try (with_reducible rfl))
              try simp only [Act.put, List.getElem_toArray, List.getElem_cons_succ, List.getElem_cons_zero, List.setIfInBounds_toArray, List.set_cons_zero, List.set_cons_succ]
              refine wpAnyH_take (i := 16) (v := ?_) rfl (by kernel_rfl) (by kernel_rfl) (by kernel_rfl) (fun _ _ _ h => h) (Or.inl ⟨by kernel_rfl, ?_⟩) (by assumption) ?_
              rotate_left
              · (intro wx hSw; (try dsimp only at hSw); go_simp; try (with_reducible rfl))
              try simp only [Act.put, List.getElem_toArray, List.getElem_cons_succ, List.getElem_cons_zero, List.setIfInBounds_toArray, List.set_cons_zero, List.set_cons_succ]
              refine wpAnyH_ready (rs := [17]) (by kernel_rfl) (by simp) ?_
              refine AllReadyH.cons rfl (fun K hK => ?_) AllReadyH.nil
              go_simp
              (go_at_call 23; refine (implDistOf_any N s t A' l c' L HL.out hlc _ (by omega) (HA.out.bl (P4.out.trans_ (BB.out.trans_ (by repeat' (first | exact Bl.refl _ | with_reducible assumption | with_reducible refine Bl.drew_ ?_ | with_reducible refine Bl.drewN_ ?_ _ | with_reducible refine Bl.alloc_ ?_ _ | with_reducible refine Bl.trans_ ?_ (by assumption) | with_reducible refine Bl.trans_ ?_ (And.left (by assumption)))))))).mono ?_; rintro e w7 ⟨rfl, hb7⟩; rw [← HD.out])
              try (go_wp2_with fail)
              refine hK.out _ _ ?_ (fun hHeld => ?_)
              · (exact HS4.out _ (by repeat' (first | exact Bl.refl _ | with_reducible assumption | with_reducible refine Bl.drew_ ?_ | with_reducible refine Bl.drewN_ ?_ _ | with_reducible refine Bl.alloc_ ?_ _ | with_reducible refine Bl.trans_ ?_ (by assumption) | with_reducible refine Bl.trans_ ?_ (And.left (by assumption)))))
              clear hK K
              try simp only [Act.put, List.getElem_toArray, List.getElem_cons_succ, List.getElem_cons_zero, List.setIfInBounds_toArray, List.set_cons_zero, List.set_cons_succ]
              refine wpAnyH_take (i := 18) (v := ?_) rfl (by kernel_rfl) (by kernel_rfl) (by kernel_rfl) (fun _ _ _ h => h) (Or.inl ⟨by kernel_rfl, ?_⟩) (by assumption) ?_
              rotate_left
              · (intro wx hSw; (try dsimp only at hSw); go_simp; try (with_reducible rfl))
              try simp only [Act.put, List.getElem_toArray, List.getElem_cons_succ, List.getElem_cons_zero, List.setIfInBounds_toArray, List.set_cons_zero, List.set_cons_succ]
              refine wpAnyH_done (by kernel_rfl) ?_ _
              go_wp2
              go_roundw
              case rel => exact ⟨k + 1, by omega, by go_num, BB.out.trans_ hHeld.1⟩
              case measure => simp [intOf]; omega
            · obtain rfl : k = k4 := by omega
              go_wp2
              go_roundw
              case rel => exact ⟨i + 1, by omega, by go_num, hbl⟩
              case measure => simp [intOf]; omega
        · obtain rfl : i = m := by omega
          go_wp2
          go_ret
          exact ⟨ret_bool (by simp), B1.out.trans_ (P4.out.trans_ BI.out)⟩

end Go.Proofs.Ytlddileiecnkjaa
