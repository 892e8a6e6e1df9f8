/-
  What is proved here: the program's question whether a disk is right; both sides' DiskOk and ReadFile, at disks that are no larger than is asked; three lists of one's own that are made one beside the other, in whatever order. No conditions beyond those that each theorem states.
-/
import Derived.Test.YtgfmgmcpfefmkaaV7G09
import Derived.Test.YtgfmgmcpfefmkaaV7G05
import Derived.Deep.RegionLaw
set_option linter.unusedSimpArgs false
set_option linter.unusedVariables false
namespace Go.Proofs.Ytgfmgmcpfefmkaa
open Go.RowKit

set_option maxHeartbeats 2000000 in
theorem equalF_any (A1 A2 : Option Addr) (n1 n2 c1 c2 : Nat) (V1 V2 : List Fl) (hn1 : n1 = V1.length) (hn2 : n2 = V2.length) (w : World) (hm1 : n1 ≤ 1048576) (hm2 : n2 ≤ 1048576) (H1 : FilesAt w w.heap.size A1 V1) (H2 : FilesAt w w.heap.size A2 V2) :
    Calls Try.prog 60 #[.slice A1 n1 c1, .slice A2 n2 c2] w fun e w' => e = .returned (.bool (sameL V1 V2)) ∧ Bl w w' := by
  have K1 := Lib.hid H1
  have K2 := Lib.hid H2
  have HN1 := Lib.hid hn1
  have HN2 := Lib.hid hn2
  have qe : ∀ (a b c d : ByteArray) (w : World), (Op.equalIn 10000 86 (.agg #[.string a, .string b]) (.agg #[.string c, .string d])).run Try.prog w = .ok (sameB a c && sameB b d) w := fun a b c d w => eqIn_file 9998 a b c d w
  have qm : Try.prog.eqGuardType Try.prog.depth 86 = false := by kernel_rfl
  have QE := Lib.hid qe
  clear H1 H2 hn1 hn2 qe
  by_cases hl : n1 = n2
  · subst hl
    have hnn : ((n1 : Int) != (n1 : Int)) = false := by simp
    go_enter Try.func60, Try.ntmps60
    go_wp2_with fail
    clear hnn
    go_loopw [4, 13] (fun r i wr => ∃ k : Nat, k ≤ n1 ∧ r = .bool false ∧ i = .int .i64 k ∧ V1.take k = V2.take k ∧ Bl w wr) (fun _ i _ => n1 - (intOf i).toNat)
    case atStart => exact ⟨0, by omega, rfl, rfl, rfl, Bl.refl _⟩
    case round =>
      obtain ⟨k, hk, rfl, rfl, hT, hbl⟩ := hrel
      have HT := Lib.hid hT
      clear hT
      by_cases hlt : k < n1
      · have hk1 : k < V1.length := by have := HN1.out; omega
        have hk2 : k < V2.length := by have := HN2.out; omega
        obtain ⟨g1, o1, rfl, hg1, hc1⟩ := K1.out.cell (by omega)
        obtain ⟨g2, o2, rfl, hg2, hc2⟩ := K2.out.cell (by omega)
        obtain ⟨p1, p2⟩ := hc1 k hk1
        obtain ⟨q1, q2⟩ := hc2 k hk2
        obtain ⟨x, hx⟩ : ∃ x, x = V1[k] := ⟨_, rfl⟩
        obtain ⟨y, hy⟩ : ∃ y, y = V2[k] := ⟨_, rfl⟩
        rw [← hx] at p1 p2
        rw [← hy] at q1 q2
        have HX := Lib.hid hx
        have HY := Lib.hid hy
        have HSH := Lib.hid (show ∀ wx, Bl w wx → Bl w wx ∧ wx.cell? ⟨g1, o1 + k * 2, none⟩ = some (.string x.1) ∧ wx.cell? ⟨g1, o1 + k * 2 + 1, none⟩ = some (.string x.2) ∧ wx.cell? ⟨g2, o2 + k * 2, none⟩ = some (.string y.1) ∧ wx.cell? ⟨g2, o2 + k * 2 + 1, none⟩ = some (.string y.2) from fun wx hb => ⟨hb, ((bcell hb).1 _ _ hg1).trans p1, ((bcell hb).1 _ _ hg1).trans p2, ((bcell hb).1 _ _ hg2).trans q1, ((bcell hb).1 _ _ hg2).trans q2⟩)
        have i0 : (0 : Int) ≤ (k : Int) := by omega
        have i1 : (k : Int) < (n1 : Int) := by omega
        have qxy : ∀ w, (Op.equalIn 10000 86 (.agg #[.string x.1, .string x.2]) (.agg #[.string y.1, .string y.2])).run Try.prog w = .ok (sameB x.1 y.1 && sameB x.2 y.2) w := fun w => QE.out _ _ _ _ w
        clear hc1 hc2 hx hy p1 p2 q1 q2
        by_cases e : (sameB x.1 y.1 && sameB x.2 y.2) = true
        · rw [e] at qxy
          have FS := Lib.hid (show V1.take (k + 1) = V2.take (k + 1) from by
            rw [Bool.and_eq_true, sameB_iff, sameB_iff] at e
            rw [List.take_succ_eq_append_getElem hk1, List.take_succ_eq_append_getElem hk2, HT.out, ← HX.out, ← HY.out, Prod.ext e.1 e.2])
          clear e
          go_wp2_with fail
          refine wp_region_held_drew (S := fun wx => Bl w wx ∧ wx.cell? ⟨g1, o1 + k * 2, none⟩ = some (.string x.1) ∧ wx.cell? ⟨g1, o1 + k * 2 + 1, none⟩ = some (.string x.2) ∧ wx.cell? ⟨g2, o2 + k * 2, none⟩ = some (.string y.1) ∧ wx.cell? ⟨g2, o2 + k * 2 + 1, none⟩ = some (.string y.2)) (by kernel_rfl) ?_ (fun hHeld => ?_)
          · (exact HSH.out _ (by repeat' (first | exact Bl.refl _ | with_reducible assumption | with_reducible refine Bl.drew_ ?_ | with_reducible refine Bl.drewN_ ?_ _ | with_reducible refine Bl.alloc_ ?_ _ | with_reducible refine Bl.trans_ ?_ (by assumption) | with_reducible refine Bl.trans_ ?_ (And.left (by assumption)))))
          refine wpAnyH_take (i := 0) (v := ?_) rfl (by kernel_rfl) (by kernel_rfl) (by kernel_rfl) (fun _ _ _ h => h) (Or.inl ⟨by kernel_rfl, ?_⟩) (by assumption) ?_
          rotate_left
          · (intro wx hSw; (try dsimp only at hSw); go_simp; try (with_reducible rfl))
          try simp only [Act.put, List.getElem_toArray, List.getElem_cons_succ, List.getElem_cons_zero, List.setIfInBounds_toArray, List.set_cons_zero, List.set_cons_succ]
          refine wpAnyH_take (i := 1) (v := ?_) rfl (by kernel_rfl) (by kernel_rfl) (by kernel_rfl) (fun _ _ _ h => h) (Or.inl ⟨by kernel_rfl, ?_⟩) (by assumption) ?_
          rotate_left
          · (intro wx hSw; (try dsimp only at hSw); go_simp; try (with_reducible rfl))
          try simp only [Act.put, List.getElem_toArray, List.getElem_cons_succ, List.getElem_cons_zero, List.setIfInBounds_toArray, List.set_cons_zero, List.set_cons_succ]
          refine wpAnyH_take (i := 2) (v := ?_) rfl (by kernel_rfl) (by kernel_rfl) (by kernel_rfl) (fun _ _ _ h => h) (Or.inl ⟨by kernel_rfl, ?_⟩) (by assumption) ?_
          rotate_left
          · (intro wx hSw; (try dsimp only at hSw); go_simp; try (with_reducible rfl))
          try simp only [Act.put, List.getElem_toArray, List.getElem_cons_succ, List.getElem_cons_zero, List.setIfInBounds_toArray, List.set_cons_zero, List.set_cons_succ]
          refine wpAnyH_take (i := 3) (v := ?_) rfl (by kernel_rfl) (by kernel_rfl) (by kernel_rfl) (fun _ _ _ h => h) (Or.inl ⟨by kernel_rfl, ?_⟩) (by assumption) ?_
          rotate_left
          · (intro wx hSw; (try dsimp only at hSw); go_simp; try (with_reducible rfl))
          try simp only [Act.put, List.getElem_toArray, List.getElem_cons_succ, List.getElem_cons_zero, List.setIfInBounds_toArray, List.set_cons_zero, List.set_cons_succ]
          refine wpAnyH_take (i := 4) (v := ?_) rfl (by kernel_rfl) (by kernel_rfl) (by kernel_rfl) (fun _ _ _ h => h) (Or.inl ⟨by kernel_rfl, ?_⟩) (by assumption) ?_
          rotate_left
          · (intro wx hSw; (try dsimp only at hSw); go_simp; try (with_reducible rfl))
          try simp only [Act.put, List.getElem_toArray, List.getElem_cons_succ, List.getElem_cons_zero, List.setIfInBounds_toArray, List.set_cons_zero, List.set_cons_succ]
          refine wpAnyH_take (i := 5) (v := ?_) rfl (by kernel_rfl) (by kernel_rfl) (by kernel_rfl) (fun _ _ _ h => h) (Or.inl ⟨by kernel_rfl, ?_⟩) (by assumption) ?_
          rotate_left
          · (intro wx hSw; (try dsimp only at hSw); go_simp; try (with_reducible rfl))
          try simp only [Act.put, List.getElem_toArray, List.getElem_cons_succ, List.getElem_cons_zero, List.setIfInBounds_toArray, List.set_cons_zero, List.set_cons_succ]
          refine wpAnyH_take (i := 6) (v := ?_) rfl (by kernel_rfl) (by kernel_rfl) (by kernel_rfl) (fun _ _ _ h => h) (Or.inl ⟨by kernel_rfl, ?_⟩) (by assumption) ?_
          rotate_left
          · (intro wx hSw; (try dsimp only at hSw); go_simp; try (with_reducible rfl))
          try simp only [Act.put, List.getElem_toArray, List.getElem_cons_succ, List.getElem_cons_zero, List.setIfInBounds_toArray, List.set_cons_zero, List.set_cons_succ]
          refine wpAnyH_take (i := 7) (v := ?_) rfl (by kernel_rfl) (by kernel_rfl) (by kernel_rfl) (fun _ _ _ h => h) (Or.inl ⟨by kernel_rfl, ?_⟩) (by assumption) ?_
          rotate_left
          · (intro wx hSw; (try dsimp only at hSw); go_simp; try (with_reducible rfl))
          try simp only [Act.put, List.getElem_toArray, List.getElem_cons_succ, List.getElem_cons_zero, List.setIfInBounds_toArray, List.set_cons_zero, List.set_cons_succ]
          refine wpAnyH_take (i := 8) (v := ?_) rfl (by kernel_rfl) (by kernel_rfl) (by kernel_rfl) (fun _ _ _ h => h) (Or.inl ⟨by kernel_rfl, ?_⟩) (by assumption) ?_
          rotate_left
          · (intro wx hSw; (try dsimp only at hSw); go_simp; try (with_reducible rfl))
          try simp only [Act.put, List.getElem_toArray, List.getElem_cons_succ, List.getElem_cons_zero, List.setIfInBounds_toArray, List.set_cons_zero, List.set_cons_succ]
          refine wpAnyH_done (by kernel_rfl) ?_ _
          go_wp2
          go_roundw
          case rel => exact ⟨k + 1, by omega, rfl, by go_num, FS.out, (by repeat' (first | exact Bl.refl _ | with_reducible assumption | with_reducible refine Bl.drew_ ?_ | with_reducible refine Bl.drewN_ ?_ _ | with_reducible refine Bl.alloc_ ?_ _ | with_reducible refine Bl.trans_ ?_ (by assumption) | with_reducible refine Bl.trans_ ?_ (And.left (by assumption))))⟩
          case measure => simp [intOf]; omega
        · have e' : (sameB x.1 y.1 && sameB x.2 y.2) = false := by simpa using e
          rw [e'] at qxy
          have FN := Lib.hid (show sameL V1 V2 = false from by
            cases hs : sameL V1 V2
            · rfl
            · rw [sameL_iff] at hs
              subst hs
              have : x = y := HX.out.trans HY.out.symm
              subst this
              rw [sameB_refl, sameB_refl] at e'
              exact absurd e' (by simp))
          clear e e'
          go_wp2_with fail
          refine wp_region_held_drew (S := fun wx => Bl w wx ∧ wx.cell? ⟨g1, o1 + k * 2, none⟩ = some (.string x.1) ∧ wx.cell? ⟨g1, o1 + k * 2 + 1, none⟩ = some (.string x.2) ∧ wx.cell? ⟨g2, o2 + k * 2, none⟩ = some (.string y.1) ∧ wx.cell? ⟨g2, o2 + k * 2 + 1, none⟩ = some (.string y.2)) (by kernel_rfl) ?_ (fun hHeld => ?_)
          · (exact HSH.out _ (by repeat' (first | exact Bl.refl _ | with_reducible assumption | with_reducible refine Bl.drew_ ?_ | with_reducible refine Bl.drewN_ ?_ _ | with_reducible refine Bl.alloc_ ?_ _ | with_reducible refine Bl.trans_ ?_ (by assumption) | with_reducible refine Bl.trans_ ?_ (And.left (by assumption)))))
          refine wpAnyH_take (i := 0) (v := ?_) rfl (by kernel_rfl) (by kernel_rfl) (by kernel_rfl) (fun _ _ _ h => h) (Or.inl ⟨by kernel_rfl, ?_⟩) (by assumption) ?_
          rotate_left
          · (intro wx hSw; (try dsimp only at hSw); go_simp; try (with_reducible rfl))
          try simp only [Act.put, List.getElem_toArray, List.getElem_cons_succ, List.getElem_cons_zero, List.setIfInBounds_toArray, List.set_cons_zero, List.set_cons_succ]
          refine wpAnyH_take (i := 1) (v := ?_) rfl (by kernel_rfl) (by kernel_rfl) (by kernel_rfl) (fun _ _ _ h => h) (Or.inl ⟨by kernel_rfl, ?_⟩) (by assumption) ?_
          rotate_left
          · (intro wx hSw; (try dsimp only at hSw); go_simp; try (with_reducible rfl))
          try simp only [Act.put, List.getElem_toArray, List.getElem_cons_succ, List.getElem_cons_zero, List.setIfInBounds_toArray, List.set_cons_zero, List.set_cons_succ]
          refine wpAnyH_take (i := 2) (v := ?_) rfl (by kernel_rfl) (by kernel_rfl) (by kernel_rfl) (fun _ _ _ h => h) (Or.inl ⟨by kernel_rfl, ?_⟩) (by assumption) ?_
          rotate_left
          · (intro wx hSw; (try dsimp only at hSw); go_simp; try (with_reducible rfl))
          try simp only [Act.put, List.getElem_toArray, List.getElem_cons_succ, List.getElem_cons_zero, List.setIfInBounds_toArray, List.set_cons_zero, List.set_cons_succ]
          refine wpAnyH_take (i := 3) (v := ?_) rfl (by kernel_rfl) (by kernel_rfl) (by kernel_rfl) (fun _ _ _ h => h) (Or.inl ⟨by kernel_rfl, ?_⟩) (by assumption) ?_
          rotate_left
          · (intro wx hSw; (try dsimp only at hSw); go_simp; try (with_reducible rfl))
          try simp only [Act.put, List.getElem_toArray, List.getElem_cons_succ, List.getElem_cons_zero, List.setIfInBounds_toArray, List.set_cons_zero, List.set_cons_succ]
          refine wpAnyH_take (i := 4) (v := ?_) rfl (by kernel_rfl) (by kernel_rfl) (by kernel_rfl) (fun _ _ _ h => h) (Or.inl ⟨by kernel_rfl, ?_⟩) (by assumption) ?_
          rotate_left
          · (intro wx hSw; (try dsimp only at hSw); go_simp; try (with_reducible rfl))
          try simp only [Act.put, List.getElem_toArray, List.getElem_cons_succ, List.getElem_cons_zero, List.setIfInBounds_toArray, List.set_cons_zero, List.set_cons_succ]
          refine wpAnyH_take (i := 5) (v := ?_) rfl (by kernel_rfl) (by kernel_rfl) (by kernel_rfl) (fun _ _ _ h => h) (Or.inl ⟨by kernel_rfl, ?_⟩) (by assumption) ?_
          rotate_left
          · (intro wx hSw; (try dsimp only at hSw); go_simp; try (with_reducible rfl))
          try simp only [Act.put, List.getElem_toArray, List.getElem_cons_succ, List.getElem_cons_zero, List.setIfInBounds_toArray, List.set_cons_zero, List.set_cons_succ]
          refine wpAnyH_take (i := 6) (v := ?_) rfl (by kernel_rfl) (by kernel_rfl) (by kernel_rfl) (fun _ _ _ h => h) (Or.inl ⟨by kernel_rfl, ?_⟩) (by assumption) ?_
          rotate_left
          · (intro wx hSw; (try dsimp only at hSw); go_simp; try (with_reducible rfl))
          try simp only [Act.put, List.getElem_toArray, List.getElem_cons_succ, List.getElem_cons_zero, List.setIfInBounds_toArray, List.set_cons_zero, List.set_cons_succ]
          refine wpAnyH_take (i := 7) (v := ?_) rfl (by kernel_rfl) (by kernel_rfl) (by kernel_rfl) (fun _ _ _ h => h) (Or.inl ⟨by kernel_rfl, ?_⟩) (by assumption) ?_
          rotate_left
          · (intro wx hSw; (try dsimp only at hSw); go_simp; try (with_reducible rfl))
          try simp only [Act.put, List.getElem_toArray, List.getElem_cons_succ, List.getElem_cons_zero, List.setIfInBounds_toArray, List.set_cons_zero, List.set_cons_succ]
          refine wpAnyH_take (i := 8) (v := ?_) rfl (by kernel_rfl) (by kernel_rfl) (by kernel_rfl) (fun _ _ _ h => h) (Or.inl ⟨by kernel_rfl, ?_⟩) (by assumption) ?_
          rotate_left
          · (intro wx hSw; (try dsimp only at hSw); go_simp; try (with_reducible rfl))
          try simp only [Act.put, List.getElem_toArray, List.getElem_cons_succ, List.getElem_cons_zero, List.setIfInBounds_toArray, List.set_cons_zero, List.set_cons_succ]
          refine wpAnyH_done (by kernel_rfl) ?_ _
          go_wp2
          go_ret
          exact ⟨ret_bool FN.out.symm, (by repeat' (first | exact Bl.refl _ | with_reducible assumption | with_reducible refine Bl.drew_ ?_ | with_reducible refine Bl.drewN_ ?_ _ | with_reducible refine Bl.alloc_ ?_ _ | with_reducible refine Bl.trans_ ?_ (by assumption) | with_reducible refine Bl.trans_ ?_ (And.left (by assumption))))⟩
      · obtain rfl : k = n1 := by omega
        have FY := Lib.hid (show sameL V1 V2 = true from by
          rw [sameL_iff]
          have := HT.out
          rwa [List.take_of_length_le (by have := HN1.out; omega), List.take_of_length_le (by have := HN2.out; omega)] at this)
        go_wp2
        go_ret
        exact ⟨ret_bool FY.out.symm, hbl⟩
  · have hnn : ((n1 : Int) != (n2 : Int)) = true := by
      simp
      omega
    go_enter Try.func60, Try.ntmps60
    go_wp2
    go_ret
    refine ⟨ret_bool ?_, Bl.refl w⟩
    cases hs : sameL V1 V2
    · rfl
    · rw [sameL_iff] at hs
      subst hs
      exact absurd (HN1.out.trans HN2.out.symm) hl

set_option maxRecDepth 100000 in
set_option maxHeartbeats 4000000 in
theorem implDiskOk_any (A1 A2 A3 : Option Addr) (n1 c1 n2 c2 n3 c3 : Nat) (L1 L2 : List Fl) (O : List Dp) (hn1 : n1 = L1.length) (hn2 : n2 = L2.length) (hn3 : n3 = O.length) (w : World)
    (hm1 : n1 ≤ 1048576) (hm2 : n2 ≤ 1048576) (hm3 : n3 ≤ 1048576) (hs1 : sumL L1 ≤ 1048576) (hs2 : sumL L2 ≤ 1048576) (hs3 : szL szDp O ≤ 1048576) (H1 : FilesAt w w.heap.size A1 L1) (H2 : FilesAt w w.heap.size A2 L2) (H3 : OpsAt w w.heap.size A3 O) :
    Calls Try.prog 22 #[.agg #[.slice A1 n1 c1, .slice A2 n2 c2, .slice A3 n3 c3]] w fun e w' => e = .returned (.bool (diskB (L1, L2, O))) ∧ Bl w w' := by
  have K1 := Lib.hid H1
  have K2 := Lib.hid H2
  have K3 := Lib.hid H3
  have N1 := Lib.hid hn1
  have N2 := Lib.hid hn2
  have N3 := Lib.hid hn3
  have S3 := Lib.hid hs3
  clear H1 H2 H3 hn1 hn2 hn3 hs3
  by_cases h2 : filesB L2 = true
  · by_cases h3 : (200 : Int) < (n3 : Int)
    · go_enter Try.func22, Try.ntmps22
      go_wp2_with fail
      refine (filesOk_any A2 n2 c2 L2 N2.out _ (by omega) (by omega) (K2.out.bl (by repeat' (first | exact Bl.refl _ | with_reducible assumption | with_reducible refine Bl.drew_ ?_ | with_reducible refine Bl.drewN_ ?_ _ | with_reducible refine Bl.alloc_ ?_ _ | with_reducible refine Bl.trans_ ?_ (by assumption) | with_reducible refine Bl.trans_ ?_ (And.left (by assumption)))))).mono ?_
      rintro e w2 ⟨rfl, hb2⟩
      obtain ⟨q0, q1, q2⟩ := box3 hb2
      rw [h2]
      go_wp2
      go_ret
      exact ⟨ret_bool (disk_no3 (by have := N3.out; omega)).symm, (Bl.alloc_ (Bl.refl w) _).trans_ hb2⟩
    · have hO : O.length ≤ 200 := by have := N3.out; omega
      have HL2 := Lib.hid h2
      have h3' : ¬ (200 : Int) < (n3 : Int) := h3
      go_enter Try.func22, Try.ntmps22
      go_wp2_with fail
      refine (filesOk_any A2 n2 c2 L2 N2.out _ (by omega) (by omega) (K2.out.bl (by repeat' (first | exact Bl.refl _ | with_reducible assumption | with_reducible refine Bl.drew_ ?_ | with_reducible refine Bl.drewN_ ?_ _ | with_reducible refine Bl.alloc_ ?_ _ | with_reducible refine Bl.trans_ ?_ (by assumption) | with_reducible refine Bl.trans_ ?_ (And.left (by assumption)))))).mono ?_
      rintro e w2 ⟨rfl, hb2⟩
      have X2 := Lib.hid hb2
      obtain ⟨q0, q1, q2⟩ := box3 X2.out
      rw [h2]
      clear hb2
      go_wp2
      go_loopw [3, 23] (fun v i wr => ∃ (k m c : Nat) (A : Option Addr) (C : List Fl), k ≤ n3 ∧ i = .int .i64 k ∧ v = .slice A m c ∧ Hid (m = C.length) ∧ Hid (FilesAt wr wr.heap.size A C) ∧ Hid (OpsSt L2 O k C) ∧ Bl (w.alloc (.cells #[.slice A1 n1 c1, .slice A2 n2 c2, .slice A3 n3 c3] 31)) wr) (fun _ i _ => n3 - (intOf i).toNat)
      case atStart => exact ⟨0, n2, c2, A2, L2, by omega, rfl, rfl, N2, Lib.hid (K2.out.bl ((Bl.alloc_ (Bl.refl w) _).trans_ X2.out)), Lib.hid (OpsSt.zero O HL2.out), X2.out⟩
      case round =>
        obtain ⟨k, m, c, A, C, hk, rfl, rfl, HM, HF, HO, hbl⟩ := hrel
        obtain ⟨x0, x1, x2⟩ := box3 hbl
        have BW := Lib.hid hbl
        have BX := Lib.hid ((Bl.alloc_ (Bl.refl w) _).trans_ hbl)
        by_cases hlt : k < n3
        · have hkl : k < O.length := by have := N3.out; omega
          obtain ⟨g3, o3, rfl, hg3, hc3⟩ := K3.out.cell (by omega)
          obtain ⟨p0, p1, p2, p3⟩ := hc3 k hkl
          have hsz := szL_at szDp O k hkl
          have hs3 := S3.out
          obtain ⟨o, ho⟩ : ∃ o, o = O[k] := ⟨_, rfl⟩
          rw [← ho] at p0 p1 p2 p3 hsz
          have HOO := Lib.hid ho
          have hds : o.data.size ≤ 1048576 := by have e : szDp o = o.name.size + o.to.size + o.data.size := rfl; omega
          rw [← (bcell BX.out).1 _ _ hg3] at p0 p1 p2 p3
          obtain ⟨f1, f2, f3⟩ := files_parts HO.out.2.2
          have hml : m ≤ 60 := by rw [HM.out]; exact f1
          have i0 : (0 : Int) ≤ (k : Int) := by omega
          have i1 : (k : Int) < (n3 : Int) := by omega
          have SO := Lib.hid (ord_sorted f3)
          have hdl := do_len C o
          have hdsm := do_sum C o
          clear hc3 ho hsz hs3 f3 hbl
          go_wp2_with fail
          refine (opOf_any o _).mono ?_
          rintro e w3 ⟨⟨x, rfl, hx⟩, hb3⟩
          have X3 := Lib.hid ((BW.out.alloc_ _).trans_ hb3)
          have Y3 := Lib.hid ((BX.out.alloc_ _).trans_ hb3)
          have F3 := Lib.hid (HF.out.bl ((Bl.alloc_ (Bl.refl wr) _).trans_ hb3))
          obtain ⟨x0, x1, x2⟩ := box3 X3.out
          clear hb3 p0 p1 p2 p3
          by_cases b2 : formB o = true
          · have HB2 := Lib.hid b2
            obtain rfl : x = opV o := hx b2
            rw [b2]
            clear hx b2
            obtain ⟨x, hx⟩ : ∃ x, x = opV o := ⟨_, rfl⟩
            rw [← hx]
            have HX := Lib.hid hx
            clear hx
            go_wp2_with fail
            rw [HX.out]
            refine (finds_any A m c C HM.out o HB2.out _ (by omega) SO.out F3.out).mono ?_
            rintro e w4 ⟨rfl, hb4⟩
            have X4 := Lib.hid (X3.out.trans_ hb4)
            have Y4 := Lib.hid (Y3.out.trans_ hb4)
            have F4 := Lib.hid (F3.out.bl hb4)
            obtain ⟨x0, x1, x2⟩ := box3 X4.out
            clear hb4
            by_cases b1 : foundB C o = true
            · have HB1 := Lib.hid b1
              rw [b1]
              clear b1
              go_wp2_with fail
              try rw [HX.out]
              refine (done_any A m c C HM.out o HB2.out _ (by omega) (by omega) (by omega) SO.out F4.out).mono ?_
              rintro e w5 ⟨v5, rfl, hv5, hb5⟩
              obtain ⟨A', c', rfl, hc', ha', -⟩ := own_shapeF hv5
              have F5 := Lib.hid ha'
              have X5 := Lib.hid (X4.out.trans_ hb5)
              have Y5 := Lib.hid (Y4.out.trans_ hb5)
              obtain ⟨x0, x1, x2⟩ := box3 X5.out
              obtain ⟨D, hD⟩ : ∃ D, D = doL C o := ⟨_, rfl⟩
              rw [← hD] at hdl hdsm hc' F5 ⊢
              have HD := Lib.hid hD
              obtain ⟨m', hm'⟩ : ∃ m', m' = D.length := ⟨_, rfl⟩
              rw [← hm'] at hdl hc' ⊢
              have HM' := Lib.hid hm'
              clear hv5 ha' hD hm' hb5
              go_wp2_with fail
              refine (fits_any A' m' c' D HM'.out _ (by omega) (by omega) F5.out).mono ?_
              rintro e w6 ⟨rfl, hb6⟩
              have X6 := Lib.hid (X5.out.trans_ hb6)
              have Y6 := Lib.hid (Y5.out.trans_ hb6)
              have F6 := Lib.hid (F5.out.bl hb6)
              clear hb6
              by_cases b3 : fitsB D = true
              · have HB3 := Lib.hid b3
                rw [b3]
                clear b3
                go_wp2
                go_roundw
                case rel =>
                  refine ⟨k + 1, m', c', A', D, by omega, by go_num, rfl, HM', F6, Lib.hid ?_, X6.out⟩
                  have := HO.out.next hkl (by rw [← HOO.out]; exact HB2.out) (by rw [← HOO.out]; exact HB1.out) (by rw [← HOO.out, ← HD.out]; exact HB3.out)
                  rwa [← HOO.out, ← HD.out] at this
                case measure => simp [intOf]; omega
              · have b3' : fitsB D = false := by simpa using b3
                rw [b3']
                go_wp2
                go_ret
                exact ⟨ret_bool (HO.out.bad hkl (by rw [← HOO.out, ← HD.out, b3', Bool.and_false]) L1).symm, Y6.out⟩
            · have b1' : foundB C o = false := by simpa using b1
              rw [b1']
              go_wp2
              go_ret
              exact ⟨ret_bool (HO.out.bad hkl (by rw [← HOO.out, b1']; simp) L1).symm, Y4.out⟩
          · have b2' : formB o = false := by simpa using b2
            rw [b2']
            go_wp2
            go_ret
            exact ⟨ret_bool (HO.out.bad hkl (by rw [← HOO.out, b2']; rfl) L1).symm, Y3.out⟩
        · obtain rfl : k = n3 := by omega
          obtain ⟨f1, f2, f3⟩ := files_parts HO.out.2.2
          have hml : m ≤ 60 := by rw [HM.out]; exact f1
          go_wp2_with fail
          refine (equalF_any A A1 m n1 c c1 C L1 HM.out N1.out _ (by omega) (by omega) HF.out (K1.out.bl BX.out)).mono ?_
          rintro e w3 ⟨rfl, hb3⟩
          have e : diskB (L1, L2, O) = sameL C L1 := OpsSt.last (by rw [← N3.out]; exact HO.out) HL2.out hO L1
          have E := Lib.hid e
          clear e
          go_wp2
          go_ret
          exact ⟨ret_bool E.out.symm, BX.out.trans_ hb3⟩
  · have h2' : filesB L2 = false := by simpa using h2
    go_enter Try.func22, Try.ntmps22
    go_wp2_with fail
    refine (filesOk_any A2 n2 c2 L2 N2.out _ (by omega) (by omega) (K2.out.bl (by repeat' (first | exact Bl.refl _ | with_reducible assumption | with_reducible refine Bl.drew_ ?_ | with_reducible refine Bl.drewN_ ?_ _ | with_reducible refine Bl.alloc_ ?_ _ | with_reducible refine Bl.trans_ ?_ (by assumption) | with_reducible refine Bl.trans_ ?_ (And.left (by assumption)))))).mono ?_
    rintro e w2 ⟨rfl, hb2⟩
    rw [h2']
    go_wp2
    go_ret
    exact ⟨ret_bool (disk_no2 h2').symm, (Bl.alloc_ (Bl.refl w) _).trans_ hb2⟩

end Go.Proofs.Ytgfmgmcpfefmkaa

set_option linter.unusedSimpArgs false
set_option linter.unusedVariables false
namespace Go.Proofs.Ytgfmgmcpfefmkaa
open Go.RowKit

/-- The lists of a disk are as long as is told, and no larger than is asked. -/
structure DkB (n1 n2 n3 : Nat) (L1 L2 : List Fl) (O : List Dp) : Prop where
  l1 : n1 = L1.length
  l2 : n2 = L2.length
  l3 : n3 = O.length
  m1 : n1 ≤ 1048576
  m2 : n2 ≤ 1048576
  m3 : n3 ≤ 1048576
  s1 : sumL L1 ≤ 1048576
  s2 : sumL L2 ≤ 1048576
  s3 : szL szDp O ≤ 1048576
theorem sumL_sz : ∀ (L : List Fl), sumL L ≤ szL szFl L
  | [] => Nat.le_refl _
  | f :: r => by
    have := sumL_sz r
    have e : szFl f = f.1.size + f.2.size := rfl
    simp only [sumL, szL, List.map_cons, List.sum_cons] at this ⊢
    omega
theorem DkB.of {n1 n2 n3 : Nat} {L1 L2 : List Fl} {O : List Dp} (h1 : n1 = L1.length) (h2 : n2 = L2.length) (h3 : n3 = O.length) (h : dkSz L1 L2 O ≤ 1048576) : DkB n1 n2 n3 L1 L2 O := by
  have a := sumL_sz L1
  have b := sumL_sz L2
  unfold dkSz at h
  exact ⟨h1, h2, h3, by omega, by omega, by omega, by omega, by omega, by omega⟩
theorem DkB.sz {n1 n2 n3 : Nat} {L1 L2 : List Fl} {O : List Dp} (h : ¬ leftI 1048576 (dkSz L1 L2 O) < 0) : dkSz L1 L2 O ≤ 1048576 := by
  unfold leftI at h
  split at h
  · omega
  · omega
theorem specOk_dk {A1 A2 A3 : Option Addr} {n1 n2 n3 c1 c2 c3 : Nat} {L1 L2 : List Fl} {O : List Dp} (hb : DkB n1 n2 n3 L1 L2 O) (w : World) (H : DiskAt w w.heap.size A1 A2 A3 L1 L2 O) :
    Calls Try.prog 23 #[.agg #[.slice A1 n1 c1, .slice A2 n2 c2, .slice A3 n3 c3]] w fun e w' => e = .returned (.bool (diskB (L1, L2, O))) ∧ Bl w w' :=
  specDiskOk_any A1 A2 A3 n1 c1 n2 c2 n3 c3 L1 L2 O hb.l1 hb.l2 hb.l3 w hb.m1 hb.m2 hb.m3 hb.s1 hb.s2 hb.s3 H.f1 H.f2 H.f3
theorem implOk_dk {A1 A2 A3 : Option Addr} {n1 n2 n3 c1 c2 c3 : Nat} {L1 L2 : List Fl} {O : List Dp} (hb : DkB n1 n2 n3 L1 L2 O) (w : World) (H : DiskAt w w.heap.size A1 A2 A3 L1 L2 O) :
    Calls Try.prog 22 #[.agg #[.slice A1 n1 c1, .slice A2 n2 c2, .slice A3 n3 c3]] w fun e w' => e = .returned (.bool (diskB (L1, L2, O))) ∧ Bl w w' :=
  implDiskOk_any A1 A2 A3 n1 c1 n2 c2 n3 c3 L1 L2 O hb.l1 hb.l2 hb.l3 w hb.m1 hb.m2 hb.m3 hb.s1 hb.s2 hb.s3 H.f1 H.f2 H.f3




end Go.Proofs.Ytgfmgmcpfefmkaa

set_option linter.unusedSimpArgs false
set_option linter.unusedVariables false
namespace Go.Proofs.Ytgfmgmcpfefmkaa
open Go.RowKit

/-- Three values that own three lists, in blocks of their own, none of which lay in world w0. -/
structure In3 (w0 wx : World) (vA vB vC : Value) (LA LB : List Fl) (LC : List Dp) : Prop where
  oA : OwnF wx w0.heap.size vA LA
  oB : OwnF wx w0.heap.size vB LB
  oC : OwnO wx w0.heap.size vC LC
  bl : Bl w0 wx
  dAB : ∀ g, vA.ownBlock = some g → vB.ownBlock ≠ some g
  dAC : ∀ g, vA.ownBlock = some g → vC.ownBlock ≠ some g
  dBC : ∀ g, vB.ownBlock = some g → vC.ownBlock ≠ some g
def nilV : Value := .slice none 0 0
theorem In3.start {w0 wx : World} (h : Bl w0 wx) : In3 w0 wx nilV nilV nilV [] [] [] :=
  ⟨Owns.nil_ _ _ _ _, Owns.nil_ _ _ _ _, Owns.nil_ _ _ _ _, h, (fun g h => by cases h), (fun g h => by cases h), (fun g h => by cases h)⟩
theorem In3.buildA {w0 wx : World} {vB : Value} {vC : Value} {LB : List Fl} {LC : List Dp} (h : In3 w0 wx nilV vB vC [] LB LC) : In3 w0 (wx.alloc (.cells #[] 86)) (.slice (some ⟨wx.heap.size, 0, none⟩) 0 0) vB vC [] LB LC := by
  have hb : Bl wx (wx.alloc (.cells #[] 86)) := (Bl.refl wx).alloc_ _
  have hB : ∀ g, vB.ownBlock = some g → g < wx.heap.size := fun g hg => (Owns.lt (show Owns _ _ _ _ _ _ _ from h.oB) g hg).2
  have hC : ∀ g, vC.ownBlock = some g → g < wx.heap.size := fun g hg => (Owns.lt (show Owns _ _ _ _ _ _ _ from h.oC) g hg).2
  exact ⟨World.ownsRow_made (base := w0.heap.size) (e := 86) (size := 2) wx #[] 0 h.bl.size (by unfold maxLen; omega) rfl, h.oB.bl hb, h.oC.bl hb, h.bl.trans_ hb, (fun g hg hg2 => by have hgg : wx.heap.size = g := Option.some.inj hg; have := hB g hg2; omega), (fun g hg hg2 => by have hgg : wx.heap.size = g := Option.some.inj hg; have := hC g hg2; omega), h.dBC⟩
theorem In3.stepA {ops : Array Oper} {o : Oper} {a : Act} {K : Act → World → Prop} {Q : Exit → Act → World → Prop} {E : Prop} {w0 wx : World} {vA : Value} {vB : Value} {vC : Value} {LB : List Fl} {LC : List Dp} (hgd : o.guard = none) (s x : Operand)
    (ho : o.op = .call { callee := .builtin .append, args := #[s, x], argTypes := #[28, 28] }) (h : In3 w0 wx vA vB vC [] LB LC) (hs : a.eval s = vA) {A : Option Addr} {n c : Nat} {L : List Fl} (hx : a.eval x = .slice A n c)
    (hn : n = L.length) (hm : n ≤ 1048576) (H : FilesAt w0 w0.heap.size A L)
    (hk : ∀ (P : Option Addr) (k e : Nat) w', In3 w0 w' (.slice P k e) vB vC L LB LC → K (a.put o.dst (.slice P k e)) w') : if Region.wanted o (yielded ops a.tmps) = true then Oper.wp Try.prog o a wx K Q else E := by
  have hw : Region.wanted o (yielded ops a.tmps) = true := by simp [Region.wanted, hgd]
  rw [if_pos hw]
  obtain ⟨i0, hi, hz0, hz1, hz2⟩ := info_parts infoFile
  have hO' : wx.ownsRow w0.heap.size 86 2 vA 0 [] := h.oA
  have hr : Reads wx wx.heap.size 2 A n (csE encF L) := reads_of_cells (H.bl h.bl) (by rw [csE_length encF_len, hn]) (by omega)
  refine wp_append_any wx s x _ ho w0.heap.size 86 i0 _ 2 32 Try.underlying28 hi hz0 hz1 hz2 rfl (by decide) vA 0 [] hs hO' wx.heap.size A n c (csE encF L) hx hr (csE_one encF_one L) (by unfold maxLen; omega) (by omega) h.bl.size ?_
  intro v' w' h1 h2 h4
  have hB : ∀ g, vB.ownBlock = some g → g < wx.heap.size := fun g hg => (Owns.lt (show Owns _ _ _ _ _ _ _ from h.oB) g hg).2
  have hC : ∀ g, vC.ownBlock = some g → g < wx.heap.size := fun g hg => (Owns.lt (show Owns _ _ _ _ _ _ _ from h.oC) g hg).2
  have hown : OwnF w' w0.heap.size v' L := by
    unfold OwnF Owns
    rw [← hn]
    simpa using h1
  obtain ⟨P, e, rfl, -⟩ := Owns.shape (show Owns _ _ _ _ _ _ _ from hown)
  exact hk P _ e w' ⟨hown, Owns.grown_ (show Owns _ _ _ _ _ _ _ from h.oB) h2 (fun g hg e => h.dAB g e.symm hg), Owns.grown_ (show Owns _ _ _ _ _ _ _ from h.oC) h2 (fun g hg e => h.dAC g e.symm hg), h.bl.grown_ h2 (fun g hg => (World.ownsRow.lt hO' g hg).1), fun g hg hg2 => by
    rcases h4 with e | e
    · exact h.dAB g (e.symm.trans hg) hg2
    · rw [e] at hg; have hgg : wx.heap.size = g := Option.some.inj hg; have := hB g hg2; omega, fun g hg hg2 => by
    rcases h4 with e | e
    · exact h.dAC g (e.symm.trans hg) hg2
    · rw [e] at hg; have hgg : wx.heap.size = g := Option.some.inj hg; have := hC g hg2; omega, h.dBC⟩
theorem In3.buildB {w0 wx : World} {vA : Value} {vC : Value} {LA : List Fl} {LC : List Dp} (h : In3 w0 wx vA nilV vC LA [] LC) : In3 w0 (wx.alloc (.cells #[] 86)) vA (.slice (some ⟨wx.heap.size, 0, none⟩) 0 0) vC LA [] LC := by
  have hb : Bl wx (wx.alloc (.cells #[] 86)) := (Bl.refl wx).alloc_ _
  have hA : ∀ g, vA.ownBlock = some g → g < wx.heap.size := fun g hg => (Owns.lt (show Owns _ _ _ _ _ _ _ from h.oA) g hg).2
  have hC : ∀ g, vC.ownBlock = some g → g < wx.heap.size := fun g hg => (Owns.lt (show Owns _ _ _ _ _ _ _ from h.oC) g hg).2
  exact ⟨h.oA.bl hb, World.ownsRow_made (base := w0.heap.size) (e := 86) (size := 2) wx #[] 0 h.bl.size (by unfold maxLen; omega) rfl, h.oC.bl hb, h.bl.trans_ hb, (fun g hg hg2 => by have hgg : wx.heap.size = g := Option.some.inj hg2; have := hA g hg; omega), h.dAC, (fun g hg hg2 => by have hgg : wx.heap.size = g := Option.some.inj hg; have := hC g hg2; omega)⟩
theorem In3.stepB {ops : Array Oper} {o : Oper} {a : Act} {K : Act → World → Prop} {Q : Exit → Act → World → Prop} {E : Prop} {w0 wx : World} {vB : Value} {vA : Value} {vC : Value} {LA : List Fl} {LC : List Dp} (hgd : o.guard = none) (s x : Operand)
    (ho : o.op = .call { callee := .builtin .append, args := #[s, x], argTypes := #[28, 28] }) (h : In3 w0 wx vA vB vC LA [] LC) (hs : a.eval s = vB) {A : Option Addr} {n c : Nat} {L : List Fl} (hx : a.eval x = .slice A n c)
    (hn : n = L.length) (hm : n ≤ 1048576) (H : FilesAt w0 w0.heap.size A L)
    (hk : ∀ (P : Option Addr) (k e : Nat) w', In3 w0 w' vA (.slice P k e) vC LA L LC → K (a.put o.dst (.slice P k e)) w') : if Region.wanted o (yielded ops a.tmps) = true then Oper.wp Try.prog o a wx K Q else E := by
  have hw : Region.wanted o (yielded ops a.tmps) = true := by simp [Region.wanted, hgd]
  rw [if_pos hw]
  obtain ⟨i0, hi, hz0, hz1, hz2⟩ := info_parts infoFile
  have hO' : wx.ownsRow w0.heap.size 86 2 vB 0 [] := h.oB
  have hr : Reads wx wx.heap.size 2 A n (csE encF L) := reads_of_cells (H.bl h.bl) (by rw [csE_length encF_len, hn]) (by omega)
  refine wp_append_any wx s x _ ho w0.heap.size 86 i0 _ 2 32 Try.underlying28 hi hz0 hz1 hz2 rfl (by decide) vB 0 [] hs hO' wx.heap.size A n c (csE encF L) hx hr (csE_one encF_one L) (by unfold maxLen; omega) (by omega) h.bl.size ?_
  intro v' w' h1 h2 h4
  have hA : ∀ g, vA.ownBlock = some g → g < wx.heap.size := fun g hg => (Owns.lt (show Owns _ _ _ _ _ _ _ from h.oA) g hg).2
  have hC : ∀ g, vC.ownBlock = some g → g < wx.heap.size := fun g hg => (Owns.lt (show Owns _ _ _ _ _ _ _ from h.oC) g hg).2
  have hown : OwnF w' w0.heap.size v' L := by
    unfold OwnF Owns
    rw [← hn]
    simpa using h1
  obtain ⟨P, e, rfl, -⟩ := Owns.shape (show Owns _ _ _ _ _ _ _ from hown)
  exact hk P _ e w' ⟨Owns.grown_ (show Owns _ _ _ _ _ _ _ from h.oA) h2 (fun g hg e => h.dAB g hg e.symm), hown, Owns.grown_ (show Owns _ _ _ _ _ _ _ from h.oC) h2 (fun g hg e => h.dBC g e.symm hg), h.bl.grown_ h2 (fun g hg => (World.ownsRow.lt hO' g hg).1), fun g hg hg2 => by
    rcases h4 with e | e
    · exact h.dAB g hg (e.symm.trans hg2)
    · rw [e] at hg2; have hgg : wx.heap.size = g := Option.some.inj hg2; have := hA g hg; omega, h.dAC, fun g hg hg2 => by
    rcases h4 with e | e
    · exact h.dBC g (e.symm.trans hg) hg2
    · rw [e] at hg; have hgg : wx.heap.size = g := Option.some.inj hg; have := hC g hg2; omega⟩
theorem In3.buildC {w0 wx : World} {vA : Value} {vB : Value} {LA : List Fl} {LB : List Fl} (h : In3 w0 wx vA vB nilV LA LB []) : In3 w0 (wx.alloc (.cells #[] 51)) vA vB (.slice (some ⟨wx.heap.size, 0, none⟩) 0 0) LA LB [] := by
  have hb : Bl wx (wx.alloc (.cells #[] 51)) := (Bl.refl wx).alloc_ _
  have hA : ∀ g, vA.ownBlock = some g → g < wx.heap.size := fun g hg => (Owns.lt (show Owns _ _ _ _ _ _ _ from h.oA) g hg).2
  have hB : ∀ g, vB.ownBlock = some g → g < wx.heap.size := fun g hg => (Owns.lt (show Owns _ _ _ _ _ _ _ from h.oB) g hg).2
  exact ⟨h.oA.bl hb, h.oB.bl hb, World.ownsRow_made (base := w0.heap.size) (e := 51) (size := 4) wx #[] 0 h.bl.size (by unfold maxLen; omega) rfl, h.bl.trans_ hb, h.dAB, (fun g hg hg2 => by have hgg : wx.heap.size = g := Option.some.inj hg2; have := hA g hg; omega), (fun g hg hg2 => by have hgg : wx.heap.size = g := Option.some.inj hg2; have := hB g hg; omega)⟩
theorem In3.stepC {ops : Array Oper} {o : Oper} {a : Act} {K : Act → World → Prop} {Q : Exit → Act → World → Prop} {E : Prop} {w0 wx : World} {vC : Value} {vA : Value} {vB : Value} {LA : List Fl} {LB : List Fl} (hgd : o.guard = none) (s x : Operand)
    (ho : o.op = .call { callee := .builtin .append, args := #[s, x], argTypes := #[29, 29] }) (h : In3 w0 wx vA vB vC LA LB []) (hs : a.eval s = vC) {A : Option Addr} {n c : Nat} {L : List Dp} (hx : a.eval x = .slice A n c)
    (hn : n = L.length) (hm : n ≤ 1048576) (H : OpsAt w0 w0.heap.size A L)
    (hk : ∀ (P : Option Addr) (k e : Nat) w', In3 w0 w' vA vB (.slice P k e) LA LB L → K (a.put o.dst (.slice P k e)) w') : if Region.wanted o (yielded ops a.tmps) = true then Oper.wp Try.prog o a wx K Q else E := by
  have hw : Region.wanted o (yielded ops a.tmps) = true := by simp [Region.wanted, hgd]
  rw [if_pos hw]
  obtain ⟨i0, hi, hz0, hz1, hz2⟩ := info_parts infoDOp
  have hO' : wx.ownsRow w0.heap.size 51 4 vC 0 [] := h.oC
  have hr : Reads wx wx.heap.size 4 A n (csE encO L) := reads_of_cells (H.bl h.bl) (by rw [csE_length encO_len, hn]) (by omega)
  refine wp_append_any wx s x _ ho w0.heap.size 51 i0 _ 4 56 Try.underlying29 hi hz0 hz1 hz2 rfl (by decide) vC 0 [] hs hO' wx.heap.size A n c (csE encO L) hx hr (csE_one encO_one L) (by unfold maxLen; omega) (by omega) h.bl.size ?_
  intro v' w' h1 h2 h4
  have hA : ∀ g, vA.ownBlock = some g → g < wx.heap.size := fun g hg => (Owns.lt (show Owns _ _ _ _ _ _ _ from h.oA) g hg).2
  have hB : ∀ g, vB.ownBlock = some g → g < wx.heap.size := fun g hg => (Owns.lt (show Owns _ _ _ _ _ _ _ from h.oB) g hg).2
  have hown : OwnO w' w0.heap.size v' L := by
    unfold OwnO Owns
    rw [← hn]
    simpa using h1
  obtain ⟨P, e, rfl, -⟩ := Owns.shape (show Owns _ _ _ _ _ _ _ from hown)
  exact hk P _ e w' ⟨Owns.grown_ (show Owns _ _ _ _ _ _ _ from h.oA) h2 (fun g hg e => h.dAC g hg e.symm), Owns.grown_ (show Owns _ _ _ _ _ _ _ from h.oB) h2 (fun g hg e => h.dBC g hg e.symm), hown, h.bl.grown_ h2 (fun g hg => (World.ownsRow.lt hO' g hg).1), h.dAB, fun g hg hg2 => by
    rcases h4 with e | e
    · exact h.dAC g hg (e.symm.trans hg2)
    · rw [e] at hg2; have hgg : wx.heap.size = g := Option.some.inj hg2; have := hA g hg; omega, fun g hg hg2 => by
    rcases h4 with e | e
    · exact h.dBC g hg (e.symm.trans hg2)
    · rw [e] at hg2; have hgg : wx.heap.size = g := Option.some.inj hg2; have := hB g hg; omega⟩

end Go.Proofs.Ytgfmgmcpfefmkaa
