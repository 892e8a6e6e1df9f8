/-
  What is proved here: the program's first frame of a text. No conditions beyond those that each theorem states.
-/
import Derived.Test.YtebbgoknielkpaaFRB
import Derived.Test.YtebbgoknielkpaaFRQ
set_option linter.unusedSimpArgs false
set_option linter.unusedVariables false
namespace Go.Proofs.Ytebbgoknielkpaa
open Go.RowKit

theorem ff_no (r : ByteArray) (n : Nat) (M : Int) (e1 : M = (r.size : Int) - 8) (e2 : n = sizeAt r 0) (hx : ¬ ((n : Int) ≤ 100000 ∧ (n : Int) ≤ M)) : isFrame r 0 = false := by
  subst e1
  rw [e2] at hx
  generalize hq : sizeAt r 0 = q at hx
  refine isFrame_no (fun hc => hx ?_)
  rw [hq] at hc
  obtain ⟨c1, c2, c3⟩ := hc
  exact ⟨by omega, by omega⟩
theorem ff_yes (r y : ByteArray) (n : Nat) (M : Int) (e1 : M = (r.size : Int) - 8) (e2 : n = sizeAt r 0) (hy : y = r.extract 8 r.size) (g1 : (n : Int) ≤ 100000) (g2 : (n : Int) ≤ M) :
    ∃ d p : ByteArray, y.extract 0 n = d ∧ r.extract 0 8 = p ∧ d.size ≤ 1048576 ∧ d = dataAt r 0 ∧ ∀ z, z = headBytes d → (z.toList == p.toList) = isFrame r 0 := by
  have g3 : 8 + n ≤ r.size := by omega
  have g4 : n ≤ 100000 := by omega
  clear g1 g2 e1
  have e3 : y.extract 0 n = dataAt r 0 := by
    rw [hy, extract_from r 8 0 n g3]
    unfold dataAt
    rw [← e2]
  have e4 : (dataAt r 0).size = n := by
    unfold dataAt
    rw [ByteArray.size_extract, ← e2]
    omega
  have e5 : (dataAt r 0).size = sizeAt r 0 := e4.trans e2
  refine ⟨_, _, rfl, rfl, by rw [e3, e4]; omega, e3, fun z hz => ?_⟩
  rw [hz, e3, head_sum r _ (by omega) e5, isFrame_eq (by omega) (by rw [← e2]; exact g4) (by rw [← e2]; omega)]

set_option maxRecDepth 100000 in
set_option maxHeartbeats 2000000 in
theorem firstFrame_any (r : ByteArray) (hr : r.size ≤ 1048576) (w : World) :
    Calls Try.prog 54 #[.string r] w fun e w' => (∃ z b, e = .returned (.tuple #[.string z, .bool b]) ∧ b = isFrame r 0 ∧ (b = true → z = dataAt r 0)) ∧ Bl w w' := by
  by_cases h8 : r.size < 8
  · have i1 : (r.size : Int) < 8 := by omega
    go_enter Try.func54, Try.ntmps54
    go_wp2
    refine bodyPost_ret (v := .tuple #[.string ⟨#[]⟩, .bool false]) (by simp [results, Try.results54, go_sem]) rfl ⟨⟨_, _, rfl, ?_, fun h => by cases h⟩, (by repeat' (first | exact Bl.refl _ | with_reducible assumption | with_reducible refine Bl.drew_ ?_ | with_reducible refine Bl.drewN_ ?_ _ | with_reducible refine Bl.alloc_ ?_ _ | with_reducible refine Bl.trans_ ?_ (by assumption) | with_reducible refine Bl.trans_ ?_ (And.left (by assumption))))⟩
    unfold isFrame
    rw [show decide (0 + 8 ≤ r.size) = false from by rw [decide_eq_false_iff_not]; omega]
    rfl
  · have b0 := byteN_at r 0 (by omega)
    have b1 := byteN_at r 1 (by omega)
    have b2 := byteN_at r 2 (by omega)
    have b3 := byteN_at r 3 (by omega)
    have l0 := byteN_lt r 0
    have l1 := byteN_lt r 1
    have l2 := byteN_lt r 2
    have l3 := byteN_lt r 3
    have hs := sizeAt_eq r 0
    simp only [Nat.zero_add] at hs
    have ho := or4 _ _ _ _ l0 l1 l2 l3
    rw [← hs] at ho
    have HS := Lib.hid hs
    have ln := sizeAt_lt r 0
    clear hs
    replace b0 := b0.symm
    replace b1 := b1.symm
    replace b2 := b2.symm
    replace b3 := b3.symm
    generalize byteN r 0 = x0 at b0 l0 HS ho
    generalize byteN r 1 = x1 at b1 l1 HS ho
    generalize byteN r 2 = x2 at b2 l2 HS ho
    generalize byteN r 3 = x3 at b3 l3 HS ho
    obtain ⟨n, hn⟩ : ∃ n, n = sizeAt r 0 := ⟨_, rfl⟩
    rw [← hn] at ho HS ln
    have HN := Lib.hid hn
    clear hn HS
    have i1 : (8 : Int) ≤ (r.size : Int) := by omega
    have i2 : (0 : Int) < (r.size : Int) := by omega
    have i3 : (1 : Int) < (r.size : Int) := by omega
    have i4 : (2 : Int) < (r.size : Int) := by omega
    have i5 : (3 : Int) < (r.size : Int) := by omega
    obtain ⟨y, hy⟩ : ∃ y, y = r.extract 8 r.size := ⟨_, rfl⟩
    obtain ⟨M, hM⟩ : ∃ M : Int, M = (r.size : Int) - 8 := ⟨_, rfl⟩
    have hys : (y.size : Int) = M := by rw [hM, hy, ByteArray.size_extract]; omega
    have hM0 : 0 ≤ M := by omega
    have HM := Lib.hid hM
    clear hM
    have hyy := hy.symm
    have HY := Lib.hid hy
    clear hy
    have HF := Lib.hid (ff_no r n M HM.out HN.out)
    have HG := Lib.hid (ff_yes r y n M HM.out HN.out HY.out)
    by_cases hmc : M < 100000
    · by_cases h2 : M < (n : Int)
      · go_enter Try.func54, Try.ntmps54
        go_wp2_with fail
        go_quiet (fail)
        clear ho b0 b1 b2 b3 l0 l1 l2 l3 i2 i3 i4 i5
        go_wp2
        refine bodyPost_ret (v := .tuple #[.string ⟨#[]⟩, .bool false]) (by simp [results, Try.results54, go_sem]) rfl ⟨⟨_, _, rfl, ?_, fun h => by cases h⟩, (by repeat' (first | exact Bl.refl _ | with_reducible assumption | with_reducible refine Bl.drew_ ?_ | with_reducible refine Bl.drewN_ ?_ _ | with_reducible refine Bl.alloc_ ?_ _ | with_reducible refine Bl.trans_ ?_ (by assumption) | with_reducible refine Bl.trans_ ?_ (And.left (by assumption))))⟩
        exact (HF.out (by omega)).symm
      · go_enter Try.func54, Try.ntmps54
        go_wp2_with fail
        go_quiet (fail)
        clear ho b0 b1 b2 b3 l0 l1 l2 l3 i2 i3 i4 i5
        go_wp2_with fail
        obtain ⟨d, p, hd, hp, hds, hdd, hb⟩ := HG.out (by omega) (by omega)
        have HB := Lib.hid hb
        have HDD := Lib.hid hdd
        clear hb hdd hyy
        refine wp_region_held_drew (S := fun wx => Bl w wx) (by kernel_rfl) ?_ (fun hHeld => ?_)
        · (first | exact (by repeat' (first | exact Bl.refl _ | with_reducible assumption | with_reducible refine Bl.drew_ ?_ | with_reducible refine Bl.drewN_ ?_ _ | with_reducible refine Bl.alloc_ ?_ _ | with_reducible refine Bl.trans_ ?_ (by assumption) | with_reducible refine Bl.trans_ ?_ (And.left (by assumption)))))
        refine wpAnyH_take (i := 0) (v := ?_) rfl (by kernel_rfl) (by kernel_rfl) (by kernel_rfl) (fun _ _ _ h => h) (Or.inl ⟨by kernel_rfl, ?_⟩) (by assumption) ?_
        rotate_left
        · (intro wx hSw; (try dsimp only at hSw); go_simp; try (with_reducible rfl))
        try simp only [Act.put, List.getElem_toArray, List.getElem_cons_succ, List.getElem_cons_zero, List.setIfInBounds_toArray, List.set_cons_zero, List.set_cons_succ]
        refine wpAnyH_take (i := 1) (v := ?_) rfl (by kernel_rfl) (by kernel_rfl) (by kernel_rfl) (fun _ _ _ h => h) (Or.inl ⟨by kernel_rfl, ?_⟩) (by assumption) ?_
        rotate_left
        · (intro wx hSw; (try dsimp only at hSw); go_simp; try (with_reducible rfl))
        try simp only [Act.put, List.getElem_toArray, List.getElem_cons_succ, List.getElem_cons_zero, List.setIfInBounds_toArray, List.set_cons_zero, List.set_cons_succ]
        refine wpAnyH_take (i := 3) (v := ?_) rfl (by kernel_rfl) (by kernel_rfl) (by kernel_rfl) (fun _ _ _ h => h) (Or.inl ⟨by kernel_rfl, ?_⟩) (by assumption) ?_
        rotate_left
        · (intro wx hSw; (try dsimp only at hSw); go_simp; try (with_reducible rfl))
        try simp only [Act.put, List.getElem_toArray, List.getElem_cons_succ, List.getElem_cons_zero, List.setIfInBounds_toArray, List.set_cons_zero, List.set_cons_succ]
        refine wpAnyH_take (i := 4) (v := ?_) rfl (by kernel_rfl) (by kernel_rfl) (by kernel_rfl) (fun _ _ _ h => h) (Or.inl ⟨by kernel_rfl, ?_⟩) (by assumption) ?_
        rotate_left
        · (intro wx hSw; (try dsimp only at hSw); go_simp; try (with_reducible rfl))
        try simp only [Act.put, List.getElem_toArray, List.getElem_cons_succ, List.getElem_cons_zero, List.setIfInBounds_toArray, List.set_cons_zero, List.set_cons_succ]
        refine wpAnyH_ready (rs := [2]) (by kernel_rfl) (by simp) ?_
        refine AllReadyH.cons rfl (fun K hK => ?_) AllReadyH.nil
        go_simp
        (go_at_call 53; refine (headOf_any d hds _).mono ?_; rintro e w1 ⟨⟨z, rfl, hz⟩, hb1⟩; have HZ := Lib.hid (HB.out z hz); clear hz)
        try (go_wp2_with fail)
        refine hK.out _ _ ?_ (fun hHeld => ?_)
        · (first | exact (by repeat' (first | exact Bl.refl _ | with_reducible assumption | with_reducible refine Bl.drew_ ?_ | with_reducible refine Bl.drewN_ ?_ _ | with_reducible refine Bl.alloc_ ?_ _ | with_reducible refine Bl.trans_ ?_ (by assumption) | with_reducible refine Bl.trans_ ?_ (And.left (by assumption)))))
        clear hK K
        try simp only [Act.put, List.getElem_toArray, List.getElem_cons_succ, List.getElem_cons_zero, List.setIfInBounds_toArray, List.set_cons_zero, List.set_cons_succ]
        refine wpAnyH_take (i := 5) (v := ?_) rfl (by kernel_rfl) (by kernel_rfl) (by kernel_rfl) (fun _ _ _ h => h) (Or.inl ⟨by kernel_rfl, ?_⟩) (by assumption) ?_
        rotate_left
        · (intro wx hSw; (try dsimp only at hSw); go_simp; try (with_reducible rfl))
        try simp only [Act.put, List.getElem_toArray, List.getElem_cons_succ, List.getElem_cons_zero, List.setIfInBounds_toArray, List.set_cons_zero, List.set_cons_succ]
        refine wpAnyH_take (i := 6) (v := ?_) rfl (by kernel_rfl) (by kernel_rfl) (by kernel_rfl) (fun _ _ _ h => h) (Or.inl ⟨by kernel_rfl, ?_⟩) (by assumption) ?_
        rotate_left
        · (intro wx hSw; (try dsimp only at hSw); go_simp; try (with_reducible rfl))
        try simp only [Act.put, List.getElem_toArray, List.getElem_cons_succ, List.getElem_cons_zero, List.setIfInBounds_toArray, List.set_cons_zero, List.set_cons_succ]
        refine wpAnyH_take (i := 7) (v := ?_) rfl (by kernel_rfl) (by kernel_rfl) (by kernel_rfl) (fun _ _ _ h => h) (Or.inl ⟨by kernel_rfl, ?_⟩) (by assumption) ?_
        rotate_left
        · (intro wx hSw; (try dsimp only at hSw); go_simp; try (with_reducible rfl))
        try simp only [Act.put, List.getElem_toArray, List.getElem_cons_succ, List.getElem_cons_zero, List.setIfInBounds_toArray, List.set_cons_zero, List.set_cons_succ]
        refine wpAnyH_done (by kernel_rfl) ?_ _
        go_wp2
        refine bodyPost_ret (v := .tuple #[.string d, .bool (z.toList == p.toList)]) (by simp [results, Try.results54, go_sem]) rfl ⟨⟨_, _, rfl, HZ.out, fun _ => HDD.out⟩, (by repeat' (first | exact Bl.refl _ | with_reducible assumption | with_reducible refine Bl.drew_ ?_ | with_reducible refine Bl.drewN_ ?_ _ | with_reducible refine Bl.alloc_ ?_ _ | with_reducible refine Bl.trans_ ?_ (by assumption) | with_reducible refine Bl.trans_ ?_ (And.left (by assumption))))⟩
    · by_cases h2 : 100000 < (n : Int)
      · go_enter Try.func54, Try.ntmps54
        go_wp2_with fail
        go_quiet (fail)
        clear ho b0 b1 b2 b3 l0 l1 l2 l3 i2 i3 i4 i5
        go_wp2
        refine bodyPost_ret (v := .tuple #[.string ⟨#[]⟩, .bool false]) (by simp [results, Try.results54, go_sem]) rfl ⟨⟨_, _, rfl, ?_, fun h => by cases h⟩, (by repeat' (first | exact Bl.refl _ | with_reducible assumption | with_reducible refine Bl.drew_ ?_ | with_reducible refine Bl.drewN_ ?_ _ | with_reducible refine Bl.alloc_ ?_ _ | with_reducible refine Bl.trans_ ?_ (by assumption) | with_reducible refine Bl.trans_ ?_ (And.left (by assumption))))⟩
        exact (HF.out (by omega)).symm
      · go_enter Try.func54, Try.ntmps54
        go_wp2_with fail
        go_quiet (fail)
        clear ho b0 b1 b2 b3 l0 l1 l2 l3 i2 i3 i4 i5
        go_wp2_with fail
        obtain ⟨d, p, hd, hp, hds, hdd, hb⟩ := HG.out (by omega) (by omega)
        have HB := Lib.hid hb
        have HDD := Lib.hid hdd
        clear hb hdd hyy
        refine wp_region_held_drew (S := fun wx => Bl w wx) (by kernel_rfl) ?_ (fun hHeld => ?_)
        · (first | exact (by repeat' (first | exact Bl.refl _ | with_reducible assumption | with_reducible refine Bl.drew_ ?_ | with_reducible refine Bl.drewN_ ?_ _ | with_reducible refine Bl.alloc_ ?_ _ | with_reducible refine Bl.trans_ ?_ (by assumption) | with_reducible refine Bl.trans_ ?_ (And.left (by assumption)))))
        refine wpAnyH_take (i := 0) (v := ?_) rfl (by kernel_rfl) (by kernel_rfl) (by kernel_rfl) (fun _ _ _ h => h) (Or.inl ⟨by kernel_rfl, ?_⟩) (by assumption) ?_
        rotate_left
        · (intro wx hSw; (try dsimp only at hSw); go_simp; try (with_reducible rfl))
        try simp only [Act.put, List.getElem_toArray, List.getElem_cons_succ, List.getElem_cons_zero, List.setIfInBounds_toArray, List.set_cons_zero, List.set_cons_succ]
        refine wpAnyH_take (i := 1) (v := ?_) rfl (by kernel_rfl) (by kernel_rfl) (by kernel_rfl) (fun _ _ _ h => h) (Or.inl ⟨by kernel_rfl, ?_⟩) (by assumption) ?_
        rotate_left
        · (intro wx hSw; (try dsimp only at hSw); go_simp; try (with_reducible rfl))
        try simp only [Act.put, List.getElem_toArray, List.getElem_cons_succ, List.getElem_cons_zero, List.setIfInBounds_toArray, List.set_cons_zero, List.set_cons_succ]
        refine wpAnyH_take (i := 3) (v := ?_) rfl (by kernel_rfl) (by kernel_rfl) (by kernel_rfl) (fun _ _ _ h => h) (Or.inl ⟨by kernel_rfl, ?_⟩) (by assumption) ?_
        rotate_left
        · (intro wx hSw; (try dsimp only at hSw); go_simp; try (with_reducible rfl))
        try simp only [Act.put, List.getElem_toArray, List.getElem_cons_succ, List.getElem_cons_zero, List.setIfInBounds_toArray, List.set_cons_zero, List.set_cons_succ]
        refine wpAnyH_take (i := 4) (v := ?_) rfl (by kernel_rfl) (by kernel_rfl) (by kernel_rfl) (fun _ _ _ h => h) (Or.inl ⟨by kernel_rfl, ?_⟩) (by assumption) ?_
        rotate_left
        · (intro wx hSw; (try dsimp only at hSw); go_simp; try (with_reducible rfl))
        try simp only [Act.put, List.getElem_toArray, List.getElem_cons_succ, List.getElem_cons_zero, List.setIfInBounds_toArray, List.set_cons_zero, List.set_cons_succ]
        refine wpAnyH_ready (rs := [2]) (by kernel_rfl) (by simp) ?_
        refine AllReadyH.cons rfl (fun K hK => ?_) AllReadyH.nil
        go_simp
        (go_at_call 53; refine (headOf_any d hds _).mono ?_; rintro e w1 ⟨⟨z, rfl, hz⟩, hb1⟩; have HZ := Lib.hid (HB.out z hz); clear hz)
        try (go_wp2_with fail)
        refine hK.out _ _ ?_ (fun hHeld => ?_)
        · (first | exact (by repeat' (first | exact Bl.refl _ | with_reducible assumption | with_reducible refine Bl.drew_ ?_ | with_reducible refine Bl.drewN_ ?_ _ | with_reducible refine Bl.alloc_ ?_ _ | with_reducible refine Bl.trans_ ?_ (by assumption) | with_reducible refine Bl.trans_ ?_ (And.left (by assumption)))))
        clear hK K
        try simp only [Act.put, List.getElem_toArray, List.getElem_cons_succ, List.getElem_cons_zero, List.setIfInBounds_toArray, List.set_cons_zero, List.set_cons_succ]
        refine wpAnyH_take (i := 5) (v := ?_) rfl (by kernel_rfl) (by kernel_rfl) (by kernel_rfl) (fun _ _ _ h => h) (Or.inl ⟨by kernel_rfl, ?_⟩) (by assumption) ?_
        rotate_left
        · (intro wx hSw; (try dsimp only at hSw); go_simp; try (with_reducible rfl))
        try simp only [Act.put, List.getElem_toArray, List.getElem_cons_succ, List.getElem_cons_zero, List.setIfInBounds_toArray, List.set_cons_zero, List.set_cons_succ]
        refine wpAnyH_take (i := 6) (v := ?_) rfl (by kernel_rfl) (by kernel_rfl) (by kernel_rfl) (fun _ _ _ h => h) (Or.inl ⟨by kernel_rfl, ?_⟩) (by assumption) ?_
        rotate_left
        · (intro wx hSw; (try dsimp only at hSw); go_simp; try (with_reducible rfl))
        try simp only [Act.put, List.getElem_toArray, List.getElem_cons_succ, List.getElem_cons_zero, List.setIfInBounds_toArray, List.set_cons_zero, List.set_cons_succ]
        refine wpAnyH_take (i := 7) (v := ?_) rfl (by kernel_rfl) (by kernel_rfl) (by kernel_rfl) (fun _ _ _ h => h) (Or.inl ⟨by kernel_rfl, ?_⟩) (by assumption) ?_
        rotate_left
        · (intro wx hSw; (try dsimp only at hSw); go_simp; try (with_reducible rfl))
        try simp only [Act.put, List.getElem_toArray, List.getElem_cons_succ, List.getElem_cons_zero, List.setIfInBounds_toArray, List.set_cons_zero, List.set_cons_succ]
        refine wpAnyH_done (by kernel_rfl) ?_ _
        go_wp2
        refine bodyPost_ret (v := .tuple #[.string d, .bool (z.toList == p.toList)]) (by simp [results, Try.results54, go_sem]) rfl ⟨⟨_, _, rfl, HZ.out, fun _ => HDD.out⟩, (by repeat' (first | exact Bl.refl _ | with_reducible assumption | with_reducible refine Bl.drew_ ?_ | with_reducible refine Bl.drewN_ ?_ _ | with_reducible refine Bl.alloc_ ?_ _ | with_reducible refine Bl.trans_ ?_ (by assumption) | with_reducible refine Bl.trans_ ?_ (And.left (by assumption))))⟩

end Go.Proofs.Ytebbgoknielkpaa
