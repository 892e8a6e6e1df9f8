/-
  What is proved here: a list of as many of one number as are asked for, at most 24, as the library makes it. No conditions beyond those that each theorem states.
-/
import Derived.Test.YtffjpfanmnkmgaaJG12
import Derived.Laws.CopyOwn
import Derived.Deep.RegionLaw
set_option linter.unusedSimpArgs false
set_option linter.unusedVariables false
namespace Go.Proofs.Ytffjpfanmnkmgaa
open Go.RowKit

theorem splice_rep {α : Type} (a b : α) (i k m : Nat) (h : m ≤ k) : splice (List.replicate i a ++ List.replicate k b) i (List.replicate m a) = List.replicate (i + m) a ++ List.replicate (k - m) b := by
  unfold splice
  rw [List.length_replicate, List.take_left' (by simp), List.drop_append, List.drop_eq_nil_of_le (by simp), List.nil_append, List.length_replicate, show i + m - i = m by omega, List.drop_replicate, ← List.append_assoc, List.replicate_append_replicate]

theorem mk1_cells (n : Nat) : mk1 n = (List.replicate n (Value.int .i64 0)).toArray := by
  refine Array.ext (by simp [size_mk1]) fun i h1 h2 => ?_
  unfold mk1
  simp [madeCells, Nat.mod_one]
/-- What is laid down of the numbers. -/
def repC (x : Int) (i k : Nat) : List Value := List.replicate i (.int .i64 x) ++ List.replicate k (.int .i64 0)
theorem repC_len (x : Int) (i k : Nat) : (repC x i k).length = i + k := by simp [repC]
theorem repC_at {x : Int} {i k j : Nat} (h : j < i) : (repC x i k)[j]? = some (.int .i64 x) := by
  unfold repC
  rw [List.getElem?_append_left (by simpa using h)]
  simp [h]

set_option maxRecDepth 100000 in
set_option maxHeartbeats 4000000 in
theorem repeat_any (g0 c0 : Nat) (x : Int) (n : Nat) (h1 : 1 ≤ n) (hn : n ≤ 24) (w : World) (hg : g0 < w.heap.size) (hc : w.cell? ⟨g0, 0, none⟩ = some (.int .i64 x)) :
    Calls Try.prog 74 #[.slice (some ⟨g0, 0, none⟩) 1 c0, .int .i64 (n : Int)] w fun e w' => e = .returned (.slice (some ⟨w.heap.size, 0, none⟩) n n) ∧ OwnN w' w.heap.size (.slice (some ⟨w.heap.size, 0, none⟩) n n) (List.replicate n x) ∧ Bl w w' := by
  have hmk := make_nums n (by omega)
  have n0 : (0 : Int) ≤ (n : Int) := by omega
  have HSZ := Lib.hid (show (Try.prog.info? 2).map (·.size) = some 1 from by kernel_rfl)
  go_enter Try.func74, Try.ntmps74
  go_wp2_with fail
  refine (mul_one_ n hn _).mono ?_
  rintro e w1 ⟨rfl, rfl⟩
  have HC := Lib.hid hc
  clear hc
  have HM0 := Lib.hid (show (w1.alloc (.cells (mk1 n) 2)).heap[w1.heap.size]? = some (.cells (repC x 0 n).toArray 2 (0, 0)) from by
    rw [mk1_cells, World.alloc_heap_new]
    simp [repC])
  have HB0 := Lib.hid (show Bl w1 (w1.alloc (.cells (mk1 n) 2)) from Bl.alloc_ (Bl.refl _) _)
  obtain ⟨Y, hY⟩ : ∃ Y, Y = List.replicate 1 (Value.int .i64 x) := ⟨_, rfl⟩
  have YL := Lib.hid (show Y.length = 1 from by rw [hY]; rfl)
  have HY := Lib.hid hY
  clear hY
  go_wp2_with (refine wpList_copy_splice (o := ⟨some 33, _, _, _, _, _⟩) rfl (.tmp 31) (.tmp 32) 22 22 rfl 2 Try.underlying22 HSZ.out _ _ n n 1 c0 rfl rfl w1.heap.size 0 (repC x 0 n) 2 HM0.out Y ?k1 ?k2 ?k3 ?k4 w1.heap.size w1 HB0.out (Nat.le_refl _) ?_)
  case k1 => rw [YL.out]; exact (Nat.min_eq_left h1).symm
  case k2 =>
    intro _ j v hj
    rw [HY.out] at hj
    match j, hj with
    | 0, hj =>
      have e : v = .int .i64 x := by simpa using hj.symm
      rw [e]
      exact HC.out
    | (j + 1), hj => simp at hj
  case k3 => rw [repC_len, YL.out]; omega
  case k4 => intro v hv; rw [HY.out] at hv; rw [List.eq_of_mem_replicate hv]; rfl
  intro w2 hg2 hb2
  have HG2 := Lib.hid (show w2.heap[w1.heap.size]? = some (.cells (repC x 1 (n - 1)).toArray 2 (0, 0)) from by
    have h := hg2.out
    rw [HY.out, show splice (repC x 0 n) 0 (List.replicate 1 (Value.int .i64 x)) = repC x 1 (n - 1) from splice_rep _ _ 0 n 1 h1] at h
    exact h)
  have B2 := Lib.hid hb2
  clear hg2 hb2 hmk
  go_wp2_with fail
  go_loopw [8] (fun i wr => ∃ j : Nat, 1 ≤ j ∧ j ≤ n ∧ i = .int .i64 j ∧ Hid (wr.heap[w1.heap.size]? = some (.cells (repC x j (n - j)).toArray 2 (0, 0))) ∧ Bl w1 wr) (fun i _ => n - (intOf i).toNat)
  case atStart => exact ⟨1, by omega, h1, by rw [YL.out], HG2, B2.out⟩
  case round =>
    obtain ⟨j, hj1, hj, rfl, HG, hbl⟩ := hrel
    have BB := Lib.hid hbl
    by_cases hlt : j < n
    · have i0 : (0 : Int) ≤ (j : Int) := by omega
      have i1 : (j : Int) ≤ (n : Int) := by omega
      have i2 : (j : Int) < (n : Int) := by omega
      obtain ⟨m, hm⟩ : ∃ m, m = Nat.min j (n - j) := ⟨_, rfl⟩
      have hm1 : 1 ≤ m ∧ m ≤ j ∧ m ≤ n - j := by rw [hm]; exact ⟨by simp [Nat.min_def]; split <;> omega, Nat.min_le_left _ _, Nat.min_le_right _ _⟩
      have HM := Lib.hid hm
      have HRL := Lib.hid (repC_len x j (n - j))
      obtain ⟨C, hC⟩ : ∃ C, C = repC x j (n - j) := ⟨_, rfl⟩
      rw [← hC] at HG HRL
      obtain ⟨X, hX⟩ : ∃ X, X = List.replicate m (Value.int .i64 x) := ⟨_, rfl⟩
      have XL := Lib.hid (show X.length = m from by rw [hX]; simp)
      have HCC := Lib.hid hC
      have HXX := Lib.hid hX
      clear hm hC hX hbl
      have OWN : wr.ownsRow w1.heap.size 2 1 (.slice (some ⟨w1.heap.size, 0, none⟩) n n) n C :=
        ⟨by rw [HRL.out]; omega, .inr ⟨w1.heap.size, n, C.toArray, rfl, Nat.le_refl _, HG.out, Nat.le_refl _, by unfold maxLen; omega, by rw [List.size_toArray, HRL.out]; omega, by rw [List.take_of_length_le (by simp [HRL.out]; omega)]⟩⟩
      have CE := Lib.hid (show ∀ (t : Nat) (v : Value), X[t]? = some v → wr.drew.cell? ((⟨w1.heap.size, 0, none⟩ : Addr).add t) = some v from fun t v ht => by
        have htl : t < m := by have := (List.getElem?_eq_some_iff.1 ht).1; rw [XL.out] at this; exact this
        have e := World.ownsRow.cellAt OWN t (by omega)
        rw [HXX.out] at ht
        simp [htl] at ht
        subst ht
        have e2 : C[t]? = some (Value.int .i64 x) := by rw [HCC.out]; exact repC_at (by omega)
        rcases Nat.eq_zero_or_pos t with rfl | h
        · simpa [Addr.add] using e.trans e2
        · simpa [Addr.add, show ¬ t = 0 by omega] using e.trans e2)
      clear OWN
      have w0 : IntKind.i64.wrap ((n : Int) - j) = (n : Int) - j := IntWalk.i64_in _ (by omega)
      go_wp2_with fail
      refine wp_region_held_drew (S := fun wx => Bl w1 wx) (by kernel_rfl) ?_ (fun hHeld => ?_)
      · (first | exact BB.out.drew_ | exact hb4)
      refine wpAnyH_take (i := 0) (v := ?_) rfl (by kernel_rfl) (by kernel_rfl) (by kernel_rfl) (fun _ _ _ h => h) (Or.inl ⟨by kernel_rfl, ?_⟩) (by assumption) ?_
      rotate_left
      · (intro wx hSw; (try dsimp only at hSw); go_simp; try (with_reducible rfl))
      try simp only [Act.put, List.getElem_toArray, List.getElem_cons_succ, List.getElem_cons_zero, List.setIfInBounds_toArray, List.set_cons_zero, List.set_cons_succ]
      refine wpAnyH_take (i := 1) (v := ?_) rfl (by kernel_rfl) (by kernel_rfl) (by kernel_rfl) (fun _ _ _ h => h) (Or.inl ⟨by kernel_rfl, ?_⟩) (by assumption) ?_
      rotate_left
      · (intro wx hSw; (try dsimp only at hSw); go_simp; try (with_reducible rfl))
      try simp only [Act.put, List.getElem_toArray, List.getElem_cons_succ, List.getElem_cons_zero, List.setIfInBounds_toArray, List.set_cons_zero, List.set_cons_succ]
      refine wpAnyH_take (i := 2) (v := ?_) rfl (by kernel_rfl) (by kernel_rfl) (by kernel_rfl) (fun _ _ _ h => h) (Or.inl ⟨by kernel_rfl, ?_⟩) (by assumption) ?_
      rotate_left
      · (intro wx hSw; (try dsimp only at hSw); go_simp; try (with_reducible rfl))
      try simp only [Act.put, List.getElem_toArray, List.getElem_cons_succ, List.getElem_cons_zero, List.setIfInBounds_toArray, List.set_cons_zero, List.set_cons_succ]
      refine wpAnyH_take (i := 3) (v := ?_) rfl (by kernel_rfl) (by kernel_rfl) (by kernel_rfl) (fun _ _ _ h => h) (Or.inl ⟨by kernel_rfl, ?_⟩) (by assumption) ?_
      rotate_left
      · (intro wx hSw; (try dsimp only at hSw); go_simp; try (with_reducible rfl))
      try simp only [Act.put, List.getElem_toArray, List.getElem_cons_succ, List.getElem_cons_zero, List.setIfInBounds_toArray, List.set_cons_zero, List.set_cons_succ]
      refine wpAnyH_take (i := 4) (v := ?_) rfl (by kernel_rfl) (by kernel_rfl) (by kernel_rfl) (fun _ _ _ h => h) (Or.inl ⟨by kernel_rfl, ?_⟩) (by assumption) ?_
      rotate_left
      · (intro wx hSw; (try dsimp only at hSw); go_simp; try (with_reducible rfl))
      try simp only [Act.put, List.getElem_toArray, List.getElem_cons_succ, List.getElem_cons_zero, List.setIfInBounds_toArray, List.set_cons_zero, List.set_cons_succ]
      refine wpAnyH_take (i := 5) (v := ?_) rfl (by kernel_rfl) (by kernel_rfl) (by kernel_rfl) (fun _ _ _ h => h) (Or.inl ⟨by kernel_rfl, ?_⟩) (by assumption) ?_
      rotate_left
      · (intro wx hSw; (try dsimp only at hSw); go_simp; try (with_reducible rfl))
      try simp only [Act.put, List.getElem_toArray, List.getElem_cons_succ, List.getElem_cons_zero, List.setIfInBounds_toArray, List.set_cons_zero, List.set_cons_succ]
      refine wpAnyH_take (i := 6) (v := ?_) rfl (by kernel_rfl) (by kernel_rfl) (by kernel_rfl) (fun _ _ _ h => h) (Or.inl ⟨by kernel_rfl, ?_⟩) (by assumption) ?_
      rotate_left
      · (intro wx hSw; (try dsimp only at hSw); go_simp; try (with_reducible rfl))
      try simp only [Act.put, List.getElem_toArray, List.getElem_cons_succ, List.getElem_cons_zero, List.setIfInBounds_toArray, List.set_cons_zero, List.set_cons_succ]
      refine wpAnyH_ready (rs := [7]) (by kernel_rfl) (by simp) ?_
      refine AllReadyH.cons rfl (fun K hK => ?_) AllReadyH.nil
      refine step_copy_splice rfl (.tmp 41) (.tmp 44) 22 22 rfl 2 Try.underlying22 HSZ.out _ _ _ _ _ _ rfl rfl w1.heap.size j C 2 HG.out X ?k1 ?k2 ?k3 ?k4 w1.heap.size w1 BB.out.drew_ (Nat.le_refl _) ?_; (case k1 => rw [XL.out, HM.out]); (case k2 => exact fun _ => ⟨if_neg (by omega), _, rfl, fun t v ht => CE.out t v ht⟩); (case k3 => rw [XL.out, HRL.out]; omega); (case k4 => intro v hv; rw [HXX.out] at hv; rw [List.eq_of_mem_replicate hv]; rfl); intro w4 hg4 hb4
      refine hK.out _ _ ?_ (fun hHeld => ?_)
      · (first | exact BB.out.drew_ | exact hb4)
      clear hK K
      try simp only [Act.put, List.getElem_toArray, List.getElem_cons_succ, List.getElem_cons_zero, List.setIfInBounds_toArray, List.set_cons_zero, List.set_cons_succ]
      refine wpAnyH_take (i := 8) (v := ?_) rfl (by kernel_rfl) (by kernel_rfl) (by kernel_rfl) (fun _ _ _ h => h) (Or.inl ⟨by kernel_rfl, ?_⟩) (by assumption) ?_
      rotate_left
      · (intro wx hSw; (try dsimp only at hSw); go_simp; try (with_reducible rfl))
      try simp only [Act.put, List.getElem_toArray, List.getElem_cons_succ, List.getElem_cons_zero, List.setIfInBounds_toArray, List.set_cons_zero, List.set_cons_succ]
      refine wpAnyH_take (i := 9) (v := ?_) rfl (by kernel_rfl) (by kernel_rfl) (by kernel_rfl) (fun _ _ _ h => h) (Or.inl ⟨by kernel_rfl, ?_⟩) (by assumption) ?_
      rotate_left
      · (intro wx hSw; (try dsimp only at hSw); go_simp; try (with_reducible rfl))
      try simp only [Act.put, List.getElem_toArray, List.getElem_cons_succ, List.getElem_cons_zero, List.setIfInBounds_toArray, List.set_cons_zero, List.set_cons_succ]
      refine wpAnyH_done (by kernel_rfl) ?_ _
      have HG4 := Lib.hid (show w4.heap[w1.heap.size]? = some (.cells (repC x (j + m) (n - (j + m))).toArray 2 (0, 0)) from by
        have h := hg4.out
        rw [HCC.out, HXX.out, show splice (repC x j (n - j)) j (List.replicate m (Value.int .i64 x)) = repC x (j + m) (n - j - m) from splice_rep _ _ j (n - j) m hm1.2.2] at h
        rwa [show n - (j + m) = n - j - m by omega])
      have B4 := Lib.hid hb4
      clear hg4 hb4
      go_wp2
      go_roundw
      case rel => exact ⟨j + m, by omega, by omega, by rw [XL.out, IntWalk.i64_in _ (by omega)]; go_num, HG4, B4.out⟩
      case measure => rw [XL.out, IntWalk.i64_in _ (by omega)]; simp [intOf]; omega
    · obtain rfl : j = n := by omega
      have HO := Lib.hid (show OwnN wr w1.heap.size (.slice (some ⟨w1.heap.size, 0, none⟩) j j) (List.replicate j x) from by
        unfold OwnN Owns
        rw [List.length_replicate]
        refine ⟨by simp [csI], .inr ⟨w1.heap.size, j, _, rfl, Nat.le_refl _, HG.out, Nat.le_refl _, by unfold maxLen; omega, by simp [repC_len], ?_⟩⟩
        simp [repC, csI])
      go_wp2
      go_ret
      exact ⟨rfl, HO.out, BB.out⟩

end Go.Proofs.Ytffjpfanmnkmgaa
