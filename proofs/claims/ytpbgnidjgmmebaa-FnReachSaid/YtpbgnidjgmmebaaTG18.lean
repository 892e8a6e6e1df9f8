/-
  What is proved here: impl.within tells the nodes by way of which it is at most so far; impl.OnShortest and impl.Between answer as the plain lists of nodes say; the laws' small functions that hold lists and graphs against each other, and ask for nodes; the laws' small function that asks whether a number is in a list. No conditions beyond those that each theorem states.
-/
import Derived.Test.YtpbgnidjgmmebaaTG10
import Derived.Test.YtpbgnidjgmmebaaTG15
import Derived.Test.YtpbgnidjgmmebaaTG12
set_option linter.unusedSimpArgs false
set_option linter.unusedVariables false
namespace Go.Proofs.Ytpbgnidjgmmebaa
open Go.RowKit Go.Shelf
attribute [local go_sem] Oper.semAt_some

theorem OwnA.cap' {w : World} {B : Nat} {v : Value} {L : List Arc3} (h : OwnA w B v L) : ∀ A l c, v = .slice A l c → L.length ≤ c := fun A l c ev => by
  subst ev
  have h' : w.ownsRow B 34 3 (.slice A l c) L.length (cs3 L) := h
  rcases h'.2 with ⟨e, h0⟩ | ⟨g, cap, cur, e, hB, hg, hnc, -⟩
  · injection e with e1 e2 e3
    omega
  · injection e with e1 e2 e3
    omega
theorem NumsAt.there_ {w : World} {b : Nat} {E : List Int} (h : NumsAt w b E) : w.there b 0 24 :=
  there_of_cells fun i hi => ⟨by rw [h.cell i (by rw [h.len]; exact hi)]; rfl, h.free i hi⟩


/-- The nodes of these by way of which it is at most so far. -/
def selP (m : Int) (pre : List Arc3) : List Int := (pre.filter fun x => decide (x.2.1 + x.2.2 ≤ m)).map (·.1)
theorem selP_yes {m : Int} {pre : List Arc3} {x : Arc3} (h : x.2.1 + x.2.2 ≤ m) : selP m (pre ++ [x]) = selP m pre ++ [x.1] := by
  unfold selP
  rw [List.filter_append, List.map_append]
  simp [h]
theorem selP_no {m : Int} {pre : List Arc3} {x : Arc3} (h : ¬ (x.2.1 + x.2.2 ≤ m)) : selP m (pre ++ [x]) = selP m pre := by
  unfold selP
  rw [List.filter_append, List.map_append]
  simp [h]
theorem selP_all (D E : List Int) (m : Int) : ∀ k : Nat, selP m (passK D E k) = withinK D E m k
  | 0 => rfl
  | k + 1 => by
    cases hb : bothB D E (k : Int) with
    | false =>
      rw [passK_no hb, selP_all D E m k, withinK_no]
      unfold bothB at hb
      unfold byB
      rw [decide_eq_false_iff_not] at hb ⊢
      exact fun h => hb ⟨h.1, h.2.1⟩
    | true =>
      rw [passK_yes hb]
      unfold bothB at hb
      rw [decide_eq_true_eq] at hb
      by_cases h : dAt D (k : Int) + dAt E (k : Int) ≤ m
      · rw [selP_yes h, selP_all D E m k, withinK_yes]
        unfold byB
        rw [decide_eq_true_eq]
        exact ⟨hb.1, hb.2, h⟩
      · rw [selP_no h, selP_all D E m k, withinK_no]
        unfold byB
        rw [decide_eq_false_iff_not]
        exact fun h' => h h'.2.2
theorem passK_len (D E : List Int) (k : Nat) : (passK D E k).length ≤ k := by
  unfold passK
  rw [List.length_map]
  have := List.length_filter_le (bothB D E) ((List.range k).map Int.ofNat)
  simp at this
  exact this
theorem selP_len (m : Int) (pre : List Arc3) : (selP m pre).length ≤ pre.length := by
  unfold selP
  rw [List.length_map]
  exact List.length_filter_le _ _
theorem withinK_same {D E D' E' : List Int} {m : Int} {k : Nat} (hD : ∀ v : Int, 0 ≤ v → v < k → dAt D v = dAt D' v) (hE : ∀ v : Int, 0 ≤ v → v < k → dAt E v = dAt E' v) : withinK D E m k = withinK D' E' m k := by
  unfold withinK
  refine List.filter_congr fun v hv => ?_
  obtain ⟨j, hj, rfl⟩ := List.mem_map.1 hv
  rw [List.mem_range] at hj
  have h0 : (0 : Int) ≤ Int.ofNat j := Int.natCast_nonneg j
  have h1 : Int.ofNat j < (k : Int) := by show (j : Int) < (k : Int); omega
  unfold byB
  rw [hD _ h0 h1, hE _ h0 h1]
set_option maxRecDepth 100000 in
set_option maxHeartbeats 4000000 in
theorem within_any (k : Nat) (s t m : Int) (A : Option Addr) (n c : Nat) (L : List Arc3) (hn : n = L.length) (hc : n ≤ c) (ho : okB k L = true) (hs : 0 ≤ s ∧ s < k) (ht : 0 ≤ t ∧ t < k) (w : World) (hm : n ≤ 1048576) (H1 : ArcsAt w w.heap.size A L) :
    Calls Try.prog 77 #[.agg #[.int .i64 k, .slice A n c], .int .i64 s, .int .i64 t, .int .i64 m] w (NumsMade (withinL k L s t m) w) := by
  obtain ⟨i0, hi, hz0, hz1, hz2⟩ := info_parts infoInt
  have I0 := Lib.hid hi
  have I1 := Lib.hid hz0
  have I2 := Lib.hid hz1
  have I3 := Lib.hid hz2
  have K1 := Lib.hid H1
  have HN := Lib.hid hn
  have HO := Lib.hid ho
  have HRO := Lib.hid (revL_ok ho)
  have HRL := Lib.hid (revL_len (okB_elim ho).2.2.2.2)
  have hN24 := (okB_elim ho).2.1
  clear H1 hn hi hz0 hz1 hz2
  refine (callsIn_wide (n := 0)).1 ?_
  refine callsIn_of_wp_marks Try.func77 rfl trivial ?_ rfl
  simp only [Try.ntmps77, List.size_toArray, List.length_cons, List.length_nil, Nat.reduceAdd, Nat.reduceSub, Array.replicate_succ, Array.replicate_zero, List.push_toArray, List.append_toArray, List.nil_append, List.cons_append]
  gi_wp2_with fail
  obtain ⟨W, hW⟩ : ∃ W, W = (((w.alloc (.cells #[.int .i64 k, .slice A n c] 26)).alloc (.cells #[.int .i64 m] 2)).alloc (.cells #[.slice none 0 0] 37)) := ⟨_, rfl⟩
  have HBW := Lib.hid (show Bl w W from by rw [hW]; exact ((Bl.alloc_ (Bl.refl w) _).alloc_ _).alloc_ _)
  have HSH := Lib.hid (show ∀ wx, Bl W wx → wx.cell? ⟨w.heap.size, 0, none⟩ = some (.int .i64 k) ∧ wx.cell? ⟨w.heap.size, 1, none⟩ = some (.slice A n c) from fun wx hb => by rw [hW] at hb; exact box2 ((Bl.alloc_ (Bl.alloc_ (Bl.refl _) _) _).trans_ hb))
  have HMX := Lib.hid (show ∀ wx, Bl W wx → wx.cell? ⟨w.heap.size + 1, 0, none⟩ = some (.int .i64 m) ∧ wx.cell? ⟨w.heap.size + 2, 0, none⟩ = some (.slice none 0 0) ∧ wx.frozen? ⟨w.heap.size + 2, 0, none⟩ = false from fun wx hb => by
    obtain ⟨h1, h2⟩ := bcell hb
    have hs : W.heap.size = w.heap.size + 3 := by rw [hW]; simp
    rw [h1 _ _ (by omega), h1 _ _ (by omega), h2 _ _ (by omega), hW]
    exact ⟨by simp [go_sem], by simp [go_sem], by simp [go_sem]⟩)
  have hs0 : W.heap.size = w.heap.size + 3 := by rw [hW]; simp
  rw [← hW]
  clear hW ho
  refine wpIn_region_held (S := fun wx => wx.cell? ⟨w.heap.size, 0, none⟩ = some (.int .i64 k) ∧ wx.cell? ⟨w.heap.size, 1, none⟩ = some (.slice A n c)) (by kernel_rfl) ?_ (fun hHeld => ?_)
  · (exact HSH.out _ (by repeat' (first | exact Bl.refl _ | with_reducible assumption | with_reducible refine Bl.drew_ ?_ | with_reducible refine Bl.drewN_ ?_ _ | with_reducible refine Bl.alloc_ ?_ _ | with_reducible refine Bl.trans_ ?_ (by assumption) | with_reducible refine Bl.trans_ ?_ (And.left (by assumption)))))
  refine wpAnyH_take (i := 0) (v := ?_) rfl (by kernel_rfl) (by kernel_rfl) (by kernel_rfl) (fun _ _ _ h => h) (Or.inl ⟨by kernel_rfl, ?_⟩) (by assumption) ?_
  rotate_left
  · (intro wx hSw; (try dsimp only at hSw); go_simp; try (with_reducible rfl))
  try simp only [Act.put, List.getElem_toArray, List.getElem_cons_succ, List.getElem_cons_zero, List.setIfInBounds_toArray, List.set_cons_zero, List.set_cons_succ]
  refine wpAnyH_take (i := 1) (v := ?_) rfl (by kernel_rfl) (by kernel_rfl) (by kernel_rfl) (fun _ _ _ h => h) (Or.inl ⟨by kernel_rfl, ?_⟩) (by assumption) ?_
  rotate_left
  · (intro wx hSw; (try dsimp only at hSw); go_simp; try (with_reducible rfl))
  try simp only [Act.put, List.getElem_toArray, List.getElem_cons_succ, List.getElem_cons_zero, List.setIfInBounds_toArray, List.set_cons_zero, List.set_cons_succ]
  refine wpAnyH_take (i := 2) (v := ?_) rfl (by kernel_rfl) (by kernel_rfl) (by kernel_rfl) (fun _ _ _ h => h) (Or.inl ⟨by kernel_rfl, ?_⟩) (by assumption) ?_
  rotate_left
  · (intro wx hSw; (try dsimp only at hSw); go_simp; try (with_reducible rfl))
  try simp only [Act.put, List.getElem_toArray, List.getElem_cons_succ, List.getElem_cons_zero, List.setIfInBounds_toArray, List.set_cons_zero, List.set_cons_succ]
  refine wpAnyH_take (i := 3) (v := ?_) rfl (by kernel_rfl) (by kernel_rfl) (by kernel_rfl) (fun _ _ _ h => h) (Or.inl ⟨by kernel_rfl, ?_⟩) (by assumption) ?_
  rotate_left
  · (intro wx hSw; (try dsimp only at hSw); go_simp; try (with_reducible rfl))
  try simp only [Act.put, List.getElem_toArray, List.getElem_cons_succ, List.getElem_cons_zero, List.setIfInBounds_toArray, List.set_cons_zero, List.set_cons_succ]
  refine wpAnyH_take (i := 5) (v := ?_) rfl (by kernel_rfl) (by kernel_rfl) (by kernel_rfl) (fun _ _ _ h => h) (Or.inl ⟨by kernel_rfl, ?_⟩) (by assumption) ?_
  rotate_left
  · (intro wx hSw; (try dsimp only at hSw); go_simp; try (with_reducible rfl))
  try simp only [Act.put, List.getElem_toArray, List.getElem_cons_succ, List.getElem_cons_zero, List.setIfInBounds_toArray, List.set_cons_zero, List.set_cons_succ]
  refine wpAnyH_take (i := 7) (v := ?_) rfl (by kernel_rfl) (by kernel_rfl) (by kernel_rfl) (fun _ _ _ h => h) (Or.inl ⟨by kernel_rfl, ?_⟩) (by assumption) ?_
  rotate_left
  · (intro wx hSw; (try dsimp only at hSw); go_simp; try (with_reducible rfl))
  try simp only [Act.put, List.getElem_toArray, List.getElem_cons_succ, List.getElem_cons_zero, List.setIfInBounds_toArray, List.set_cons_zero, List.set_cons_succ]
  refine wpAnyH_ready (rs := [4]) (by kernel_rfl) (by simp) ?_
  refine AllReadyH.cons rfl (fun K hK => ?_) AllReadyH.nil
  go_simp
  (go_at_call 69; refine (distances_any k s A n c L HN.out hc HO.out hs.1 hs.2 _ (K1.out.bl (HBW.out.trans_ (by repeat' (first | exact Bl.refl _ | with_reducible assumption | with_reducible refine Bl.drew_ ?_ | with_reducible refine Bl.drewN_ ?_ _ | with_reducible refine Bl.alloc_ ?_ _ | with_reducible refine Bl.trans_ ?_ (by assumption) | with_reducible refine Bl.trans_ ?_ (And.left (by assumption))))))).mono ?_; rintro e w_1 ⟨E, rfl, hE, hEd, hb1⟩)
  try (go_wp2_with fail)
  refine hK.out _ _ ?_ (fun hHeld => ?_)
  · (exact HSH.out _ (by repeat' (first | exact Bl.refl _ | with_reducible assumption | with_reducible refine Bl.drew_ ?_ | with_reducible refine Bl.drewN_ ?_ _ | with_reducible refine Bl.alloc_ ?_ _ | with_reducible refine Bl.trans_ ?_ (by assumption) | with_reducible refine Bl.trans_ ?_ (And.left (by assumption)))))
  clear hK K
  try simp only [Act.put, List.getElem_toArray, List.getElem_cons_succ, List.getElem_cons_zero, List.setIfInBounds_toArray, List.set_cons_zero, List.set_cons_succ]
  refine wpAnyH_ready (rs := [6]) (by kernel_rfl) (by simp) ?_
  refine AllReadyH.cons rfl (fun K hK => ?_) AllReadyH.nil
  go_simp
  (go_at_call 23; refine (implReversed_any k A n c L HN.out _ hm (K1.out.bl (HBW.out.trans_ (by repeat' (first | exact Bl.refl _ | with_reducible assumption | with_reducible refine Bl.drew_ ?_ | with_reducible refine Bl.drewN_ ?_ _ | with_reducible refine Bl.alloc_ ?_ _ | with_reducible refine Bl.trans_ ?_ (by assumption) | with_reducible refine Bl.trans_ ?_ (And.left (by assumption))))))).mono ?_; rintro e w_2 ⟨v6, rfl, hv6, hb2⟩; rw [show revN (k : Int) L = (k : Int) from if_pos HO.out]; rw [show revG (k : Int) L = revL L from if_pos HO.out] at hv6; have hcap := OwnA.cap' hv6; obtain ⟨A6, c6, rfl, ha6, -⟩ := hv6.shape; have V_2 := Lib.hid ha6; have HC6 := Lib.hid (hcap _ _ _ rfl); clear hv6 hcap ha6)
  try (go_wp2_with fail)
  refine hK.out _ _ ?_ (fun hHeld => ?_)
  · (exact HSH.out _ (by repeat' (first | exact Bl.refl _ | with_reducible assumption | with_reducible refine Bl.drew_ ?_ | with_reducible refine Bl.drewN_ ?_ _ | with_reducible refine Bl.alloc_ ?_ _ | with_reducible refine Bl.trans_ ?_ (by assumption) | with_reducible refine Bl.trans_ ?_ (And.left (by assumption)))))
  clear hK K
  try simp only [Act.put, List.getElem_toArray, List.getElem_cons_succ, List.getElem_cons_zero, List.setIfInBounds_toArray, List.set_cons_zero, List.set_cons_succ]
  refine wpAnyH_ready (rs := [8]) (by kernel_rfl) (by simp) ?_
  refine AllReadyH.cons rfl (fun K hK => ?_) AllReadyH.nil
  go_simp
  (go_at_call 69; refine (distances_any k t A6 (revL L).length c6 (revL L) rfl HC6.out HRO.out ht.1 ht.2 _ V_2.out).mono ?_; rintro e w_3 ⟨F, rfl, hF, hFd, hb3⟩)
  try (go_wp2_with fail)
  refine hK.out _ _ ?_ (fun hHeld => ?_)
  · (exact HSH.out _ (by repeat' (first | exact Bl.refl _ | with_reducible assumption | with_reducible refine Bl.drew_ ?_ | with_reducible refine Bl.drewN_ ?_ _ | with_reducible refine Bl.alloc_ ?_ _ | with_reducible refine Bl.trans_ ?_ (by assumption) | with_reducible refine Bl.trans_ ?_ (And.left (by assumption)))))
  clear hK K
  try simp only [Act.put, List.getElem_toArray, List.getElem_cons_succ, List.getElem_cons_zero, List.setIfInBounds_toArray, List.set_cons_zero, List.set_cons_succ]
  refine wpAnyH_ready (rs := [9]) (by kernel_rfl) (by simp) ?_
  refine AllReadyH.cons rfl (fun K hK => ?_) AllReadyH.nil
  go_simp
  (go_at_call 102; refine (passings_any k E F hE hF _).mono ?_; rintro e w_4 ⟨rfl, hw4⟩; have hb4 : Bl w_3 w_4 := (by rw [hw4]; exact ((Bl.alloc_ (Bl.refl _) _).alloc_ _).alloc_ _); have HW4 := Lib.hid hw4; clear hw4)
  try (go_wp2_with fail)
  refine hK.out _ _ ?_ (fun hHeld => ?_)
  · (exact HSH.out _ (by repeat' (first | exact Bl.refl _ | with_reducible assumption | with_reducible refine Bl.drew_ ?_ | with_reducible refine Bl.drewN_ ?_ _ | with_reducible refine Bl.alloc_ ?_ _ | with_reducible refine Bl.trans_ ?_ (by assumption) | with_reducible refine Bl.trans_ ?_ (And.left (by assumption)))))
  clear hK K
  try simp only [Act.put, List.getElem_toArray, List.getElem_cons_succ, List.getElem_cons_zero, List.setIfInBounds_toArray, List.set_cons_zero, List.set_cons_succ]
  refine wpAnyH_done (by kernel_rfl) ?_ _
  refine NoOut.normal ?_
  clear hHeld
  gi_wp2_with fail
  have B3 := Lib.hid (show Bl W w_3 from (by repeat' (first | exact Bl.refl _ | with_reducible assumption | with_reducible refine Bl.drew_ ?_ | with_reducible refine Bl.drewN_ ?_ _ | with_reducible refine Bl.alloc_ ?_ _ | with_reducible refine Bl.trans_ ?_ (by assumption) | with_reducible refine Bl.trans_ ?_ (And.left (by assumption)))))
  have B4 := Lib.hid (B3.out.trans_ hb4)
  have hin : PIn w_4 w_3.heap.size (w_3.heap.size + 1) (w_3.heap.size + 2) k E F := by
    rw [HW4.out]
    refine ⟨by simp [go_sem], ?_, ?_⟩
    · have h := (nums_box (w_3.alloc (.cells #[.int .i64 (k : Int)] 2)) 75 E hE).bl (Bl.alloc_ (Bl.refl _) (.cells (F.map (Value.int .i64)).toArray 75))
      rw [World.size_alloc] at h
      exact h
    · have h := nums_box ((w_3.alloc (.cells #[.int .i64 (k : Int)] 2)).alloc (.cells (E.map (Value.int .i64)).toArray 75)) 75 F hF
      rw [World.size_alloc, World.size_alloc] at h
      exact h
  have PIN := Lib.hid hin
  have hs4 : w_4.heap.size = w_3.heap.size + 3 := by rw [HW4.out]; simp
  have hs3 := B3.out.size
  have DE := Lib.hid (show E.take k = distL k L s from hEd)
  have DF := Lib.hid (show F.take k = distL k (revL L) t from hFd)
  have hBd := Lib.hid (fun v => distL_top (s := s) HO.out hs.1 hs.2 v)
  have hBe := Lib.hid (fun v => distL_top (s := t) HRO.out ht.1 ht.2 v)
  have DTK := Lib.hid (show ∀ (X : List Int) (v : Int), X.length = 24 → 0 ≤ v → v < (k : Int) → dAt (X.take k) v = dAt X v from fun X v hX h0 h1 => by
    unfold dAt
    simp only [List.getD_eq_getElem?_getD]
    rw [List.getElem?_take, if_pos (by omega)])
  have EL := Lib.hid hE
  have FL := Lib.hid hF
  obtain ⟨m0, m1, m2⟩ := HMX.out _ B4.out
  clear hb4 hb1 hb2 hb3 hE hF hEd hFd hin
  have hvb : w.heap.size + 1 + 1 = w.heap.size + 2 := rfl
  have hfin : PIn w_4 w_3.heap.size (w_3.heap.size + 1) (w_3.heap.size + 2) k E F := PIN.out
  refine wpIn_range (gf := 116) (lb := #[.pointer (some ⟨w_3.heap.size, 0, none⟩), .pointer (some ⟨w_3.heap.size + 1, 0, none⟩), .pointer (some ⟨w_3.heap.size + 2, 0, none⟩)]) ?e1 ?e2
    (pass_stops k w_3.heap.size (w_3.heap.size + 1) (w_3.heap.size + 2) E F (by omega) w_4 hfin) (Bl.refl _) (fun i hi => hfin.lt hi) ?e3
    (fun pre K W' => ∃ v, (∀ i, K i ↔ (i = w.heap.size + 2 ∨ i = w.heap.size + 1 ∨ v.ownBlock = some i)) ∧ (W'.cell? ⟨w.heap.size + 2, 0, none⟩ = some v ∧ W'.frozen? ⟨w.heap.size + 2, 0, none⟩ = false) ∧ W'.cell? ⟨w.heap.size + 1, 0, none⟩ = some (.int .i64 m) ∧ OwnN W' (w.heap.size + 3) v (selP m pre))
    (fun _ _ _ _ => False)
    (fun pre x a K W' => ∃ xb v, (∀ i, K i ↔ (i = w.heap.size + 2 ∨ i = w.heap.size + 1 ∨ v.ownBlock = some i ∨ i = xb)) ∧ (W'.cell? ⟨w.heap.size + 2, 0, none⟩ = some v ∧ W'.frozen? ⟨w.heap.size + 2, 0, none⟩ = false) ∧ W'.cell? ⟨w.heap.size + 1, 0, none⟩ = some (.int .i64 m) ∧ OwnN W' (w.heap.size + 3) v (selP m pre) ∧
      (xb ≠ w.heap.size + 2 ∧ xb ≠ w.heap.size + 1 ∧ v.ownBlock ≠ some xb ∧ W'.cell? ⟨xb, 0, none⟩ = some (.int .i64 x.1) ∧ W'.cell? ⟨xb, 1, none⟩ = some (.int .i64 x.2.1) ∧ W'.cell? ⟨xb, 2, none⟩ = some (.int .i64 x.2.2)) ∧
      a = { tmps := #[.agg #[.int .i64 k, .slice A n c], .int .i64 s, .int .i64 t, .int .i64 m, .pointer (some ⟨w.heap.size, 0, none⟩), undef, undef, .pointer (some ⟨w.heap.size + 1, 0, none⟩), .slice none 0 0, .pointer (some ⟨w.heap.size + 1 + 1, 0, none⟩), .pointer (some ⟨xb, 0, none⟩), .pointer (some ⟨w.heap.size, 0, none⟩), .int .i64 k, .agg #[.int .i64 k, .slice A n c], .int .i64 s, .agg (E.map (Value.int .i64)).toArray, .agg #[.int .i64 k, .slice A n c], .agg #[.int .i64 k, .slice A6 (revL L).length c6], .int .i64 t, .agg (F.map (Value.int .i64)).toArray,
            .func (.func 116) #[] #[.pointer (some ⟨w_3.heap.size, 0, none⟩), .pointer (some ⟨w_3.heap.size + 1, 0, none⟩), .pointer (some ⟨w_3.heap.size + 2, 0, none⟩)], .agg #[.int .i64 x.1, .int .i64 x.2.1, .int .i64 x.2.2], undef, undef, undef, undef, undef, undef, undef, undef, undef, undef, undef, undef, undef], defers := [] })
    (fun i => i = w.heap.size + 2 ∨ i = w.heap.size + 1) ?hK0 ?hI (fun _ _ _ _ _ h _ => h) ?hM ?hlt ⟨.slice none 0 0, fun i => by simp [Value.ownBlock], ⟨m1, m2⟩, m0, OwnN.nil_ _ _⟩ ?assign ?body ?done (fun _ _ _ _ _ _ _ h _ _ _ => h.elim)
  case e1 => rfl
  case e2 => exact enters_of Try.func116 (by kernel_rfl) rfl
  case e3 => exact fun x => rfl
  case hK0 =>
    rintro i hi hp
    rcases hp with h | h | h <;> (rcases hi with h' | h' <;> omega)
  case hI =>
    rintro pre K X Y ⟨v, hk, ⟨h1, h2⟩, h3, h4⟩ ht
    have l1 := World.block_lt_of_cell? _ _ h1
    have l3 := World.block_lt_of_cell? _ _ h3
    simp only at l1 l3
    obtain ⟨e1, e2⟩ := ht.cells l1 (fun h => h ((hk _).2 (.inl rfl))) 0
    exact ⟨v, hk, ⟨e1.trans h1, e2.trans h2⟩, (ht.cells l3 (fun h => h ((hk _).2 (.inr (.inl rfl)))) 0).1.trans h3, Owns.turn h4 ht (fun g hg h => h ((hk g).2 (.inr (.inr hg))))⟩
  case hM =>
    rintro pre x a K X Y ⟨xb, v, hk, ⟨h1, h2⟩, h3, h4, ⟨n1, n2, n3, c0, c1, c2⟩, he⟩ ht
    have l1 := World.block_lt_of_cell? _ _ h1
    have l3 := World.block_lt_of_cell? _ _ h3
    have lx := World.block_lt_of_cell? _ _ c0
    simp only at l1 l3 lx
    obtain ⟨e1, e2⟩ := ht.cells l1 (fun h => h ((hk _).2 (.inl rfl))) 0
    have hs := fun o => (ht.cells lx (fun h => h ((hk _).2 (.inr (.inr (.inr rfl))))) o).1
    exact ⟨xb, v, hk, ⟨e1.trans h1, e2.trans h2⟩, (ht.cells l3 (fun h => h ((hk _).2 (.inr (.inl rfl)))) 0).1.trans h3, Owns.turn h4 ht (fun g hg h => h ((hk g).2 (.inr (.inr (.inl hg))))), ⟨n1, n2, n3, (hs 0).trans c0, (hs 1).trans c1, (hs 2).trans c2⟩, he⟩
  case hlt =>
    rintro pre K X ⟨v, hk, ⟨h1, h2⟩, h3, h4⟩ i hi
    rcases (hk i).1 hi with rfl | rfl | h
    · exact World.block_lt_of_cell? _ _ h1
    · exact World.block_lt_of_cell? _ _ h3
    · exact (Owns.lt h4 i h).2
  case assign =>
    rintro l pre ⟨x, y, z⟩ K X R ⟨v, hk, ⟨h1, h2⟩, h3, h4⟩ hpre hR
    have HKK := Lib.hid hk
    have HC1 := Lib.hid h1
    have HC2 := Lib.hid h2
    have HC3 := Lib.hid h3
    have HC4 := Lib.hid h4
    have HR := Lib.hid hR
    have l1 := World.block_lt_of_cell? _ _ h1
    simp only at l1
    clear hk h1 h2 h3 h4 hpre hR m0 m1 m2 hfin
    dsimp only [encP]
    gi_wp2_with fail
    have hx := bcell (show Bl X (X.alloc (.cells #[.int .i64 x, .int .i64 y, .int .i64 z] 90)) from (by repeat' (first | exact Bl.refl _ | with_reducible assumption | with_reducible refine Bl.drew_ ?_ | with_reducible refine Bl.drewN_ ?_ _ | with_reducible refine Bl.alloc_ ?_ _ | with_reducible refine Bl.trans_ ?_ (by assumption) | with_reducible refine Bl.trans_ ?_ (And.left (by assumption)))))
    refine HR.out _ (fun i => i = w.heap.size + 2 ∨ i = w.heap.size + 1 ∨ v.ownBlock = some i ∨ i = X.heap.size) _ ⟨Turn.of_bl (by repeat' (first | exact Bl.refl _ | with_reducible assumption | with_reducible refine Bl.drew_ ?_ | with_reducible refine Bl.drewN_ ?_ _ | with_reducible refine Bl.alloc_ ?_ _ | with_reducible refine Bl.trans_ ?_ (by assumption) | with_reducible refine Bl.trans_ ?_ (And.left (by assumption)))), fun i hi => ?_⟩ ⟨X.heap.size, v, fun i => Iff.rfl, ⟨(hx.1 _ _ l1).trans HC1.out, (hx.2 _ _ l1).trans HC2.out⟩, (hx.1 _ _ (by omega)).trans HC3.out, OwnN.bl HC4.out (by repeat' (first | exact Bl.refl _ | with_reducible assumption | with_reducible refine Bl.drew_ ?_ | with_reducible refine Bl.drewN_ ?_ _ | with_reducible refine Bl.alloc_ ?_ _ | with_reducible refine Bl.trans_ ?_ (by assumption) | with_reducible refine Bl.trans_ ?_ (And.left (by assumption)))),
      ⟨by omega, by omega, fun h => by have := (Owns.lt HC4.out _ h).2; omega, by simp [go_sem], by simp [go_sem], by simp [go_sem]⟩, rfl⟩
    rcases hi with h | h | h | h
    · exact .inl ((HKK.out i).2 (.inl h))
    · exact .inl ((HKK.out i).2 (.inr (.inl h)))
    · exact .inl ((HKK.out i).2 (.inr (.inr h)))
    · exact .inr (by omega)
  case body =>
    rintro l pre ⟨x, y, z⟩ a₁ K X ⟨xb, v, hk, ⟨h1, h2⟩, h3, h4, ⟨n1, n2, n3, c0, c1, c2⟩, rfl⟩ ⟨Z, hZ⟩
    have hp := passK_ids E F k (x, y, z) (by rw [hZ]; simp)
    obtain ⟨⟨p0, p1⟩, p2, p3, p4, p5⟩ := hp
    simp only at p0 p1 p2 p3 p4 p5 c0 c1 c2
    have hyb : y ≤ 23000 := by rw [p2, ← DTK.out E x EL.out p0 p1, DE.out]; exact (hBd.out x).2
    have hzb : z ≤ 23000 := by rw [p3, ← DTK.out F x FL.out p0 p1, DF.out]; exact (hBe.out x).2
    have a1 : IntKind.i64.wrap (y + z) = y + z := IntWalk.i64_in _ (by omega)
    have l1 := World.block_lt_of_cell? _ _ h1
    simp only at l1
    have HKK := Lib.hid hk
    have OW := Lib.hid h4
    have hlen : (selP m pre).length ≤ 24 := by
      have h1 := selP_len m pre
      have h2 := passK_len E F k
      have h3 := congrArg List.length hZ
      simp only [List.length_append, List.length_cons] at h3
      omega
    clear hk hZ m0 m1 m2 hfin p2 p3 h4
    by_cases hle : y + z ≤ m
    · have b1 : decide (y + z ≤ m) = true := by simpa using hle
      gi_wp2_with (refine wpListIn_append_any _ rfl (.tmp 29) (.tmp 32) 37 rfl (w.heap.size + 3) 2 i0 _ 1 8 Try.underlying37 I0.out I1.out I2.out I3.out rfl (by decide) v (selP m pre).length (csI (selP m pre)) rfl (World.ownsRow.alloc OW.out _) (X.heap.size + 1) (some ⟨X.heap.size, 0, none⟩) 1 1 [.int .i64 x] rfl ?c0 (by simp [Value.oneCell']) ?c3 ?c4 ?c5 ?_)
      case c0 =>
        refine ⟨rfl, fun _ => ⟨_, rfl, by show X.heap.size < X.heap.size + 1; omega, fun j u hj => ?_⟩⟩
        match j, hj with
        | 0, hj => simp at hj; subst hj; simp [Addr.add, go_sem]
        | (j + 1), hj => simp at hj
      case c3 => unfold maxLen; omega
      case c4 => omega
      case c5 => first | omega | (simp; omega)
      intro v' w7 hown' hgrow hwh
      have O7 := Lib.hid (OwnN.snoc (V := selP m pre) (x := x) (n := (selP m pre).length) rfl (by simpa using hown'))
      rw [← show selP m (pre ++ [(x, y, z)]) = selP m pre ++ [x] from selP_yes (x := (x, y, z)) (by show y + z ≤ m; omega)] at O7
      have hvb : v.ownBlock ≠ some (w.heap.size + 2) := fun h => by have := (Owns.lt OW.out _ h).1; omega
      have hmb : v.ownBlock ≠ some (w.heap.size + 1) := fun h => by have := (Owns.lt OW.out _ h).1; omega
      have l3 := World.block_lt_of_cell? _ _ h3
      simp only at l3
      have hb7 := hgrow.block (w.heap.size + 2) (by simp; omega) (fun h => hvb h.symm)
      have hc7 := (bcell (show Bl X (X.alloc (.cells #[.int .i64 x] 2)) from (by repeat' (first | exact Bl.refl _ | with_reducible assumption | with_reducible refine Bl.drew_ ?_ | with_reducible refine Bl.drewN_ ?_ _ | with_reducible refine Bl.alloc_ ?_ _ | with_reducible refine Bl.trans_ ?_ (by assumption) | with_reducible refine Bl.trans_ ?_ (And.left (by assumption))))))
      have r1 : w7.cell? ⟨w.heap.size + 2, 0, none⟩ = some v := (World.cell?_of_block (a := ⟨w.heap.size + 2, 0, none⟩) hb7).trans ((hc7.1 _ _ l1).trans h1)
      have r2 : w7.frozen? ⟨w.heap.size + 2, 0, none⟩ = false := (World.frozen?_of_block (a := ⟨w.heap.size + 2, 0, none⟩) hb7).trans ((hc7.2 _ _ l1).trans h2)
      have r3 := (World.cell?_of_block (a := ⟨w.heap.size + 1, 0, none⟩) (hgrow.block (w.heap.size + 1) (by simp; omega) (fun h => hmb h.symm))).trans ((hc7.1 _ _ l3).trans h3)
      have hv'b : ∀ g, v'.ownBlock = some g → g ≠ w.heap.size + 2 := fun g hg e => by have := (Owns.lt O7.out g hg).1; omega
      have GR := Lib.hid hgrow
      have WH := Lib.hid hwh
      obtain ⟨A9, c9, hv9, -⟩ := OwnN.shape O7.out
      obtain ⟨z9, hz9⟩ : ∃ z9, z9 = (selP m (pre ++ [(x, y, z)])).length := ⟨_, rfl⟩
      rw [← hz9] at hv9
      subst hv9
      clear hown' hgrow hwh hb7 hc7 hz9
      gi_wp2_with fail
      refine ⟨fun i => i = w.heap.size + 2 ∨ i = w.heap.size + 1 ∨ (Value.slice A9 z9 c9).ownBlock = some i, ⟨?_, fun i hi => ?_⟩, .slice A9 z9 c9, fun i => Iff.rfl, ⟨?_, ?_⟩, ?_, ?_⟩
      · refine Turn.set (p := ⟨w.heap.size + 2, 0, none⟩) ((Turn.of_bl (S := K) (show Bl X (X.alloc (.cells #[.int .i64 x] 2)) from (by repeat' (first | exact Bl.refl _ | with_reducible assumption | with_reducible refine Bl.drew_ ?_ | with_reducible refine Bl.drewN_ ?_ _ | with_reducible refine Bl.alloc_ ?_ _ | with_reducible refine Bl.trans_ ?_ (by assumption) | with_reducible refine Bl.trans_ ?_ (And.left (by assumption)))))).trans (Turn.of_grown (S := fun i => v.ownBlock = some i) GR.out (fun i e => e)) (fun i _ e => (HKK.out i).2 (.inr (.inr (.inl e))))) (.inl ((HKK.out _).2 (.inl rfl))) _
      · rcases hi with h | h | h
        · exact .inl ((HKK.out i).2 (.inl h))
        · exact .inl ((HKK.out i).2 (.inr (.inl h)))
        · rcases WH.out with e | e
          · exact .inl ((HKK.out i).2 (.inr (.inr (.inl (by rw [← e]; exact h)))))
          · rw [e] at h
            injection h with h
            first
              | exact .inr (by omega)
              | (simp at h; exact .inr (by omega))
      · exact World.cell?_setCell_same' _ _ _ (by rw [r1]; rfl)
      · rw [World.frozen?_setCell]; exact r2
      · rw [World.cell?_setCell_other _ _ _ _ (by intro e; injection e with e; omega)]; exact r3
      · exact Owns.setOther O7.out (fun g hg => hv'b g hg) _
    · have b1 : decide (y + z ≤ m) = false := by simpa using hle
      gi_wp2_with fail
      exact ⟨fun i => i = w.heap.size + 2 ∨ i = w.heap.size + 1 ∨ v.ownBlock = some i, ⟨Turn.refl _ _, fun i hi => .inl ((HKK.out i).2 (by rcases hi with h | h | h; exact .inl h; exact .inr (.inl h); exact .inr (.inr (.inl h))))⟩, v, fun i => Iff.rfl, ⟨h1, h2⟩, h3, by rw [selP_no (m := m) (pre := pre) (x := (x, y, z)) (by show ¬ (y + z ≤ m); omega)]; exact OW.out⟩
  case done =>
    rintro D xs K X hD rfl ⟨v, hk, ⟨h1, h2⟩, h3, h4⟩ hT hKD hdef
    have HKK := Lib.hid hk
    have OW := Lib.hid h4
    have HT := Lib.hid hT
    have HD := Lib.hid hdef
    have HKD := Lib.hid hKD
    clear hk h2 h3 h4 hT hKD hdef m0 m1 m2 hfin
    gi_wp2_with fail
    refine ⟨by simp, .inl ⟨_, _, rfl, run_takeDeferred HD.out, ?_⟩⟩
    refine ⟨v, by simp [results, Try.results77, go_sem], v, rfl, ?_, ?_⟩
    · have hput := Owns.turn OW.out (turn_put (fun i => i = D) X (.deferred none) rfl) (fun g hg e => HKD.out (by rw [← e]; exact (HKK.out g).2 (.inr (.inr hg))))
      have hsel : selP m (passK E F k) = withinL k L s t m := by
        rw [selP_all]
        unfold withinL
        rw [← withinK_all, Int.toNat_natCast]
        refine withinK_same (fun v h0 h1 => ?_) (fun v h0 h1 => ?_)
        · rw [← DTK.out E v EL.out h0 h1, DE.out]
        · rw [← DTK.out F v FL.out h0 h1, DF.out]
      rw [← hsel]
      exact Owns.low hput (by omega)
    · exact Turn.to_bl (Turn.to_bl (HBW.out.trans_ B4.out) HT.out (fun i hi => by rcases hi with h | h <;> omega)) (turn_put (fun i => i = D) X (.deferred none) rfl) (fun i hi => by rw [hi]; omega)

end Go.Proofs.Ytpbgnidjgmmebaa

set_option linter.unusedSimpArgs false
set_option linter.unusedVariables false
namespace Go.Proofs.Ytpbgnidjgmmebaa
open Go.RowKit


set_option maxRecDepth 100000 in
set_option maxHeartbeats 2000000 in
theorem implOnShortest_any (N s t : Int) (A : Option Addr) (n c : Nat) (L : List Arc3) (hn : n = L.length) (hc : n ≤ c) (w : World) (hm : n ≤ 1048576) (H1 : ArcsAt w w.heap.size A L) :
    Calls Try.prog 35 #[.agg #[.int .i64 N, .slice A n c], .int .i64 s, .int .i64 t] w (NumsMade (onL N L s t) w) := by
  have K1 := Lib.hid H1
  have HN := Lib.hid hn
  clear H1 hn
  cases hh : has2 N L s t with
  | false =>
    have HH := Lib.hid hh
    clear hh
    go_enter Try.func35, Try.ntmps35
    go_wp2_with fail
    refine (hasNodes_2 N s t A n c L HN.out (w.heap.size + 1) 2 _ (by omega) (K1.out.bl (by repeat' (first | exact Bl.refl _ | with_reducible assumption | with_reducible refine Bl.drew_ ?_ | with_reducible refine Bl.drewN_ ?_ _ | with_reducible refine Bl.alloc_ ?_ _ | with_reducible refine Bl.trans_ ?_ (by assumption) | with_reducible refine Bl.trans_ ?_ (And.left (by assumption))))) (by simp) (by simp [go_sem]) (by simp [go_sem])).mono ?_
    rintro e w1 ⟨rfl, hb1⟩
    rw [HH.out]
    go_wp2
    go_ret
    exact ⟨_, rfl, by unfold onL; rw [HH.out]; exact OwnN.nil_ _ _, (by repeat' (first | exact Bl.refl _ | with_reducible assumption | with_reducible refine Bl.drew_ ?_ | with_reducible refine Bl.drewN_ ?_ _ | with_reducible refine Bl.alloc_ ?_ _ | with_reducible refine Bl.trans_ ?_ (by assumption) | with_reducible refine Bl.trans_ ?_ (And.left (by assumption))))⟩
  | true =>
    have HH := Lib.hid hh
    obtain ⟨ho, hs, ht⟩ := has2_of hh
    have hN1 := (okB_elim ho).1
    have hN24 := (okB_elim ho).2.1
    have HO := Lib.hid ho
    obtain ⟨k, rfl⟩ : ∃ k : Nat, N = k := ⟨N.toNat, by omega⟩
    obtain ⟨u, rfl⟩ : ∃ u : Nat, t = u := ⟨t.toNat, by omega⟩
    clear hh ho
    have HB := Lib.hid (show onL k L s u = withinL k L s u (dAt (distL k L s) u) from by unfold onL; rw [if_pos HH.out])
    have HIX := Lib.hid (show ∀ E : List Int, E.length = 24 → E.take (k : Int).toNat = distL k L s → dAt E (u : Int) = dAt (distL k L s) u from fun E _ hEd => by
      rw [← hEd]
      unfold dAt
      simp only [List.getD_eq_getElem?_getD]
      rw [List.getElem?_take, if_pos (by omega)])
    go_enter Try.func35, Try.ntmps35
    go_wp2_with fail
    refine (hasNodes_2 k s u A n c L HN.out (w.heap.size + 1) 2 _ (by omega) (K1.out.bl (by repeat' (first | exact Bl.refl _ | with_reducible assumption | with_reducible refine Bl.drew_ ?_ | with_reducible refine Bl.drewN_ ?_ _ | with_reducible refine Bl.alloc_ ?_ _ | with_reducible refine Bl.trans_ ?_ (by assumption) | with_reducible refine Bl.trans_ ?_ (And.left (by assumption))))) (by simp) (by simp [go_sem]) (by simp [go_sem])).mono ?_
    rintro e w1 ⟨rfl, hb1⟩
    rw [HH.out]
    have HSH := Lib.hid (show ∀ wx, Bl w1 wx → wx.cell? ⟨w.heap.size, 0, none⟩ = some (.int .i64 k) ∧ wx.cell? ⟨w.heap.size, 1, none⟩ = some (.slice A n c) from fun wx hb => by
      have hx := (bcell (hb1.trans_ hb)).1
      exact ⟨(hx _ _ (by simp; omega)).trans (by simp [go_sem]), (hx _ _ (by simp; omega)).trans (by simp [go_sem])⟩)
    have HBW := Lib.hid (show Bl w w1 from (((Bl.refl w).alloc_ _).alloc_ _).trans_ hb1)
    clear hb1
    generalize dAt (distL k L s) u = dt at *
    go_wp2_with fail
    refine wp_region_held_drew (S := fun wx => wx.cell? ⟨w.heap.size, 0, none⟩ = some (.int .i64 k) ∧ wx.cell? ⟨w.heap.size, 1, none⟩ = some (.slice A n c)) (by kernel_rfl) ?_ (fun hHeld => ?_)
    · (exact HSH.out _ (by repeat' (first | exact Bl.refl _ | with_reducible assumption | with_reducible refine Bl.drew_ ?_ | with_reducible refine Bl.drewN_ ?_ _ | with_reducible refine Bl.alloc_ ?_ _ | with_reducible refine Bl.trans_ ?_ (by assumption) | with_reducible refine Bl.trans_ ?_ (And.left (by assumption)))))
    refine wpAnyH_take (i := 0) (v := ?_) rfl (by kernel_rfl) (by kernel_rfl) (by kernel_rfl) (fun _ _ _ h => h) (Or.inl ⟨by kernel_rfl, ?_⟩) (by assumption) ?_
    rotate_left
    · (intro wx hSw; (try dsimp only at hSw); go_simp; try (with_reducible rfl))
    try simp only [Act.put, List.getElem_toArray, List.getElem_cons_succ, List.getElem_cons_zero, List.setIfInBounds_toArray, List.set_cons_zero, List.set_cons_succ]
    refine wpAnyH_take (i := 1) (v := ?_) rfl (by kernel_rfl) (by kernel_rfl) (by kernel_rfl) (fun _ _ _ h => h) (Or.inl ⟨by kernel_rfl, ?_⟩) (by assumption) ?_
    rotate_left
    · (intro wx hSw; (try dsimp only at hSw); go_simp; try (with_reducible rfl))
    try simp only [Act.put, List.getElem_toArray, List.getElem_cons_succ, List.getElem_cons_zero, List.setIfInBounds_toArray, List.set_cons_zero, List.set_cons_succ]
    refine wpAnyH_take (i := 2) (v := ?_) rfl (by kernel_rfl) (by kernel_rfl) (by kernel_rfl) (fun _ _ _ h => h) (Or.inl ⟨by kernel_rfl, ?_⟩) (by assumption) ?_
    rotate_left
    · (intro wx hSw; (try dsimp only at hSw); go_simp; try (with_reducible rfl))
    try simp only [Act.put, List.getElem_toArray, List.getElem_cons_succ, List.getElem_cons_zero, List.setIfInBounds_toArray, List.set_cons_zero, List.set_cons_succ]
    refine wpAnyH_take (i := 3) (v := ?_) rfl (by kernel_rfl) (by kernel_rfl) (by kernel_rfl) (fun _ _ _ h => h) (Or.inl ⟨by kernel_rfl, ?_⟩) (by assumption) ?_
    rotate_left
    · (intro wx hSw; (try dsimp only at hSw); go_simp; try (with_reducible rfl))
    try simp only [Act.put, List.getElem_toArray, List.getElem_cons_succ, List.getElem_cons_zero, List.setIfInBounds_toArray, List.set_cons_zero, List.set_cons_succ]
    refine wpAnyH_take (i := 4) (v := ?_) rfl (by kernel_rfl) (by kernel_rfl) (by kernel_rfl) (fun _ _ _ h => h) (Or.inl ⟨by kernel_rfl, ?_⟩) (by assumption) ?_
    rotate_left
    · (intro wx hSw; (try dsimp only at hSw); go_simp; try (with_reducible rfl))
    try simp only [Act.put, List.getElem_toArray, List.getElem_cons_succ, List.getElem_cons_zero, List.setIfInBounds_toArray, List.set_cons_zero, List.set_cons_succ]
    refine wpAnyH_take (i := 6) (v := ?_) rfl (by kernel_rfl) (by kernel_rfl) (by kernel_rfl) (fun _ _ _ h => h) (Or.inl ⟨by kernel_rfl, ?_⟩) (by assumption) ?_
    rotate_left
    · (intro wx hSw; (try dsimp only at hSw); go_simp; try (with_reducible rfl))
    try simp only [Act.put, List.getElem_toArray, List.getElem_cons_succ, List.getElem_cons_zero, List.setIfInBounds_toArray, List.set_cons_zero, List.set_cons_succ]
    refine wpAnyH_ready (rs := [5]) (by kernel_rfl) (by simp) ?_
    refine AllReadyH.cons rfl (fun K hK => ?_) AllReadyH.nil
    go_simp
    (go_at_call 69; refine (distances_any k s A n c L HN.out hc HO.out hs.1 hs.2 _ (K1.out.bl (HBW.out.trans_ (by repeat' (first | exact Bl.refl _ | with_reducible assumption | with_reducible refine Bl.drew_ ?_ | with_reducible refine Bl.drewN_ ?_ _ | with_reducible refine Bl.alloc_ ?_ _ | with_reducible refine Bl.trans_ ?_ (by assumption) | with_reducible refine Bl.trans_ ?_ (And.left (by assumption))))))).mono ?_; rintro e w2 ⟨E, rfl, hE, hEd, hb2⟩; have hix := fun wx => (by have h := index24 E hE u (by omega) wx; rw [HIX.out E hE hEd] at h; exact h))
    try (go_wp2_with fail)
    refine hK.out _ _ ?_ (fun hHeld => ?_)
    · (exact HSH.out _ (by repeat' (first | exact Bl.refl _ | with_reducible assumption | with_reducible refine Bl.drew_ ?_ | with_reducible refine Bl.drewN_ ?_ _ | with_reducible refine Bl.alloc_ ?_ _ | with_reducible refine Bl.trans_ ?_ (by assumption) | with_reducible refine Bl.trans_ ?_ (And.left (by assumption)))))
    clear hK K
    try simp only [Act.put, List.getElem_toArray, List.getElem_cons_succ, List.getElem_cons_zero, List.setIfInBounds_toArray, List.set_cons_zero, List.set_cons_succ]
    refine wpAnyH_take (i := 7) (v := ?_) rfl (by kernel_rfl) (by kernel_rfl) (by kernel_rfl) (fun _ _ _ h => h) (Or.inl ⟨by kernel_rfl, ?_⟩) (by assumption) ?_
    rotate_left
    · (intro wx hSw; (try dsimp only at hSw); go_simp; try (with_reducible rfl))
    try simp only [Act.put, List.getElem_toArray, List.getElem_cons_succ, List.getElem_cons_zero, List.setIfInBounds_toArray, List.set_cons_zero, List.set_cons_succ]
    refine wpAnyH_ready (rs := [8]) (by kernel_rfl) (by simp) ?_
    refine AllReadyH.cons rfl (fun K hK => ?_) AllReadyH.nil
    go_simp
    (go_at_call 77; refine (within_any k s u dt A n c L HN.out hc HO.out hs ht _ hm (K1.out.bl (HBW.out.trans_ (by repeat' (first | exact Bl.refl _ | with_reducible assumption | with_reducible refine Bl.drew_ ?_ | with_reducible refine Bl.drewN_ ?_ _ | with_reducible refine Bl.alloc_ ?_ _ | with_reducible refine Bl.trans_ ?_ (by assumption) | with_reducible refine Bl.trans_ ?_ (And.left (by assumption))))))).mono ?_; rintro e w3 ⟨v, rfl, hv, hb3⟩)
    try (go_wp2_with fail)
    refine hK.out _ _ ?_ (fun hHeld => ?_)
    · (exact HSH.out _ (by repeat' (first | exact Bl.refl _ | with_reducible assumption | with_reducible refine Bl.drew_ ?_ | with_reducible refine Bl.drewN_ ?_ _ | with_reducible refine Bl.alloc_ ?_ _ | with_reducible refine Bl.trans_ ?_ (by assumption) | with_reducible refine Bl.trans_ ?_ (And.left (by assumption)))))
    clear hK K
    try simp only [Act.put, List.getElem_toArray, List.getElem_cons_succ, List.getElem_cons_zero, List.setIfInBounds_toArray, List.set_cons_zero, List.set_cons_succ]
    refine wpAnyH_take (i := 9) (v := ?_) rfl (by kernel_rfl) (by kernel_rfl) (by kernel_rfl) (fun _ _ _ h => h) (Or.inl ⟨by kernel_rfl, ?_⟩) (by assumption) ?_
    rotate_left
    · (intro wx hSw; (try dsimp only at hSw); go_simp; try (with_reducible rfl))
    try simp only [Act.put, List.getElem_toArray, List.getElem_cons_succ, List.getElem_cons_zero, List.setIfInBounds_toArray, List.set_cons_zero, List.set_cons_succ]
    refine wpAnyH_done (by kernel_rfl) ?_ _
    go_wp2
    go_ret
    exact ⟨v, rfl, by rw [HB.out]; exact hv.low (HBW.out.trans_ (by repeat' (first | exact Bl.refl _ | with_reducible assumption | with_reducible refine Bl.drew_ ?_ | with_reducible refine Bl.drewN_ ?_ _ | with_reducible refine Bl.alloc_ ?_ _ | with_reducible refine Bl.trans_ ?_ (by assumption) | with_reducible refine Bl.trans_ ?_ (And.left (by assumption))))).size, HBW.out.trans_ (by repeat' (first | exact Bl.refl _ | with_reducible assumption | with_reducible refine Bl.drew_ ?_ | with_reducible refine Bl.drewN_ ?_ _ | with_reducible refine Bl.alloc_ ?_ _ | with_reducible refine Bl.trans_ ?_ (by assumption) | with_reducible refine Bl.trans_ ?_ (And.left (by assumption))))⟩

end Go.Proofs.Ytpbgnidjgmmebaa

set_option linter.unusedSimpArgs false
set_option linter.unusedVariables false
namespace Go.Proofs.Ytpbgnidjgmmebaa
open Go.RowKit

set_option maxHeartbeats 400000 in
theorem sameInts_yes (A1 A2 : Option Addr) (c1 c2 : Nat) (V : List Int) (n : Nat) (hn : n = V.length) (w : World) (hm : n ≤ 9223372036854775807) (H1 : IntsAt w w.heap.size A1 V) (H2 : IntsAt w w.heap.size A2 V) :
    Calls Try.prog 30 #[.slice A1 n c1, .slice A2 n c2] w fun e w' => e = .returned (.bool true) ∧ Bl w w' := by
  have K1 := Lib.hid H1
  have K2 := Lib.hid H2
  have HN := Lib.hid hn
  have hnn : ((n : Int) != (n : Int)) = false := by simp
  clear H1 H2 hn
  go_enter Try.func30, Try.ntmps30
  go_wp2
  go_loopw [5] (fun i wr => ∃ k : Nat, k ≤ n ∧ i = .int .i64 k ∧ Bl w wr) (fun i _ => n - (intOf i).toNat)
  case atStart => exact ⟨0, by omega, rfl, Bl.refl w⟩
  case round =>
    obtain ⟨k, hk, rfl, hbl⟩ := hrel
    by_cases hlt : k < n
    · have hkl : k < V.length := by have := HN.out; omega
      obtain ⟨g1, o1, rfl, hg1, hc1⟩ := K1.out.cell (by omega)
      obtain ⟨g2, o2, rfl, hg2, hc2⟩ := K2.out.cell (by omega)
      have p1 := hc1 k hkl
      have p2 := hc2 k hkl
      clear hc1 hc2
      rw [← (bcell hbl).1 _ _ hg1] at p1
      rw [← (bcell hbl).1 _ _ hg2] at p2
      generalize V[k] = x at p1 p2
      have hxx : (x != x) = false := by simp
      have i1 : (0 : Int) ≤ (k : Int) := by omega
      have i2 : (k : Int) < (n : Int) := by omega
      go_wp2
      go_quiet (fail)
      go_wp2
      go_roundw
      case rel => exact ⟨k + 1, by omega, by go_num, (by repeat' (first | exact Bl.refl _ | with_reducible assumption | with_reducible refine Bl.drew_ ?_ | with_reducible refine Bl.drewN_ ?_ _ | with_reducible refine Bl.alloc_ ?_ _ | with_reducible refine Bl.trans_ ?_ (by assumption) | with_reducible refine Bl.trans_ ?_ (And.left (by assumption))))⟩
      case measure => simp [intOf]; omega
    · go_wp2
      go_ret
      exact ⟨rfl, hbl⟩




end Go.Proofs.Ytpbgnidjgmmebaa

set_option linter.unusedSimpArgs false
set_option linter.unusedVariables false
namespace Go.Proofs.Ytpbgnidjgmmebaa
open Go.RowKit


end Go.Proofs.Ytpbgnidjgmmebaa
