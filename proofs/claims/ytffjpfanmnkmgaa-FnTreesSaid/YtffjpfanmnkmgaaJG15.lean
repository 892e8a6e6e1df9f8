/-
  What is proved here: plain facts on what is under a node of a tree; plain facts on lists without two alike, on the nearest of some nodes, and on the first of the greatest; the small functions of the code and of the model that ask whether numbers are nodes, no two alike; the model's PathIn and Under. No conditions beyond those that each theorem states.
-/
import Derived.Test.YtffjpfanmnkmgaaJG14
import Derived.Test.YtffjpfanmnkmgaaJG12
import Derived.Test.YtffjpfanmnkmgaaJG13
import Derived.Test.YtffjpfanmnkmgaaJG06
import Derived.Test.YtffjpfanmnkmgaaJG10
set_option linter.unusedSimpArgs false
set_option linter.unusedVariables false
namespace Go.Proofs.Ytffjpfanmnkmgaa

/-- Of the first k nodes those whose path comes by v. -/
def underK (U : List Int) (r v : Int) (k : Nat) : List Int := ((List.range k).map fun (i : Nat) => (i : Int)).filter fun u => decide (v ∈ pathU U r u)
def underU (U : List Int) (r v : Int) : List Int := if (rightU U r && decide (0 ≤ v ∧ v < U.length)) = true then underK U r v U.length else []
variable {U : List Int} {r v : Int}
theorem underK_zero : underK U r v 0 = [] := rfl
theorem underK_yes {k : Nat} (h : decide (v ∈ pathU U r (k : Int)) = true) : underK U r v (k + 1) = underK U r v k ++ [(k : Int)] := by
  unfold underK
  rw [List.range_succ, List.map_append, List.filter_append]
  simp only [List.map_cons, List.map_nil, List.filter_cons, h, if_true, List.filter_nil]
theorem underK_no {k : Nat} (h : decide (v ∈ pathU U r (k : Int)) = false) : underK U r v (k + 1) = underK U r v k := by
  unfold underK
  rw [List.range_succ, List.map_append, List.filter_append]
  simp [List.filter_cons, h]
theorem underK_len (k : Nat) : (underK U r v k).length ≤ k := by
  unfold underK
  have := List.length_filter_le (fun u => decide (v ∈ pathU U r u)) ((List.range k).map fun (i : Nat) => (i : Int))
  simpa using this
theorem underK_mem {k : Nat} {u : Int} : u ∈ underK U r v k ↔ (0 ≤ u ∧ u < k) ∧ v ∈ pathU U r u := by
  unfold underK
  rw [List.mem_filter, List.mem_map]
  constructor
  · rintro ⟨⟨i, hi, rfl⟩, h⟩
    rw [List.mem_range] at hi
    exact ⟨by omega, of_decide_eq_true h⟩
  · rintro ⟨h1, h2⟩
    exact ⟨⟨u.toNat, by rw [List.mem_range]; omega, by omega⟩, by simpa using h2⟩
theorem underU_len (U : List Int) (r v : Int) : (underU U r v).length ≤ 1048576 := by
  unfold underU
  split
  · rename_i h
    rw [Bool.and_eq_true] at h
    have h1 := (rightU_elim h.1).1
    have h2 := underK_len (U := U) (r := r) (v := v) U.length
    omega
  · simp
theorem pathU_in (h : rightU U r = true) {u : Int} (hu : u < U.length) {x : Int} (hx : x ∈ pathU U r u) : 0 ≤ x ∧ x < U.length := by
  obtain ⟨-, -, h3⟩ := rightU_elim h
  unfold pathU at hx
  cases hf : upF U r 25 u with
  | none => rw [hf] at hx; simp at hx
  | some P =>
    rw [hf] at hx
    exact upF_in hf (fun y hy => (h3 y hy).2) hu x hx
/-- A node that is none is on no path. -/
theorem underK_out (h : rightU U r = true) (hv : ¬ (0 ≤ v ∧ v < U.length)) {k : Nat} (hk : k ≤ U.length) : underK U r v k = [] := by
  rw [List.eq_nil_iff_forall_not_mem]
  intro u hu
  obtain ⟨h1, h2⟩ := underK_mem.1 hu
  exact hv (pathU_in h (by omega) h2)
theorem underU_no (h : rightU U r = false) : underU U r v = [] := by unfold underU; rw [h]; rfl
theorem underU_yes (h : rightU U r = true) : underU U r v = underK U r v U.length := by
  unfold underU
  split
  · rfl
  · rename_i hc
    rw [underK_out h (fun hv => hc (by rw [h, decide_eq_true hv]; rfl)) (Nat.le_refl _)]
theorem underU_ask (h : decide (0 ≤ v ∧ v < U.length) = false) : underU U r v = [] := by unfold underU; rw [h, Bool.and_false]; rfl
theorem pathInU_yes (h : rightU U r = true) (hv : 0 ≤ v ∧ v < U.length) : pathInU U r v = pathU U r v := by
  unfold pathInU
  rw [if_pos (by rw [h, decide_eq_true hv]; rfl)]
theorem pathInU_no (h : rightU U r = false ∨ decide (0 ≤ v ∧ v < U.length) = false) : pathInU U r v = [] := by
  unfold pathInU
  rw [if_neg]
  rcases h with h | h <;> rw [h] <;> simp
/-- What the law asks of Under. -/
theorem under_has (h : 0 < (underU U r v).length) {u : Int} (hu : 0 ≤ u ∧ u < U.length) : decide (u ∈ underU U r v) = decide (v ∈ pathInU U r u) := by
  unfold underU at h ⊢
  split at h
  · rename_i hc
    rw [if_pos hc]
    rw [Bool.and_eq_true] at hc
    rw [pathInU_yes hc.1 hu, decide_eq_decide, underK_mem]
    exact ⟨fun h => h.2, fun h => ⟨hu, h⟩⟩
  · simp at h
/-- The path of the node ahead, and the node. -/
theorem pathU_up (h : rightU U r = true) (hv : 0 ≤ v ∧ v < U.length) (hr : v ≠ r) (hp : 0 < (pathU U r v).length) : pathU U r v = pathU U r (dAt U v) ++ [v] ∧ 0 < (pathU U r (dAt U v)).length := by
  obtain ⟨h1, h2, h3⟩ := rightU_elim h
  unfold pathU at hp ⊢
  cases hf : upF U r 25 v with
  | none => rw [hf] at hp; simp at hp
  | some P =>
    have hl := upF_len hf (fun y hy => (h3 y hy).2) hv.2
    have hf' := hf
    rw [upF_step (by omega) hr] at hf'
    obtain ⟨Q, hQ, rfl⟩ := Option.map_eq_some_iff.1 hf'
    have hq := upF_more hQ 25 (by simp at hl; omega)
    obtain ⟨Q', rfl⟩ := upF_first hQ
    rw [hq]
    simp
theorem under_up (h : rightU U r = true) (hv : 0 ≤ v ∧ v < U.length) (hr : v ≠ r) {x : Int} (hx : x ∈ underU U r v) : x ∈ underU U r (dAt U v) ∧ 0 < (pathU U r v).length := by
  obtain ⟨h1, h2, h3⟩ := rightU_elim h
  rw [underU_yes h, underK_mem] at hx
  obtain ⟨hx1, hx2⟩ := hx
  rw [underU_yes h, underK_mem]
  unfold pathU at hx2
  cases hf : upF U r 25 x with
  | none => rw [hf] at hx2; simp at hx2
  | some P =>
    rw [hf] at hx2
    obtain ⟨i, hi, e⟩ := List.getElem_of_mem (show v ∈ P from hx2)
    have hpre := upF_pre hf i hi
    rw [e] at hpre
    have hl := upF_fuel hf
    have h25 := upF_more hpre 25 (by rw [List.length_take]; omega)
    have hpv : pathU U r v = P.take (i + 1) := by unfold pathU; rw [h25]; rfl
    have hpos : 0 < (pathU U r v).length := by rw [hpv, List.length_take]; omega
    obtain ⟨e1, e2⟩ := pathU_up h hv hr hpos
    refine ⟨⟨hx1, ?_⟩, hpos⟩
    have hm : dAt U v ∈ pathU U r (dAt U v) := by
      unfold pathU at e2 ⊢
      cases hg : upF U r 25 (dAt U v) with
      | none => rw [hg] at e2; simp at e2
      | some Q =>
        obtain ⟨Q', rfl⟩ := upF_last hg
        simp
    have hm2 : dAt U v ∈ P.take (i + 1) := by rw [← hpv, e1]; exact List.mem_append_left _ hm
    unfold pathU
    rw [hf]
    exact List.mem_of_mem_take hm2
theorem under_self (h : rightU U r = true) (hv : 0 ≤ v ∧ v < U.length) (hp : 0 < (pathU U r v).length) : v ∈ underU U r v := by
  rw [underU_yes h, underK_mem]
  refine ⟨hv, ?_⟩
  unfold pathU at hp ⊢
  cases hg : upF U r 25 v with
  | none => rw [hg] at hp; simp at hp
  | some Q =>
    obtain ⟨Q', rfl⟩ := upF_last hg
    simp
theorem under_not (h : rightU U r = true) (hv : 0 ≤ v ∧ v < U.length) (hr : v ≠ r) : dAt U v ∉ underU U r v := fun hm => by
  rw [underU_yes h, underK_mem] at hm
  obtain ⟨hm1, hm2⟩ := hm
  cases hf : upF U r 25 (dAt U v) with
  | none => unfold pathU at hm2; rw [hf] at hm2; simp at hm2
  | some Q =>
    have hm3 : v ∈ Q := by unfold pathU at hm2; rw [hf] at hm2; exact hm2
    obtain ⟨i, hi, e⟩ := List.getElem_of_mem hm3
    have hfull : upF U r 26 v = some (Q ++ [v]) := by rw [upF_step (by omega) hr, hf]; rfl
    exact upF_nodup hfull (i := i) (j := Q.length) hi (by simp) (by rw [List.getElem_append_left hi]; simp [e])

end Go.Proofs.Ytffjpfanmnkmgaa

set_option linter.unusedSimpArgs false
set_option linter.unusedVariables false
namespace Go.Proofs.Ytffjpfanmnkmgaa







end Go.Proofs.Ytffjpfanmnkmgaa

set_option linter.unusedSimpArgs false
set_option linter.unusedVariables false
namespace Go.Proofs.Ytffjpfanmnkmgaa
open Go.RowKit


set_option maxHeartbeats 400000 in
theorem l1Has_any (A : Option Addr) (c : Nat) (V : List Int) (n : Nat) (hn : n = V.length) (x : Int) (w : World) (hm : n ≤ 9223372036854775807) (H1 : IntsAt w w.heap.size A V) :
    Calls Try.prog 70 #[.slice A n c, .int .i64 x] w fun e w' => e = .returned (.bool (decide (x ∈ V))) ∧ Bl w w' := by
  have K1 := Lib.hid H1
  have HN := Lib.hid hn
  clear H1 hn
  go_enter Try.func70, Try.ntmps70
  go_wp2
  go_loopw [5] (fun i wr => ∃ k : Nat, k ≤ n ∧ i = .int .i64 k ∧ Bl w wr ∧ Hid (∀ j (h : j < V.length), j < k → V[j] ≠ x)) (fun i _ => n - (intOf i).toNat)
  case atStart => exact ⟨0, by omega, rfl, Bl.refl w, Lib.hid (fun j _ h => by omega)⟩
  case round =>
    obtain ⟨k, hk, rfl, hbl, hno⟩ := hrel
    by_cases hlt : k < n
    · have hkl : k < V.length := by have := HN.out; omega
      obtain ⟨g1, o1, rfl, hg1, hc1⟩ := K1.out.cell (by omega)
      have p1 := hc1 k hkl
      clear hc1
      rw [← (bcell hbl).1 _ _ hg1] at p1
      have HY := Lib.hid (fun h : V[k] ≠ x => (show ∀ j (h : j < V.length), j < k + 1 → V[j] ≠ x from fun j hj hjk => by
        by_cases e : j = k
        · subst e; exact h
        · exact hno.out j hj (by omega)))
      have HX := Lib.hid (fun h : V[k] = x => (show decide (x ∈ V) = true from by rw [decide_eq_true_eq, ← h]; exact List.getElem_mem hkl))
      generalize V[k] = y at p1 HY HX
      have i1 : (0 : Int) ≤ (k : Int) := by omega
      have i2 : (k : Int) < (n : Int) := by omega
      by_cases e : y = x
      · have b1 : (y == x) = true := by simpa using e
        have HZ := Lib.hid (HX.out e)
        clear e HY HX
        go_wp2
        go_ret
        exact ⟨ret_bool HZ.out.symm, hbl⟩
      · have b1 : (y == x) = false := by simpa using e
        have HZ := Lib.hid (HY.out e)
        clear e HY HX
        go_wp2
        go_roundw
        case rel => exact ⟨k + 1, by omega, by go_num, hbl, HZ⟩
        case measure => simp [intOf]; omega
    · have HZ := Lib.hid (show decide (x ∈ V) = false from by
        rw [decide_eq_false_iff_not]
        intro hx
        obtain ⟨j, hj, e⟩ := List.getElem_of_mem hx
        exact absurd e (hno.out j hj (by have := HN.out; omega)))
      go_wp2
      go_ret
      exact ⟨ret_bool HZ.out.symm, hbl⟩


end Go.Proofs.Ytffjpfanmnkmgaa

set_option linter.unusedSimpArgs false
set_option linter.unusedVariables false
namespace Go.Proofs.Ytffjpfanmnkmgaa
open Go.RowKit

set_option maxRecDepth 100000 in
set_option maxHeartbeats 1000000 in
theorem l14Right_any (R : Int) (A : Option Addr) (n c : Nat) (U : List Int) (hn : n = U.length) (w : World) (hm : n ≤ 1048576) (H1 : IntsAt w w.heap.size A U) :
    Calls Try.prog 64 #[.agg #[.int .i64 R, .slice A n c]] w fun e w' => e = .returned (.bool (rightU U R)) ∧ Bl w w' := by
  have K1 := Lib.hid H1
  have HN := Lib.hid hn
  have BX := Lib.hid (show ∀ wx, Bl (w.alloc (.cells #[.int .i64 R, .slice A n c] 27)) wx → wx.cell? ⟨w.heap.size, 0, none⟩ = some (.int .i64 R) ∧ wx.cell? ⟨w.heap.size, 1, none⟩ = some (.slice A n c) from fun wx hb => box2 hb)
  have BW := Lib.hid (show ∀ wx, Bl (w.alloc (.cells #[.int .i64 R, .slice A n c] 27)) wx → Bl w wx from fun wx hb => (Bl.alloc_ (Bl.refl w) _).trans_ hb)
  clear H1 hn
  go_enter Try.func64, Try.ntmps64
  go_wp2_with fail
  go_loopw [3] (fun i wr => ∃ k : Nat, k ≤ n ∧ i = .int .i64 k ∧ Bl (w.alloc (.cells #[.int .i64 R, .slice A n c] 27)) wr ∧ ∀ j (h : j < U.length), j < k → -1 ≤ U[j] ∧ U[j] ≤ (n : Int) - 1) (fun i _ => n - (intOf i).toNat)
  case atStart => exact ⟨0, by omega, rfl, Bl.refl _, fun j h h' => absurd h' (by omega)⟩
  case round =>
    obtain ⟨k, hk, rfl, hbl, hno⟩ := hrel
    have NO := Lib.hid hno
    have BB := Lib.hid hbl
    clear hno
    obtain ⟨q0, q1⟩ := BX.out _ hbl
    by_cases hlt : k < n
    · have hkl : k < U.length := by have := HN.out; omega
      obtain ⟨g1, o1, rfl, hg1, hc1⟩ := (K1.out.bl (BW.out _ hbl)).cell (by omega)
      have p1 := hc1 k hkl
      clear hc1
      generalize hx : U[k] = x at p1
      have HX := Lib.hid hx
      clear hx
      have i0 : (0 : Int) ≤ (k : Int) := by omega
      have i1 : (k : Int) < (n : Int) := by omega
      have a1 : IntKind.i64.wrap ((n : Int) - 1) = (n : Int) - 1 := IntWalk.i64_in _ (by omega)
      have HSH := Lib.hid (show ∀ wx, Bl wr wx → Bl wr wx ∧ wx.cell? ⟨w.heap.size, 0, none⟩ = some (.int .i64 R) ∧ wx.cell? ⟨w.heap.size, 1, none⟩ = some (.slice (some ⟨g1, o1, none⟩) n c) ∧ wx.cell? ⟨g1, o1 + k, none⟩ = some (.int .i64 x) from fun wx hb => ⟨hb, (BX.out wx (BB.out.trans_ hb)).1, (BX.out wx (BB.out.trans_ hb)).2, ((bcell hb).1 _ _ hg1).trans p1⟩)
      cases hb : inB x (-1) ((n : Int) - 1) with
      | true =>
        have HB := Lib.hid hb
        clear hb
        go_wp2_with fail
        refine wp_region_held_drew (S := fun wx => Bl wr wx ∧ wx.cell? ⟨w.heap.size, 0, none⟩ = some (.int .i64 R) ∧ wx.cell? ⟨w.heap.size, 1, none⟩ = some (.slice (some ⟨g1, o1, none⟩) n c) ∧ wx.cell? ⟨g1, o1 + k, none⟩ = some (.int .i64 x)) (by kernel_rfl) ?_ (fun hHeld => ?_)
        · (exact HSH.out _ (by repeat' (first | exact Bl.refl _ | with_reducible assumption | with_reducible refine Bl.drew_ ?_ | with_reducible refine Bl.drewN_ ?_ _ | with_reducible refine Bl.alloc_ ?_ _ | with_reducible refine Bl.trans_ ?_ (by assumption) | with_reducible refine Bl.trans_ ?_ (And.left (by assumption)))))
        refine wpAnyH_take (i := 0) (v := ?_) rfl (by kernel_rfl) (by kernel_rfl) (by kernel_rfl) (fun _ _ _ h => h) (Or.inl ⟨by kernel_rfl, ?_⟩) (by assumption) ?_
        rotate_left
        · (intro wx hSw; (try dsimp only at hSw); go_simp; try (with_reducible rfl))
        try simp only [Act.put, List.getElem_toArray, List.getElem_cons_succ, List.getElem_cons_zero, List.setIfInBounds_toArray, List.set_cons_zero, List.set_cons_succ]
        refine wpAnyH_take (i := 1) (v := ?_) rfl (by kernel_rfl) (by kernel_rfl) (by kernel_rfl) (fun _ _ _ h => h) (Or.inl ⟨by kernel_rfl, ?_⟩) (by assumption) ?_
        rotate_left
        · (intro wx hSw; (try dsimp only at hSw); go_simp; try (with_reducible rfl))
        try simp only [Act.put, List.getElem_toArray, List.getElem_cons_succ, List.getElem_cons_zero, List.setIfInBounds_toArray, List.set_cons_zero, List.set_cons_succ]
        refine wpAnyH_take (i := 2) (v := ?_) rfl (by kernel_rfl) (by kernel_rfl) (by kernel_rfl) (fun _ _ _ h => h) (Or.inl ⟨by kernel_rfl, ?_⟩) (by assumption) ?_
        rotate_left
        · (intro wx hSw; (try dsimp only at hSw); go_simp; try (with_reducible rfl))
        try simp only [Act.put, List.getElem_toArray, List.getElem_cons_succ, List.getElem_cons_zero, List.setIfInBounds_toArray, List.set_cons_zero, List.set_cons_succ]
        refine wpAnyH_take (i := 3) (v := ?_) rfl (by kernel_rfl) (by kernel_rfl) (by kernel_rfl) (fun _ _ _ h => h) (Or.inl ⟨by kernel_rfl, ?_⟩) (by assumption) ?_
        rotate_left
        · (intro wx hSw; (try dsimp only at hSw); go_simp; try (with_reducible rfl))
        try simp only [Act.put, List.getElem_toArray, List.getElem_cons_succ, List.getElem_cons_zero, List.setIfInBounds_toArray, List.set_cons_zero, List.set_cons_succ]
        refine wpAnyH_take (i := 4) (v := ?_) rfl (by kernel_rfl) (by kernel_rfl) (by kernel_rfl) (fun _ _ _ h => h) (Or.inl ⟨by kernel_rfl, ?_⟩) (by assumption) ?_
        rotate_left
        · (intro wx hSw; (try dsimp only at hSw); go_simp; try (with_reducible rfl))
        try simp only [Act.put, List.getElem_toArray, List.getElem_cons_succ, List.getElem_cons_zero, List.setIfInBounds_toArray, List.set_cons_zero, List.set_cons_succ]
        refine wpAnyH_take (i := 5) (v := ?_) rfl (by kernel_rfl) (by kernel_rfl) (by kernel_rfl) (fun _ _ _ h => h) (Or.inl ⟨by kernel_rfl, ?_⟩) (by assumption) ?_
        rotate_left
        · (intro wx hSw; (try dsimp only at hSw); go_simp; try (with_reducible rfl))
        try simp only [Act.put, List.getElem_toArray, List.getElem_cons_succ, List.getElem_cons_zero, List.setIfInBounds_toArray, List.set_cons_zero, List.set_cons_succ]
        refine wpAnyH_take (i := 6) (v := ?_) rfl (by kernel_rfl) (by kernel_rfl) (by kernel_rfl) (fun _ _ _ h => h) (Or.inl ⟨by kernel_rfl, ?_⟩) (by assumption) ?_
        rotate_left
        · (intro wx hSw; (try dsimp only at hSw); go_simp; try (with_reducible rfl))
        try simp only [Act.put, List.getElem_toArray, List.getElem_cons_succ, List.getElem_cons_zero, List.setIfInBounds_toArray, List.set_cons_zero, List.set_cons_succ]
        refine wpAnyH_ready (rs := [7]) (by kernel_rfl) (by simp) ?_
        refine AllReadyH.cons rfl (fun K hK => ?_) AllReadyH.nil
        go_simp
        refine hK.out _ _ ?_ (fun hHeld => ?_)
        · (exact HSH.out _ (by repeat' (first | exact Bl.refl _ | with_reducible assumption | with_reducible refine Bl.drew_ ?_ | with_reducible refine Bl.drewN_ ?_ _ | with_reducible refine Bl.alloc_ ?_ _ | with_reducible refine Bl.trans_ ?_ (by assumption) | with_reducible refine Bl.trans_ ?_ (And.left (by assumption)))))
        clear hK K
        try simp only [Act.put, List.getElem_toArray, List.getElem_cons_succ, List.getElem_cons_zero, List.setIfInBounds_toArray, List.set_cons_zero, List.set_cons_succ]
        refine wpAnyH_take (i := 8) (v := ?_) rfl (by kernel_rfl) (by kernel_rfl) (by kernel_rfl) (fun _ _ _ h => h) (Or.inl ⟨by kernel_rfl, ?_⟩) (by assumption) ?_
        rotate_left
        · (intro wx hSw; (try dsimp only at hSw); go_simp; try (with_reducible rfl))
        try simp only [Act.put, List.getElem_toArray, List.getElem_cons_succ, List.getElem_cons_zero, List.setIfInBounds_toArray, List.set_cons_zero, List.set_cons_succ]
        refine wpAnyH_ready (rs := [9]) (by kernel_rfl) (by simp) ?_
        refine AllReadyH.cons rfl (fun K hK => ?_) AllReadyH.nil
        go_simp
        (go_at_call 65; refine (l1In_any x (-1) ((n : Int) - 1) _).mono ?_; rintro e w5 ⟨rfl, rfl⟩; rw [HB.out])
        try (go_wp2_with fail)
        refine hK.out _ _ ?_ (fun hHeld => ?_)
        · (exact HSH.out _ (by repeat' (first | exact Bl.refl _ | with_reducible assumption | with_reducible refine Bl.drew_ ?_ | with_reducible refine Bl.drewN_ ?_ _ | with_reducible refine Bl.alloc_ ?_ _ | with_reducible refine Bl.trans_ ?_ (by assumption) | with_reducible refine Bl.trans_ ?_ (And.left (by assumption)))))
        clear hK K
        try simp only [Act.put, List.getElem_toArray, List.getElem_cons_succ, List.getElem_cons_zero, List.setIfInBounds_toArray, List.set_cons_zero, List.set_cons_succ]
        refine wpAnyH_take (i := 10) (v := ?_) rfl (by kernel_rfl) (by kernel_rfl) (by kernel_rfl) (fun _ _ _ h => h) (Or.inl ⟨by kernel_rfl, ?_⟩) (by assumption) ?_
        rotate_left
        · (intro wx hSw; (try dsimp only at hSw); go_simp; try (with_reducible rfl))
        try simp only [Act.put, List.getElem_toArray, List.getElem_cons_succ, List.getElem_cons_zero, List.setIfInBounds_toArray, List.set_cons_zero, List.set_cons_succ]
        refine wpAnyH_done (by kernel_rfl) ?_ _
        clear q0 q1
        go_wp2
        go_roundw
        case rel =>
          refine ⟨k + 1, by omega, by go_num, BB.out.trans_ (by repeat' (first | exact Bl.refl _ | with_reducible assumption | with_reducible refine Bl.drew_ ?_ | with_reducible refine Bl.drewN_ ?_ _ | with_reducible refine Bl.alloc_ ?_ _ | with_reducible refine Bl.trans_ ?_ (by assumption) | with_reducible refine Bl.trans_ ?_ (And.left (by assumption)))), fun j h hj => ?_⟩
          rcases Nat.lt_or_ge j k with h' | h'
          · exact NO.out j h h'
          · obtain rfl : j = k := by omega
            rw [HX.out]
            simpa [inB] using HB.out
        case measure => simp [intOf]; omega
      | false =>
        have HB := Lib.hid hb
        clear hb
        have HR := Lib.hid (show rightU U R = false from by
          unfold rightU
          rw [decide_eq_false_iff_not]
          rintro ⟨-, -, h3⟩
          have h4 := h3 U[k] (List.getElem_mem hkl)
          rw [HX.out, ← HN.out] at h4
          have h5 := HB.out
          unfold inB at h5
          rw [decide_eq_false_iff_not] at h5
          omega)
        go_wp2_with fail
        refine wp_region_held_drew (S := fun wx => Bl wr wx ∧ wx.cell? ⟨w.heap.size, 0, none⟩ = some (.int .i64 R) ∧ wx.cell? ⟨w.heap.size, 1, none⟩ = some (.slice (some ⟨g1, o1, none⟩) n c) ∧ wx.cell? ⟨g1, o1 + k, none⟩ = some (.int .i64 x)) (by kernel_rfl) ?_ (fun hHeld => ?_)
        · (exact HSH.out _ (by repeat' (first | exact Bl.refl _ | with_reducible assumption | with_reducible refine Bl.drew_ ?_ | with_reducible refine Bl.drewN_ ?_ _ | with_reducible refine Bl.alloc_ ?_ _ | with_reducible refine Bl.trans_ ?_ (by assumption) | with_reducible refine Bl.trans_ ?_ (And.left (by assumption)))))
        refine wpAnyH_take (i := 0) (v := ?_) rfl (by kernel_rfl) (by kernel_rfl) (by kernel_rfl) (fun _ _ _ h => h) (Or.inl ⟨by kernel_rfl, ?_⟩) (by assumption) ?_
        rotate_left
        · (intro wx hSw; (try dsimp only at hSw); go_simp; try (with_reducible rfl))
        try simp only [Act.put, List.getElem_toArray, List.getElem_cons_succ, List.getElem_cons_zero, List.setIfInBounds_toArray, List.set_cons_zero, List.set_cons_succ]
        refine wpAnyH_take (i := 1) (v := ?_) rfl (by kernel_rfl) (by kernel_rfl) (by kernel_rfl) (fun _ _ _ h => h) (Or.inl ⟨by kernel_rfl, ?_⟩) (by assumption) ?_
        rotate_left
        · (intro wx hSw; (try dsimp only at hSw); go_simp; try (with_reducible rfl))
        try simp only [Act.put, List.getElem_toArray, List.getElem_cons_succ, List.getElem_cons_zero, List.setIfInBounds_toArray, List.set_cons_zero, List.set_cons_succ]
        refine wpAnyH_take (i := 2) (v := ?_) rfl (by kernel_rfl) (by kernel_rfl) (by kernel_rfl) (fun _ _ _ h => h) (Or.inl ⟨by kernel_rfl, ?_⟩) (by assumption) ?_
        rotate_left
        · (intro wx hSw; (try dsimp only at hSw); go_simp; try (with_reducible rfl))
        try simp only [Act.put, List.getElem_toArray, List.getElem_cons_succ, List.getElem_cons_zero, List.setIfInBounds_toArray, List.set_cons_zero, List.set_cons_succ]
        refine wpAnyH_take (i := 3) (v := ?_) rfl (by kernel_rfl) (by kernel_rfl) (by kernel_rfl) (fun _ _ _ h => h) (Or.inl ⟨by kernel_rfl, ?_⟩) (by assumption) ?_
        rotate_left
        · (intro wx hSw; (try dsimp only at hSw); go_simp; try (with_reducible rfl))
        try simp only [Act.put, List.getElem_toArray, List.getElem_cons_succ, List.getElem_cons_zero, List.setIfInBounds_toArray, List.set_cons_zero, List.set_cons_succ]
        refine wpAnyH_take (i := 4) (v := ?_) rfl (by kernel_rfl) (by kernel_rfl) (by kernel_rfl) (fun _ _ _ h => h) (Or.inl ⟨by kernel_rfl, ?_⟩) (by assumption) ?_
        rotate_left
        · (intro wx hSw; (try dsimp only at hSw); go_simp; try (with_reducible rfl))
        try simp only [Act.put, List.getElem_toArray, List.getElem_cons_succ, List.getElem_cons_zero, List.setIfInBounds_toArray, List.set_cons_zero, List.set_cons_succ]
        refine wpAnyH_take (i := 5) (v := ?_) rfl (by kernel_rfl) (by kernel_rfl) (by kernel_rfl) (fun _ _ _ h => h) (Or.inl ⟨by kernel_rfl, ?_⟩) (by assumption) ?_
        rotate_left
        · (intro wx hSw; (try dsimp only at hSw); go_simp; try (with_reducible rfl))
        try simp only [Act.put, List.getElem_toArray, List.getElem_cons_succ, List.getElem_cons_zero, List.setIfInBounds_toArray, List.set_cons_zero, List.set_cons_succ]
        refine wpAnyH_take (i := 6) (v := ?_) rfl (by kernel_rfl) (by kernel_rfl) (by kernel_rfl) (fun _ _ _ h => h) (Or.inl ⟨by kernel_rfl, ?_⟩) (by assumption) ?_
        rotate_left
        · (intro wx hSw; (try dsimp only at hSw); go_simp; try (with_reducible rfl))
        try simp only [Act.put, List.getElem_toArray, List.getElem_cons_succ, List.getElem_cons_zero, List.setIfInBounds_toArray, List.set_cons_zero, List.set_cons_succ]
        refine wpAnyH_ready (rs := [7]) (by kernel_rfl) (by simp) ?_
        refine AllReadyH.cons rfl (fun K hK => ?_) AllReadyH.nil
        go_simp
        refine hK.out _ _ ?_ (fun hHeld => ?_)
        · (exact HSH.out _ (by repeat' (first | exact Bl.refl _ | with_reducible assumption | with_reducible refine Bl.drew_ ?_ | with_reducible refine Bl.drewN_ ?_ _ | with_reducible refine Bl.alloc_ ?_ _ | with_reducible refine Bl.trans_ ?_ (by assumption) | with_reducible refine Bl.trans_ ?_ (And.left (by assumption)))))
        clear hK K
        try simp only [Act.put, List.getElem_toArray, List.getElem_cons_succ, List.getElem_cons_zero, List.setIfInBounds_toArray, List.set_cons_zero, List.set_cons_succ]
        refine wpAnyH_take (i := 8) (v := ?_) rfl (by kernel_rfl) (by kernel_rfl) (by kernel_rfl) (fun _ _ _ h => h) (Or.inl ⟨by kernel_rfl, ?_⟩) (by assumption) ?_
        rotate_left
        · (intro wx hSw; (try dsimp only at hSw); go_simp; try (with_reducible rfl))
        try simp only [Act.put, List.getElem_toArray, List.getElem_cons_succ, List.getElem_cons_zero, List.setIfInBounds_toArray, List.set_cons_zero, List.set_cons_succ]
        refine wpAnyH_ready (rs := [9]) (by kernel_rfl) (by simp) ?_
        refine AllReadyH.cons rfl (fun K hK => ?_) AllReadyH.nil
        go_simp
        (go_at_call 65; refine (l1In_any x (-1) ((n : Int) - 1) _).mono ?_; rintro e w5 ⟨rfl, rfl⟩; rw [HB.out])
        try (go_wp2_with fail)
        refine hK.out _ _ ?_ (fun hHeld => ?_)
        · (exact HSH.out _ (by repeat' (first | exact Bl.refl _ | with_reducible assumption | with_reducible refine Bl.drew_ ?_ | with_reducible refine Bl.drewN_ ?_ _ | with_reducible refine Bl.alloc_ ?_ _ | with_reducible refine Bl.trans_ ?_ (by assumption) | with_reducible refine Bl.trans_ ?_ (And.left (by assumption)))))
        clear hK K
        try simp only [Act.put, List.getElem_toArray, List.getElem_cons_succ, List.getElem_cons_zero, List.setIfInBounds_toArray, List.set_cons_zero, List.set_cons_succ]
        refine wpAnyH_take (i := 10) (v := ?_) rfl (by kernel_rfl) (by kernel_rfl) (by kernel_rfl) (fun _ _ _ h => h) (Or.inl ⟨by kernel_rfl, ?_⟩) (by assumption) ?_
        rotate_left
        · (intro wx hSw; (try dsimp only at hSw); go_simp; try (with_reducible rfl))
        try simp only [Act.put, List.getElem_toArray, List.getElem_cons_succ, List.getElem_cons_zero, List.setIfInBounds_toArray, List.set_cons_zero, List.set_cons_succ]
        refine wpAnyH_done (by kernel_rfl) ?_ _
        clear q0 q1
        go_wp2
        go_ret
        exact ⟨ret_bool HR.out.symm, BW.out _ (BB.out.trans_ (by repeat' (first | exact Bl.refl _ | with_reducible assumption | with_reducible refine Bl.drew_ ?_ | with_reducible refine Bl.drewN_ ?_ _ | with_reducible refine Bl.alloc_ ?_ _ | with_reducible refine Bl.trans_ ?_ (by assumption) | with_reducible refine Bl.trans_ ?_ (And.left (by assumption)))))⟩
    · obtain rfl : k = n := by omega
      have a1 : IntKind.i64.wrap ((k : Int) - 1) = (k : Int) - 1 := IntWalk.i64_in _ (by omega)
      have HR := Lib.hid (show rightU U R = (inB R 0 ((k : Int) - 1) && decide (k ≤ 24)) from by
        unfold rightU inB
        rw [← Bool.decide_and, decide_eq_decide, ← HN.out]
        constructor
        · rintro ⟨h1, h2, -⟩
          exact ⟨by omega, h1⟩
        · rintro ⟨h1, h2⟩
          refine ⟨h2, by omega, fun x hx => ?_⟩
          obtain ⟨j, hj, rfl⟩ := List.getElem_of_mem hx
          have := NO.out j hj (by have := HN.out; omega)
          omega)
      cases hb : inB R 0 ((k : Int) - 1) with
      | false =>
        have HB := Lib.hid hb
        clear hb
        go_wp2_with fail
        refine (l1In_any R 0 ((k : Int) - 1) _).mono ?_
        rintro e w5 ⟨rfl, rfl⟩
        rw [HB.out]
        go_wp2
        go_ret
        exact ⟨ret_bool (by rw [HR.out, HB.out]; rfl), BW.out _ BB.out⟩
      | true =>
        have HB := Lib.hid hb
        clear hb
        go_wp2_with fail
        refine (l1In_any R 0 ((k : Int) - 1) _).mono ?_
        rintro e w5 ⟨rfl, rfl⟩
        rw [HB.out]
        go_wp2
        go_ret
        exact ⟨ret_bool (by rw [HR.out, HB.out, Bool.true_and]; first | rfl | (rw [decide_eq_decide]; omega)), BW.out _ BB.out⟩

set_option maxRecDepth 100000 in
set_option maxHeartbeats 2000000 in
theorem l14Path_any (R : Int) (A : Option Addr) (n c : Nat) (U : List Int) (hn : n = U.length) (v : Nat) (hr : rightU U R = true) (hv : v < n) (w : World) (hm : n ≤ 1048576) (H1 : IntsAt w w.heap.size A U) :
    Calls Try.prog 66 #[.agg #[.int .i64 R, .slice A n c], .int .i64 (v : Int)] w (NumsMade (pathU U R v) w) := by
  obtain ⟨i0, hi, hz0, hz1, hz2⟩ := info_parts infoInt
  have I0 := Lib.hid hi
  have I1 := Lib.hid hz0
  have I2 := Lib.hid hz1
  have I3 := Lib.hid hz2
  have K1 := Lib.hid H1
  have HN := Lib.hid hn
  obtain ⟨r1, r2, r3⟩ := rightU_elim hr
  have hn24 : n ≤ 24 := by omega
  have RR := Lib.hid (show ∀ x ∈ U, -1 ≤ x ∧ x < (n : Int) from by rw [hn]; exact r3)
  have PV := Lib.hid (show upF U R (n + 1) (v : Int) = upF U R 25 (v : Int) from upF_same (fun x hx => (r3 x hx).2) (by omega) (by omega) (by omega))
  obtain ⟨X, hX⟩ : ∃ X, X = (w.alloc (.cells #[.int .i64 R, .slice A n c] 27)).alloc (.cells #[] 2) := ⟨_, rfl⟩
  have BX := Lib.hid (show ∀ wx, Bl X wx → wx.cell? ⟨w.heap.size, 0, none⟩ = some (.int .i64 R) ∧ wx.cell? ⟨w.heap.size, 1, none⟩ = some (.slice A n c) from fun wx hb => by
    rw [hX] at hb
    exact box2 ((Bl.alloc_ (Bl.refl _) _).trans_ hb))
  have BW := Lib.hid (show Bl w X from by rw [hX]; exact (Bl.alloc_ (Bl.refl w) _).alloc_ _)
  have SX := Lib.hid (show X.heap.size = w.heap.size + 2 from by rw [hX, World.size_alloc, World.size_alloc])
  have O0 := Lib.hid (show OwnN X (w.heap.size + 1) (.slice (some ⟨w.heap.size + 1, 0, none⟩) 0 0) [] from by
    have h := World.ownsRow_made (base := w.heap.size + 1) (e := 2) (size := 1) (w.alloc (.cells #[.int .i64 R, .slice A n c] 27)) #[] 0 (by simp) (by unfold maxLen; omega) rfl
    rw [World.size_alloc] at h
    rw [hX]
    exact h)
  clear H1 hn hi hz0 hz1 hz2 r1 r2 r3 hr
  go_enter Try.func66, Try.ntmps66
  go_wp2_with fail
  rw [← hX]
  clear hX
  go_loopw [1, 5, 6] (fun vv out i wr => ∃ (k x : Nat) (O : List Int), k ≤ n + 1 ∧ x < n ∧ vv = .int .i64 (x : Int) ∧ i = .int .i64 k ∧ OwnN wr (w.heap.size + 1) out O ∧ Bl X wr ∧ Hid (O.length = k ∧ upF U R (n + 1) (v : Int) = (upF U R (n + 1 - k) (x : Int)).map (· ++ O))) (fun _ _ i _ => n + 1 - (intOf i).toNat)
  case atStart => exact ⟨0, v, [], by omega, hv, rfl, rfl, O0.out, Bl.refl _, Lib.hid ⟨rfl, by simp⟩⟩
  case round =>
    obtain ⟨k, x, O, hk, hx, rfl, rfl, hO, hbx, HH⟩ := hrel
    have OO := Lib.hid hO
    have BB := Lib.hid hbx
    obtain ⟨q0, q1⟩ := BX.out _ hbx
    have hsz := hbx.size
    rw [SX.out] at hsz
    clear hO hbx
    by_cases hlt : k ≤ n
    · have hxl : x < U.length := by have := HN.out; omega
      obtain ⟨g1, o1, rfl, hg1, hc1⟩ := K1.out.cell (by omega)
      have hcx := hc1 x hxl
      clear hc1
      have HRX := RR.out U[x] (List.getElem_mem hxl)
      have HD : dAt U (x : Int) = U[x] := by simp [dAt, hxl]
      generalize U[x] = y at hcx HRX HD
      obtain ⟨A', c', rfl, hc', hi', -, -⟩ := OwnN.shape OO.out
      have HL := HH.out.1
      rw [HL] at OO ⊢
      have P1 := Lib.hid hcx
      have HDY := Lib.hid HD
      have IO := Lib.hid hi'
      have HLL := Lib.hid HL
      have O1 := Lib.hid (show (wr.alloc (.cells #[.int .i64 (x : Int)] 2)).ownsRow (w.heap.size + 1) 2 1 (.slice (some ⟨wr.heap.size, 0, none⟩) 1 1) 1 [.int .i64 (x : Int)] from
        World.ownsRow_lit (base := w.heap.size + 1) (e := 2) (size := 1) wr #[.int .i64 (x : Int)] 1 (by omega) (by unfold maxLen; omega) rfl)
      have EE := Lib.hid HH.out.2
      clear hcx HD hi' HL HH q0 q1
      obtain ⟨q0, q1⟩ := BX.out _ BB.out
      go_wp2_with (at_builtin; refine wpList_append_any _ rfl (.tmp 16) (.tmp 17) _ rfl (w.heap.size + 1) 2 i0 _ 1 8 Try.underlying22 I0.out I1.out I2.out I3.out rfl (by decide) _ 1 [.int .i64 (x : Int)] rfl O1.out wr.heap.size _ _ _ (csI O) rfl (reads_of_cells (CellsAt.bl' IO.out (Nat.le_refl _) (Bl.alloc_ (Bl.refl wr) _)) (by rw [csI_len, HLL.out, Nat.mul_one]) (by decide)) (csI_one' _) (by unfold maxLen; omega) (by omega) (by simp; omega) ?_)
      intro v' w7 hown' hgrow hwh
      have O7 := Lib.hid (show OwnN w7 (w.heap.size + 1) v' ((x : Int) :: O) from by
        unfold OwnN Owns
        rw [show ((x : Int) :: O).length = 1 + k from by rw [List.length_cons, HLL.out, Nat.add_comm]]
        exact hown')
      have B7 := Lib.hid (show Bl X w7 from (BB.out.alloc_ _).grown_ hgrow (fun g hg => by
        have : wr.heap.size = g := by simpa [Value.ownBlock] using hg
        have := SX.out
        omega))
      clear hown' hgrow hwh q0 q1
      obtain ⟨q0, q1⟩ := BX.out _ B7.out
      by_cases hxr : (x : Int) = R
      · have he : ((x : Int) == R) = true := by simpa using hxr
        have HP := Lib.hid (show pathU U R (v : Int) = (x : Int) :: O from by
          unfold pathU
          rw [← PV.out, EE.out, show n + 1 - k = (n - k) + 1 from by omega, upF_root (by omega) hxr]
          rfl)
        clear hxr
        go_wp2
        go_ret
        exact ⟨_, rfl, by rw [HP.out]; exact O7.out.low (by omega), BW.out.trans_ B7.out⟩
      · have he : ((x : Int) == R) = false := by simpa using hxr
        have p1 := ((bcell (BW.out.trans_ B7.out)).1 _ _ hg1).trans P1.out
        have x0 : (0 : Int) ≤ (x : Int) := by omega
        have x1 : (x : Int) < (n : Int) := by omega
        have EN := Lib.hid (show upF U R (n + 1) (v : Int) = (upF U R (n + 1 - (k + 1)) y).map (· ++ ((x : Int) :: O)) from by
          rw [EE.out, show n + 1 - k = (n - k) + 1 from by omega, upF_step (by omega) hxr, HDY.out, show n + 1 - (k + 1) = n - k from by omega, Option.map_map]
          congr 1
          funext P
          simp)
        clear hxr
        by_cases hy : y < 0
        · have HP := Lib.hid (show pathU U R (v : Int) = [] from by
            unfold pathU
            rw [← PV.out, EN.out, upF_neg hy]
            rfl)
          go_wp2
          go_ret
          exact ⟨_, rfl, by rw [HP.out]; exact OwnN.nil_ _ _, BW.out.trans_ B7.out⟩
        · obtain ⟨z, rfl⟩ : ∃ z : Nat, y = z := ⟨y.toNat, by omega⟩
          have hzn : z < n := by omega
          go_wp2
          go_roundw
          case rel => exact ⟨k + 1, z, _, by omega, hzn, rfl, by go_num, O7.out, B7.out, Lib.hid ⟨by rw [List.length_cons, HLL.out], EN.out⟩⟩
          case measure => simp [intOf]; omega
    · have HP := Lib.hid (show pathU U R (v : Int) = [] from by
        unfold pathU
        rw [← PV.out, HH.out.2, show n + 1 - k = 0 from by omega]
        rfl)
      clear HH
      go_wp2
      go_ret
      exact ⟨_, rfl, by rw [HP.out]; exact OwnN.nil_ _ _, BW.out.trans_ BB.out⟩

set_option maxRecDepth 100000 in
set_option maxHeartbeats 1000000 in
theorem specPathIn_any (R v : Int) (A : Option Addr) (n c : Nat) (U : List Int) (hn : n = U.length) (w : World) (hm : n ≤ 1048576) (H1 : IntsAt w w.heap.size A U) :
    Calls Try.prog 14 #[.agg #[.int .i64 R, .slice A n c], .int .i64 v] w (NumsMade (pathInU U R v) w) := by
  have K1 := Lib.hid H1
  have HN := Lib.hid hn
  have BX := Lib.hid (show ∀ wx, Bl (w.alloc (.cells #[.int .i64 R, .slice A n c] 27)) wx → wx.cell? ⟨w.heap.size, 0, none⟩ = some (.int .i64 R) ∧ wx.cell? ⟨w.heap.size, 1, none⟩ = some (.slice A n c) from fun wx hb => box2 hb)
  have BW := Lib.hid (show ∀ wx, Bl (w.alloc (.cells #[.int .i64 R, .slice A n c] 27)) wx → Bl w wx from fun wx hb => (Bl.alloc_ (Bl.refl w) _).trans_ hb)
  have MADE := Lib.hid (show ∀ wx, Bl w wx → NumsMade [] w (.returned (.slice (some ⟨wx.heap.size, 0, none⟩) 0 0)) (wx.alloc (.cells #[] 2)) from fun wx hb =>
    ⟨_, rfl, World.ownsRow_made (base := w.heap.size) (e := 2) (size := 1) wx #[] 0 hb.size (by unfold maxLen; omega) rfl, hb.alloc_ _⟩)
  clear H1 hn
  cases hr : rightU U R with
  | false =>
    have HR := Lib.hid hr
    have HE := Lib.hid (pathInU_no (v := v) (.inl hr))
    clear hr
    go_enter Try.func14, Try.ntmps14
    go_wp2_with fail
    refine (l14Right_any R A n c U HN.out _ hm (K1.out.bl (by repeat' (first | exact Bl.refl _ | with_reducible assumption | with_reducible refine Bl.drew_ ?_ | with_reducible refine Bl.drewN_ ?_ _ | with_reducible refine Bl.alloc_ ?_ _ | with_reducible refine Bl.trans_ ?_ (by assumption) | with_reducible refine Bl.trans_ ?_ (And.left (by assumption)))))).mono ?_
    rintro e w1 ⟨rfl, hb1⟩
    rw [HR.out]
    have MD := Lib.hid (MADE.out w1 (BW.out _ hb1))
    clear MADE
    go_wp2
    go_ret
    rw [HE.out]
    exact MD.out
  | true =>
    have HR := Lib.hid hr
    have hn24 : n ≤ 24 := by have := (rightU_elim hr).1; have := HN.out; omega
    have a1 : IntKind.i64.wrap ((n : Int) - 1) = (n : Int) - 1 := IntWalk.i64_in _ (by omega)
    clear hr
    cases hv : inB v 0 ((n : Int) - 1) with
    | false =>
      have HV := Lib.hid hv
      have HE := Lib.hid (pathInU_no (U := U) (r := R) (v := v) (.inr (by
        rw [decide_eq_false_iff_not]
        unfold inB at hv
        rw [decide_eq_false_iff_not] at hv
        have := HN.out
        omega)))
      clear hv
      go_enter Try.func14, Try.ntmps14
      go_wp2_with fail
      refine (l14Right_any R A n c U HN.out _ hm (K1.out.bl (by repeat' (first | exact Bl.refl _ | with_reducible assumption | with_reducible refine Bl.drew_ ?_ | with_reducible refine Bl.drewN_ ?_ _ | with_reducible refine Bl.alloc_ ?_ _ | with_reducible refine Bl.trans_ ?_ (by assumption) | with_reducible refine Bl.trans_ ?_ (And.left (by assumption)))))).mono ?_
      rintro e w1 ⟨rfl, hb1⟩
      rw [HR.out]
      obtain ⟨q0, q1⟩ := BX.out _ hb1
      have MD := Lib.hid (MADE.out w1 (BW.out _ hb1))
      clear MADE
      go_wp2_with fail
      refine (l1In_any v 0 ((n : Int) - 1) _).mono ?_
      rintro e w2 ⟨rfl, rfl⟩
      rw [HV.out]
      go_wp2
      go_ret
      rw [HE.out]
      exact MD.out
    | true =>
      have HV := Lib.hid hv
      have hvb : 0 ≤ v ∧ v ≤ (n : Int) - 1 := by simpa [inB] using hv
      obtain ⟨x, rfl⟩ : ∃ x : Nat, v = x := ⟨v.toNat, by omega⟩
      have hxn : x < n := by omega
      have HE := Lib.hid (pathInU_yes HR.out (v := (x : Int)) (by have := HN.out; omega))
      clear hv
      go_enter Try.func14, Try.ntmps14
      go_wp2_with fail
      refine (l14Right_any R A n c U HN.out _ hm (K1.out.bl (by repeat' (first | exact Bl.refl _ | with_reducible assumption | with_reducible refine Bl.drew_ ?_ | with_reducible refine Bl.drewN_ ?_ _ | with_reducible refine Bl.alloc_ ?_ _ | with_reducible refine Bl.trans_ ?_ (by assumption) | with_reducible refine Bl.trans_ ?_ (And.left (by assumption)))))).mono ?_
      rintro e w1 ⟨rfl, hb1⟩
      rw [HR.out]
      obtain ⟨q0, q1⟩ := BX.out _ hb1
      go_wp2_with fail
      refine (l1In_any x 0 ((n : Int) - 1) _).mono ?_
      rintro e w2 ⟨rfl, rfl⟩
      rw [HV.out]
      go_wp2_with fail
      refine (l14Path_any R A n c U HN.out x HR.out hxn _ hm (K1.out.bl (BW.out _ hb1))).mono ?_
      rintro e w2 ⟨v2, rfl, hv2, hb2⟩
      have V2 := Lib.hid hv2
      have hs := (BW.out _ hb1).size
      clear hv2 q0 q1
      go_wp2
      go_ret
      rw [HE.out]
      exact ⟨_, rfl, V2.out.low hs, (BW.out _ hb1).trans_ hb2⟩

set_option maxRecDepth 100000 in
set_option maxHeartbeats 2000000 in
theorem specUnder_any (R v : Int) (A : Option Addr) (n c : Nat) (U : List Int) (hn : n = U.length) (w : World) (hm : n ≤ 1048576) (H1 : IntsAt w w.heap.size A U) :
    Calls Try.prog 22 #[.agg #[.int .i64 R, .slice A n c], .int .i64 v] w (NumsMade (underU U R v) w) := by
  obtain ⟨i0, hi, hz0, hz1, hz2⟩ := info_parts infoInt
  have I0 := Lib.hid hi
  have I1 := Lib.hid hz0
  have I2 := Lib.hid hz1
  have I3 := Lib.hid hz2
  have K1 := Lib.hid H1
  have HN := Lib.hid hn
  have BX := Lib.hid (show ∀ wx, Bl (w.alloc (.cells #[.int .i64 R, .slice A n c] 27)) wx → wx.cell? ⟨w.heap.size, 0, none⟩ = some (.int .i64 R) ∧ wx.cell? ⟨w.heap.size, 1, none⟩ = some (.slice A n c) from fun wx hb => box2 hb)
  have BW := Lib.hid (show ∀ wx, Bl (w.alloc (.cells #[.int .i64 R, .slice A n c] 27)) wx → Bl w wx from fun wx hb => (Bl.alloc_ (Bl.refl w) _).trans_ hb)
  obtain ⟨W1, hW1⟩ : ∃ W1, W1 = w.alloc (.cells #[.int .i64 R, .slice A n c] 27) := ⟨_, rfl⟩
  have S1 := Lib.hid (show W1.heap.size = w.heap.size + 1 from by rw [hW1, World.size_alloc])
  have O0 := Lib.hid (show ∀ wx, Bl (W1.alloc (.cells #[] 2)) wx → OwnN wx W1.heap.size (.slice (some ⟨w.heap.size + 1, 0, none⟩) 0 0) [] from fun wx hb => by
    have h := World.ownsRow_made (base := W1.heap.size) (e := 2) (size := 1) W1 #[] 0 (Nat.le_refl _) (by unfold maxLen; omega) rfl
    rw [S1.out] at h ⊢
    exact OwnN.bl h hb)
  rw [← hW1] at BX BW
  clear H1 hn hi hz0 hz1 hz2
  cases hr : rightU U R with
  | false =>
    have HR := Lib.hid hr
    have HE := Lib.hid (underU_no (v := v) hr)
    clear hr
    go_enter Try.func22, Try.ntmps22
    go_wp2_with fail
    rw [← hW1]
    clear hW1
    refine (l14Right_any R A n c U HN.out _ hm (K1.out.bl ((BW.out _ (Bl.refl _)).alloc_ _))).mono ?_
    rintro e w1 ⟨rfl, hb1⟩
    rw [HR.out]
    have s1 := S1.out
    go_wp2
    go_ret
    rw [HE.out]
    exact ⟨_, rfl, (O0.out _ hb1).low (by omega), BW.out _ ((Bl.alloc_ (Bl.refl _) _).trans_ hb1)⟩
  | true =>
    have HR := Lib.hid hr
    have hn24 : n ≤ 24 := by have := (rightU_elim hr).1; have := HN.out; omega
    have a1 : IntKind.i64.wrap ((n : Int) - 1) = (n : Int) - 1 := IntWalk.i64_in _ (by omega)
    clear hr
    cases hv : inB v 0 ((n : Int) - 1) with
    | false =>
      have HV := Lib.hid hv
      have HE := Lib.hid (underU_ask (U := U) (r := R) (v := v) (by
        rw [decide_eq_false_iff_not]
        unfold inB at hv
        rw [decide_eq_false_iff_not] at hv
        have := HN.out
        omega))
      clear hv
      go_enter Try.func22, Try.ntmps22
      go_wp2_with fail
      rw [← hW1]
      clear hW1
      refine (l14Right_any R A n c U HN.out _ hm (K1.out.bl ((BW.out _ (Bl.refl _)).alloc_ _))).mono ?_
      rintro e w1 ⟨rfl, hb1⟩
      rw [HR.out]
      have s1 := S1.out
      obtain ⟨q0, q1⟩ := BX.out _ ((Bl.alloc_ (Bl.refl _) _).trans_ hb1)
      go_wp2_with fail
      refine (l1In_any v 0 ((n : Int) - 1) _).mono ?_
      rintro e w2 ⟨rfl, rfl⟩
      rw [HV.out]
      go_wp2
      go_ret
      rw [HE.out]
      exact ⟨_, rfl, (O0.out _ hb1).low (by omega), BW.out _ ((Bl.alloc_ (Bl.refl _) _).trans_ hb1)⟩
    | true =>
      have HV := Lib.hid hv
      have HE := Lib.hid (underU_yes HR.out (v := v))
      clear hv
      go_enter Try.func22, Try.ntmps22
      go_wp2_with fail
      rw [← hW1]
      clear hW1
      refine (l14Right_any R A n c U HN.out _ hm (K1.out.bl ((BW.out _ (Bl.refl _)).alloc_ _))).mono ?_
      rintro e w1 ⟨rfl, hb1⟩
      rw [HR.out]
      have B1 := Lib.hid (show Bl W1 w1 from (Bl.alloc_ (Bl.refl _) _).trans_ hb1)
      have O1 := Lib.hid (O0.out _ hb1)
      clear hb1 O0
      obtain ⟨q0, q1⟩ := BX.out _ B1.out
      go_wp2_with fail
      refine (l1In_any v 0 ((n : Int) - 1) _).mono ?_
      rintro e w2 ⟨rfl, rfl⟩
      rw [HV.out]
      go_wp2_with fail
      clear q0 q1
      go_loopw [5, 6] (fun out i wr => ∃ k : Nat, k ≤ n ∧ i = .int .i64 k ∧ OwnN wr W1.heap.size out (underK U R v k) ∧ Bl W1 wr) (fun _ i _ => n - (intOf i).toNat)
      case atStart => exact ⟨0, by omega, rfl, by rw [underK_zero]; exact O1.out, B1.out⟩
      case round =>
        clear O1 B1
        obtain ⟨k, hk, rfl, hO, hbl⟩ := hrel
        have OO := Lib.hid hO
        have BB := Lib.hid hbl
        obtain ⟨q0, q1⟩ := BX.out _ hbl
        have hsz := hbl.size
        have hlen := underK_len (U := U) (r := R) (v := v) k
        clear hO hbl
        by_cases hlt : k < n
        · have i1 : (k : Int) < (n : Int) := by omega
          have i0' : (0 : Int) ≤ (k : Int) := by omega
          go_wp2_with fail
          refine (l14Path_any R A n c U HN.out k HR.out hlt _ hm (K1.out.bl (BW.out _ BB.out))).mono ?_
          rintro e w2 ⟨v2, rfl, hv2, hb2⟩
          obtain ⟨A2, c2, rfl, -, hi2, -, -⟩ := OwnN.shape hv2
          obtain ⟨P, hP⟩ : ∃ P, P = pathU U R (k : Int) := ⟨_, rfl⟩
          have hp25 : P.length ≤ 25 := by rw [hP]; exact pathU_len U R k
          rw [← hP] at hi2 ⊢
          have YES := Lib.hid (fun h => underK_yes (U := U) (r := R) (v := v) (k := k) h)
          have NO := Lib.hid (fun h => underK_no (U := U) (r := R) (v := v) (k := k) h)
          rw [← hP] at YES NO
          obtain ⟨kp, hkp⟩ : ∃ kp, kp = P.length := ⟨_, rfl⟩
          rw [← hkp] at hp25 ⊢
          have HKP := Lib.hid hkp
          have HI2 := Lib.hid hi2
          have B2 := Lib.hid hb2
          clear hv2 hi2 hP hkp hb2 q0 q1
          go_wp2_with fail
          refine (l1Has_any A2 c2 P kp HKP.out v _ (by omega) HI2.out).mono ?_
          rintro e w3 ⟨rfl, hb3⟩
          have B3 := Lib.hid (BB.out.trans_ (B2.out.trans_ hb3))
          have O3 := Lib.hid (OO.out.bl (B2.out.trans_ hb3))
          clear hb3 OO
          cases hd : decide (v ∈ P) with
          | true =>
            obtain ⟨m, hm9⟩ : ∃ m, m = (underK U R v k).length := ⟨_, rfl⟩
            have HM := Lib.hid hm9
            have hmk : m ≤ 24 := by omega
            have OW := Lib.hid (show w3.ownsRow W1.heap.size 2 1 u5 m (csI (underK U R v k)) from by rw [hm9]; exact O3.out)
            have HY := Lib.hid (YES.out hd)
            have s3 := B3.out.size
            clear hm9 YES NO hd
            go_wp2_with (at_builtin; refine wpList_append_any _ rfl (.tmp 33) (.tmp 35) _ rfl W1.heap.size 2 i0 _ 1 8 Try.underlying22 I0.out I1.out I2.out I3.out rfl (by decide) _ m (csI (underK U R v k)) rfl (World.ownsRow.alloc OW.out _) (w3.heap.size + 1) (some ⟨w3.heap.size, 0, none⟩) 1 1 [.int .i64 (k : Int)] rfl ?c0 (by simp [Value.oneCell']) (by unfold maxLen; omega) (by omega) (by simp; omega) ?_)
            case c0 =>
              refine ⟨rfl, fun _ => ⟨_, rfl, by show w3.heap.size < w3.heap.size + 1; omega, fun x u hj => ?_⟩⟩
              match x, hj with
              | 0, hj => simp at hj; subst hj; simp [Addr.add, go_sem]
              | (x + 1), hj => simp at hj
            intro v' w8 hown' hgrow hwh
            have O8 := Lib.hid (OwnN.snoc (V := underK U R v k) (x := (k : Int)) (n := m) HM.out hown')
            rw [← HY.out] at O8
            have B8 := Lib.hid (show Bl W1 w8 from (B3.out.alloc_ _).grown_ hgrow (fun g hg => (Owns.lt O3.out g hg).1))
            clear hown' hgrow hwh
            go_wp2
            go_roundw
            case rel => exact ⟨k + 1, by omega, by go_num, O8.out, B8.out⟩
            case measure => simp [intOf]; omega
          | false =>
            have HY := Lib.hid (NO.out hd)
            clear YES NO hd
            go_wp2
            go_roundw
            case rel => exact ⟨k + 1, by omega, by go_num, by rw [HY.out]; exact O3.out, B3.out⟩
            case measure => simp [intOf]; omega
        · obtain rfl : k = n := by omega
          go_wp2
          go_ret
          rw [HE.out, ← HN.out]
          exact ⟨_, rfl, OO.out.low (by rw [S1.out]; omega), BW.out _ BB.out⟩

end Go.Proofs.Ytffjpfanmnkmgaa
