/-
  What is proved here: the weight of an arc, as the model looks it up; the binary search finds the place of an arc in the arcs of a right graph; toArcS and toGraph make new memory that reads as what they are handed; the walk of the exact law on GraphOk: at every graph that can be read it returns true and leaves what was there as it was; the walk of the exact law on WeightOf: at every graph and all nodes that can be read it returns true and leaves what was there as it was; the arcs that leave a node, as the model and as the code gather them. No conditions beyond those that each theorem states.
-/
import Derived.Test.YtlddileiecnkjaaV5A6
import Derived.Test.YtlddileiecnkjaaV5G02
import Derived.Laws.MakeOwn
import Derived.Deep.OwnRows
import Derived.Laws.OwnMore
set_option linter.unusedSimpArgs false
set_option linter.unusedVariables false
namespace Go.Proofs.Ytlddileiecnkjaa
open Go.RowKit

/-- Does an arc have these ends? -/
def isEnds (u v : Int) (a : Arc3) : Bool := a.1 == u && a.2.1 == v






end Go.Proofs.Ytlddileiecnkjaa

set_option linter.unusedSimpArgs false
set_option linter.unusedVariables false
namespace Go.Proofs.Ytlddileiecnkjaa
open Go.RowKit

theorem ahead_trans {a b c d e f : Int} (h : aheadB a b c d = true) (k : aheadB c d e f = true) : aheadB a b e f = true := by
  simp only [aheadB, decide_eq_true_eq] at *
  omega
theorem ends_neg (a b u v : Int) : decide (endsI a b u v < 0) = aheadB a b u v := by
  rw [Bool.eq_iff_iff]
  simp only [decide_eq_true_eq, aheadB]
  unfold endsI orI cmpI
  split <;> split <;> (try split) <;> (try split) <;> (try split) <;> omega
theorem ends_zero (a b u v : Int) : (endsI a b u v == 0) = (a == u && b == v) := by
  rw [Bool.eq_iff_iff]
  simp only [beq_iff_eq, Bool.and_eq_true]
  unfold endsI orI cmpI
  split <;> split <;> (try split) <;> (try split) <;> (try split) <;> omega

/-- The arcs are in order, no two of the same ends. -/
def SortedA (L : List Arc3) : Prop := ∀ i j (hij : i < j) (hj : j < L.length), aheadB (L[i]'(by omega)).1 (L[i]'(by omega)).2.1 L[j].1 L[j].2.1 = true
theorem firstB_all {n : Int} {L : List Arc3} : ∀ {m}, firstB n L m = true → ∀ k (h : k < L.length), k < m → stepB n L k h = true
  | 0, _, _, _, h => absurd h (by omega)
  | m + 1, hm, k, h, hk => by
    unfold firstB at hm
    rw [Bool.and_eq_true] at hm
    rcases Nat.lt_or_ge k m with h' | h'
    · exact firstB_all hm.1 k h h'
    · obtain rfl : k = m := by omega
      have := hm.2
      rwa [dif_pos h] at this
theorem sorted_of_ok {n : Int} {L : List Arc3} (h : okB n L = true) : SortedA L := by
  unfold okB at h
  rw [Bool.and_eq_true] at h
  have adj : ∀ i (hi : i + 1 < L.length), aheadB (L[i]'(by omega)).1 (L[i]'(by omega)).2.1 L[i+1].1 L[i+1].2.1 = true := fun i hi => by
    have := firstB_all h.2 (i + 1) hi hi
    unfold stepB at this
    rw [Bool.and_eq_true, dif_pos (by omega)] at this
    exact this.2
  intro i j hij
  induction j with
  | zero => omega
  | succ j ih =>
    intro hj
    rcases Nat.lt_or_ge i j with h' | h'
    · exact ahead_trans (ih h' (by omega)) (adj j hj)
    · obtain rfl : i = j := by omega
      exact adj i hj

/-- Where the search ends: all ahead of p are less, none from p on is; f: at p is an arc of these ends. -/
def BsAt (L : List Arc3) (u v : Int) (p : Nat) (f : Bool) : Prop :=
  p ≤ L.length ∧ (∀ t (h : t < L.length), t < p → aheadB L[t].1 L[t].2.1 u v = true) ∧ (∀ t (h : t < L.length), p ≤ t → aheadB L[t].1 L[t].2.1 u v = false) ∧
    f = (if h : p < L.length then isEnds u v L[p] else false)
/-- What the search leaves. -/
def BsPost (L : List Arc3) (u v : Int) (w : World) (e : Ending) (w' : World) : Prop := ∃ (p : Nat) (f : Bool), BsAt L u v p f ∧ e = .returned (.tuple #[.int .i64 p, .bool f]) ∧ Bl w w'


set_option maxHeartbeats 2000000 in
theorem bs_any (u v z0 : Int) (A : Option Addr) (n c : Nat) (L : List Arc3) (hn : n = L.length) (w : World) (hm : n ≤ 1048576) (hs : SortedA L) (H1 : ArcsAt w w.heap.size A L) :
    Calls Try.prog 160 #[.slice A n c, .agg #[.int .i64 u, .int .i64 v, .int .i64 z0], .func (.func 130) #[] #[]] w (BsPost L u v w) := by
  have K1 := Lib.hid H1
  have HN := Lib.hid hn
  have HS := Lib.hid hs
  clear H1 hn hs
  go_enter Try.func160, Try.ntmps160
  go_wp2
  go_loopw [9, 10] (fun x y wr => ∃ i j : Nat, i ≤ j ∧ j ≤ n ∧ x = .int .i64 i ∧ y = .int .i64 j ∧ Bl (w.alloc (.cells #[.int .i64 u, .int .i64 v, .int .i64 z0] 146)) wr ∧
      (∀ t (h : t < L.length), t < i → aheadB L[t].1 L[t].2.1 u v = true) ∧ (∀ t (h : t < L.length), j ≤ t → aheadB L[t].1 L[t].2.1 u v = false)) (fun x y _ => (intOf y).toNat - (intOf x).toNat)
  case atStart => exact ⟨0, n, by omega, by omega, rfl, rfl, Bl.refl _, fun t h h' => absurd h' (by omega), fun t h h' => absurd h (by have := HN.out; omega)⟩
  case round =>
    obtain ⟨i, j, hij, hjn, rfl, rfl, hbl, hlo, hhi⟩ := hrel
    have LO := Lib.hid hlo
    have HI := Lib.hid hhi
    clear hlo hhi
    by_cases hlt : i < j
    · have hmn : (i + j) / 2 < n := by omega
      have hkl : (i + j) / 2 < L.length := by have := HN.out; omega
      obtain ⟨g1, o1, rfl, hg1, hc1⟩ := K1.out (by omega)
      obtain ⟨p1, p2, p3⟩ := hc1 ((i + j) / 2) hkl
      clear hc1
      generalize hx : L[((i + j) / 2)].1 = x at p1
      generalize hy : L[((i + j) / 2)].2.1 = y at p2
      generalize hz : L[((i + j) / 2)].2.2 = z at p3
      have HX := Lib.hid hx
      have HY := Lib.hid hy
      clear hx hy hz
      have HSH := Lib.hid (show ∀ wx, Bl (w.alloc (.cells #[.int .i64 u, .int .i64 v, .int .i64 z0] 146)) wx → Bl (w.alloc (.cells #[.int .i64 u, .int .i64 v, .int .i64 z0] 146)) wx ∧ wx.cell? ⟨w.heap.size, 0, none⟩ = some (.int .i64 u) ∧ wx.cell? ⟨w.heap.size, 1, none⟩ = some (.int .i64 v) ∧ wx.cell? ⟨w.heap.size, 2, none⟩ = some (.int .i64 z0) ∧ wx.cell? ⟨g1, o1 + ((i + j) / 2) * 3, none⟩ = some (.int .i64 x) ∧ wx.cell? ⟨g1, o1 + ((i + j) / 2) * 3 + 1, none⟩ = some (.int .i64 y) ∧ wx.cell? ⟨g1, o1 + ((i + j) / 2) * 3 + 2, none⟩ = some (.int .i64 z) from fun wx hb => by
        obtain ⟨b0, b1, b2⟩ := box3 hb
        have hc := (bcell ((Bl.alloc_ (Bl.refl w) _).trans_ hb)).1
        exact ⟨hb, b0, b1, b2, (hc _ _ hg1).trans p1, (hc _ _ hg1).trans p2, (hc _ _ hg1).trans p3⟩)
      clear p1 p2 p3
      have a1 : (0 : Int) ≤ ((i : Int) + (j : Int)) / 2 := by omega
      have a2 : ((i : Int) + (j : Int)) / 2 < (n : Int) := by omega
      have a3 : (((i : Int) + (j : Int)) / 2).toNat = (i + j) / 2 := by omega
      by_cases hah : aheadB x y u v = true
      · have hd : decide (endsI x y u v < 0) = true := by rw [ends_neg]; exact hah
        go_wp2
        refine wp_region_held_drew (S := fun wx => Bl (w.alloc (.cells #[.int .i64 u, .int .i64 v, .int .i64 z0] 146)) wx ∧ wx.cell? ⟨w.heap.size, 0, none⟩ = some (.int .i64 u) ∧ wx.cell? ⟨w.heap.size, 1, none⟩ = some (.int .i64 v) ∧ wx.cell? ⟨w.heap.size, 2, none⟩ = some (.int .i64 z0) ∧ wx.cell? ⟨g1, o1 + ((i + j) / 2) * 3, none⟩ = some (.int .i64 x) ∧ wx.cell? ⟨g1, o1 + ((i + j) / 2) * 3 + 1, none⟩ = some (.int .i64 y) ∧ wx.cell? ⟨g1, o1 + ((i + j) / 2) * 3 + 2, none⟩ = some (.int .i64 z)) (by kernel_rfl) ?_ (fun hHeld => ?_)
        · (exact HSH.out _ (by repeat' (first | exact Bl.refl _ | with_reducible assumption | with_reducible refine Bl.drew_ ?_ | with_reducible refine Bl.drewN_ ?_ _ | with_reducible refine Bl.alloc_ ?_ _ | with_reducible refine Bl.trans_ ?_ (by assumption) | with_reducible refine Bl.trans_ ?_ (And.left (by assumption)))))
        refine wpAnyH_take (i := 0) (v := ?_) rfl (by kernel_rfl) (by kernel_rfl) (by kernel_rfl) (fun _ _ _ h => h) (Or.inl ⟨by kernel_rfl, ?_⟩) (by assumption) ?_
        rotate_left
        · (intro wx hSw; (try dsimp only at hSw); go_simp; try (with_reducible rfl))
        try simp only [Act.put, List.getElem_toArray, List.getElem_cons_succ, List.getElem_cons_zero, List.setIfInBounds_toArray, List.set_cons_zero, List.set_cons_succ]
        refine wpAnyH_take (i := 1) (v := ?_) rfl (by kernel_rfl) (by kernel_rfl) (by kernel_rfl) (fun _ _ _ h => h) (Or.inl ⟨by kernel_rfl, ?_⟩) (by assumption) ?_
        rotate_left
        · (intro wx hSw; (try dsimp only at hSw); go_simp; try (with_reducible rfl))
        try simp only [Act.put, List.getElem_toArray, List.getElem_cons_succ, List.getElem_cons_zero, List.setIfInBounds_toArray, List.set_cons_zero, List.set_cons_succ]
        refine wpAnyH_take (i := 2) (v := ?_) rfl (by kernel_rfl) (by kernel_rfl) (by kernel_rfl) (fun _ _ _ h => h) (Or.inl ⟨by kernel_rfl, ?_⟩) (by assumption) ?_
        rotate_left
        · (intro wx hSw; (try dsimp only at hSw); go_simp; try (with_reducible rfl))
        try simp only [Act.put, List.getElem_toArray, List.getElem_cons_succ, List.getElem_cons_zero, List.setIfInBounds_toArray, List.set_cons_zero, List.set_cons_succ]
        refine wpAnyH_take (i := 3) (v := ?_) rfl (by kernel_rfl) (by kernel_rfl) (by kernel_rfl) (fun _ _ _ h => h) (Or.inl ⟨by kernel_rfl, ?_⟩) (by assumption) ?_
        rotate_left
        · (intro wx hSw; (try dsimp only at hSw); go_simp; try (with_reducible rfl))
        try simp only [Act.put, List.getElem_toArray, List.getElem_cons_succ, List.getElem_cons_zero, List.setIfInBounds_toArray, List.set_cons_zero, List.set_cons_succ]
        refine wpAnyH_take (i := 4) (v := ?_) rfl (by kernel_rfl) (by kernel_rfl) (by kernel_rfl) (fun _ _ _ h => h) (Or.inl ⟨by kernel_rfl, ?_⟩) (by assumption) ?_
        rotate_left
        · (intro wx hSw; (try dsimp only at hSw); go_simp; try (with_reducible rfl))
        try simp only [Act.put, List.getElem_toArray, List.getElem_cons_succ, List.getElem_cons_zero, List.setIfInBounds_toArray, List.set_cons_zero, List.set_cons_succ]
        refine wpAnyH_take (i := 5) (v := ?_) rfl (by kernel_rfl) (by kernel_rfl) (by kernel_rfl) (fun _ _ _ h => h) (Or.inl ⟨by kernel_rfl, ?_⟩) (by assumption) ?_
        rotate_left
        · (intro wx hSw; (try dsimp only at hSw); go_simp; try (with_reducible rfl))
        try simp only [Act.put, List.getElem_toArray, List.getElem_cons_succ, List.getElem_cons_zero, List.setIfInBounds_toArray, List.set_cons_zero, List.set_cons_succ]
        refine wpAnyH_ready (rs := [6]) (by kernel_rfl) (by simp) ?_
        refine AllReadyH.cons rfl (fun K hK => ?_) AllReadyH.nil
        go_simp
        (go_at_call 130; refine (ends_any _ _ _ _ _ _ _).mono ?_; rintro e w' ⟨rfl, hb⟩)
        try (go_wp2_with fail)
        refine hK.out _ _ ?_ (fun hHeld => ?_)
        · (exact HSH.out _ (by repeat' (first | exact Bl.refl _ | with_reducible assumption | with_reducible refine Bl.drew_ ?_ | with_reducible refine Bl.drewN_ ?_ _ | with_reducible refine Bl.alloc_ ?_ _ | with_reducible refine Bl.trans_ ?_ (by assumption) | with_reducible refine Bl.trans_ ?_ (And.left (by assumption)))))
        clear hK K
        try simp only [Act.put, List.getElem_toArray, List.getElem_cons_succ, List.getElem_cons_zero, List.setIfInBounds_toArray, List.set_cons_zero, List.set_cons_succ]
        refine wpAnyH_take (i := 7) (v := ?_) rfl (by kernel_rfl) (by kernel_rfl) (by kernel_rfl) (fun _ _ _ h => h) (Or.inl ⟨by kernel_rfl, ?_⟩) (by assumption) ?_
        rotate_left
        · (intro wx hSw; (try dsimp only at hSw); go_simp; try (with_reducible rfl))
        try simp only [Act.put, List.getElem_toArray, List.getElem_cons_succ, List.getElem_cons_zero, List.setIfInBounds_toArray, List.set_cons_zero, List.set_cons_succ]
        refine wpAnyH_done (by kernel_rfl) ?_ _
        clear a1 a2 a3
        go_wp2
        go_roundw
        case rel =>
          refine ⟨(i + j) / 2 + 1, j, by omega, hjn, by go_num, rfl, (by repeat' (first | exact Bl.refl _ | with_reducible assumption | with_reducible refine Bl.drew_ ?_ | with_reducible refine Bl.drewN_ ?_ _ | with_reducible refine Bl.alloc_ ?_ _ | with_reducible refine Bl.trans_ ?_ (by assumption) | with_reducible refine Bl.trans_ ?_ (And.left (by assumption)))), fun t h ht => ?_, HI.out⟩
          rcases Nat.lt_or_ge t ((i + j) / 2) with h' | h'
          · have := HS.out t ((i + j) / 2) h' hkl
            rw [HX.out, HY.out] at this
            exact ahead_trans this hah
          · obtain rfl : t = (i + j) / 2 := by omega
            rw [HX.out, HY.out]
            exact hah
        case measure => simp [intOf]; omega
      · have hah' : aheadB x y u v = false := by simpa using hah
        have hd : decide (endsI x y u v < 0) = false := by rw [ends_neg]; exact hah'
        clear hah
        go_wp2
        refine wp_region_held_drew (S := fun wx => Bl (w.alloc (.cells #[.int .i64 u, .int .i64 v, .int .i64 z0] 146)) wx ∧ wx.cell? ⟨w.heap.size, 0, none⟩ = some (.int .i64 u) ∧ wx.cell? ⟨w.heap.size, 1, none⟩ = some (.int .i64 v) ∧ wx.cell? ⟨w.heap.size, 2, none⟩ = some (.int .i64 z0) ∧ wx.cell? ⟨g1, o1 + ((i + j) / 2) * 3, none⟩ = some (.int .i64 x) ∧ wx.cell? ⟨g1, o1 + ((i + j) / 2) * 3 + 1, none⟩ = some (.int .i64 y) ∧ wx.cell? ⟨g1, o1 + ((i + j) / 2) * 3 + 2, none⟩ = some (.int .i64 z)) (by kernel_rfl) ?_ (fun hHeld => ?_)
        · (exact HSH.out _ (by repeat' (first | exact Bl.refl _ | with_reducible assumption | with_reducible refine Bl.drew_ ?_ | with_reducible refine Bl.drewN_ ?_ _ | with_reducible refine Bl.alloc_ ?_ _ | with_reducible refine Bl.trans_ ?_ (by assumption) | with_reducible refine Bl.trans_ ?_ (And.left (by assumption)))))
        refine wpAnyH_take (i := 0) (v := ?_) rfl (by kernel_rfl) (by kernel_rfl) (by kernel_rfl) (fun _ _ _ h => h) (Or.inl ⟨by kernel_rfl, ?_⟩) (by assumption) ?_
        rotate_left
        · (intro wx hSw; (try dsimp only at hSw); go_simp; try (with_reducible rfl))
        try simp only [Act.put, List.getElem_toArray, List.getElem_cons_succ, List.getElem_cons_zero, List.setIfInBounds_toArray, List.set_cons_zero, List.set_cons_succ]
        refine wpAnyH_take (i := 1) (v := ?_) rfl (by kernel_rfl) (by kernel_rfl) (by kernel_rfl) (fun _ _ _ h => h) (Or.inl ⟨by kernel_rfl, ?_⟩) (by assumption) ?_
        rotate_left
        · (intro wx hSw; (try dsimp only at hSw); go_simp; try (with_reducible rfl))
        try simp only [Act.put, List.getElem_toArray, List.getElem_cons_succ, List.getElem_cons_zero, List.setIfInBounds_toArray, List.set_cons_zero, List.set_cons_succ]
        refine wpAnyH_take (i := 2) (v := ?_) rfl (by kernel_rfl) (by kernel_rfl) (by kernel_rfl) (fun _ _ _ h => h) (Or.inl ⟨by kernel_rfl, ?_⟩) (by assumption) ?_
        rotate_left
        · (intro wx hSw; (try dsimp only at hSw); go_simp; try (with_reducible rfl))
        try simp only [Act.put, List.getElem_toArray, List.getElem_cons_succ, List.getElem_cons_zero, List.setIfInBounds_toArray, List.set_cons_zero, List.set_cons_succ]
        refine wpAnyH_take (i := 3) (v := ?_) rfl (by kernel_rfl) (by kernel_rfl) (by kernel_rfl) (fun _ _ _ h => h) (Or.inl ⟨by kernel_rfl, ?_⟩) (by assumption) ?_
        rotate_left
        · (intro wx hSw; (try dsimp only at hSw); go_simp; try (with_reducible rfl))
        try simp only [Act.put, List.getElem_toArray, List.getElem_cons_succ, List.getElem_cons_zero, List.setIfInBounds_toArray, List.set_cons_zero, List.set_cons_succ]
        refine wpAnyH_take (i := 4) (v := ?_) rfl (by kernel_rfl) (by kernel_rfl) (by kernel_rfl) (fun _ _ _ h => h) (Or.inl ⟨by kernel_rfl, ?_⟩) (by assumption) ?_
        rotate_left
        · (intro wx hSw; (try dsimp only at hSw); go_simp; try (with_reducible rfl))
        try simp only [Act.put, List.getElem_toArray, List.getElem_cons_succ, List.getElem_cons_zero, List.setIfInBounds_toArray, List.set_cons_zero, List.set_cons_succ]
        refine wpAnyH_take (i := 5) (v := ?_) rfl (by kernel_rfl) (by kernel_rfl) (by kernel_rfl) (fun _ _ _ h => h) (Or.inl ⟨by kernel_rfl, ?_⟩) (by assumption) ?_
        rotate_left
        · (intro wx hSw; (try dsimp only at hSw); go_simp; try (with_reducible rfl))
        try simp only [Act.put, List.getElem_toArray, List.getElem_cons_succ, List.getElem_cons_zero, List.setIfInBounds_toArray, List.set_cons_zero, List.set_cons_succ]
        refine wpAnyH_ready (rs := [6]) (by kernel_rfl) (by simp) ?_
        refine AllReadyH.cons rfl (fun K hK => ?_) AllReadyH.nil
        go_simp
        (go_at_call 130; refine (ends_any _ _ _ _ _ _ _).mono ?_; rintro e w' ⟨rfl, hb⟩)
        try (go_wp2_with fail)
        refine hK.out _ _ ?_ (fun hHeld => ?_)
        · (exact HSH.out _ (by repeat' (first | exact Bl.refl _ | with_reducible assumption | with_reducible refine Bl.drew_ ?_ | with_reducible refine Bl.drewN_ ?_ _ | with_reducible refine Bl.alloc_ ?_ _ | with_reducible refine Bl.trans_ ?_ (by assumption) | with_reducible refine Bl.trans_ ?_ (And.left (by assumption)))))
        clear hK K
        try simp only [Act.put, List.getElem_toArray, List.getElem_cons_succ, List.getElem_cons_zero, List.setIfInBounds_toArray, List.set_cons_zero, List.set_cons_succ]
        refine wpAnyH_take (i := 7) (v := ?_) rfl (by kernel_rfl) (by kernel_rfl) (by kernel_rfl) (fun _ _ _ h => h) (Or.inl ⟨by kernel_rfl, ?_⟩) (by assumption) ?_
        rotate_left
        · (intro wx hSw; (try dsimp only at hSw); go_simp; try (with_reducible rfl))
        try simp only [Act.put, List.getElem_toArray, List.getElem_cons_succ, List.getElem_cons_zero, List.setIfInBounds_toArray, List.set_cons_zero, List.set_cons_succ]
        refine wpAnyH_done (by kernel_rfl) ?_ _
        clear a1 a2 a3
        go_wp2
        go_roundw
        case rel =>
          refine ⟨i, (i + j) / 2, by omega, by omega, rfl, by go_num, (by repeat' (first | exact Bl.refl _ | with_reducible assumption | with_reducible refine Bl.drew_ ?_ | with_reducible refine Bl.drewN_ ?_ _ | with_reducible refine Bl.alloc_ ?_ _ | with_reducible refine Bl.trans_ ?_ (by assumption) | with_reducible refine Bl.trans_ ?_ (And.left (by assumption)))), LO.out, fun t h ht => ?_⟩
          rcases Nat.lt_or_ge ((i + j) / 2) t with h' | h'
          · have hh := HS.out ((i + j) / 2) t h' h
            rw [HX.out, HY.out] at hh
            cases ha : aheadB L[t].1 L[t].2.1 u v with
            | false => rfl
            | true => rw [ahead_trans hh ha] at hah'; cases hah'
          · obtain rfl : t = (i + j) / 2 := by omega
            rw [HX.out, HY.out]
            exact hah'
        case measure => simp [intOf]; omega
    · obtain rfl : i = j := by omega
      by_cases hn' : i < n
      · have hkl : i < L.length := by have := HN.out; omega
        obtain ⟨g1, o1, rfl, hg1, hc1⟩ := K1.out (by omega)
        obtain ⟨p1, p2, p3⟩ := hc1 i hkl
        clear hc1
        generalize hx : L[i].1 = x at p1
        generalize hy : L[i].2.1 = y at p2
        generalize hz : L[i].2.2 = z at p3
        have HX := Lib.hid hx
        have HY := Lib.hid hy
        clear hx hy hz
        have HSH := Lib.hid (show ∀ wx, Bl (w.alloc (.cells #[.int .i64 u, .int .i64 v, .int .i64 z0] 146)) wx → Bl (w.alloc (.cells #[.int .i64 u, .int .i64 v, .int .i64 z0] 146)) wx ∧ wx.cell? ⟨w.heap.size, 0, none⟩ = some (.int .i64 u) ∧ wx.cell? ⟨w.heap.size, 1, none⟩ = some (.int .i64 v) ∧ wx.cell? ⟨w.heap.size, 2, none⟩ = some (.int .i64 z0) ∧ wx.cell? ⟨g1, o1 + i * 3, none⟩ = some (.int .i64 x) ∧ wx.cell? ⟨g1, o1 + i * 3 + 1, none⟩ = some (.int .i64 y) ∧ wx.cell? ⟨g1, o1 + i * 3 + 2, none⟩ = some (.int .i64 z) from fun wx hb => by
          obtain ⟨b0, b1, b2⟩ := box3 hb
          have hc := (bcell ((Bl.alloc_ (Bl.refl w) _).trans_ hb)).1
          exact ⟨hb, b0, b1, b2, (hc _ _ hg1).trans p1, (hc _ _ hg1).trans p2, (hc _ _ hg1).trans p3⟩)
        clear p1 p2 p3
        have hd := ends_zero x y u v
        have h0 : decide ((i : Int) < (n : Int)) = true := by simp; omega
        go_wp2
        refine wp_region_held_drew (S := fun wx => Bl (w.alloc (.cells #[.int .i64 u, .int .i64 v, .int .i64 z0] 146)) wx ∧ wx.cell? ⟨w.heap.size, 0, none⟩ = some (.int .i64 u) ∧ wx.cell? ⟨w.heap.size, 1, none⟩ = some (.int .i64 v) ∧ wx.cell? ⟨w.heap.size, 2, none⟩ = some (.int .i64 z0) ∧ wx.cell? ⟨g1, o1 + i * 3, none⟩ = some (.int .i64 x) ∧ wx.cell? ⟨g1, o1 + i * 3 + 1, none⟩ = some (.int .i64 y) ∧ wx.cell? ⟨g1, o1 + i * 3 + 2, none⟩ = some (.int .i64 z)) (by kernel_rfl) ?_ (fun hHeld => ?_)
        · (exact HSH.out _ (by repeat' (first | exact Bl.refl _ | with_reducible assumption | with_reducible refine Bl.drew_ ?_ | with_reducible refine Bl.drewN_ ?_ _ | with_reducible refine Bl.alloc_ ?_ _ | with_reducible refine Bl.trans_ ?_ (by assumption) | with_reducible refine Bl.trans_ ?_ (And.left (by assumption)))))
        refine wpAnyH_take (i := 0) (v := ?_) rfl (by kernel_rfl) (by kernel_rfl) (by kernel_rfl) (fun _ _ _ h => h) (Or.inl ⟨by kernel_rfl, ?_⟩) (by assumption) ?_
        rotate_left
        · (intro wx hSw; (try dsimp only at hSw); go_simp; try (with_reducible rfl))
        try simp only [Act.put, List.getElem_toArray, List.getElem_cons_succ, List.getElem_cons_zero, List.setIfInBounds_toArray, List.set_cons_zero, List.set_cons_succ]
        refine wpAnyH_take (i := 1) (v := ?_) rfl (by kernel_rfl) (by kernel_rfl) (by kernel_rfl) (fun _ _ _ h => h) (Or.inl ⟨by kernel_rfl, ?_⟩) (by assumption) ?_
        rotate_left
        · (intro wx hSw; (try dsimp only at hSw); go_simp; try (with_reducible rfl))
        try simp only [Act.put, List.getElem_toArray, List.getElem_cons_succ, List.getElem_cons_zero, List.setIfInBounds_toArray, List.set_cons_zero, List.set_cons_succ]
        refine wpAnyH_take (i := 2) (v := ?_) rfl (by kernel_rfl) (by kernel_rfl) (by kernel_rfl) (fun _ _ _ h => h) (Or.inl ⟨by kernel_rfl, ?_⟩) (by assumption) ?_
        rotate_left
        · (intro wx hSw; (try dsimp only at hSw); go_simp; try (with_reducible rfl))
        try simp only [Act.put, List.getElem_toArray, List.getElem_cons_succ, List.getElem_cons_zero, List.setIfInBounds_toArray, List.set_cons_zero, List.set_cons_succ]
        refine wpAnyH_take (i := 3) (v := ?_) rfl (by kernel_rfl) (by kernel_rfl) (by kernel_rfl) (fun _ _ _ h => h) (Or.inl ⟨by kernel_rfl, ?_⟩) (by assumption) ?_
        rotate_left
        · (intro wx hSw; (try dsimp only at hSw); go_simp; try (with_reducible rfl))
        try simp only [Act.put, List.getElem_toArray, List.getElem_cons_succ, List.getElem_cons_zero, List.setIfInBounds_toArray, List.set_cons_zero, List.set_cons_succ]
        refine wpAnyH_take (i := 4) (v := ?_) rfl (by kernel_rfl) (by kernel_rfl) (by kernel_rfl) (fun _ _ _ h => h) (Or.inl ⟨by kernel_rfl, ?_⟩) (by assumption) ?_
        rotate_left
        · (intro wx hSw; (try dsimp only at hSw); go_simp; try (with_reducible rfl))
        try simp only [Act.put, List.getElem_toArray, List.getElem_cons_succ, List.getElem_cons_zero, List.setIfInBounds_toArray, List.set_cons_zero, List.set_cons_succ]
        refine wpAnyH_take (i := 5) (v := ?_) rfl (by kernel_rfl) (by kernel_rfl) (by kernel_rfl) (fun _ _ _ h => h) (Or.inl ⟨by kernel_rfl, ?_⟩) (by assumption) ?_
        rotate_left
        · (intro wx hSw; (try dsimp only at hSw); go_simp; try (with_reducible rfl))
        try simp only [Act.put, List.getElem_toArray, List.getElem_cons_succ, List.getElem_cons_zero, List.setIfInBounds_toArray, List.set_cons_zero, List.set_cons_succ]
        refine wpAnyH_take (i := 6) (v := ?_) rfl (by kernel_rfl) (by kernel_rfl) (by kernel_rfl) (fun _ _ _ h => h) (Or.inl ⟨by kernel_rfl, ?_⟩) (by assumption) ?_
        rotate_left
        · (intro wx hSw; (try dsimp only at hSw); go_simp; try (with_reducible rfl))
        try simp only [Act.put, List.getElem_toArray, List.getElem_cons_succ, List.getElem_cons_zero, List.setIfInBounds_toArray, List.set_cons_zero, List.set_cons_succ]
        refine wpAnyH_take (i := 7) (v := ?_) rfl (by kernel_rfl) (by kernel_rfl) (by kernel_rfl) (fun _ _ _ h => h) (Or.inl ⟨by kernel_rfl, ?_⟩) (by assumption) ?_
        rotate_left
        · (intro wx hSw; (try dsimp only at hSw); go_simp; try (with_reducible rfl))
        try simp only [Act.put, List.getElem_toArray, List.getElem_cons_succ, List.getElem_cons_zero, List.setIfInBounds_toArray, List.set_cons_zero, List.set_cons_succ]
        refine wpAnyH_take (i := 8) (v := ?_) rfl (by kernel_rfl) (by kernel_rfl) (by kernel_rfl) (fun _ _ _ h => h) (Or.inl ⟨by kernel_rfl, ?_⟩) (by assumption) ?_
        rotate_left
        · (intro wx hSw; (try dsimp only at hSw); go_simp; try (with_reducible rfl))
        try simp only [Act.put, List.getElem_toArray, List.getElem_cons_succ, List.getElem_cons_zero, List.setIfInBounds_toArray, List.set_cons_zero, List.set_cons_succ]
        refine wpAnyH_take (i := 9) (v := ?_) rfl (by kernel_rfl) (by kernel_rfl) (by kernel_rfl) (fun _ _ _ h => h) (Or.inl ⟨by kernel_rfl, ?_⟩) (by assumption) ?_
        rotate_left
        · (intro wx hSw; (try dsimp only at hSw); go_simp; try (with_reducible rfl))
        try simp only [Act.put, List.getElem_toArray, List.getElem_cons_succ, List.getElem_cons_zero, List.setIfInBounds_toArray, List.set_cons_zero, List.set_cons_succ]
        refine wpAnyH_take (i := 10) (v := ?_) rfl (by kernel_rfl) (by kernel_rfl) (by kernel_rfl) (fun _ _ _ h => h) (Or.inl ⟨by kernel_rfl, ?_⟩) (by assumption) ?_
        rotate_left
        · (intro wx hSw; (try dsimp only at hSw); go_simp; try (with_reducible rfl))
        try simp only [Act.put, List.getElem_toArray, List.getElem_cons_succ, List.getElem_cons_zero, List.setIfInBounds_toArray, List.set_cons_zero, List.set_cons_succ]
        refine wpAnyH_ready (rs := [11]) (by kernel_rfl) (by simp) ?_
        refine AllReadyH.cons rfl (fun K hK => ?_) AllReadyH.nil
        go_simp
        (go_at_call 130; refine (ends_any _ _ _ _ _ _ _).mono ?_; rintro e w' ⟨rfl, hb⟩)
        try (go_wp2_with fail)
        refine hK.out _ _ ?_ (fun hHeld => ?_)
        · (exact HSH.out _ (by repeat' (first | exact Bl.refl _ | with_reducible assumption | with_reducible refine Bl.drew_ ?_ | with_reducible refine Bl.drewN_ ?_ _ | with_reducible refine Bl.alloc_ ?_ _ | with_reducible refine Bl.trans_ ?_ (by assumption) | with_reducible refine Bl.trans_ ?_ (And.left (by assumption)))))
        clear hK K
        try simp only [Act.put, List.getElem_toArray, List.getElem_cons_succ, List.getElem_cons_zero, List.setIfInBounds_toArray, List.set_cons_zero, List.set_cons_succ]
        refine wpAnyH_take (i := 12) (v := ?_) rfl (by kernel_rfl) (by kernel_rfl) (by kernel_rfl) (fun _ _ _ h => h) (Or.inl ⟨by kernel_rfl, ?_⟩) (by assumption) ?_
        rotate_left
        · (intro wx hSw; (try dsimp only at hSw); go_simp; try (with_reducible rfl))
        try simp only [Act.put, List.getElem_toArray, List.getElem_cons_succ, List.getElem_cons_zero, List.setIfInBounds_toArray, List.set_cons_zero, List.set_cons_succ]
        refine wpAnyH_take (i := 13) (v := ?_) rfl (by kernel_rfl) (by kernel_rfl) (by kernel_rfl) (fun _ _ _ h => h) (Or.inl ⟨by kernel_rfl, ?_⟩) (by assumption) ?_
        rotate_left
        · (intro wx hSw; (try dsimp only at hSw); go_simp; try (with_reducible rfl))
        try simp only [Act.put, List.getElem_toArray, List.getElem_cons_succ, List.getElem_cons_zero, List.setIfInBounds_toArray, List.set_cons_zero, List.set_cons_succ]
        refine wpAnyH_take (i := 14) (v := ?_) rfl (by kernel_rfl) (by kernel_rfl) (by kernel_rfl) (fun _ _ _ h => h) (Or.inl ⟨by kernel_rfl, ?_⟩) (by assumption) ?_
        rotate_left
        · (intro wx hSw; (try dsimp only at hSw); go_simp; try (with_reducible rfl))
        try simp only [Act.put, List.getElem_toArray, List.getElem_cons_succ, List.getElem_cons_zero, List.setIfInBounds_toArray, List.set_cons_zero, List.set_cons_succ]
        refine wpAnyH_take (i := 15) (v := ?_) rfl (by kernel_rfl) (by kernel_rfl) (by kernel_rfl) (fun _ _ _ h => h) (Or.inl ⟨by kernel_rfl, ?_⟩) (by assumption) ?_
        rotate_left
        · (intro wx hSw; (try dsimp only at hSw); go_simp; try (with_reducible rfl))
        try simp only [Act.put, List.getElem_toArray, List.getElem_cons_succ, List.getElem_cons_zero, List.setIfInBounds_toArray, List.set_cons_zero, List.set_cons_succ]
        refine wpAnyH_done (by kernel_rfl) ?_ _
        go_wp2
        go_ret2
        refine ⟨i, _, ⟨by have := HN.out; omega, LO.out, HI.out, ?_⟩, rfl, (by repeat' (first | exact Bl.refl _ | with_reducible assumption | with_reducible refine Bl.drew_ ?_ | with_reducible refine Bl.drewN_ ?_ _ | with_reducible refine Bl.alloc_ ?_ _ | with_reducible refine Bl.trans_ ?_ (by assumption) | with_reducible refine Bl.trans_ ?_ (And.left (by assumption))))⟩
        rw [dif_pos hkl]
        unfold isEnds
        rw [HX.out, HY.out]
      · have h0 : decide ((i : Int) < (n : Int)) = false := by simp; omega
        go_wp2
        go_quiet (fail)
        go_wp2
        go_ret2
        exact ⟨i, false, ⟨by have := HN.out; omega, LO.out, HI.out, by rw [dif_neg (by have := HN.out; omega)]⟩, rfl, (by repeat' (first | exact Bl.refl _ | with_reducible assumption | with_reducible refine Bl.drew_ ?_ | with_reducible refine Bl.drewN_ ?_ _ | with_reducible refine Bl.alloc_ ?_ _ | with_reducible refine Bl.trans_ ?_ (by assumption) | with_reducible refine Bl.trans_ ?_ (And.left (by assumption))))⟩

end Go.Proofs.Ytlddileiecnkjaa

set_option linter.unusedSimpArgs false
set_option linter.unusedVariables false
namespace Go.Proofs.Ytlddileiecnkjaa
open Go.RowKit

theorem infoArc : (Try.prog.info? 146).map (fun i => (i.zero, i.size, i.bytes)) = some (some (.agg #[.int .i64 0, .int .i64 0, .int .i64 0]), 3, 24) := by kernel_rfl







theorem ArcsAt.set {w : World} {B g off : Nat} {L : List Arc3} (h : ArcsAt w B (some ⟨g, off, none⟩) L) {p : Addr} (hp : p.block ≠ g) (v : Value) : ArcsAt (w.setCell p v) B (some ⟨g, off, none⟩) L := fun h0 => by
  obtain ⟨g', off', e, hg, hc⟩ := h h0
  injection e with e
  injection e with e1 e2 e3
  subst e1; subst e2
  refine ⟨g, off, rfl, hg, fun k hk => ?_⟩
  obtain ⟨a, b, c⟩ := hc k hk
  refine ⟨?_, ?_, ?_⟩
  · rw [World.cell?_setCell_other _ _ _ _ (fun e => hp (by rw [e]))]; exact a
  · rw [World.cell?_setCell_other _ _ _ _ (fun e => hp (by rw [e]))]; exact b
  · rw [World.cell?_setCell_other _ _ _ _ (fun e => hp (by rw [e]))]; exact c



end Go.Proofs.Ytlddileiecnkjaa

set_option linter.unusedSimpArgs false
set_option linter.unusedVariables false
namespace Go.Proofs.Ytlddileiecnkjaa
open Go.RowKit




end Go.Proofs.Ytlddileiecnkjaa

set_option linter.unusedSimpArgs false
set_option linter.unusedVariables false
namespace Go.Proofs.Ytlddileiecnkjaa
open Go.RowKit

theorem isEnds_iff {u v : Int} {a : Arc3} : isEnds u v a = true ↔ a.1 = u ∧ a.2.1 = v := by simp [isEnds]
theorem ahead_irrefl (a b : Int) : aheadB a b a b = false := by simp [aheadB]

set_option maxHeartbeats 400000 in
theorem placeOf_any (N u v : Int) (A : Option Addr) (n c : Nat) (L : List Arc3) (hn : n = L.length) (w : World) (hm : n ≤ 1048576) (hs : SortedA L) (H1 : ArcsAt w w.heap.size A L) :
    Calls Try.prog 145 #[.agg #[.int .i64 N, .slice A n c], .int .i64 u, .int .i64 v] w (BsPost L u v w) := by
  have K1 := Lib.hid H1
  have HN := Lib.hid hn
  have HS := Lib.hid hs
  clear H1 hn hs
  go_enter Try.func145, Try.ntmps145
  go_wp2_with fail
  refine (bs_any u v 0 A n c L HN.out _ hm HS.out (K1.out.bl (by repeat' (first | exact Bl.refl _ | with_reducible assumption | with_reducible refine Bl.drew_ ?_ | with_reducible refine Bl.drewN_ ?_ _ | with_reducible refine Bl.alloc_ ?_ _ | with_reducible refine Bl.trans_ ?_ (by assumption) | with_reducible refine Bl.trans_ ?_ (And.left (by assumption)))))).mono ?_
  rintro e w1 ⟨p, f, hp, rfl, hb1⟩
  have HP := Lib.hid hp
  clear hp
  go_wp2
  go_ret2
  exact ⟨p, f, HP.out, rfl, (by repeat' (first | exact Bl.refl _ | with_reducible assumption | with_reducible refine Bl.drew_ ?_ | with_reducible refine Bl.drewN_ ?_ _ | with_reducible refine Bl.alloc_ ?_ _ | with_reducible refine Bl.trans_ ?_ (by assumption) | with_reducible refine Bl.trans_ ?_ (And.left (by assumption))))⟩



end Go.Proofs.Ytlddileiecnkjaa

set_option linter.unusedSimpArgs false
set_option linter.unusedVariables false
namespace Go.Proofs.Ytlddileiecnkjaa
open Go.RowKit

/-- The cells of arcs, one behind the other. -/
def cs3 : List Arc3 → List Value
  | [] => []
  | a :: l => .int .i64 a.1 :: .int .i64 a.2.1 :: .int .i64 a.2.2 :: cs3 l
theorem cs3_append : ∀ (l m : List Arc3), cs3 (l ++ m) = cs3 l ++ cs3 m
  | [], _ => rfl
  | a :: l, m => by simp [cs3, cs3_append l m]
theorem cs3_at : ∀ (l : List Arc3) (k : Nat) (h : k < l.length), (cs3 l)[k * 3]? = some (.int .i64 l[k].1) ∧ (cs3 l)[k * 3 + 1]? = some (.int .i64 l[k].2.1) ∧ (cs3 l)[k * 3 + 2]? = some (.int .i64 l[k].2.2)
  | a :: l, 0, _ => ⟨rfl, rfl, rfl⟩
  | a :: l, k + 1, h => by
    have h' : k < l.length := by simpa using h
    obtain ⟨x, y, z⟩ := cs3_at l k h'
    have e0 : (k + 1) * 3 = k * 3 + 3 := by omega
    refine ⟨?_, ?_, ?_⟩
    · rw [e0]; simpa [cs3] using x
    · rw [e0, show k * 3 + 3 + 1 = (k * 3 + 1) + 3 from by omega]; simpa [cs3] using y
    · rw [e0, show k * 3 + 3 + 2 = (k * 3 + 2) + 3 from by omega]; simpa [cs3] using z

/-- The value v owns the arcs L, in blocks from B on. -/
def OwnA (w : World) (B : Nat) (v : Value) (L : List Arc3) : Prop := w.ownsRow B 146 3 v L.length (cs3 L)
theorem OwnA.nil_ (w : World) (B : Nat) : OwnA w B (.slice none 0 0) [] := World.ownsRow_nil _ _ _ _
theorem OwnA.shape {w : World} {B : Nat} {v : Value} {L : List Arc3} (h : OwnA w B v L) :
    ∃ A c, v = .slice A L.length c ∧ ArcsAt w w.heap.size A L ∧ (0 < L.length → ∃ g, A = some ⟨g, 0, none⟩ ∧ B ≤ g ∧ w.frozen? ⟨g, 0, none⟩ = false) := by
  have h' : w.ownsRow B 146 3 v L.length (cs3 L) := h
  rcases h'.2 with ⟨rfl, h0⟩ | ⟨g, cap, cur, rfl, hB, hg, hnc, hcm, hcs, htake⟩
  · exact ⟨none, 0, by rw [h0], fun hp => absurd hp (by omega), fun hp => absurd hp (by omega)⟩
  · have hlt : g < w.heap.size := (Array.getElem?_eq_some_iff.1 hg).1
    refine ⟨some ⟨g, 0, none⟩, cap, rfl, fun _ => ⟨g, 0, rfl, hlt, fun k hk => ?_⟩, fun _ => ⟨g, rfl, hB, by simpa using World.ownsRow.frozenAt h' 0⟩⟩
    obtain ⟨x, y, z⟩ := cs3_at L k hk
    rw [Nat.zero_add]
    exact ⟨(World.ownsRow.cellAt h' _ (by omega)).trans x, (World.ownsRow.cellAt h' _ (by omega)).trans y, (World.ownsRow.cellAt h' _ (by omega)).trans z⟩
theorem OwnA.lt {w : World} {B : Nat} {v : Value} {L : List Arc3} (h : OwnA w B v L) : ∀ g, v.ownBlock = some g → B ≤ g ∧ g < w.heap.size := World.ownsRow.lt h
theorem OwnA.low {w : World} {B B' : Nat} {v : Value} {L : List Arc3} (h : OwnA w B' v L) (hB : B ≤ B') : OwnA w B v L :=
  ⟨h.1, h.2.imp id (fun ⟨g, cap, cur, a, b, c⟩ => ⟨g, cap, cur, a, Nat.le_trans hB b, c⟩)⟩
theorem own_start (w : World) (o : Obj) : OwnA ((w.alloc o).alloc (.cells #[] 146)) (w.heap.size + 1) (.slice (some ⟨w.heap.size + 1, 0, none⟩) 0 0) [] := by
  have h := World.ownsRow_made (base := w.heap.size + 1) (e := 146) (size := 3) (w.alloc o) #[] 0 (by simp) (by unfold maxLen; omega) rfl
  rw [World.size_alloc] at h
  exact h
theorem new3 (w : World) (x y z : Value) (t : TypeId) : ∀ j u, [x, y, z][j]? = some u → (w.alloc (.cells #[x, y, z] t)).cell? ((⟨w.heap.size, 0, none⟩ : Addr).add j) = some u := by
  intro j u hj
  match j, hj with
  | 0, hj => simp at hj; subst hj; simp [Addr.add, go_sem]
  | 1, hj => simp at hj; subst hj; simp [Addr.add, go_sem]
  | 2, hj => simp at hj; subst hj; simp [Addr.add, go_sem]
  | (j + 3), hj => simp at hj
theorem one3 (a b c : Int) : ∀ u ∈ [Value.int .i64 a, .int .i64 b, .int .i64 c], u.oneCell' = true := by
  intro u hu
  simp at hu
  rcases hu with rfl | rfl | rfl <;> rfl

theorem own_snoc {w : World} {B : Nat} {v : Value} {F : List Arc3} {a : Arc3} (h : w.ownsRow B 146 3 v (F.length + 1) (cs3 F ++ [.int .i64 a.1, .int .i64 a.2.1, .int .i64 a.2.2])) : OwnA w B v (F ++ [a]) := by
  unfold OwnA
  rw [cs3_append, List.length_append]
  exact h

/-- The arcs that leave a node. -/
def fromL (v : Int) (L : List Arc3) : List Arc3 := L.filter fun a => a.1 == v

/-- A new list of arcs is left. -/
def ListMade (L : List Arc3) (w : World) (e : Ending) (w' : World) : Prop := ∃ v, e = .returned v ∧ OwnA w' w.heap.size v L ∧ Bl w w'






end Go.Proofs.Ytlddileiecnkjaa
