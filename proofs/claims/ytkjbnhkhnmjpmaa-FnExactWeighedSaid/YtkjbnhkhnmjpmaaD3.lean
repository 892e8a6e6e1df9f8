/-
  What is proved here: the walk of the exact law on WeightOf: at every graph and all nodes that can be read it returns true and leaves what was there as it was. No conditions beyond those that each theorem states.
-/
import Derived.Test.YtkjbnhkhnmjpmaaD2
import Derived.Test.YtkjbnhkhnmjpmaaB1
set_option linter.unusedSimpArgs false
set_option linter.unusedVariables false
namespace Go.Proofs.Ytkjbnhkhnmjpmaa
open Go.RowKit

theorem isEnds_iff {u v : Int} {a : Arc3} : isEnds u v a = true ↔ a.1 = u ∧ a.2.1 = v := by simp [isEnds]
theorem ahead_irrefl (a b : Int) : aheadB a b a b = false := by simp [aheadB]
theorem not_ends_of_ahead {u v : Int} {a : Arc3} (h : aheadB a.1 a.2.1 u v = true) : isEnds u v a = false := by
  cases he : isEnds u v a with
  | false => rfl
  | true =>
    obtain ⟨h1, h2⟩ := isEnds_iff.1 he
    rw [h1, h2, ahead_irrefl] at h
    cases h
theorem bs_wt {L : List Arc3} {u v : Int} {p : Nat} {f : Bool} (hs : SortedA L) (h : BsAt L u v p f) : (f = true → ∃ hp : p < L.length, wtL u v L = L[p].2.2) ∧ (f = false → wtL u v L = 0) := by
  obtain ⟨hp, hlo, hhi, hf⟩ := h
  refine ⟨fun ht => ?_, fun ht => ?_⟩
  · by_cases h' : p < L.length
    · rw [dif_pos h'] at hf
      exact ⟨h', wtL_at h' (by rw [← hf]; exact ht) fun j hj => not_ends_of_ahead (hlo j (by omega) hj)⟩
    · rw [dif_neg h', ht] at hf
      cases hf
  · refine wtL_none fun k hk => ?_
    rcases Nat.lt_or_ge k p with h' | h'
    · exact not_ends_of_ahead (hlo k hk h')
    · have hpl : p < L.length := by omega
      rw [dif_pos hpl, ht] at hf
      rcases Nat.lt_or_ge p k with h2 | h2
      · cases he : isEnds u v L[k] with
        | false => rfl
        | true =>
          obtain ⟨e1, e2⟩ := isEnds_iff.1 he
          have h3 := hs p k h2 hk
          rw [e1, e2, hhi p hpl (Nat.le_refl _)] at h3
          cases h3
      · obtain rfl : p = k := by omega
        exact hf.symm

set_option maxHeartbeats 400000 in
theorem placeOf_any (N u v : Int) (A : Option Addr) (n c : Nat) (L : List Arc3) (hn : n = L.length) (w : World) (hm : n ≤ 1048576) (hs : SortedA L) (H1 : ArcsAt w w.heap.size A L) :
    Calls Try.prog 42 #[.agg #[.int .i64 N, .slice A n c], .int .i64 u, .int .i64 v] w (BsPost L u v w) := by
  have K1 := Lib.hid H1
  have HN := Lib.hid hn
  have HS := Lib.hid hs
  clear H1 hn hs
  go_enter Try.func42, Try.ntmps42
  go_wp2_with fail
  refine (bs_any u v 0 A n c L HN.out _ hm HS.out (K1.out.bl (by repeat' (first | exact Bl.refl _ | with_reducible assumption | with_reducible refine Bl.drew_ ?_ | with_reducible refine Bl.drewN_ ?_ _ | with_reducible refine Bl.alloc_ ?_ _ | with_reducible refine Bl.trans_ ?_ (by assumption) | with_reducible refine Bl.trans_ ?_ (And.left (by assumption)))))).mono ?_
  rintro e w1 ⟨p, f, hp, rfl, hb1⟩
  have HP := Lib.hid hp
  clear hp
  go_wp2
  go_ret2
  exact ⟨p, f, HP.out, rfl, (by repeat' (first | exact Bl.refl _ | with_reducible assumption | with_reducible refine Bl.drew_ ?_ | with_reducible refine Bl.drewN_ ?_ _ | with_reducible refine Bl.alloc_ ?_ _ | with_reducible refine Bl.trans_ ?_ (by assumption) | with_reducible refine Bl.trans_ ?_ (And.left (by assumption))))⟩

set_option maxHeartbeats 400000 in
theorem implWeight_any (N u v : Int) (A : Option Addr) (n c : Nat) (L : List Arc3) (hn : n = L.length) (w : World) (hm : n ≤ 1048576) (H1 : ArcsAt w w.heap.size A L) :
    Calls Try.prog 16 #[.agg #[.int .i64 N, .slice A n c], .int .i64 u, .int .i64 v] w fun e w' => e = .returned (.int .i64 (weightOf N L u v)) ∧ Bl w w' := by
  have K1 := Lib.hid H1
  have HN := Lib.hid hn
  clear H1 hn
  by_cases ho : okB N L = true
  · have HW := Lib.hid (show weightOf N L u v = wtL u v L from if_pos ho)
    have HS := Lib.hid (sorted_of_ok ho)
    go_enter Try.func16, Try.ntmps16
    go_wp2_with fail
    refine (implOk_any N A n c L HN.out _ (by omega) (K1.out.bl (by repeat' (first | exact Bl.refl _ | with_reducible assumption | with_reducible refine Bl.drew_ ?_ | with_reducible refine Bl.drewN_ ?_ _ | with_reducible refine Bl.alloc_ ?_ _ | with_reducible refine Bl.trans_ ?_ (by assumption) | with_reducible refine Bl.trans_ ?_ (And.left (by assumption)))))).mono ?_
    rintro e w1 ⟨rfl, hb1⟩
    obtain ⟨q0, q1⟩ := box2 hb1
    go_wp2_with fail
    refine (placeOf_any N u v A n c L HN.out _ hm HS.out (K1.out.bl (by repeat' (first | exact Bl.refl _ | with_reducible assumption | with_reducible refine Bl.drew_ ?_ | with_reducible refine Bl.drewN_ ?_ _ | with_reducible refine Bl.alloc_ ?_ _ | with_reducible refine Bl.trans_ ?_ (by assumption) | with_reducible refine Bl.trans_ ?_ (And.left (by assumption)))))).mono ?_
    rintro e w2 ⟨p, f, hp, rfl, hb2⟩
    have HP := Lib.hid (bs_wt HS.out hp)
    clear hp
    have hb2' := hb1.trans_ hb2
    obtain ⟨q0, q1⟩ := box2 hb2'
    cases f with
    | false =>
      have HP0 := Lib.hid (HP.out.2 rfl)
      clear HP
      go_wp2
      go_ret
      exact ⟨ret_int (by rw [HW.out, HP0.out]), (by repeat' (first | exact Bl.refl _ | with_reducible assumption | with_reducible refine Bl.drew_ ?_ | with_reducible refine Bl.drewN_ ?_ _ | with_reducible refine Bl.alloc_ ?_ _ | with_reducible refine Bl.trans_ ?_ (by assumption) | with_reducible refine Bl.trans_ ?_ (And.left (by assumption))))⟩
    | true =>
      obtain ⟨hpl, hwt⟩ := HP.out.1 rfl
      have HWT := Lib.hid hwt
      clear hwt HP
      have hpn : p < n := by have := HN.out; omega
      obtain ⟨g1, o1, rfl, hg1, hc1⟩ := K1.out (by omega)
      obtain ⟨p1, p2, p3⟩ := hc1 p hpl
      clear hc1
      have hbw : Bl w w2 := (Bl.alloc_ (Bl.refl w) _).trans_ hb2'
      rw [← (bcell hbw).1 _ _ hg1] at p1 p2 p3
      generalize hz : L[p].2.2 = z at p3
      have HZ := Lib.hid hz
      clear hz p1 p2
      go_wp2
      go_ret
      exact ⟨ret_int (by rw [HW.out, HWT.out, HZ.out]), hbw⟩
  · have ho' : okB N L = false := by simpa using ho
    have HW := Lib.hid (show weightOf N L u v = 0 from if_neg ho)
    clear ho
    go_enter Try.func16, Try.ntmps16
    go_wp2_with fail
    refine (implOk_any N A n c L HN.out _ (by omega) (K1.out.bl (by repeat' (first | exact Bl.refl _ | with_reducible assumption | with_reducible refine Bl.drew_ ?_ | with_reducible refine Bl.drewN_ ?_ _ | with_reducible refine Bl.alloc_ ?_ _ | with_reducible refine Bl.trans_ ?_ (by assumption) | with_reducible refine Bl.trans_ ?_ (And.left (by assumption)))))).mono ?_
    rintro e w1 ⟨rfl, hb1⟩
    go_wp2
    go_ret
    exact ⟨ret_int HW.out.symm, (by repeat' (first | exact Bl.refl _ | with_reducible assumption | with_reducible refine Bl.drew_ ?_ | with_reducible refine Bl.drewN_ ?_ _ | with_reducible refine Bl.alloc_ ?_ _ | with_reducible refine Bl.trans_ ?_ (by assumption) | with_reducible refine Bl.trans_ ?_ (And.left (by assumption))))⟩

set_option maxHeartbeats 1000000 in
theorem lawWeightOf_any (N u v : Int) (A : Option Addr) (n c : Nat) (L : List Arc3) (hn : n = L.length) (w : World) (hm : n ≤ 9223372036854775807) (H1 : ArcsAt w w.heap.size A L) :
    Calls Try.prog 3 #[.agg #[.int .i64 N, .slice A n c], .int .i64 u, .int .i64 v] w fun e w' => e = .returned (.bool true) ∧ Bl w w' := by
  have K1 := Lib.hid H1
  have HN := Lib.hid hn
  clear H1 hn
  by_cases hbig : (1048576 : Int) - n < 0
  · go_enter Try.func3, Try.ntmps3
    go_wp2_with (go_at_call 13; refine (szGraph_any _ _ _ _ _ _ hm (by omega) (by omega)).mono ?_; rintro e w' ⟨rfl, hb⟩; obtain ⟨hc, hf⟩ := bcell hb)
    go_ret
    exact ⟨rfl, (by repeat' (first | exact Bl.refl _ | with_reducible assumption | with_reducible refine Bl.drew_ ?_ | with_reducible refine Bl.drewN_ ?_ _ | with_reducible refine Bl.alloc_ ?_ _ | with_reducible refine Bl.trans_ ?_ (by assumption) | with_reducible refine Bl.trans_ ?_ (And.left (by assumption))))⟩
  · have hm' : n ≤ 1048576 := by omega
    clear hbig
    go_enter Try.func3, Try.ntmps3
    go_wp2_with fail
    refine (szGraph_small N A n c _ hm').mono ?_
    rintro e w1 ⟨rfl, hb1⟩
    obtain ⟨q0, q1⟩ := box2 hb1
    have p1 : (0 : Int) ≤ 1048576 - (n : Int) := by omega
    go_wp2_with fail
    refine (toGraph_any N A n c L HN.out _ hm' (K1.out.bl (by repeat' (first | exact Bl.refl _ | with_reducible assumption | with_reducible refine Bl.drew_ ?_ | with_reducible refine Bl.drewN_ ?_ _ | with_reducible refine Bl.alloc_ ?_ _ | with_reducible refine Bl.trans_ ?_ (by assumption) | with_reducible refine Bl.trans_ ?_ (And.left (by assumption)))))).mono ?_
    rintro e w2 ⟨g2, rfl, ha2, hg2, hb2⟩
    have hb2 := hb1.trans_ hb2
    obtain ⟨q0, q1⟩ := box2 hb2
    have HA2 := Lib.hid ha2
    clear ha2
    go_wp2_with fail
    refine (specWeight_any N u v _ n n L HN.out _ hm HA2.out).mono ?_
    rintro e w3 ⟨rfl, hb3⟩
    have hb3 := hb2.trans_ hb3
    obtain ⟨q0, q1⟩ := box2 hb3
    go_wp2_with fail
    refine (toGraph_any N A n c L HN.out _ hm' (K1.out.bl (by repeat' (first | exact Bl.refl _ | with_reducible assumption | with_reducible refine Bl.drew_ ?_ | with_reducible refine Bl.drewN_ ?_ _ | with_reducible refine Bl.alloc_ ?_ _ | with_reducible refine Bl.trans_ ?_ (by assumption) | with_reducible refine Bl.trans_ ?_ (And.left (by assumption)))))).mono ?_
    rintro e w4 ⟨g4, rfl, ha4, hg4, hb4⟩
    have hb4 := hb3.trans_ hb4
    obtain ⟨q0, q1⟩ := box2 hb4
    have HA4 := Lib.hid ha4
    clear ha4
    go_wp2_with fail
    refine (implWeight_any N u v _ n n L HN.out _ hm' (HA4.out.bl (by repeat' (first | exact Bl.refl _ | with_reducible assumption | with_reducible refine Bl.drew_ ?_ | with_reducible refine Bl.drewN_ ?_ _ | with_reducible refine Bl.alloc_ ?_ _ | with_reducible refine Bl.trans_ ?_ (by assumption) | with_reducible refine Bl.trans_ ?_ (And.left (by assumption)))))).mono ?_
    rintro e w5 ⟨rfl, hb5⟩
    obtain ⟨x0, x1⟩ := box2 hb5
    have hb5a := (Bl.alloc_ (Bl.refl w4) _).trans_ hb5
    have HA5 := Lib.hid (ArcsAt.bl HA4.out hb5a)
    have hB5 := hb4.trans_ hb5a
    obtain ⟨q0, q1⟩ := box2 hB5
    have hne : (weightOf N L u v != weightOf N L u v) = false := by simp
    have HSH := Lib.hid (show ∀ wx, Bl w5 wx → Bl w5 wx ∧ wx.cell? ⟨w.heap.size, 0, none⟩ = some (.int .i64 N) ∧ wx.cell? ⟨w.heap.size, 1, none⟩ = some (.slice A n c) ∧ wx.cell? ⟨w4.heap.size, 0, none⟩ = some (.int .i64 N) ∧ wx.cell? ⟨w4.heap.size, 1, none⟩ = some (.slice (some ⟨g4, 0, none⟩) n n) from fun wx hb =>
      ⟨hb, (box2 (hB5.trans_ hb)).1, (box2 (hB5.trans_ hb)).2, (box2 (hb5.trans_ hb)).1, (box2 (hb5.trans_ hb)).2⟩)
    go_wp2_with fail
    refine wp_region_held_drew (S := fun wx => Bl w5 wx ∧ wx.cell? ⟨w.heap.size, 0, none⟩ = some (.int .i64 N) ∧ wx.cell? ⟨w.heap.size, 1, none⟩ = some (.slice A n c) ∧ wx.cell? ⟨w4.heap.size, 0, none⟩ = some (.int .i64 N) ∧ wx.cell? ⟨w4.heap.size, 1, none⟩ = some (.slice (some ⟨g4, 0, none⟩) n n)) (by kernel_rfl) ?_ (fun hHeld => ?_)
    · (exact HSH.out _ (by repeat' (first | exact Bl.refl _ | with_reducible assumption | with_reducible refine Bl.drew_ ?_ | with_reducible refine Bl.drewN_ ?_ _ | with_reducible refine Bl.alloc_ ?_ _ | with_reducible refine Bl.trans_ ?_ (by assumption) | with_reducible refine Bl.trans_ ?_ (And.left (by assumption)))))
    refine wpAnyH_take (i := 0) (v := ?_) rfl (by kernel_rfl) (by kernel_rfl) (by kernel_rfl) (fun _ _ _ h => h) (Or.inl ⟨by kernel_rfl, ?_⟩) (by assumption) ?_
    rotate_left
    · (intro wx hSw; (try dsimp only at hSw); go_simp; try (with_reducible rfl))
    try simp only [Act.put, List.getElem_toArray, List.getElem_cons_succ, List.getElem_cons_zero, List.setIfInBounds_toArray, List.set_cons_zero, List.set_cons_succ]
    refine wpAnyH_take (i := 1) (v := ?_) rfl (by kernel_rfl) (by kernel_rfl) (by kernel_rfl) (fun _ _ _ h => h) (Or.inl ⟨by kernel_rfl, ?_⟩) (by assumption) ?_
    rotate_left
    · (intro wx hSw; (try dsimp only at hSw); go_simp; try (with_reducible rfl))
    try simp only [Act.put, List.getElem_toArray, List.getElem_cons_succ, List.getElem_cons_zero, List.setIfInBounds_toArray, List.set_cons_zero, List.set_cons_succ]
    refine wpAnyH_ready (rs := [2]) (by kernel_rfl) (by simp) ?_
    refine AllReadyH.cons rfl (fun K hK => ?_) AllReadyH.nil
    go_simp
    (go_at_call 15; refine (toGraph_any N A n c L HN.out _ hm' (K1.out.bl (by repeat' (first | exact Bl.refl _ | with_reducible assumption | with_reducible refine Bl.drew_ ?_ | with_reducible refine Bl.drewN_ ?_ _ | with_reducible refine Bl.alloc_ ?_ _ | with_reducible refine Bl.trans_ ?_ (by assumption) | with_reducible refine Bl.trans_ ?_ (And.left (by assumption)))))).mono ?_; rintro e w6 ⟨g6, rfl, ha6, hg6, hb6⟩; have HA6 := Lib.hid ha6; clear ha6)
    try (go_wp2_with fail)
    refine hK.out _ _ ?_ (fun hHeld => ?_)
    · (exact HSH.out _ (by repeat' (first | exact Bl.refl _ | with_reducible assumption | with_reducible refine Bl.drew_ ?_ | with_reducible refine Bl.drewN_ ?_ _ | with_reducible refine Bl.alloc_ ?_ _ | with_reducible refine Bl.trans_ ?_ (by assumption) | with_reducible refine Bl.trans_ ?_ (And.left (by assumption)))))
    clear hK K
    try simp only [Act.put, List.getElem_toArray, List.getElem_cons_succ, List.getElem_cons_zero, List.setIfInBounds_toArray, List.set_cons_zero, List.set_cons_succ]
    refine wpAnyH_ready (rs := [3]) (by kernel_rfl) (by simp) ?_
    refine AllReadyH.cons rfl (fun K hK => ?_) AllReadyH.nil
    go_simp
    (go_at_call 17; refine (eqGraph_yes N _ _ n n L n HN.out _ hm (HA5.out.bl (by repeat' (first | exact Bl.refl _ | with_reducible assumption | with_reducible refine Bl.drew_ ?_ | with_reducible refine Bl.drewN_ ?_ _ | with_reducible refine Bl.alloc_ ?_ _ | with_reducible refine Bl.trans_ ?_ (by assumption) | with_reducible refine Bl.trans_ ?_ (And.left (by assumption))))) HA6.out).mono ?_; rintro e w7 ⟨rfl, hb7⟩)
    try (go_wp2_with fail)
    refine hK.out _ _ ?_ (fun hHeld => ?_)
    · (exact HSH.out _ (by repeat' (first | exact Bl.refl _ | with_reducible assumption | with_reducible refine Bl.drew_ ?_ | with_reducible refine Bl.drewN_ ?_ _ | with_reducible refine Bl.alloc_ ?_ _ | with_reducible refine Bl.trans_ ?_ (by assumption) | with_reducible refine Bl.trans_ ?_ (And.left (by assumption)))))
    clear hK K
    try simp only [Act.put, List.getElem_toArray, List.getElem_cons_succ, List.getElem_cons_zero, List.setIfInBounds_toArray, List.set_cons_zero, List.set_cons_succ]
    refine wpAnyH_take (i := 4) (v := ?_) rfl (by kernel_rfl) (by kernel_rfl) (by kernel_rfl) (fun _ _ _ h => h) (Or.inl ⟨by kernel_rfl, ?_⟩) (by assumption) ?_
    rotate_left
    · (intro wx hSw; (try dsimp only at hSw); go_simp; try (with_reducible rfl))
    try simp only [Act.put, List.getElem_toArray, List.getElem_cons_succ, List.getElem_cons_zero, List.setIfInBounds_toArray, List.set_cons_zero, List.set_cons_succ]
    refine wpAnyH_done (by kernel_rfl) ?_ _
    go_wp2
    go_ret
    exact ⟨rfl, (by repeat' (first | exact Bl.refl _ | with_reducible assumption | with_reducible refine Bl.drew_ ?_ | with_reducible refine Bl.drewN_ ?_ _ | with_reducible refine Bl.alloc_ ?_ _ | with_reducible refine Bl.trans_ ?_ (by assumption) | with_reducible refine Bl.trans_ ?_ (And.left (by assumption))))⟩

end Go.Proofs.Ytkjbnhkhnmjpmaa
