/-
  What is proved here: the arcs that leave a node, as the code gathers them. No conditions beyond those that each theorem states.
-/
import Derived.Test.YtedajkbnkfanmaaNF4
import Derived.Test.YtedajkbnkfanmaaG1
set_option linter.unusedSimpArgs false
set_option linter.unusedVariables false
namespace Go.Proofs.Ytedajkbnkfanmaa
open Go.RowKit

theorem outsL_none {N v : Int} {L : List Arc3} (h : has1 N L v = false) : outsL N L v = [] := by
  unfold outsL
  split
  · rename_i ho
    unfold fromL
    rw [List.filter_eq_nil_iff]
    intro a ha hv
    have e : a.1 = v := by simpa using hv
    have := arcsIn_of_ok ho a ha
    unfold has1 at h
    rw [ho, Bool.true_and, decide_eq_false_iff_not] at h
    exact h (by omega)
  · rfl
theorem fromL_len' (v : Int) (L : List Arc3) : (fromL v L).length ≤ L.length := by
  unfold fromL
  exact List.length_filter_le _ _

set_option maxRecDepth 100000 in
set_option maxHeartbeats 1000000 in
theorem implOuts_any (N v : Int) (A : Option Addr) (n c : Nat) (L : List Arc3) (hn : n = L.length) (hc : n ≤ c) (w : World) (hm : n ≤ 1048576) (H1 : ArcsAt w w.heap.size A L) :
    Calls Try.prog 56 #[.agg #[.int .i64 N, .slice A n c], .int .i64 v] w (ListMade (outsL N L v) w) := by
  obtain ⟨i0, hi, hz0, hz1, hz2⟩ := info_parts infoArc
  have I0 := Lib.hid hi
  have I1 := Lib.hid hz0
  have I2 := Lib.hid hz1
  have I3 := Lib.hid hz2
  have K1 := Lib.hid H1
  have HN := Lib.hid hn
  clear H1 hn hi hz0 hz1 hz2
  cases hh : has1 N L v with
  | false =>
    have HH := Lib.hid hh
    clear hh
    go_enter Try.func56, Try.ntmps56
    go_wp2_with fail
    refine (hasNodes_1 N v A n c L HN.out (w.heap.size + 1) 1 _ (by omega) (K1.out.bl (by repeat' (first | exact Bl.refl _ | with_reducible assumption | with_reducible refine Bl.drew_ ?_ | with_reducible refine Bl.drewN_ ?_ _ | with_reducible refine Bl.alloc_ ?_ _ | with_reducible refine Bl.trans_ ?_ (by assumption) | with_reducible refine Bl.trans_ ?_ (And.left (by assumption))))) (by simp) (by simp [go_sem])).mono ?_
    rintro e w1 ⟨rfl, hb1⟩
    rw [HH.out]
    go_wp2
    go_ret
    exact ⟨_, rfl, by rw [outsL_none HH.out]; exact OwnA.nil_ _ _, (by repeat' (first | exact Bl.refl _ | with_reducible assumption | with_reducible refine Bl.drew_ ?_ | with_reducible refine Bl.drewN_ ?_ _ | with_reducible refine Bl.alloc_ ?_ _ | with_reducible refine Bl.trans_ ?_ (by assumption) | with_reducible refine Bl.trans_ ?_ (And.left (by assumption))))⟩
  | true =>
    have HH := Lib.hid hh
    obtain ⟨ho, hs0, hs1⟩ := has1_of hh
    have hN24 := (okB_elim ho).2.1
    have HO := Lib.hid ho
    have HS := Lib.hid (sorted_of_ok ho)
    have HP := Lib.hid (show ∀ a ∈ L, 0 ≤ a.2.1 from fun a ha => (arcsIn_of_ok ho a ha).2.2.1)
    have hfl := fromL_len' v L
    have HFL := Lib.hid hfl
    clear hh ho hfl
    go_enter Try.func56, Try.ntmps56
    go_wp2_with fail
    refine (hasNodes_1 N v A n c L HN.out (w.heap.size + 1) 1 _ (by omega) (K1.out.bl (by repeat' (first | exact Bl.refl _ | with_reducible assumption | with_reducible refine Bl.drew_ ?_ | with_reducible refine Bl.drewN_ ?_ _ | with_reducible refine Bl.alloc_ ?_ _ | with_reducible refine Bl.trans_ ?_ (by assumption) | with_reducible refine Bl.trans_ ?_ (And.left (by assumption))))) (by simp) (by simp [go_sem])).mono ?_
    rintro e w1 ⟨rfl, hb1⟩
    rw [HH.out]
    have hx := (bcell hb1).1
    have q0 : w1.cell? ⟨w.heap.size, 0, none⟩ = some (.int .i64 N) := (hx _ _ (by simp; omega)).trans (by simp [go_sem])
    have q1 : w1.cell? ⟨w.heap.size, 1, none⟩ = some (.slice A n c) := (hx _ _ (by simp; omega)).trans (by simp [go_sem])
    have hbw : Bl w w1 := (((Bl.refl w).alloc_ _).alloc_ _).trans_ hb1
    clear hx hb1
    go_wp2_with fail
    refine (arcsFrom_any N v A n c L HN.out _ hm hc HS.out HP.out (by omega) (by omega) (K1.out.bl hbw)).mono ?_
    rintro e w2 ⟨A', c', rfl, hc', ha', -, hb2⟩
    have HA := Lib.hid (ha'.more hb2.size)
    have HB := Lib.hid (hbw.trans_ hb2)
    have HO2 := Lib.hid (show outsL N L v = fromL v L from if_pos HO.out)
    clear ha' hb2 hbw q0 q1
    obtain ⟨l, hl⟩ : ∃ l, l = (fromL v L).length := ⟨_, rfl⟩
    have hl' : l ≤ n := by rw [hl]; have := HFL.out; have := HN.out; omega
    rw [← hl]
    have HL := Lib.hid hl
    clear hl
    go_wp2_with (at_builtin; refine wpList_append_any _ rfl _ _ _ rfl w.heap.size 106 i0 _ 3 24 Try.underlying41 I0.out I1.out I2.out I3.out rfl (by decide) (.slice none 0 0) 0 (cs3 ([] : List Arc3)) rfl (World.ownsRow_nil _ _ _ _) w2.heap.size A' l c' (cs3 (fromL v L)) rfl (reads_of HL.out HA.out) (cs3_one _) ?c3 ?c4 ?c5 ?_)
    case c3 => unfold maxLen; omega
    case c4 => omega
    case c5 => exact HB.out.size
    intro v3 w3 hown hgr _
    have O := Lib.hid (own_append (F := ([] : List Arc3)) (G := fromL v L) hown (by have := HL.out; simp; omega))
    have B3 : Bl w w3 := HB.out.grown_ hgr (fun g hg => by cases hg)
    clear hown hgr
    go_wp2
    go_ret
    exact ⟨v3, rfl, by rw [HO2.out]; exact O.out, B3⟩

end Go.Proofs.Ytedajkbnkfanmaa
