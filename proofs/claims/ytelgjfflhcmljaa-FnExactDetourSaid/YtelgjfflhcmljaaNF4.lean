/-
  What is proved here: DistFrom and DistOf, on both sides. No conditions beyond those that each theorem states.
-/
import Derived.Test.YtelgjfflhcmljaaNF3
import Derived.Test.YtelgjfflhcmljaaK1
set_option linter.unusedSimpArgs false
set_option linter.unusedVariables false
namespace Go.Proofs.Ytelgjfflhcmljaa
open Go.RowKit

/-- How far all nodes are from s; none, where there is no such node or the graph is not right. -/
def distFromL (N : Int) (L : List Arc3) (s : Int) : List Int := if has1 N L s = true then distL N L s else []
def distOfI (N : Int) (L : List Arc3) (s t : Int) : Int := if has2 N L s t = true then dAt (distL N L s) t else -1
theorem has1_of {N s : Int} {L : List Arc3} (h : has1 N L s = true) : okB N L = true ∧ 0 ≤ s ∧ s < N := by simpa [has1] using h
theorem has2_of {N s t : Int} {L : List Arc3} (h : has2 N L s t = true) : okB N L = true ∧ (0 ≤ s ∧ s < N) ∧ (0 ≤ t ∧ t < N) := by simpa [has2] using h
theorem distL_len {N s : Int} {L : List Arc3} (ho : okB N L = true) (h0 : 0 ≤ s) (h1 : s < N) : (distL N L s).length = N.toNat :=
  (distL_is (arcsIn_of_ok ho) (okB_elim ho).2.1 h0 h1).len
theorem distL_top {N s : Int} {L : List Arc3} (ho : okB N L = true) (h0 : 0 ≤ s) (h1 : s < N) (v : Int) : -1 ≤ dAt (distL N L s) v ∧ dAt (distL N L s) v ≤ 23000 := by
  have h := distL_is (arcsIn_of_ok ho) (okB_elim ho).2.1 h0 h1
  exact ⟨h.low v, h.top (arcsIn_of_ok ho) (okB_elim ho).2.1 h0 h1 v⟩

theorem box1b {w wx : World} {o : Obj} {a : Value} {t : TypeId} (h : Bl ((w.alloc o).alloc (.cells #[a] t)) wx) : wx.cell? ⟨w.heap.size + 1, 0, none⟩ = some a := by
  have hc := (bcell h).1
  rw [hc _ _ (by simp)]; simp [go_sem]

theorem there_new (w : World) (t : TypeId) : (w.alloc (.cells #[.int .i64 0, .int .i64 0, .int .i64 0, .int .i64 0, .int .i64 0, .int .i64 0, .int .i64 0, .int .i64 0, .int .i64 0, .int .i64 0, .int .i64 0, .int .i64 0, .int .i64 0, .int .i64 0, .int .i64 0, .int .i64 0, .int .i64 0, .int .i64 0, .int .i64 0, .int .i64 0, .int .i64 0, .int .i64 0, .int .i64 0, .int .i64 0] t)).there w.heap.size 0 24 := by
  refine there_of_cells fun i hi => ?_
  match i, hi with
  | 0, _ | 1, _ | 2, _ | 3, _ | 4, _ | 5, _ | 6, _ | 7, _ | 8, _ | 9, _ | 10, _ | 11, _ | 12, _ | 13, _ | 14, _ | 15, _ | 16, _ | 17, _ | 18, _ | 19, _ | 20, _ | 21, _ | 22, _ | 23, _ => simp [go_sem]
  | (k + 24), h => exact absurd h (by omega)
theorem size24 : (Try.prog.info? 98).map (·.size) = some 24 := by kernel_rfl

theorem index24 (E : List Int) (hE : E.length = 24) (u : Nat) (hu : u < 24) (w : World) : (Instr.index 98 (.agg (E.map (Value.int .i64)).toArray) (.int .i64 (u : Int))).run Try.prog w = .ok (.int .i64 (dAt E u)) w := by
  have h1 : (0 : Int) ≤ (u : Int) ∧ (u : Int) < 24 := by omega
  have hz : (Go.sizeOf 2).run Try.prog w = .ok 1 w := by kernel_rfl
  have ha : (Go.isAgg 2).run Try.prog w = .ok false w := by kernel_rfl
  have hg : E[u]?.getD (-1) = E[u] := by simp [hE, hu]
  unfold Instr.index
  simp [Sem.run_bind, asIntOf, run_underlying Try.underlying98, Result.andThen, h1, hz, ha, part, dAt, hE, hu]

set_option maxRecDepth 100000 in
set_option maxHeartbeats 1000000 in
theorem implDistOf_any (N s t : Int) (A : Option Addr) (n c : Nat) (L : List Arc3) (hn : n = L.length) (hc : n ≤ c) (w : World) (hm : n ≤ 1048576) (H1 : ArcsAt w w.heap.size A L) :
    Calls Try.prog 63 #[.agg #[.int .i64 N, .slice A n c], .int .i64 s, .int .i64 t] w fun e w' => e = .returned (.int .i64 (distOfI N L s t)) ∧ Bl w w' := by
  have K1 := Lib.hid H1
  have HN := Lib.hid hn
  clear H1 hn
  cases hh : has2 N L s t with
  | false =>
    have HH := Lib.hid hh
    clear hh
    go_enter Try.func63, Try.ntmps63
    go_wp2_with fail
    refine (hasNodes_2 N s t A n c L HN.out (w.heap.size + 1) 2 _ (by omega) (K1.out.bl (by repeat' (first | exact Bl.refl _ | with_reducible assumption | with_reducible refine Bl.drew_ ?_ | with_reducible refine Bl.drewN_ ?_ _ | with_reducible refine Bl.alloc_ ?_ _ | with_reducible refine Bl.trans_ ?_ (by assumption) | with_reducible refine Bl.trans_ ?_ (And.left (by assumption))))) (by simp) (by simp [go_sem]) (by simp [go_sem])).mono ?_
    rintro e w1 ⟨rfl, hb1⟩
    rw [HH.out]
    go_wp2
    go_ret
    exact ⟨ret_int (by unfold distOfI; rw [if_neg (by rw [HH.out]; simp)]), (by repeat' (first | exact Bl.refl _ | with_reducible assumption | with_reducible refine Bl.drew_ ?_ | with_reducible refine Bl.drewN_ ?_ _ | with_reducible refine Bl.alloc_ ?_ _ | with_reducible refine Bl.trans_ ?_ (by assumption) | with_reducible refine Bl.trans_ ?_ (And.left (by assumption))))⟩
  | true =>
    have HH := Lib.hid hh
    obtain ⟨ho, ⟨hs0, hs1⟩, ht0, ht1⟩ := has2_of hh
    have hN24 := (okB_elim ho).2.1
    have HO := Lib.hid ho
    obtain ⟨u, rfl⟩ : ∃ u : Nat, t = u := ⟨t.toNat, by omega⟩
    clear hh ho
    go_enter Try.func63, Try.ntmps63
    go_wp2_with fail
    refine (hasNodes_2 N s u A n c L HN.out (w.heap.size + 1) 2 _ (by omega) (K1.out.bl (by repeat' (first | exact Bl.refl _ | with_reducible assumption | with_reducible refine Bl.drew_ ?_ | with_reducible refine Bl.drewN_ ?_ _ | with_reducible refine Bl.alloc_ ?_ _ | with_reducible refine Bl.trans_ ?_ (by assumption) | with_reducible refine Bl.trans_ ?_ (And.left (by assumption))))) (by simp) (by simp [go_sem]) (by simp [go_sem])).mono ?_
    rintro e w1 ⟨rfl, hb1⟩
    rw [HH.out]
    have hx := (bcell hb1).1
    have q0 : w1.cell? ⟨w.heap.size, 0, none⟩ = some (.int .i64 N) := (hx _ _ (by simp; omega)).trans (by simp [go_sem])
    have q1 : w1.cell? ⟨w.heap.size, 1, none⟩ = some (.slice A n c) := (hx _ _ (by simp; omega)).trans (by simp [go_sem])
    have hbw : Bl w w1 := (((Bl.refl w).alloc_ _).alloc_ _).trans_ hb1
    clear hx hb1
    go_wp2_with fail
    refine (distances_any N s A n c L HN.out hc HO.out hs0 hs1 _ (K1.out.bl hbw)).mono ?_
    rintro e w2 ⟨E, rfl, hE, hEd, hb2⟩
    have EL := Lib.hid hE
    have ED := Lib.hid hEd
    clear hE hEd q0 q1
    have hix := index24 E EL.out u (by omega) w2
    have hd : dAt E (u : Int) = distOfI N L s u := by
      unfold distOfI
      rw [if_pos HH.out, ← ED.out]
      unfold dAt
      simp only [List.getD_eq_getElem?_getD]
      rw [List.getElem?_take, if_pos (by omega)]
    rw [hd] at hix
    clear hd
    go_wp2
    go_ret
    exact ⟨ret_int rfl, hbw.trans_ hb2⟩

-- (implDistFrom_any left out)

end Go.Proofs.Ytelgjfflhcmljaa
