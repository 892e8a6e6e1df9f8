/-
  What is proved here: the weight of an arc, as the model looks it up. No conditions beyond those that each theorem states.
-/
import Derived.Test.YtffjpfanmnkmgaaA6
set_option linter.unusedSimpArgs false
set_option linter.unusedVariables false
namespace Go.Proofs.Ytffjpfanmnkmgaa
open Go.RowKit

/-- Does an arc have these ends? -/
def isEnds (u v : Int) (a : Arc3) : Bool := a.1 == u && a.2.1 == v
/-- The weight of the first arc of these ends; 0: there is none. -/
def wtL (u v : Int) : List Arc3 → Int
  | [] => 0
  | a :: l => if isEnds u v a = true then a.2.2 else wtL u v l
theorem wtL_none {u v : Int} : ∀ {L : List Arc3}, (∀ k (h : k < L.length), isEnds u v L[k] = false) → wtL u v L = 0
  | [], _ => rfl
  | a :: l, h => by
    have h0 := h 0 (by simp)
    simp only [List.getElem_cons_zero] at h0
    unfold wtL
    rw [if_neg (by rw [h0]; simp)]
    exact wtL_none fun k hk => by
      have h' := h (k + 1) (by simp; omega)
      rwa [List.getElem_cons_succ] at h'
theorem wtL_at {u v : Int} : ∀ {L : List Arc3} {k : Nat} (h : k < L.length), isEnds u v L[k] = true → (∀ j (hj : j < k), isEnds u v (L[j]'(by omega)) = false) → wtL u v L = L[k].2.2
  | a :: l, 0, _, hk, _ => by
    simp only [List.getElem_cons_zero] at hk ⊢
    unfold wtL
    rw [if_pos hk]
  | a :: l, k + 1, h, hk, hj => by
    have h0 := hj 0 (by omega)
    simp only [List.getElem_cons_zero] at h0
    unfold wtL
    rw [if_neg (by rw [h0]; simp)]
    simp only [List.getElem_cons_succ] at hk ⊢
    exact wtL_at (by simpa using h) hk fun j hjk => by
      have h' := hj (j + 1) (by omega)
      rwa [List.getElem_cons_succ] at h'

theorem isEnds_no1 {u v : Int} {a : Arc3} (h : (a.1 == u) = false) : isEnds u v a = false := by unfold isEnds; rw [h, Bool.false_and]
theorem isEnds_no2 {u v : Int} {a : Arc3} (h : (a.2.1 == v) = false) : isEnds u v a = false := by unfold isEnds; rw [h, Bool.and_false]
theorem isEnds_yes {u v : Int} {a : Arc3} (h : (a.1 == u) = true) (h' : (a.2.1 == v) = true) : isEnds u v a = true := by unfold isEnds; rw [h, h']; rfl

theorem box2g {w wx : World} {a b : Value} {t : TypeId} (h : Bl (w.alloc (.cells #[a, b] t)) wx) : wx.cell? ⟨w.heap.size, 0, none⟩ = some a ∧ wx.cell? ⟨w.heap.size, 1, none⟩ = some b := by
  have hc := (bcell h).1
  exact ⟨by rw [hc _ _ (by simp)]; simp [go_sem], by rw [hc _ _ (by simp)]; simp [go_sem]⟩

set_option maxHeartbeats 1000000 in
theorem l1Weight_any (N u v : Int) (A : Option Addr) (n c : Nat) (L : List Arc3) (hn : n = L.length) (w : World) (hm : n ≤ 9223372036854775807) (H1 : ArcsAt w w.heap.size A L) :
    Calls Try.prog 102 #[.agg #[.int .i64 N, .slice A n c], .int .i64 u, .int .i64 v] w fun e w' => e = .returned (.int .i64 (wtL u v L)) ∧ Bl w w' := by
  have K1 := Lib.hid H1
  have HN := Lib.hid hn
  clear H1 hn
  go_enter Try.func102, Try.ntmps102
  go_wp2
  go_loopw [7] (fun i wr => ∃ k : Nat, k ≤ n ∧ i = .int .i64 k ∧ wr = w.alloc (.cells #[.int .i64 N, .slice A n c] 38) ∧ ∀ j (h : j < L.length), j < k → isEnds u v L[j] = false) (fun i _ => n - (intOf i).toNat)
  case atStart => exact ⟨0, by omega, rfl, rfl, fun j h h' => absurd h' (by omega)⟩
  case round =>
    obtain ⟨k, hk, rfl, rfl, hno⟩ := hrel
    have HO := Lib.hid hno
    clear hno
    by_cases hlt : k < n
    · have hkl : k < L.length := by have := HN.out; omega
      obtain ⟨g1, o1, rfl, hg1, hc1⟩ := K1.out (by omega)
      obtain ⟨p1, p2, p3⟩ := hc1 k hkl
      clear hc1
      generalize hx : L[k].1 = x at p1
      generalize hy : L[k].2.1 = y at p2
      generalize hz : L[k].2.2 = z at p3
      have HX := Lib.hid hx
      have HY := Lib.hid hy
      have HZ := Lib.hid hz
      clear hx hy hz
      by_cases b1 : (x == u) = true
      · by_cases b2 : (y == v) = true
        · go_wp2
          go_ret
          exact ⟨ret_int (by rw [wtL_at hkl (isEnds_yes (by rw [HX.out]; exact b1) (by rw [HY.out]; exact b2)) (fun j hj => HO.out j (by omega) hj), HZ.out]), (by repeat' (first | exact Bl.refl _ | with_reducible assumption | with_reducible refine Bl.drew_ ?_ | with_reducible refine Bl.drewN_ ?_ _ | with_reducible refine Bl.alloc_ ?_ _ | with_reducible refine Bl.trans_ ?_ (by assumption) | with_reducible refine Bl.trans_ ?_ (And.left (by assumption))))⟩
        · have b2' : (y == v) = false := by simpa using b2
          clear b2
          go_wp2
          go_roundw
          case rel =>
            refine ⟨k + 1, by omega, by go_num, by first | rfl | trivial, fun j h hj => ?_⟩
            rcases Nat.lt_or_ge j k with h' | h'
            · exact HO.out j h h'
            · obtain rfl : j = k := by omega
              exact isEnds_no2 (by rw [HY.out]; exact b2')
          case measure => simp [intOf]; omega
      · have b1' : (x == u) = false := by simpa using b1
        clear b1
        go_wp2
        go_roundw
        case rel =>
          refine ⟨k + 1, by omega, by go_num, by first | rfl | trivial, fun j h hj => ?_⟩
          rcases Nat.lt_or_ge j k with h' | h'
          · exact HO.out j h h'
          · obtain rfl : j = k := by omega
            exact isEnds_no1 (by rw [HX.out]; exact b1')
        case measure => simp [intOf]; omega
    · go_wp2
      go_ret
      exact ⟨ret_int (by rw [wtL_none fun j h => HO.out j h (by have := HN.out; omega)]), (by repeat' (first | exact Bl.refl _ | with_reducible assumption | with_reducible refine Bl.drew_ ?_ | with_reducible refine Bl.drewN_ ?_ _ | with_reducible refine Bl.alloc_ ?_ _ | with_reducible refine Bl.trans_ ?_ (by assumption) | with_reducible refine Bl.trans_ ?_ (And.left (by assumption))))⟩

/-- The weight of an arc of a graph; 0 where the graph is not right. -/
def weightOf (N : Int) (L : List Arc3) (u v : Int) : Int := if okB N L = true then wtL u v L else 0

-- (specWeight_any left out)

end Go.Proofs.Ytffjpfanmnkmgaa
