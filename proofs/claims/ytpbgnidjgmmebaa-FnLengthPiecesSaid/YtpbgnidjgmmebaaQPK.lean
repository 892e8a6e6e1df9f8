/-
  What is proved here: plain facts on the pieces of any path, and on a path that is gone backwards in the turned graph. No conditions beyond those that each theorem states.
-/
import Derived.Test.YtpbgnidjgmmebaaZP
set_option linter.unusedSimpArgs false
set_option linter.unusedVariables false
namespace Go.Proofs.Ytpbgnidjgmmebaa
open Go.RowKit

/-- Where there is a weight there is an arc. -/
theorem wtL_ne {u v : Int} : ∀ {L : List Arc3}, wtL u v L ≠ 0 → ∃ a ∈ L, a.1 = u ∧ a.2.1 = v
  | [], h => absurd rfl h
  | a :: l, h => by
    unfold wtL at h
    split at h
    · rename_i he
      have : a.1 = u ∧ a.2.1 = v := by simpa [isEnds] using he
      exact ⟨a, List.mem_cons_self .., this⟩
    · obtain ⟨b, hb, e⟩ := wtL_ne h
      exact ⟨b, List.mem_cons_of_mem _ hb, e⟩
theorem wtL_back {N u v : Int} {L : List Arc3} (ho : okB N L = true) (h : wtL u v L ≠ 0) : wtL v u (revL L) = wtL u v L := by
  obtain ⟨a, ha, h1, h2⟩ := wtL_ne h
  have hs := (okB_elim ho).2.2.2.2
  have e1 := wtL_mem hs ha
  have e2 := wtL_mem (revL_sorted hs).1 ((revL_mem hs (b := turnA a)).2 (by show turnA (turnA a) ∈ L; exact ha))
  rw [h1, h2] at e1
  have e3 : wtL v u (revL L) = a.2.2 := by
    have : wtL a.2.1 a.1 (revL L) = a.2.2 := e2
    rw [h1, h2] at this
    exact this
  rw [e1, e3]
theorem pathB_elim {N : Int} {L : List Arc3} {P : List Int} (h : pathB N L P = true) : okB N L = true ∧ 0 < P.length ∧ P.length ≤ 1000 ∧ (0 ≤ P.getD 0 0 ∧ P.getD 0 0 < N) ∧ ∀ j, j < P.length - 1 → stepW L P j ≠ 0 := by
  unfold pathB at h
  rw [Bool.and_eq_true, decide_eq_true_eq] at h
  exact h
theorem pathB_nodes {N : Int} {L : List Arc3} {P : List Int} (h : pathB N L P = true) (j : Nat) (hj : j < P.length) : 0 ≤ P.getD j 0 ∧ P.getD j 0 < N := by
  obtain ⟨ho, h0, h1, h2, h3⟩ := pathB_elim h
  cases j with
  | zero => exact h2
  | succ j =>
    obtain ⟨a, ha, e1, e2⟩ := wtL_ne (h3 j (by omega))
    have := arcsIn_of_ok ho a ha
    rw [e2] at this
    omega
theorem pieceL_step {L : List Arc3} {P : List Int} {i k m : Nat} (hi : i ≤ k) (hk : k < P.length) (hm : m < k - i) : stepW L (pieceL P i k) m = stepW L P (i + m) := by
  unfold stepW
  rw [pieceL_at hi hk (by omega), pieceL_at hi hk (by omega)]
  rw [getD_at (show i + m < P.length by omega), getD_at (show i + m + 1 < P.length by omega)]
  rfl
theorem pieceL_sum {L : List Arc3} {P : List Int} {i k : Nat} (hi : i ≤ k) (hk : k < P.length) : ∀ m : Nat, m ≤ k - i → sumW L (pieceL P i k) m = sumW L P (i + m) - sumW L P i
  | 0, _ => by show (0 : Int) = _; rw [Nat.add_zero]; omega
  | m + 1, hm => by
    have ih := pieceL_sum (L := L) hi hk m (by omega)
    have e := pieceL_step (L := L) hi hk (show m < k - i by omega)
    show sumW L (pieceL P i k) m + stepW L (pieceL P i k) m = _
    have e2 : sumW L P (i + (m + 1)) = sumW L P (i + m) + stepW L P (i + m) := rfl
    rw [ih, e, e2]
    omega
/-- A piece of a path is a path; its length. -/
theorem piece_any {N : Int} {L : List Arc3} {P : List Int} (h : pathB N L P = true) (i k : Nat) (hi : i ≤ k) (hk : k < P.length) :
    pathB N L (pieceL P i k) = true ∧ lenI N L (pieceL P i k) = sumW L P k - sumW L P i := by
  obtain ⟨ho, h0, h1, h2, h3⟩ := pathB_elim h
  have hl := pieceL_len hi hk
  have hp : pathB N L (pieceL P i k) = true := by
    refine pathB_yes ho (by omega) (by omega) ?_ fun j hj => ?_
    · rw [pieceL_at hi hk (by omega)]
      have := pathB_nodes h i (by omega)
      rw [getD_at (show i < P.length by omega)] at this
      exact this
    · rw [pieceL_step hi hk (by omega)]
      exact h3 _ (by omega)
  refine ⟨hp, ?_⟩
  rw [lenI_yes hp, hl, pieceL_sum hi hk _ (by omega)]
  rw [show i + (k + 1 - i - 1) = k from by omega]
theorem pieces_add {N : Int} {L : List Arc3} {P : List Int} (h : pathB N L P = true) (i : Nat) (hi : i < P.length) :
    pathB N L (pieceL P 0 i) = true ∧ pathB N L (pieceL P i (P.length - 1)) = true ∧ lenI N L (pieceL P 0 i) + lenI N L (pieceL P i (P.length - 1)) = lenI N L P := by
  obtain ⟨a1, a2⟩ := piece_any h 0 i (by omega) hi
  obtain ⟨b1, b2⟩ := piece_any h i (P.length - 1) (by omega) (by omega)
  refine ⟨a1, b1, ?_⟩
  rw [a2, b2, lenI_yes h]
  have : sumW L P 0 = 0 := rfl
  omega
theorem rev_step {L : List Arc3} {P : List Int} {N : Int} (h : pathB N L P = true) {m : Nat} (hm : m < P.length - 1) : stepW (revL L) P.reverse m = stepW L P (P.length - 2 - m) := by
  obtain ⟨ho, h0, h1, h2, h3⟩ := pathB_elim h
  have h4 := h3 (P.length - 2 - m) (by omega)
  have e := wtL_back ho h4
  have g1 : P.reverse.getD m 0 = P.getD (P.length - 2 - m + 1) 0 := by
    rw [getD_at (by rw [List.length_reverse]; omega), getD_at (by omega), List.getElem_reverse]
    congr 1
    omega
  have g2 : P.reverse.getD (m + 1) 0 = P.getD (P.length - 2 - m) 0 := by
    rw [getD_at (by rw [List.length_reverse]; omega), getD_at (by omega), List.getElem_reverse]
    congr 1
    omega
  unfold stepW
  rw [g1, g2]
  exact e
theorem rev_sum {L : List Arc3} {P : List Int} {N : Int} (h : pathB N L P = true) : ∀ m : Nat, m ≤ P.length - 1 → sumW (revL L) P.reverse m = sumW L P (P.length - 1) - sumW L P (P.length - 1 - m)
  | 0, _ => by show (0 : Int) = _; rw [Nat.sub_zero]; omega
  | m + 1, hm => by
    have ih := rev_sum h m (by omega)
    show sumW (revL L) P.reverse m + stepW (revL L) P.reverse m = _
    rw [ih, rev_step h (by omega)]
    have e2 : sumW L P (P.length - 2 - m + 1) = sumW L P (P.length - 2 - m) + stepW L P (P.length - 2 - m) := rfl
    rw [show P.length - 2 - m + 1 = P.length - 1 - m from by omega] at e2
    rw [show P.length - 1 - (m + 1) = P.length - 2 - m from by omega]
    omega
/-- Gone backwards in the turned graph a path is a path, as long as it was. -/
theorem path_back {N : Int} {L : List Arc3} {P : List Int} (h : pathB N L P = true) : pathB N (revL L) P.reverse = true ∧ lenI N (revL L) P.reverse = lenI N L P := by
  obtain ⟨ho, h0, h1, h2, h3⟩ := pathB_elim h
  have hp : pathB N (revL L) P.reverse = true := by
    refine pathB_yes (revL_ok ho) (by rw [List.length_reverse]; exact h0) (by rw [List.length_reverse]; exact h1) ?_ fun j hj => ?_
    · rw [getD_at (by rw [List.length_reverse]; exact h0), List.getElem_reverse]
      have := pathB_nodes h (P.length - 1) (by omega)
      rw [getD_at (by omega)] at this
      simpa using this
    · rw [List.length_reverse] at hj
      rw [rev_step h hj]
      exact h3 _ (by omega)
  refine ⟨hp, ?_⟩
  rw [lenI_yes hp, lenI_yes h, List.length_reverse, rev_sum h _ (Nat.le_refl _), Nat.sub_self]
  have : sumW L P 0 = 0 := rfl
  omega

end Go.Proofs.Ytpbgnidjgmmebaa
