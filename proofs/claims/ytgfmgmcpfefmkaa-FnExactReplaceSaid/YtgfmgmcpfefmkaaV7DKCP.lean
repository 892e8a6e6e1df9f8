/-
  What is proved here: plain facts on ops that are kept when power is lost. No conditions beyond those that each theorem states.
-/
import Derived.Test.YtgfmgmcpfefmkaaV7G06
set_option linter.unusedSimpArgs false
set_option linter.unusedVariables false
namespace Go.Proofs.Ytgfmgmcpfefmkaa
open Go.RowKit

/-- Places that rise, above l, below n. -/
def riseB (n : Nat) : Int → List Int → Bool
  | _, [] => true
  | l, x :: r => decide (l < x) && decide (x < (n : Int)) && riseB n x r
/-- The last place ahead of the k-th, or -1. -/
def lastI (K : List Int) (k : Nat) : Int := if k = 0 then -1 else K.getD (k - 1) 0
theorem lastI_zero (K : List Int) : lastI K 0 = -1 := rfl
theorem lastI_succ {K : List Int} {k : Nat} (h : k < K.length) : lastI K (k + 1) = K[k] := by
  unfold lastI
  rw [if_neg (by omega)]
  simp [h]
theorem rise_drop {n : Nat} {K : List Int} {l : Int} {k : Nat} (h : k < K.length) : riseB n l (K.drop k) = (decide (l < K[k]) && decide (K[k] < (n : Int)) && riseB n K[k] (K.drop (k + 1))) := by
  rw [List.drop_eq_getElem_cons h]
  rfl
/-- So far they rise. -/
def RiseSt (n : Nat) (K : List Int) (k : Nat) : Prop := riseB n (-1) K = riseB n (lastI K k) (K.drop k) ∧ -1 ≤ lastI K k
theorem RiseSt.zero (n : Nat) (K : List Int) : RiseSt n K 0 := ⟨rfl, by rw [lastI_zero]; omega⟩
theorem RiseSt.next {n : Nat} {K : List Int} {k : Nat} (h : RiseSt n K k) (hk : k < K.length) (h1 : lastI K k < K[k]) (h2 : K[k] < (n : Int)) : RiseSt n K (k + 1) := by
  refine ⟨?_, by rw [lastI_succ hk]; have := h.2; omega⟩
  rw [h.1, rise_drop hk, lastI_succ hk, decide_eq_true h1, decide_eq_true h2]
  rfl
theorem RiseSt.bad {n : Nat} {K : List Int} {k : Nat} (h : RiseSt n K k) (hk : k < K.length) (hb : ¬ (lastI K k < K[k] ∧ K[k] < (n : Int))) : riseB n (-1) K = false := by
  rw [h.1, rise_drop hk]
  rcases Decidable.not_and_iff_or_not.1 hb with h | h
  · rw [decide_eq_false h]; rfl
  · rw [decide_eq_false h]; simp
theorem RiseSt.last {n : Nat} {K : List Int} (h : RiseSt n K K.length) : riseB n (-1) K = true := by
  rw [h.1, List.drop_length]; rfl

theorem disk_parts {L1 L2 : List Fl} {O : List Dp} (h : diskB (L1, L2, O) = true) : filesB L2 = true ∧ O.length ≤ 200 ∧ goodB L2 O = true ∧ doAll L2 O = L1 := by
  unfold diskB at h
  simp only [Bool.and_eq_true, decide_eq_true_eq, sameL_iff] at h
  exact ⟨h.1.1.1, h.1.1.2, h.1.2, h.2⟩
section
variable {S : List Fl} {O : List Dp} {K : List Int} {m : Int}
end

end Go.Proofs.Ytgfmgmcpfefmkaa
