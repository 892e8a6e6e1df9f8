/-
  What is proved here: plain facts on arcs in order: an arc that is put in, taken out, or weighed anew. No conditions beyond those that each theorem states.
-/
import Derived.Test.YtffjpfanmnkmgaaF1
import Derived.Test.YtffjpfanmnkmgaaD3
set_option linter.unusedSimpArgs false
set_option linter.unusedVariables false
namespace Go.Proofs.Ytffjpfanmnkmgaa
open Go.RowKit

/-- The arcs without those of these ends. -/
def restL (u v : Int) (L : List Arc3) : List Arc3 := L.filter fun a => !(isEnds u v a)
/-- The arcs with another weight of one; 0: without it. -/
def weighedL (u v x : Int) (L : List Arc3) : List Arc3 := if 0 < x then putL (u, v, x) (restL u v L) else restL u v L
/-- Is an arc ahead of another one? -/
def AheadP (a b : Arc3) : Prop := aheadB a.1 a.2.1 b.1 b.2.1 = true

theorem okB_intro {n : Int} {L : List Arc3} (h1 : 1 ≤ n) (h2 : n ≤ 24) (h3 : L.length ≤ 150) (ha : ∀ a ∈ L, arcB n a.1 a.2.1 a.2.2 = true) (hp : L.Pairwise AheadP) : okB n L = true := by
  have hs := List.pairwise_iff_getElem.1 hp
  have step : ∀ k (h : k < L.length), stepB n L k h = true := fun k h => by
    unfold stepB
    rw [ha _ (List.getElem_mem h), Bool.true_and]
    split
    · rename_i h0
      exact hs (k - 1) k (by omega) h (by omega)
    · rfl
  have first : ∀ m, firstB n L m = true := fun m => by
    induction m with
    | zero => rfl
    | succ m ih =>
      unfold firstB
      rw [ih, Bool.true_and]
      split
      · exact step _ _
      · rfl
  rw [okB_yes (first _)]
  simp only [decide_eq_true_eq]
  exact ⟨h1, h2, h3⟩
theorem okB_elim {n : Int} {L : List Arc3} (h : okB n L = true) : 1 ≤ n ∧ n ≤ 24 ∧ L.length ≤ 150 ∧ (∀ a ∈ L, arcB n a.1 a.2.1 a.2.2 = true) ∧ L.Pairwise AheadP := by
  have hs := sorted_of_ok h
  have h' := h
  unfold okB at h'
  rw [Bool.and_eq_true, decide_eq_true_eq] at h'
  refine ⟨h'.1.1, h'.1.2.1, h'.1.2.2, fun a hmem => ?_, List.pairwise_iff_getElem.2 fun i j hi hj hij => hs i j hij hj⟩
  obtain ⟨k, hk, rfl⟩ := List.mem_iff_getElem.1 hmem
  have := firstB_all h'.2 k hk hk
  unfold stepB at this
  rw [Bool.and_eq_true] at this
  exact this.1

theorem fold_lo (a : Arc3) : ∀ (X R : List Arc3), (∀ x ∈ X, aheadB x.1 x.2.1 a.1 a.2.1 = true) → X.foldl (putStep a) (R, false) = (R ++ X, false)
  | [], R, _ => by simp
  | x :: X, R, h => by
    have hx := h x (by simp)
    have hne : ((x.1 != a.1) || (x.2.1 != a.2.1)) = true := by
      simp only [aheadB, decide_eq_true_eq] at hx
      simp only [Bool.or_eq_true, bne_iff_ne]
      omega
    rw [List.foldl_cons, show putStep a (R, false) x = (R ++ [x], false) from by simp [putStep, hx, hne], fold_lo a X _ fun y hy => h y (by simp [hy])]
    simp
theorem fold_hi (a : Arc3) : ∀ (Y R : List Arc3), (∀ y ∈ Y, isEnds a.1 a.2.1 y = false) → Y.foldl (putStep a) (R, true) = (R ++ Y, true)
  | [], R, _ => by simp
  | y :: Y, R, h => by
    have hy := h y (by simp)
    have hne : ((y.1 != a.1) || (y.2.1 != a.2.1)) = true := by
      unfold isEnds at hy
      cases h1 : (y.1 == a.1) <;> cases h2 : (y.2.1 == a.2.1) <;> simp_all
    rw [List.foldl_cons, show putStep a (R, true) y = (R ++ [y], true) from by simp [putStep, hne], fold_hi a Y _ fun z hz => h z (by simp [hz])]
    simp
theorem putL_mid (a : Arc3) (X Y : List Arc3) (hX : ∀ x ∈ X, aheadB x.1 x.2.1 a.1 a.2.1 = true) (hY : ∀ y ∈ Y, aheadB y.1 y.2.1 a.1 a.2.1 = false) (hE : ∀ y ∈ Y, isEnds a.1 a.2.1 y = false) : putL a (X ++ Y) = X ++ [a] ++ Y := by
  have e : putSt a (X ++ Y) (X ++ Y).length = (X ++ Y).foldl (putStep a) ([], false) := by
    unfold putSt
    rw [List.take_length]
  unfold putL
  rw [e, List.foldl_append, fold_lo a X [] hX]
  cases Y with
  | nil => simp
  | cons y Y =>
    have hy := hY y (by simp)
    have hne : ((y.1 != a.1) || (y.2.1 != a.2.1)) = true := by
      have h := hE y (by simp)
      unfold isEnds at h
      cases h1 : (y.1 == a.1) <;> cases h2 : (y.2.1 == a.2.1) <;> simp_all
    rw [List.foldl_cons, show putStep a ([] ++ X, false) y = (X ++ [a] ++ [y], true) from by simp [putStep, hy, hne], fold_hi a Y _ fun z hz => hE z (by simp [hz])]
    simp

/-- Where the arcs behind an arc begin. -/
def behindN (p : Nat) (f : Bool) : Nat := if f = true then p + 1 else p
section
variable {N u v x : Int} {L : List Arc3} {p : Nat} {f : Bool}
theorem lo_ahead (h : BsAt L u v p f) : ∀ a ∈ L.take p, aheadB a.1 a.2.1 u v = true := fun a ha => by
  obtain ⟨k, hk, rfl⟩ := List.mem_iff_getElem.1 ha
  rw [List.length_take] at hk
  rw [List.getElem_take]
  exact h.2.1 k (by omega) (by omega)
theorem hi_not (h : BsAt L u v p f) : ∀ a ∈ L.drop (behindN p f), aheadB a.1 a.2.1 u v = false := fun a ha => by
  obtain ⟨k, hk, rfl⟩ := List.mem_iff_getElem.1 ha
  rw [List.length_drop] at hk
  rw [List.getElem_drop]
  exact h.2.2.1 _ (by omega) (by unfold behindN; split <;> omega)
theorem hi_ends (hs : SortedA L) (h : BsAt L u v p f) : ∀ a ∈ L.drop (behindN p f), isEnds u v a = false := fun a ha => by
  obtain ⟨k, hk, rfl⟩ := List.mem_iff_getElem.1 ha
  rw [List.length_drop] at hk
  rw [List.getElem_drop]
  obtain ⟨hp, hlo, hhi, hf⟩ := h
  have hb : p ≤ behindN p f := by unfold behindN; split <;> omega
  have hpl : p < L.length := by omega
  rw [dif_pos hpl] at hf
  cases he : isEnds u v L[behindN p f + k] with
  | false => rfl
  | true =>
    obtain ⟨e1, e2⟩ := isEnds_iff.1 he
    rcases Nat.lt_or_ge p (behindN p f + k) with h2 | h2
    · have h3 := hs p (behindN p f + k) h2 (by omega)
      rw [e1, e2, hhi p hpl (Nat.le_refl _)] at h3
      cases h3
    · exfalso
      have hp' : behindN p f + k = p := by omega
      have hf' : f = false := by
        cases f with
        | false => rfl
        | true => unfold behindN at hp'; simp at hp'; omega
      have : isEnds u v L[p] = true := by
        have e : L[behindN p f + k] = L[p] := by congr 1
        rw [← e]; exact he
      rw [this, hf'] at hf
      cases hf
theorem rest_eq (hs : SortedA L) (h : BsAt L u v p f) : restL u v L = L.take p ++ L.drop (behindN p f) := by
  have h1 : L.take p ++ L.drop p = L := List.take_append_drop p L
  have hlo : (L.take p).filter (fun a => !(isEnds u v a)) = L.take p := List.filter_eq_self.2 fun a ha => by rw [not_ends_of_ahead (lo_ahead h a ha)]; rfl
  have hhi : (L.drop (behindN p f)).filter (fun a => !(isEnds u v a)) = L.drop (behindN p f) := List.filter_eq_self.2 fun a ha => by rw [hi_ends hs h a ha]; rfl
  unfold restL
  rw [← h1, List.filter_append, hlo, h1]
  congr 1
  cases f with
  | false => exact hhi
  | true =>
    have hf := h.2.2.2
    by_cases hpl : p < L.length
    · rw [dif_pos hpl] at hf
      rw [List.drop_eq_getElem_cons hpl, List.filter_cons, ← hf]
      exact hhi
    · rw [dif_neg hpl] at hf
      cases hf
/-- The arcs as the code puts them together. -/
def implL (u v x : Int) (L : List Arc3) (p : Nat) (f : Bool) : List Arc3 := L.take p ++ (if 0 < x then [(u, v, x)] else []) ++ L.drop (behindN p f)
theorem weighed_eq (hs : SortedA L) (h : BsAt L u v p f) : weighedL u v x L = implL u v x L p f := by
  unfold weighedL implL
  rw [rest_eq hs h]
  by_cases hx : 0 < x
  · rw [if_pos hx, if_pos hx]
    exact putL_mid (u, v, x) _ _ (lo_ahead h) (hi_not h) (hi_ends hs h)
  · rw [if_neg hx, if_neg hx, List.append_nil]
theorem ahead_total {a b c d : Int} (h : aheadB a b c d = false) (he : ¬ (a = c ∧ b = d)) : aheadB c d a b = true := by
  simp only [aheadB, decide_eq_true_eq, decide_eq_false_iff_not] at *
  omega
theorem weighed_ok (ho : okB N L = true) (hpr : pairB N u v = true) (hx : x ≤ 1000) (h : BsAt L u v p f) (hl : (implL u v x L p f).length ≤ 150) : okB N (implL u v x L p f) = true := by
  obtain ⟨h1, h2, h3, ha, hp⟩ := okB_elim ho
  have hs := sorted_of_ok ho
  have hsub : (L.take p ++ L.drop (behindN p f)).Sublist L := by rw [← rest_eq hs h]; exact List.filter_sublist
  have hpw : (L.take p ++ L.drop (behindN p f)).Pairwise AheadP := hp.sublist hsub
  obtain ⟨hA, hB, hAB⟩ := List.pairwise_append.1 hpw
  refine okB_intro h1 h2 hl (fun a hmem => ?_) ?_
  · unfold implL at hmem
    rw [List.mem_append, List.mem_append] at hmem
    rcases hmem with (hmem | hmem) | hmem
    · exact ha a (List.mem_of_mem_take hmem)
    · by_cases hx0 : 0 < x
      · rw [if_pos hx0] at hmem
        simp only [List.mem_singleton] at hmem
        subst hmem
        rw [arcB_yes hpr]
        simp only [decide_eq_true_eq]
        omega
      · rw [if_neg hx0] at hmem
        simp at hmem
    · exact ha a (List.mem_of_mem_drop hmem)
  · unfold implL
    by_cases hx0 : 0 < x
    · rw [if_pos hx0, List.append_assoc]
      refine List.pairwise_append.2 ⟨hA, List.pairwise_append.2 ⟨List.pairwise_singleton _ _, hB, fun a hm b hb => ?_⟩, fun a hm b hb => ?_⟩
      · simp only [List.mem_singleton] at hm
        subst hm
        have h4 := hi_not h b hb
        have h5 := hi_ends hs h b hb
        exact ahead_total h4 fun hc => by rw [isEnds_iff.2 hc] at h5; cases h5
      · rw [List.mem_append] at hb
        rcases hb with hb | hb
        · simp only [List.mem_singleton] at hb
          subst hb
          exact lo_ahead h a hm
        · exact hAB a hm b hb
    · rw [if_neg hx0, List.append_nil]
      exact hpw
end

end Go.Proofs.Ytffjpfanmnkmgaa
