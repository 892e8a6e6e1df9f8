/-
  What is proved here: plain facts on heaps: what goes up or down leaves a heap of the same items; the first is the least. No conditions beyond those that each theorem states.
-/
import Derived.Test.YtelgjfflhcmljaaHM
set_option linter.unusedSimpArgs false
set_option linter.unusedVariables false
namespace Go.Proofs.Ytelgjfflhcmljaa

/-- None is less than what is above it. -/
def Ord (L : List It) : Prop := ∀ i, i < L.length → 0 < i → lessI (atI L i) (atI L ((i - 1) / 2)) = false
theorem ordI_iff (L : List It) : ordI L L.length = true ↔ Ord L := by
  unfold ordI Ord
  rw [List.all_eq_true]
  constructor
  · intro h i hi h0
    have := h i (List.mem_range.2 hi)
    simpa [h0] using this
  · intro h i hi
    rw [List.mem_range] at hi
    by_cases h0 : 0 < i
    · simp [h i hi h0]
    · simp [h0]

theorem atI_swap {L : List It} {i j k : Nat} (hi : i < L.length) (hj : j < L.length) : atI (swapI L i j) k = if k = j then atI L i else if k = i then atI L j else atI L k := by
  unfold swapI
  rw [atI_set (by simpa using hj)]
  split
  · rfl
  · rw [atI_set hi]
theorem swapI_perm {L : List It} {i j : Nat} (hi : i < L.length) (hj : j < L.length) : (swapI L i j).Perm L := by
  unfold swapI
  rw [atI_eq hi, atI_eq hj]
  exact List.set_set_perm hi hj

theorem upI_perm (k : Nat) : ∀ (L : List It), k < L.length → (upI L k).Perm L := by
  induction k using Nat.strongRecOn with
  | ind k ih =>
    intro L hk
    by_cases h : 0 < k ∧ lessI (atI L k) (atI L ((k - 1) / 2)) = true
    · rw [upI_step h.1 h.2]
      exact (ih _ (by omega) _ (by rw [swapI_len]; omega)).trans (swapI_perm hk (by omega))
    · rw [upI]
      simp only [h, dite_false]
      exact List.Perm.refl _

theorem upI_ord (k : Nat) : ∀ (L : List It), k < L.length → (∀ i, i < L.length → 0 < i → i ≠ k → lessI (atI L i) (atI L ((i - 1) / 2)) = false) →
    (∀ i, i < L.length → 0 < i → (i - 1) / 2 = k → 0 < k → lessI (atI L i) (atI L ((k - 1) / 2)) = false) → Ord (upI L k) := by
  induction k using Nat.strongRecOn with
  | ind k ih =>
    intro L hk h1 h2
    by_cases h : 0 < k ∧ lessI (atI L k) (atI L ((k - 1) / 2)) = true
    · obtain ⟨h0, hl⟩ := h
      rw [upI_step h0 hl]
      have hp : (k - 1) / 2 < k := by omega
      have hpl : (k - 1) / 2 < L.length := by omega
      refine ih ((k - 1) / 2) hp _ (by rw [swapI_len]; omega) (fun i hi hi0 hip => ?_) (fun i hi hi0 hip hp0 => ?_)
      · rw [swapI_len] at hi
        rw [atI_swap hk hpl, atI_swap hk hpl, if_neg hip]
        by_cases hik : i = k
        · subst hik
          rw [if_pos rfl, if_pos rfl]
          exact lessI_asymm hl
        · rw [if_neg hik]
          by_cases hpi : (i - 1) / 2 = (k - 1) / 2
          · rw [if_pos hpi]
            cases hc : lessI (atI L i) (atI L k) with
            | false => rfl
            | true =>
              have a := lessI_trans hc hl
              have b := h1 i hi hi0 hik
              rw [hpi, a] at b
              cases b
          · rw [if_neg hpi]
            by_cases hpk : (i - 1) / 2 = k
            · rw [if_pos hpk]
              exact h2 i hi hi0 hpk h0
            · rw [if_neg hpk]
              exact h1 i hi hi0 hik
      · rw [swapI_len] at hi
        have hq : ((k - 1) / 2 - 1) / 2 ≠ (k - 1) / 2 := by omega
        have hq2 : ((k - 1) / 2 - 1) / 2 ≠ k := by omega
        rw [atI_swap hk hpl, atI_swap hk hpl, if_neg hq, if_neg hq2, if_neg (by omega)]
        by_cases hik : i = k
        · rw [if_pos hik]
          exact h1 _ hpl hp0 (by omega)
        · rw [if_neg hik]
          have a := h1 i hi hi0 hik
          rw [hip] at a
          exact lessI_neg_trans a (h1 _ hpl hp0 (by omega))
    · rw [upI]
      simp only [h, dite_false]
      intro i hi hi0
      by_cases hik : i = k
      · subst hik
        cases hc : lessI (atI L i) (atI L ((i - 1) / 2)) with
        | false => rfl
        | true => exact absurd ⟨hi0, hc⟩ h
      · exact h1 i hi hi0 hik

theorem pickI_child {L : List It} {p : Nat} (h : pickI L p ≠ p) : pickI L p = 2 * p + 1 ∨ pickI L p = 2 * p + 2 := by
  unfold pickI at h ⊢
  rw [bestI] at h ⊢
  split at h
  · rename_i h1; rw [if_pos h1]; right; rfl
  · rename_i h1
    rw [if_neg h1]
    rw [bestI] at h ⊢
    split at h
    · rename_i h2; rw [if_pos h2]; left; rfl
    · exact absurd rfl h
theorem pickI_least {L : List It} {p i : Nat} (hi : i < L.length) (h : i = p ∨ i = 2 * p + 1 ∨ i = 2 * p + 2) : lessI (atI L i) (atI L (pickI L p)) = false := by
  have step : ∀ j, lessI (atI L (bestI L p j)) (atI L (bestI L p (j + 1))) = false := fun j => by
    by_cases c : 2 * p + 1 + j < L.length ∧ lessI (atI L (2 * p + 1 + j)) (atI L (bestI L p j)) = true
    · rw [bestI_yes c.1 c.2]; exact lessI_asymm c.2
    · rw [bestI, if_neg c]; exact lessI_irrefl _
  have at_ : ∀ j, 2 * p + 1 + j < L.length → lessI (atI L (2 * p + 1 + j)) (atI L (bestI L p (j + 1))) = false := fun j hj => by
    by_cases c : 2 * p + 1 + j < L.length ∧ lessI (atI L (2 * p + 1 + j)) (atI L (bestI L p j)) = true
    · rw [bestI_yes c.1 c.2]; exact lessI_irrefl _
    · rw [bestI, if_neg c]
      cases hc : lessI (atI L (2 * p + 1 + j)) (atI L (bestI L p j)) with
      | false => rfl
      | true => exact absurd ⟨hj, hc⟩ c
  unfold pickI
  rcases h with rfl | rfl | rfl
  · exact lessI_neg_trans (step 0) (step 1)
  · exact lessI_neg_trans (at_ 0 hi) (step 1)
  · exact at_ 1 hi

theorem downI_perm_aux (n : Nat) : ∀ (L : List It) (p : Nat), L.length - p = n → (downI L p).Perm L := by
  induction n using Nat.strongRecOn with
  | ind n ih =>
    intro L p hn
    by_cases h : pickI L p = p
    · rw [downI_stop h]
    · rw [downI_step h]
      have h1 := pickI_ge L p
      have h2 := pickI_lt' h
      exact (ih (L.length - pickI L p) (by omega) _ _ (by rw [swapI_len])).trans (swapI_perm (by omega) h2)
theorem downI_perm (L : List It) (p : Nat) : (downI L p).Perm L := downI_perm_aux _ L p rfl
theorem arrI_perm : ∀ (n : Nat) (L : List It), (arrI n L).Perm L
  | 0, L => List.Perm.refl _
  | n + 1, L => by rw [arrI]; exact (arrI_perm n _).trans (downI_perm L n)

theorem downI_ord_aux (n : Nat) : ∀ (L : List It) (p : Nat), L.length - p = n → (∀ i, i < L.length → 0 < i → (i - 1) / 2 ≠ p → lessI (atI L i) (atI L ((i - 1) / 2)) = false) →
    (∀ i, i < L.length → 0 < i → (i - 1) / 2 = p → 0 < p → lessI (atI L i) (atI L ((p - 1) / 2)) = false) → Ord (downI L p) := by
  induction n using Nat.strongRecOn with
  | ind n ih =>
    intro L p hn h1 h2
    by_cases h : pickI L p = p
    · rw [downI_stop h]
      intro i hi hi0
      by_cases hip : (i - 1) / 2 = p
      · have := pickI_least (L := L) (p := p) hi (by omega)
        rw [h] at this
        rw [hip]
        exact this
      · exact h1 i hi hi0 hip
    · have hge := pickI_ge L p
      have hlt := pickI_lt' h
      have hch := pickI_child h
      have hpl : p < L.length := by omega
      rw [downI_step h]
      generalize hm : pickI L p = m at *
      have hpm : (m - 1) / 2 = p := by omega
      refine ih (L.length - m) (by omega) _ m (by rw [swapI_len]) (fun i hi hi0 him => ?_) (fun i hi hi0 him hm0 => ?_)
      · rw [swapI_len] at hi
        rw [atI_swap hpl hlt, atI_swap hpl hlt, if_neg (show ¬ (i - 1) / 2 = m from him)]
        by_cases hi1 : i = m
        · rw [if_pos hi1, hi1, hpm, if_pos rfl]
          have := pickI_least (L := L) (p := p) hpl (.inl rfl)
          rw [hm] at this
          exact this
        · rw [if_neg hi1]
          by_cases hi2 : i = p
          · rw [if_pos hi2, if_neg (by omega)]
            rw [hi2]
            exact h2 m hlt (by omega) hpm (by omega)
          · rw [if_neg hi2]
            by_cases hip : (i - 1) / 2 = p
            · rw [if_pos hip]
              have := pickI_least (L := L) (p := p) hi (by omega)
              rw [hm] at this
              exact this
            · rw [if_neg hip]
              exact h1 i hi hi0 hip
      · rw [swapI_len] at hi
        rw [atI_swap hpl hlt, atI_swap hpl hlt, if_neg (by omega), if_neg (by omega), hpm, if_neg (by omega), if_pos rfl]
        have := h1 i hi hi0 (by omega)
        rw [him] at this
        exact this
theorem downI_ord {L : List It} {p : Nat} (h1 : ∀ i, i < L.length → 0 < i → (i - 1) / 2 ≠ p → lessI (atI L i) (atI L ((i - 1) / 2)) = false)
    (h2 : ∀ i, i < L.length → 0 < i → (i - 1) / 2 = p → 0 < p → lessI (atI L i) (atI L ((p - 1) / 2)) = false) : Ord (downI L p) := downI_ord_aux _ L p rfl h1 h2

/-- In a heap none is less than the first. -/
theorem Ord.least {L : List It} (h : Ord L) : ∀ i, i < L.length → lessI (atI L i) (atI L 0) = false := by
  intro i
  induction i using Nat.strongRecOn with
  | ind i ih =>
    intro hi
    by_cases h0 : 0 < i
    · exact lessI_neg_trans (h i hi h0) (ih _ (by omega) (by omega))
    · obtain rfl : i = 0 := by omega
      exact lessI_irrefl _

theorem idsI_iff (L : List It) : idsI L L.length = true ↔ (L.map (·.2)).Nodup := by
  unfold idsI newI
  rw [List.all_eq_true]
  have e : (L.map (·.2)).Nodup ↔ ∀ i j (hi : i < L.length) (hj : j < L.length), i < j → L[i].2 ≠ L[j].2 := by
    unfold List.Nodup
    rw [List.pairwise_iff_getElem]
    simp
  rw [e]
  constructor
  · intro h i j hi hj hij
    have a := h j (List.mem_range.2 hj)
    rw [List.all_eq_true] at a
    have b := a i (List.mem_range.2 hij)
    rw [atI_eq hi, atI_eq hj] at b
    simpa using b
  · intro h j hj
    rw [List.mem_range] at hj
    rw [List.all_eq_true]
    intro i hi
    rw [List.mem_range] at hi
    rw [atI_eq (by omega), atI_eq hj]
    simpa using h i j (by omega) hj hi
theorem heapI_iff (L : List It) : heapI L = true ↔ L.length ≤ 100 ∧ (L.map (·.2)).Nodup ∧ Ord L := by
  unfold heapI
  rw [Bool.and_eq_true, Bool.and_eq_true, decide_eq_true_eq, idsI_iff, ordI_iff]
theorem placeI_neg {L : List It} {id : Int} (h : placeI L id < 0) : id ∉ L.map (·.2) := by
  intro hm
  rw [List.mem_map] at hm
  obtain ⟨a, ha, rfl⟩ := hm
  unfold placeI at h
  cases hf : findI L a.2 with
  | none =>
    unfold findI at hf
    rw [List.findIdx?_eq_none_iff] at hf
    have := hf a ha
    simp at this
  | some k =>
    rw [hf] at h
    simp at h
    omega
theorem atI_append {L : List It} {x : It} {i : Nat} : atI (L ++ [x]) i = if i = L.length then x else atI L i := by
  unfold atI
  rw [List.getD_eq_getElem?_getD, List.getD_eq_getElem?_getD]
  by_cases h : i = L.length
  · subst h; simp
  · rw [if_neg h]
    rcases Nat.lt_or_ge i L.length with h' | h'
    · rw [List.getElem?_append_left h']
    · rw [List.getElem?_eq_none (by simp; omega), List.getElem?_eq_none (by omega)]

/-- What is pushed into a heap leaves a heap of all of them. -/
theorem push_heap {L : List It} {x : It} (h : heapI L = true) (h1 : L.length ≠ 100) (h2 : placeI L x.2 < 0) : heapI (upI (L ++ [x]) L.length) = true ∧ (upI (L ++ [x]) L.length).Perm (L ++ [x]) := by
  obtain ⟨a, b, c⟩ := (heapI_iff L).1 h
  have hp := upI_perm L.length (L ++ [x]) (by simp)
  refine ⟨(heapI_iff _).2 ⟨by rw [upI_len]; simp; omega, ?_, ?_⟩, hp⟩
  · rw [(hp.map (·.2)).nodup_iff, List.map_append]
    rw [List.nodup_append]
    exact ⟨b, by simp, fun u hu v hv => by
      simp at hv
      rintro rfl
      exact placeI_neg h2 (hv ▸ hu)⟩
  · refine upI_ord _ _ (by simp) (fun i hi hi0 hne => ?_) (fun i hi hi0 hip _ => ?_)
    · have hi' : i < L.length := by simp at hi; omega
      rw [atI_append, atI_append, if_neg hne, if_neg (by omega)]
      exact c i hi' hi0
    · simp at hi
      omega

end Go.Proofs.Ytelgjfflhcmljaa
