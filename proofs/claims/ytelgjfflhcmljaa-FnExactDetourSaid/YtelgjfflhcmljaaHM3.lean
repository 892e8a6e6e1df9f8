/-
  What is proved here: plain facts on heaps: what is left when the first is taken; what a lesser key leaves. No conditions beyond those that each theorem states.
-/
import Derived.Test.YtelgjfflhcmljaaHM2
set_option linter.unusedSimpArgs false
set_option linter.unusedVariables false
namespace Go.Proofs.Ytelgjfflhcmljaa

/-- The last one in the place of the first, which is gone. -/
def cutI (L : List It) : List It := (L.set 0 (atI L (L.length - 1))).take (L.length - 1)
theorem cutI_perm (f : It) (t : List It) : (cutI (f :: t)).Perm t := by
  unfold cutI
  rcases List.eq_nil_or_concat t with rfl | ⟨t', z, rfl⟩
  · simp
  · have e : atI (f :: (t' ++ [z])) ((f :: (t' ++ [z])).length - 1) = z := by
      simp [atI]
    simp only [List.concat_eq_append] at *
    rw [e]
    simp only [List.set_cons_zero, List.length_cons, List.length_append, List.length_nil, Nat.zero_add, Nat.add_sub_cancel]
    rw [List.take_succ_cons, List.take_append_of_le_length (Nat.le_refl _), List.take_length]
    exact (List.perm_append_comm (l₁ := [z]) (l₂ := t'))
theorem cutI_at {L : List It} {i : Nat} (h0 : 0 < i) (hi : i < L.length - 1) : atI (cutI L) i = atI L i := by
  unfold cutI
  rw [show atI ((L.set 0 (atI L (L.length - 1))).take (L.length - 1)) i = atI (L.set 0 (atI L (L.length - 1))) i from by
    unfold atI
    simp only [List.getD_eq_getElem?_getD, List.getElem?_take, if_pos hi]]
  rw [atI_set (by omega), if_neg (by omega)]
theorem cutI_len (L : List It) : (cutI L).length = L.length - 1 := by
  unfold cutI
  rw [List.length_take, List.length_set]
  omega
/-- What a pop leaves of a heap is a heap of all but the first, which is the least. -/
theorem pop_heap {f : It} {t : List It} (h : heapI (f :: t) = true) : heapI (downI (cutI (f :: t)) 0) = true ∧ (downI (cutI (f :: t)) 0).Perm t ∧ f.2 ∉ t.map (·.2) ∧ ∀ a ∈ f :: t, lessI a f = false := by
  obtain ⟨a, b, c⟩ := (heapI_iff _).1 h
  have hp := (downI_perm (cutI (f :: t)) 0).trans (cutI_perm f t)
  rw [List.map_cons, List.nodup_cons] at b
  refine ⟨(heapI_iff _).2 ⟨by rw [hp.length_eq]; simp at a; omega, ?_, ?_⟩, hp, b.1, fun x hx => ?_⟩
  · rw [(hp.map (·.2)).nodup_iff]
    exact b.2
  · refine downI_ord (fun i hi hi0 hne => ?_) (fun i hi hi0 hip hp0 => absurd hp0 (by omega))
    rw [cutI_len] at hi
    rw [cutI_at hi0 hi, cutI_at (by omega) (by omega)]
    exact c i (by omega) hi0
  · obtain ⟨i, hi, rfl⟩ := List.mem_iff_getElem.1 hx
    have := c.least i hi
    rw [atI_eq hi] at this
    simpa [atI] using this

theorem placeI_id {L : List It} {id : Int} {k : Nat} (h : placeI L id = k) : k < L.length ∧ (atI L k).2 = id := by
  unfold placeI at h
  cases hf : findI L id with
  | none => rw [hf] at h; simp at h <;> omega
  | some j =>
    rw [hf] at h
    simp at h
    obtain rfl : j = k := by omega
    unfold findI at hf
    rw [List.findIdx?_eq_some_iff_getElem] at hf
    obtain ⟨hj, he, _⟩ := hf
    exact ⟨hj, by rw [atI_eq hj]; simpa using he⟩
theorem set_map {L : List It} {k : Nat} {x : It} (hk : k < L.length) (h : x.2 = (atI L k).2) : (L.set k x).map (·.2) = L.map (·.2) := by
  apply List.ext_getElem?
  intro i
  rw [List.getElem?_map, List.getElem?_map, List.getElem?_set]
  by_cases hi : k = i
  · subst hi
    rw [if_pos rfl, if_pos hk, List.getElem?_eq_getElem hk]
    simp [h, atI_eq hk]
  · rw [if_neg hi]
/-- A lesser key leaves a heap; the others are there. -/
theorem less_heap {L : List It} {id key : Int} {k : Nat} (h : heapI L = true) (hk : placeI L id = k) (hkey : key ≤ (atI L k).1) :
    heapI (upI (L.set k (key, (atI L k).2)) k) = true ∧ (∀ a ∈ L, a.2 ≠ id → a ∈ upI (L.set k (key, (atI L k).2)) k) ∧ (key, id) ∈ upI (L.set k (key, (atI L k).2)) k ∧ (upI (L.set k (key, (atI L k).2)) k).length = L.length := by
  obtain ⟨a, b, c⟩ := (heapI_iff _).1 h
  obtain ⟨hkl, hid⟩ := placeI_id hk
  have hp := upI_perm k (L.set k (key, (atI L k).2)) (by simpa using hkl)
  have hle : lessI (atI L k) (key, (atI L k).2) = false := by
    simp only [lessI, decide_eq_false_iff_not]
    omega
  refine ⟨(heapI_iff _).2 ⟨by rw [upI_len, List.length_set]; exact a, ?_, ?_⟩, fun x hx hne => hp.mem_iff.2 ?_, hp.mem_iff.2 ?_, by rw [upI_len, List.length_set]⟩
  · rw [(hp.map (·.2)).nodup_iff, set_map (x := (key, (atI L k).2)) hkl rfl]
    exact b
  · refine upI_ord _ _ (by simpa using hkl) (fun i hi hi0 hne => ?_) (fun i hi hi0 hip hk0 => ?_)
    · rw [List.length_set] at hi
      rw [atI_set hkl, atI_set hkl, if_neg hne]
      by_cases hpk : (i - 1) / 2 = k
      · rw [if_pos hpk]
        have := c i hi hi0
        rw [hpk] at this
        exact lessI_neg_trans this hle
      · rw [if_neg hpk]
        exact c i hi hi0
    · rw [List.length_set] at hi
      rw [atI_set hkl, atI_set hkl, if_neg (by omega), if_neg (by omega)]
      have h1 := c i hi hi0
      rw [hip] at h1
      exact lessI_neg_trans h1 (c k hkl hk0)
  · obtain ⟨j, hj, rfl⟩ := List.mem_iff_getElem.1 hx
    have hjk : j ≠ k := by
      rintro rfl
      rw [atI_eq hj] at hid
      exact hne hid
    exact List.mem_iff_getElem.2 ⟨j, by simpa using hj, by rw [List.getElem_set_ne (fun e => hjk e.symm)]⟩
  · exact List.mem_iff_getElem.2 ⟨k, by simpa using hkl, by rw [List.getElem_set_self]; rw [← hid]⟩

end Go.Proofs.Ytelgjfflhcmljaa
