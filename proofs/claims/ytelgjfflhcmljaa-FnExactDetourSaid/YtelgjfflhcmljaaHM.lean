/-
  What is proved here: plain facts on heaps as lists of pairs: up, down, picking the least, order. No conditions beyond those that each theorem states.
-/
set_option linter.unusedSimpArgs false
set_option linter.unusedVariables false
namespace Go.Proofs.Ytelgjfflhcmljaa

/-- An item as two numbers: key and id. -/
abbrev It := Int × Int
def lessI (a b : It) : Bool := decide (a.1 < b.1 ∨ a.1 = b.1 ∧ a.2 < b.2)
theorem lessI_trans {a b c : It} (h : lessI a b = true) (k : lessI b c = true) : lessI a c = true := by
  simp only [lessI, decide_eq_true_eq] at *
  omega
theorem lessI_asymm {a b : It} (h : lessI a b = true) : lessI b a = false := by
  simp only [lessI, decide_eq_true_eq, decide_eq_false_iff_not] at *
  omega
theorem lessI_neg_trans {a b c : It} (h : lessI a b = false) (k : lessI b c = false) : lessI a c = false := by
  simp only [lessI, decide_eq_false_iff_not] at *
  omega
theorem lessI_irrefl (a : It) : lessI a a = false := by
  simp [lessI]

def atI (L : List It) (k : Nat) : It := L.getD k (0, 0)
theorem atI_eq {L : List It} {k : Nat} (h : k < L.length) : atI L k = L[k] := by simp [atI, h]
theorem atI_set {L : List It} {i k : Nat} {x : It} (hi : i < L.length) : atI (L.set i x) k = if k = i then x else atI L k := by
  unfold atI
  rw [List.getD_eq_getElem?_getD, List.getD_eq_getElem?_getD, List.getElem?_set]
  by_cases h : i = k
  · subst h; simp [hi]
  · rw [if_neg h, if_neg (fun e => h e.symm)]

/-- Two items change places. -/
def swapI (L : List It) (i j : Nat) : List It := (L.set i (atI L j)).set j (atI L i)
theorem swapI_len (L : List It) (i j : Nat) : (swapI L i j).length = L.length := by simp [swapI]

/-- Up, as long as it is less than the one above. -/
def upI (L : List It) (k : Nat) : List It :=
  if h : 0 < k ∧ lessI (atI L k) (atI L ((k - 1) / 2)) = true then upI (swapI L k ((k - 1) / 2)) ((k - 1) / 2) else L
termination_by k
decreasing_by omega
theorem upI_step {L : List It} {k : Nat} (h0 : 0 < k) (h : lessI (atI L k) (atI L ((k - 1) / 2)) = true) : upI L k = upI (swapI L k ((k - 1) / 2)) ((k - 1) / 2) := by
  rw [upI]; simp [h0, h]
theorem upI_zero (L : List It) : upI L 0 = L := by rw [upI]; simp
theorem upI_stop {L : List It} {k : Nat} (h : lessI (atI L k) (atI L ((k - 1) / 2)) = false) : upI L k = L := by
  rw [upI]; simp [h]
theorem upI_len (L : List It) (k : Nat) : (upI L k).length = L.length := by
  induction k using Nat.strongRecOn generalizing L with
  | ind k ih =>
    rw [upI]
    split
    · rename_i h
      rw [ih _ (by omega), swapI_len]
    · rfl

/-- The least so far of a place and the first i below it. -/
def bestI (L : List It) (p : Nat) : Nat → Nat
  | 0 => p
  | i + 1 => if 2 * p + 1 + i < L.length ∧ lessI (atI L (2 * p + 1 + i)) (atI L (bestI L p i)) = true then 2 * p + 1 + i else bestI L p i
def pickI (L : List It) (p : Nat) : Nat := bestI L p 2
theorem bestI_lt {L : List It} {p : Nat} (hp : p < L.length) : ∀ i, bestI L p i < L.length
  | 0 => hp
  | i + 1 => by
    unfold bestI
    split
    · rename_i h; exact h.1
    · exact bestI_lt hp i
theorem bestI_ge {L : List It} {p : Nat} : ∀ i, p ≤ bestI L p i
  | 0 => Nat.le_refl _
  | i + 1 => by
    unfold bestI
    split
    · omega
    · exact bestI_ge i
theorem bestI_yes {L : List It} {p i : Nat} (h : 2 * p + 1 + i < L.length) (k : lessI (atI L (2 * p + 1 + i)) (atI L (bestI L p i)) = true) : bestI L p (i + 1) = 2 * p + 1 + i := by
  rw [bestI, if_pos ⟨h, k⟩]
theorem bestI_no {L : List It} {p i : Nat} (k : lessI (atI L (2 * p + 1 + i)) (atI L (bestI L p i)) = false) : bestI L p (i + 1) = bestI L p i := by
  rw [bestI, if_neg (by rw [k]; simp)]
theorem bestI_out {L : List It} {p i : Nat} (h : L.length ≤ 2 * p + 1 + i) : bestI L p (i + 1) = bestI L p i := by
  rw [bestI, if_neg (by omega)]
theorem pickI_out {L : List It} {p i : Nat} (hi : i ≤ 2) (h : i = 2 ∨ L.length ≤ 2 * p + 1 + i) : pickI L p = bestI L p i := by
  rcases h with rfl | h
  · rfl
  · unfold pickI
    match i, hi, h with
    | 0, _, h => rw [bestI_out (by omega), bestI_out (by omega)]
    | 1, _, h => rw [bestI_out (by omega)]
    | 2, _, h => rfl

theorem pickI_ge (L : List It) (p : Nat) : p ≤ pickI L p := bestI_ge 2
theorem pickI_lt {L : List It} {p : Nat} (hp : p < L.length) : pickI L p < L.length := bestI_lt hp 2
theorem pickI_none {L : List It} {p : Nat} (hp : L.length ≤ p) : pickI L p = p := by
  rw [pickI_out (i := 0) (by omega) (.inr (by omega))]; rfl
theorem pickI_lt' {L : List It} {p : Nat} (h : pickI L p ≠ p) : pickI L p < L.length := by
  rcases Nat.lt_or_ge p L.length with hp | hp
  · exact pickI_lt hp
  · exact absurd (pickI_none hp) h

/-- Down, by way of the lesser of the two below. -/
def downI (L : List It) (p : Nat) : List It :=
  if h : pickI L p ≠ p then downI (swapI L p (pickI L p)) (pickI L p) else L
termination_by L.length - p
decreasing_by
  have := pickI_ge L p
  have := pickI_lt' h
  rw [swapI_len]
  omega
theorem downI_step {L : List It} {p : Nat} (h : pickI L p ≠ p) : downI L p = downI (swapI L p (pickI L p)) (pickI L p) := by
  rw [downI]; simp [h]
theorem downI_stop {L : List It} {p : Nat} (h : pickI L p = p) : downI L p = L := by
  rw [downI]; simp [h]
theorem downI_len_aux (n : Nat) : ∀ (L : List It) (p : Nat), L.length - p = n → (downI L p).length = L.length := by
  induction n using Nat.strongRecOn with
  | ind n ih =>
    intro L p hn
    by_cases h : pickI L p = p
    · rw [downI_stop h]
    · rw [downI_step h]
      have h1 := pickI_ge L p
      have h2 := pickI_lt' h
      rw [ih (L.length - pickI L p) (by omega) _ _ (by rw [swapI_len]), swapI_len]
theorem downI_len (L : List It) (p : Nat) : (downI L p).length = L.length := downI_len_aux _ L p rfl

/-- The lesser of the two below, the first where there is one alone. -/
def lowI (L : List It) (p : Nat) : Nat := if 2 * p + 2 < L.length ∧ lessI (atI L (2 * p + 2)) (atI L (2 * p + 1)) = true then 2 * p + 2 else 2 * p + 1
theorem pickI_low_yes {L : List It} {p : Nat} (h1 : 2 * p + 1 < L.length) (h : lessI (atI L (lowI L p)) (atI L p) = true) : pickI L p = lowI L p := by
  unfold pickI
  unfold lowI at h ⊢
  by_cases h2 : 2 * p + 2 < L.length ∧ lessI (atI L (2 * p + 2)) (atI L (2 * p + 1)) = true
  · rw [if_pos h2] at h ⊢
    cases hc : lessI (atI L (2 * p + 1)) (atI L p) with
    | true =>
      have e : bestI L p 1 = 2 * p + 1 := bestI_yes (by omega) hc
      exact bestI_yes (i := 1) (by omega) (by rw [e]; exact h2.2)
    | false =>
      have e : bestI L p 1 = p := bestI_no (i := 0) hc
      exact bestI_yes (i := 1) (by omega) (by rw [e]; exact h)
  · rw [if_neg h2] at h ⊢
    have e : bestI L p 1 = 2 * p + 1 := bestI_yes (by omega) h
    by_cases h3 : 2 * p + 2 < L.length
    · have hn : lessI (atI L (2 * p + 2)) (atI L (2 * p + 1)) = false := by
        cases hx : lessI (atI L (2 * p + 2)) (atI L (2 * p + 1)) with
        | false => rfl
        | true => exact absurd ⟨h3, hx⟩ h2
      rw [bestI_no (i := 1) (by rw [e]; exact hn), e]
    · rw [bestI_out (i := 1) (by omega), e]
theorem pickI_low_no {L : List It} {p : Nat} (h1 : 2 * p + 1 < L.length) (h : lessI (atI L (lowI L p)) (atI L p) = false) : pickI L p = p := by
  unfold pickI
  unfold lowI at h
  by_cases h2 : 2 * p + 2 < L.length ∧ lessI (atI L (2 * p + 2)) (atI L (2 * p + 1)) = true
  · rw [if_pos h2] at h
    have hc : lessI (atI L (2 * p + 1)) (atI L p) = false := lessI_neg_trans (lessI_asymm h2.2) h
    have e : bestI L p 1 = p := bestI_no (i := 0) hc
    rw [bestI_no (i := 1) (by rw [e]; exact h), e]
  · rw [if_neg h2] at h
    have e : bestI L p 1 = p := bestI_no (i := 0) h
    by_cases h3 : 2 * p + 2 < L.length
    · have hn : lessI (atI L (2 * p + 2)) (atI L (2 * p + 1)) = false := by
        cases hx : lessI (atI L (2 * p + 2)) (atI L (2 * p + 1)) with
        | false => rfl
        | true => exact absurd ⟨h3, hx⟩ h2
      rw [bestI_no (i := 1) (by rw [e]; exact lessI_neg_trans hn h), e]
    · rw [bestI_out (i := 1) (by omega), e]
theorem pickI_leaf {L : List It} {p : Nat} (h : L.length ≤ 2 * p + 1) : pickI L p = p := by
  rw [pickI_out (i := 0) (by omega) (.inr (by omega))]; rfl

/-- Down from place n less 1, and so on to 0. -/
def arrI : Nat → List It → List It
  | 0, L => L
  | n + 1, L => arrI n (downI L n)
theorem arrI_len : ∀ (n : Nat) (L : List It), (arrI n L).length = L.length
  | 0, _ => rfl
  | n + 1, L => by rw [arrI, arrI_len n, downI_len]

/-- Are the first n no less than what is above them? -/
def ordI (L : List It) (n : Nat) : Bool := (List.range n).all fun i => !(decide (0 < i) && lessI (atI L i) (atI L ((i - 1) / 2)))
/-- Has i an id that none of the first k has? -/
def newI (L : List It) (i k : Nat) : Bool := (List.range k).all fun j => (atI L j).2 != (atI L i).2
/-- Have the first n unlike ids? -/
def idsI (L : List It) (n : Nat) : Bool := (List.range n).all fun i => newI L i i
/-- Is it a heap? -/
def heapI (L : List It) : Bool := decide (L.length ≤ 100) && (idsI L L.length && ordI L L.length)
theorem ordI_succ (L : List It) (n : Nat) : ordI L (n + 1) = (ordI L n && !(decide (0 < n) && lessI (atI L n) (atI L ((n - 1) / 2)))) := by
  simp [ordI, List.range_succ, List.all_append]
theorem idsI_succ (L : List It) (n : Nat) : idsI L (n + 1) = (idsI L n && newI L n n) := by
  simp [idsI, List.range_succ, List.all_append]
theorem newI_succ (L : List It) (i k : Nat) : newI L i (k + 1) = (newI L i k && ((atI L k).2 != (atI L i).2)) := by
  simp [newI, List.range_succ, List.all_append]
theorem all_range_false {n k : Nat} {f : Nat → Bool} (h : k < n) (hf : f k = false) : (List.range n).all f = false := by
  cases ha : (List.range n).all f with
  | false => rfl
  | true =>
    rw [List.all_eq_true] at ha
    have := ha k (List.mem_range.2 h)
    rw [hf] at this
    cases this
theorem ordI_false {L : List It} {n k : Nat} (h : k < n) (h0 : 0 < k) (hl : lessI (atI L k) (atI L ((k - 1) / 2)) = true) : ordI L n = false :=
  all_range_false h (by simp [h0, hl])
theorem newI_false {L : List It} {i k j : Nat} (h : j < k) (he : (atI L j).2 = (atI L i).2) : newI L i k = false :=
  all_range_false h (by simp [he])
theorem idsI_false {L : List It} {n k : Nat} (h : k < n) (he : newI L k k = false) : idsI L n = false := all_range_false h he
theorem heapI_ord_no {L : List It} (h : ordI L L.length = false) : heapI L = false := by simp [heapI, h]
theorem heapI_ids_no {L : List It} (h : idsI L L.length = false) : heapI L = false := by simp [heapI, h]
theorem heapI_len_no {L : List It} (h : 100 < L.length) : heapI L = false := by
  simp [heapI]; omega
theorem heapI_yes {L : List It} (h1 : idsI L L.length = true) (h2 : ordI L L.length = true) : heapI L = decide (L.length ≤ 100) := by simp [heapI, h1, h2]
theorem heapI_of {L : List It} (h0 : L.length ≤ 100) (h1 : idsI L L.length = true) : heapI L = ordI L L.length := by simp [heapI, h0, h1]

/-- The place of an id. -/
def findI (L : List It) (id : Int) : Option Nat := L.findIdx? fun a => a.2 == id
def placeI (L : List It) (id : Int) : Int := match findI L id with | some k => k | none => -1
theorem placeI_at {L : List It} {id : Int} {k : Nat} (h : k < L.length) (he : (L[k].2 == id) = true) (hb : ∀ j (hj : j < k), (L[j].2 == id) = false) : placeI L id = k := by
  have : findI L id = some k := by
    unfold findI
    rw [List.findIdx?_eq_some_iff_getElem]
    exact ⟨h, he, fun j hj => by simpa using hb j hj⟩
  rw [placeI, this]
theorem placeI_none {L : List It} {id : Int} (h : ∀ j (hj : j < L.length), (L[j].2 == id) = false) : placeI L id = -1 := by
  have : findI L id = none := by
    unfold findI
    rw [List.findIdx?_eq_none_iff]
    intro x hx
    obtain ⟨j, hj, rfl⟩ := List.mem_iff_getElem.1 hx
    exact h j hj
  rw [placeI, this]
theorem placeI_lt {L : List It} {id : Int} (h : 0 ≤ placeI L id) : ∃ k : Nat, placeI L id = k ∧ k < L.length := by
  unfold placeI at h ⊢
  cases hf : findI L id with
  | none => rw [hf] at h; simp at h
  | some k =>
    refine ⟨k, rfl, ?_⟩
    unfold findI at hf
    rw [List.findIdx?_eq_some_iff_getElem] at hf
    exact hf.1
theorem placeI_ge (L : List It) (id : Int) : -1 ≤ placeI L id := by
  unfold placeI
  cases findI L id <;> simp

end Go.Proofs.Ytelgjfflhcmljaa
