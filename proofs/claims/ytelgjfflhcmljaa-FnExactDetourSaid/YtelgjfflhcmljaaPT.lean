/-
  What is proved here: plain facts on distances there and back: by way of a third node it is no nearer; nodes by way of which it is at most so far; lengths of paths. No conditions beyond those that each theorem states.
-/
import Derived.Test.YtelgjfflhcmljaaNF4
set_option linter.unusedSimpArgs false
set_option linter.unusedVariables false
namespace Go.Proofs.Ytelgjfflhcmljaa
open Go.RowKit

theorem IsDist.tri {N : Int} {L : List Arc3} {s t : Int} {D E : List Int} (ho : okB N L = true) (hD : IsDist N L s D) (hE : IsDist N (revL L) t E) :
    ∀ (n : Nat) (v : Int), 0 ≤ v → v < N → (dAt E v).toNat = n → 0 ≤ dAt E v → 0 ≤ dAt D v → 0 ≤ dAt D t ∧ dAt D t ≤ dAt D v + dAt E v := by
  have hp := (okB_elim ho).2.2.2.2
  have hin := arcsIn_of_ok ho
  intro n
  induction n using Nat.strongRecOn with
  | ind n ih =>
    intro v h0 h1 hn hb ha
    rcases hE.back v h0 h1 hb with rfl | ⟨r, hr, e1, e2, e3⟩
    · have := hE.start
      omega
    · have hm := (revL_mem hp).1 hr
      obtain ⟨a0, a1, a2, a3, a4, a5⟩ := hin _ hm
      simp only [turnA] at a0 a1 a2 a3 a4 a5
      have := hD.arc _ hm (by simp only [turnA]; rw [e1]; exact ha)
      simp only [turnA] at this
      rw [e1] at this
      obtain ⟨x, y⟩ := ih (dAt E r.1).toNat (by omega) r.1 a2 a3 rfl e2 this.1
      omega
/-- In the graph that is turned it is as far the other way round. -/
theorem IsDist.turned {N : Int} {L : List Arc3} {s t : Int} {D E : List Int} (ho : okB N L = true) (hs : 0 ≤ s ∧ s < N) (ht : 0 ≤ t ∧ t < N) (hD : IsDist N L s D) (hE : IsDist N (revL L) t E) : dAt E s = dAt D t := by
  have h1 := fun h => hD.tri ho hE _ s hs.1 hs.2 rfl h (by rw [hD.start]; omega)
  have hD' : IsDist N (revL (revL L)) s D := by rw [revL_revL ho]; exact hD
  have h2 := fun h => hE.tri (revL_ok ho) hD' _ t ht.1 ht.2 rfl h (by rw [hE.start]; omega)
  have e1 := hD.start
  have e2 := hE.start
  have l1 := hD.low t
  have l2 := hE.low s
  by_cases p : 0 ≤ dAt E s
  · obtain ⟨a, b⟩ := h1 p
    obtain ⟨c, d⟩ := h2 a
    omega
  · by_cases q : 0 ≤ dAt D t
    · obtain ⟨c, d⟩ := h2 q
      omega
    · omega

/-- The nodes of N, rising. -/
def nodesL (N : Int) : List Int := (List.range N.toNat).map Int.ofNat
/-- Is it by way of v at most so far? -/
def byB (D E : List Int) (m v : Int) : Bool := decide (0 ≤ dAt D v ∧ 0 ≤ dAt E v ∧ dAt D v + dAt E v ≤ m)
/-- The nodes by way of which it is at most so far. -/
def withinD (N : Int) (D E : List Int) (m : Int) : List Int := (nodesL N).filter (byB D E m)
def withinL (N : Int) (L : List Arc3) (s t m : Int) : List Int := withinD N (distL N L s) (distL N (revL L) t) m
theorem withinD_len (N : Int) (D E : List Int) (m : Int) : (withinD N D E m).length ≤ N.toNat := by
  unfold withinD
  exact Nat.le_trans (List.length_filter_le _ _) (by simp [nodesL])
/-- The first k of them. -/
def withinK (D E : List Int) (m : Int) (k : Nat) : List Int := ((List.range k).map Int.ofNat).filter (byB D E m)
theorem withinK_zero (D E : List Int) (m : Int) : withinK D E m 0 = [] := rfl
theorem withinK_yes {D E : List Int} {m : Int} {k : Nat} (h : byB D E m (k : Int) = true) : withinK D E m (k + 1) = withinK D E m k ++ [(k : Int)] := by
  unfold withinK
  rw [List.range_succ, List.map_append, List.filter_append]
  congr 1
  show List.filter _ [(k : Int)] = _
  rw [List.filter_cons, if_pos h]
  rfl
theorem withinK_no {D E : List Int} {m : Int} {k : Nat} (h : byB D E m (k : Int) = false) : withinK D E m (k + 1) = withinK D E m k := by
  unfold withinK
  rw [List.range_succ, List.map_append, List.filter_append]
  have : List.filter (byB D E m) (List.map Int.ofNat [k]) = [] := by
    show List.filter _ [(k : Int)] = _
    rw [List.filter_cons, if_neg (by rw [h]; simp)]
    rfl
  rw [this, List.append_nil]
theorem withinK_len (D E : List Int) (m : Int) (k : Nat) : (withinK D E m k).length ≤ k := by
  unfold withinK
  exact Nat.le_trans (List.length_filter_le _ _) (by simp)
theorem withinK_all (N : Int) (D E : List Int) (m : Int) : withinK D E m N.toNat = withinD N D E m := rfl
theorem mem_nodesL {N v : Int} : v ∈ nodesL N ↔ 0 ≤ v ∧ v < N := by
  unfold nodesL
  rw [List.mem_map]
  constructor
  · rintro ⟨k, hk, rfl⟩
    have := List.mem_range.1 hk
    simp
    omega
  · rintro ⟨h0, h1⟩
    exact ⟨v.toNat, List.mem_range.2 (by omega), by simp; omega⟩
theorem mem_withinD {N : Int} {D E : List Int} {m v : Int} : v ∈ withinD N D E m ↔ (0 ≤ v ∧ v < N) ∧ 0 ≤ dAt D v ∧ 0 ≤ dAt E v ∧ dAt D v + dAt E v ≤ m := by
  unfold withinD
  rw [List.mem_filter, mem_nodesL]
  simp [byB]

/-- The nodes of the shortest paths. -/
def onL (N : Int) (L : List Arc3) (s t : Int) : List Int := if has2 N L s t = true then withinL N L s t (dAt (distL N L s) t) else []
def betL (N : Int) (L : List Arc3) (s t m : Int) : List Int := if (has2 N L s t && decide (0 ≤ m ∧ m ≤ 24000)) = true then withinL N L s t m else []
theorem byB_on {N : Int} {L : List Arc3} {s t v : Int} {D E : List Int} (ho : okB N L = true) (hD : IsDist N L s D) (hE : IsDist N (revL L) t E) (h0 : 0 ≤ v) (h1 : v < N) : byB D E (dAt D t) v = decide (0 ≤ dAt D v ∧ 0 ≤ dAt E v ∧ dAt D v + dAt E v = dAt D t) := by
  unfold byB
  rw [Bool.eq_iff_iff]
  simp only [decide_eq_true_eq]
  constructor
  · rintro ⟨a, b, c⟩
    have := hD.tri ho hE _ v h0 h1 rfl b a
    omega
  · rintro ⟨a, b, c⟩
    omega
theorem byB_none {D E : List Int} {m v : Int} (h : m < 0) : byB D E m v = false := by
  unfold byB
  rw [decide_eq_false_iff_not]
  omega
theorem withinD_none {N : Int} {D E : List Int} {m : Int} (h : m < 0) : withinD N D E m = [] := by
  unfold withinD
  rw [List.filter_eq_nil_iff]
  intro v _
  rw [byB_none h]
  simp
theorem stepsL_len (L : List Arc3) (D : List Int) (t : Int) : ∀ (n : Nat) (v : Int), (dAt D v).toNat = n → (stepsL L D t v).length ≤ n := by
  intro n
  induction n using Nat.strongRecOn with
  | ind n ih =>
    intro v hn
    rw [stepsL]
    split
    · simp
    · split
      · simp
      · split
        · rename_i a _ h
          have := ih _ (by omega) a.2.1 rfl
          simp only [List.length_cons]
          omega
        · simp
theorem distL_of_turned {N s t : Int} {L : List Arc3} (ho : okB N L = true) (hs : 0 ≤ s ∧ s < N) (ht : 0 ≤ t ∧ t < N) : dAt (distL N (revL L) t) s = dAt (distL N L s) t :=
  IsDist.turned ho hs ht (distL_is (arcsIn_of_ok ho) (okB_elim ho).2.1 hs.1 hs.2) (distL_is (arcsIn_of_ok (revL_ok ho)) (okB_elim ho).2.1 ht.1 ht.2)

/-- The first of the shortest paths; none: there is none. -/
def pathL (N : Int) (L : List Arc3) (s t : Int) : List Int := if (has2 N L s t && decide (0 ≤ dAt (distL N (revL L) t) s)) = true then s :: stepsL L (distL N (revL L) t) t s else []

theorem onL_len (N : Int) (L : List Arc3) (s t : Int) : (onL N L s t).length ≤ 1048576 := by
  unfold onL
  split
  · rename_i h
    have := (okB_elim (has2_of h).1).2.1
    have := withinD_len N (distL N L s) (distL N (revL L) t) (dAt (distL N L s) t)
    unfold withinL
    omega
  · simp
theorem betL_len (N : Int) (L : List Arc3) (s t m : Int) : (betL N L s t m).length ≤ 1048576 := by
  unfold betL
  split
  · rename_i h
    rw [Bool.and_eq_true] at h
    have := (okB_elim (has2_of h.1).1).2.1
    have := withinD_len N (distL N L s) (distL N (revL L) t) m
    unfold withinL
    omega
  · simp
theorem pathL_len (N : Int) (L : List Arc3) (s t : Int) : (pathL N L s t).length ≤ 1048576 := by
  unfold pathL
  split
  · rename_i h
    rw [Bool.and_eq_true] at h
    obtain ⟨ho, h1, h2⟩ := has2_of h.1
    have := (distL_top (revL_ok ho) h2.1 h2.2 s).2
    have := stepsL_len L (distL N (revL L) t) t _ s rfl
    simp only [List.length_cons]
    omega
  · simp

/-- The weight of step k of a path; 0: it is none. -/
def stepW (L : List Arc3) (P : List Int) (k : Nat) : Int := wtL (P.getD k 0) (P.getD (k + 1) 0) L
/-- The first k steps together. -/
def sumW (L : List Arc3) (P : List Int) : Nat → Int
  | 0 => 0
  | k + 1 => sumW L P k + stepW L P k
theorem stepW_at {L : List Arc3} {P : List Int} {k : Nat} (h : k + 1 < P.length) : stepW L P k = wtL P[k] P[k + 1] L := by
  unfold stepW
  rw [List.getD_eq_getElem?_getD, List.getD_eq_getElem?_getD, List.getElem?_eq_getElem (by omega), List.getElem?_eq_getElem h]
  rfl
/-- Is it a path of a right graph? -/
def pathB (N : Int) (L : List Arc3) (P : List Int) : Bool := okB N L && decide (0 < P.length ∧ P.length ≤ 1000 ∧ (0 ≤ P.getD 0 0 ∧ P.getD 0 0 < N) ∧ ∀ j, j < P.length - 1 → stepW L P j ≠ 0)
def lenI (N : Int) (L : List Arc3) (P : List Int) : Int := if pathB N L P = true then sumW L P (P.length - 1) else 0

end Go.Proofs.Ytelgjfflhcmljaa
