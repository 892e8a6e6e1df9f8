/-
  What is proved here: plain facts on how many nodes are reached from one, and how far the farthest of these is. No conditions beyond those that each theorem states.
-/
import Derived.Test.YtjmooakjdcepcaaPN
set_option linter.unusedSimpArgs false
set_option linter.unusedVariables false
namespace Go.Proofs.Ytjmooakjdcepcaa


/-- How many are reached, and how far the farthest one is. -/
def cntD (D : List Int) : Nat := (D.filter fun d => decide (0 ≤ d)).length
def maxD (D : List Int) : Int := D.foldl max 0
theorem cntD_nil : cntD [] = 0 := rfl
theorem maxD_nil : maxD [] = 0 := rfl
theorem take_snocD {D : List Int} {j : Nat} (h : j < D.length) : D.take (j + 1) = D.take j ++ [D[j]] := by
  rw [List.take_add_one, List.getElem?_eq_getElem h]; rfl
theorem cntD_yes {D : List Int} {j : Nat} (h : j < D.length) (h0 : 0 ≤ D[j]) : cntD (D.take (j + 1)) = cntD (D.take j) + 1 := by
  unfold cntD
  rw [take_snocD h, List.filter_append, List.length_append]
  simp [h0]
theorem cntD_no {D : List Int} {j : Nat} (h : j < D.length) (h0 : ¬ 0 ≤ D[j]) : cntD (D.take (j + 1)) = cntD (D.take j) := by
  unfold cntD
  rw [take_snocD h, List.filter_append, List.length_append]
  simp [h0]
theorem cntD_le (D : List Int) : cntD D ≤ D.length := List.length_filter_le _ _
theorem maxD_step {D : List Int} {j : Nat} (h : j < D.length) : maxD (D.take (j + 1)) = max (maxD (D.take j)) D[j] := by
  unfold maxD
  rw [take_snocD h, List.foldl_append]
  rfl
theorem foldl_max_le {b : Int} : ∀ {D : List Int} {m : Int}, m ≤ b → (∀ d ∈ D, d ≤ b) → D.foldl max m ≤ b
  | [], _, h, _ => h
  | d :: D, m, h, k => foldl_max_le (D := D) (by have := k d (by simp); omega) (fun x hx => k x (by simp [hx]))
theorem le_foldl_max : ∀ {D : List Int} {m : Int}, m ≤ D.foldl max m ∧ ∀ d ∈ D, d ≤ D.foldl max m
  | [], m => ⟨by simp, by simp⟩
  | x :: D, m => by
    obtain ⟨h1, h2⟩ := le_foldl_max (D := D) (m := max m x)
    refine ⟨by rw [List.foldl_cons]; omega, fun d hd => ?_⟩
    rw [List.foldl_cons]
    rcases List.mem_cons.1 hd with rfl | hd
    · omega
    · exact h2 d hd
theorem maxD_bounds {D : List Int} (h : ∀ d ∈ D, d ≤ 24000) : 0 ≤ maxD D ∧ maxD D ≤ 24000 := ⟨le_foldl_max.1, foldl_max_le (by omega) h⟩

/-- The key of the last one that is told. -/
def lastK (Y : List It) : Int := match Y.getLast? with | some y => y.1 | none => 0
theorem lastK_nil : lastK [] = 0 := rfl
theorem lastK_snoc (Y : List It) (x : It) : lastK (Y ++ [x]) = x.1 := by simp [lastK]

theorem AllNear.dlen {N s : Int} {L : List (Int × Int × Int)} {Y : List It} (hL : ArcsIn N L) (hN : N ≤ 24) (h : AllNear N L s Y) : (distL N L s).length = N.toNat := by
  rw [← h.keys hL hN, keysL_len]
theorem dAt_el {D : List Int} {k : Nat} (h : k < D.length) : dAt D (k : Int) = D[k] := by simp [dAt, h]

theorem AllNear.count {N s : Int} {L : List (Int × Int × Int)} {Y : List It} (hL : ArcsIn N L) (hN : N ≤ 24) (h : AllNear N L s Y) : Y.length = cntD (distL N L s) := by
  have hm := fun k v => h.mem hL hN k v
  have hl := h.dlen hL hN
  have e1 : distL N L s = (List.range (distL N L s).length).map fun (i : Nat) => dAt (distL N L s) (i : Int) := by
    refine List.ext_getElem (by simp) fun i h1 h2 => ?_
    simp [dAt_el h1]
  have e2 : cntD (distL N L s) = ((List.range (distL N L s).length).filter fun i => decide (0 ≤ dAt (distL N L s) ((i : Nat) : Int))).length := by
    unfold cntD
    conv => lhs; rw [e1]
    rw [List.filter_map, List.length_map]
    rfl
  have hp : (Y.map fun y => y.2.toNat).Perm ((List.range (distL N L s).length).filter fun i => decide (0 ≤ dAt (distL N L s) ((i : Nat) : Int))) := by
    refine (List.perm_ext_iff_of_nodup ?_ ?_).2 fun a => ?_
    · have hi := h.ids
      rw [List.Nodup, List.pairwise_map] at hi ⊢
      refine hi.imp_of_mem fun {a b} ha hb hab e => hab ?_
      have h1 := ((hm a.1 a.2).1 ha).1
      have h2 := ((hm b.1 b.2).1 hb).1
      omega
    · exact List.Pairwise.filter _ List.nodup_range
    · rw [List.mem_map, List.mem_filter, List.mem_range, decide_eq_true_eq]
      constructor
      · rintro ⟨y, hy, rfl⟩
        have h1 := (hm y.1 y.2).1 hy
        have e : ((y.2.toNat : Nat) : Int) = y.2 := by omega
        rw [e]
        exact ⟨by omega, by omega⟩
      · rintro ⟨h1, h2⟩
        exact ⟨(dAt (distL N L s) (a : Int), (a : Int)), (hm _ _).2 ⟨by omega, h2, rfl⟩, by simp⟩
  rw [e2, ← hp.length_eq, List.length_map]

theorem AllNear.last {N s : Int} {L : List (Int × Int × Int)} {Y : List It} (hL : ArcsIn N L) (hN : N ≤ 24) (h : AllNear N L s Y) : lastK Y = maxD (distL N L s) := by
  have hm := fun k v => h.mem hL hN k v
  have hl := h.dlen hL hN
  obtain ⟨z, hz, -, -⟩ := h.start
  obtain ⟨Y', x, rfl⟩ : ∃ Y' x, Y = Y' ++ [x] := ⟨Y.dropLast, Y.getLast (List.ne_nil_of_mem hz), (List.dropLast_concat_getLast _).symm⟩
  rw [lastK_snoc]
  have h1 := (hm x.1 x.2).1 (by simp)
  have hs : ∀ y ∈ Y' ++ [x], y.1 ≤ x.1 := fun y hy => by
    rcases List.mem_append.1 hy with hy | hy
    · exact lessI_key' ((List.pairwise_append.1 h.sorted).2.2 y hy x (by simp))
    · obtain rfl : y = x := by simpa using hy
      exact Int.le_refl _
  have ub : ∀ d ∈ distL N L s, d ≤ x.1 := fun d hd => by
    by_cases h0 : 0 ≤ d
    · obtain ⟨i, hi, rfl⟩ := List.mem_iff_getElem.1 hd
      have := hs ((distL N L s)[i], (i : Int)) ((hm _ _).2 ⟨by omega, h0, (dAt_el hi).symm⟩)
      exact this
    · omega
  have hx : x.1 ∈ distL N L s := by
    have e : x.2 = ((x.2.toNat : Nat) : Int) := by omega
    rw [h1.2.2, e, dAt_el (by omega)]
    exact List.getElem_mem _
  have h2 := le_foldl_max (D := distL N L s) (m := 0)
  have h3 := h2.2 _ hx
  have h4 := foldl_max_le (D := distL N L s) (m := 0) (b := x.1) (by omega) ub
  unfold maxD
  omega

/-- More nodes, or as many and all of them nearer. -/
def betterB (a b : Int × Int) : Bool := decide (b.1 < a.1 ∨ a.1 = b.1 ∧ a.2 < b.2)
/-- The first of the best ones of the first k. -/
def topB (f : Nat → Int × Int) : Nat → Nat
  | 0 => 0
  | k + 1 => if betterB (f k) (f (topB f k)) = true then k else topB f k
theorem topB_yes {f : Nat → Int × Int} {k : Nat} (h : betterB (f k) (f (topB f k)) = true) : topB f (k + 1) = k := if_pos h
theorem topB_no {f : Nat → Int × Int} {k : Nat} (h : betterB (f k) (f (topB f k)) = false) : topB f (k + 1) = topB f k := if_neg (by rw [h]; simp)
theorem topB_one (f : Nat → Int × Int) : topB f 1 = 0 := by
  unfold topB
  split <;> rfl
theorem topB_lt (f : Nat → Int × Int) : ∀ k, 0 < k → topB f k < k
  | k + 1, _ => by
    unfold topB
    split
    · omega
    · rcases Nat.eq_zero_or_pos k with rfl | h
      · simp [topB]
      · have := topB_lt f k h
        omega
/-- The best one so far, with none at first. -/
def bestA (f : Nat → Int × Int) (j : Nat) : Int × Int := if j = 0 then (0, 0) else f (topB f j)
theorem best_yes {f : Nat → Int × Int} {j : Nat} (h : betterB (f j) (bestA f j) = true) : topB f (j + 1) = j ∧ bestA f (j + 1) = f j := by
  unfold bestA at h ⊢
  rcases Nat.eq_zero_or_pos j with rfl | hj
  · rw [topB_one]
    exact ⟨rfl, by simp⟩
  · rw [if_neg (by omega)] at h
    rw [topB_yes h]
    exact ⟨rfl, by simp⟩
theorem best_no {f : Nat → Int × Int} {j : Nat} (h0 : 0 < (f 0).1) (h : betterB (f j) (bestA f j) = false) : topB f (j + 1) = topB f j ∧ bestA f (j + 1) = bestA f j := by
  unfold bestA at h ⊢
  rcases Nat.eq_zero_or_pos j with rfl | hj
  · exfalso
    simp [betterB] at h
    omega
  · rw [if_neg (by omega)] at h
    rw [topB_no h]
    exact ⟨rfl, by simp [show ¬ j = 0 by omega]⟩

/-- How many nodes are reached from one, and how far the farthest is. -/
def lookI (N : Int) (L : List (Int × Int × Int)) (k : Nat) : Int × Int := (((cntD (distL N L (k : Int)) : Nat) : Int), maxD (distL N L (k : Int)))

end Go.Proofs.Ytjmooakjdcepcaa
