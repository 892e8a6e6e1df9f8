/-
  What is proved here: plain facts on lists without two alike, on the nearest of some nodes, and on the first of the greatest. No conditions beyond those that each theorem states.
-/
import Derived.Test.YtmdmbobjdhjadaaPQ
import Derived.Test.YtmdmbobjdhjadaaPB
import Derived.Test.YtmdmbobjdhjadaaX1
set_option linter.unusedSimpArgs false
set_option linter.unusedVariables false
namespace Go.Proofs.Ytmdmbobjdhjadaa

/-- Are all of these nodes of N, no two alike? -/
def unB (N : Int) (V : List Int) : Bool := decide ((∀ v ∈ V, 0 ≤ v ∧ v < N) ∧ V.Nodup)
/-- Is the graph right, are all of these nodes of it, and no two alike? -/
def hasUB (N : Int) (L : List Arc3) (V : List Int) : Bool := okB N L && unB N V
theorem hasB_iff {N : Int} {L : List Arc3} {V : List Int} : hasB N L V = true ↔ okB N L = true ∧ ∀ v ∈ V, 0 ≤ v ∧ v < N := by
  unfold hasB
  rw [Bool.and_eq_true, List.all_eq_true]
  simp
theorem hasUB_no {N : Int} {L : List Arc3} {V : List Int} (h : hasB N L V = false) : hasUB N L V = false := by
  unfold hasUB unB
  rcases Bool.eq_false_or_eq_true (okB N L) with ho | ho
  · rw [ho, Bool.true_and, decide_eq_false_iff_not]
    intro hx
    have := hasB_iff.2 ⟨ho, hx.1⟩
    rw [this] at h
    exact absurd h (by simp)
  · rw [ho]; rfl
theorem hasUB_yes {N : Int} {L : List Arc3} {V : List Int} (h : hasB N L V = true) : hasUB N L V = decide V.Nodup := by
  obtain ⟨h1, h2⟩ := hasB_iff.1 h
  unfold hasUB unB
  rw [h1, Bool.true_and]
  by_cases hn : V.Nodup
  · rw [decide_eq_true hn]; exact decide_eq_true ⟨h2, hn⟩
  · rw [decide_eq_false hn]; exact decide_eq_false fun hx => hn hx.2
theorem hasUB_iff {N : Int} {L : List Arc3} {V : List Int} : hasUB N L V = true ↔ okB N L = true ∧ (∀ v ∈ V, 0 ≤ v ∧ v < N) ∧ V.Nodup := by
  unfold hasUB unB
  rw [Bool.and_eq_true, decide_eq_true_eq]

/-- Numbers as items. -/
def itV (V : List Int) : List It := V.map fun v => (0, v)
theorem told_itV {V : List Int} {v : Int} : toldB (itV V) v = decide (v ∈ V) := by
  rw [Bool.eq_iff_iff, toldB_iff, decide_eq_true_eq]
  constructor
  · rintro ⟨y, hy, rfl⟩
    obtain ⟨u, hu, rfl⟩ := List.mem_map.1 hy
    exact hu
  · intro h
    exact ⟨(0, v), List.mem_map.2 ⟨v, h, rfl⟩, rfl⟩
theorem itV_snoc (V : List Int) (v : Int) : itV (V ++ [v]) = itV V ++ [(0, v)] := by simp [itV]
theorem take_snocI {V : List Int} {j : Nat} (h : j < V.length) : V.take (j + 1) = V.take j ++ [V[j]] := by
  rw [List.take_succ_eq_append_getElem h]
theorem nodup_step {V : List Int} {j : Nat} (h : j < V.length) (hn : (V.take j).Nodup) (hv : V[j] ∉ V.take j) : (V.take (j + 1)).Nodup := by
  rw [take_snocI h, List.nodup_append]
  refine ⟨hn, by simp, fun a ha b hb => ?_⟩
  have : b = V[j] := by simpa using hb
  subst this
  intro e
  subst e
  exact hv ha
theorem nodup_hurt {V : List Int} {j : Nat} (h : j < V.length) (hv : V[j] ∈ V.take j) : ¬ V.Nodup := by
  intro hn
  obtain ⟨i, hi, e⟩ := List.mem_iff_getElem.1 hv
  rw [List.length_take] at hi
  rw [List.getElem_take] at e
  have := (List.nodup_iff_pairwise_ne.1 hn)
  exact (List.pairwise_iff_getElem.1 this) i j (by omega) h (by omega) e

/-- The lesser of a number and a distance that is there. -/
def minD (m d : Int) : Int := if 0 ≤ d then min m d else m
theorem minD_no {m d : Int} (h : d < 0) : minD m d = m := if_neg (by omega)
theorem minD_yes {m d : Int} (h : 0 ≤ d) : minD m d = min m d := if_pos h
/-- How far a node is from the nearest of some. -/
def nearV (N : Int) (L : List Arc3) (v : Int) (V : List Int) : Int := V.foldl (fun m s => minD m (dAt (distL N L s) v)) 24000
theorem nearV_nil (N : Int) (L : List Arc3) (v : Int) : nearV N L v [] = 24000 := rfl
theorem nearV_snoc (N : Int) (L : List Arc3) (v : Int) (V : List Int) (s : Int) : nearV N L v (V ++ [s]) = minD (nearV N L v V) (dAt (distL N L s) v) := by
  simp [nearV, List.foldl_append]
theorem nearV_step (N : Int) (L : List Arc3) (v : Int) {V : List Int} {j : Nat} (h : j < V.length) : nearV N L v (V.take (j + 1)) = minD (nearV N L v (V.take j)) (dAt (distL N L V[j]) v) := by
  rw [take_snocI h, nearV_snoc]
theorem nearV_bounds (N : Int) (L : List Arc3) (v : Int) (V : List Int) : 0 ≤ nearV N L v V ∧ nearV N L v V ≤ 24000 := by
  unfold nearV
  have h : ∀ (V : List Int) (m : Int), 0 ≤ m ∧ m ≤ 24000 → 0 ≤ V.foldl (fun m s => minD m (dAt (distL N L s) v)) m ∧ V.foldl (fun m s => minD m (dAt (distL N L s) v)) m ≤ 24000 := by
    intro V
    induction V with
    | nil => intro m hm; exact hm
    | cons a t ih =>
      intro m hm
      refine ih _ ?_
      show 0 ≤ minD m (dAt (distL N L a) v) ∧ minD m (dAt (distL N L a) v) ≤ 24000
      unfold minD
      split <;> omega
  exact h V 24000 (by omega)

/-- The array of the nearest behind some nodes that are told. -/
def minE (E : List Int) (Y : List It) : List Int := (List.range 24).map fun (i : Nat) => minD (E.getD i 0) (keyOf Y (i : Int))
theorem minE_len (E : List Int) (Y : List It) : (minE E Y).length = 24 := by simp [minE]
theorem minE_at {E : List Int} {Y : List It} {u : Nat} (h : u < (minE E Y).length) : (minE E Y)[u] = minD (E.getD u 0) (keyOf Y (u : Int)) := by simp [minE]
theorem minE_nil {E : List Int} (h : E.length = 24) : minE E [] = E := by
  refine List.ext_getElem (by rw [minE_len, h]) fun i h1 h2 => ?_
  rw [minE_at h1, minD_no (by rw [keyOf_no (by simp)]; omega)]
  simp [h2]
theorem minE_snoc {E : List Int} {Y : List It} {x : Int} {u : Nat} (hx : toldB Y (u : Int) = false) (h0 : 0 ≤ x) (hu : u < (minE E Y).length) : minE E (Y ++ [(x, (u : Int))]) = (minE E Y).set u (min (minE E Y)[u] x) := by
  refine List.ext_getElem (by simp [minE_len]) fun i h1 h2 => ?_
  rw [minE_at h1, List.getElem_set, keyOf_snoc (x := (x, (u : Int))) hx]
  by_cases e : u = i
  · subst e
    rw [if_pos rfl, if_pos rfl, minD_yes h0]
    congr 1
    rw [minE_at hu, minD_no (by rw [keyOf_no (toldB_no.1 hx)]; omega)]
  · rw [if_neg e, if_neg (by simp; omega), minE_at (by rw [minE_len] at h1 ⊢; exact h1)]
theorem minE_done {N : Int} {L : List Arc3} {s : Int} {V : List Int} {E : List Int} {Y : List It} (ho : okB N L = true) (hY : AllNear N L s Y)
    (hE : ∀ v : Nat, (v : Int) < N → E.getD v 0 = nearV N L (v : Int) V) : ∀ v : Nat, (v : Int) < N → (minE E Y).getD v 0 = nearV N L (v : Int) (V ++ [s]) := by
  intro v hv
  have hN := (okB_elim ho).2.1
  have hl : v < (minE E Y).length := by rw [minE_len]; omega
  have e : (minE E Y).getD v 0 = (minE E Y)[v] := by simp [hl]
  rw [e, minE_at hl, nearV_snoc, hE v hv]
  congr 1
  rw [← hY.keys (arcsIn_of_ok ho) hN, keysL_at (by omega) (by omega)]

/-- The first place of the greatest among the first k. -/
def topK (f : Nat → Int) : Nat → Nat
  | 0 => 0
  | k + 1 => if f (topK f k) < f k then k else topK f k
theorem topK_lt (f : Nat → Int) : ∀ k, 0 < k → topK f k < k
  | 0, h => absurd h (by omega)
  | k + 1, _ => by
    unfold topK
    split
    · omega
    · rcases Nat.eq_zero_or_pos k with rfl | hk
      · exact Nat.zero_lt_one
      · have := topK_lt f k hk; omega
theorem topK_le (f : Nat → Int) (k : Nat) : topK f k ≤ k := by
  rcases Nat.eq_zero_or_pos k with rfl | hk
  · exact Nat.le_refl _
  · exact Nat.le_of_lt (topK_lt f k hk)
theorem topK_yes {f : Nat → Int} {k : Nat} (h : f (topK f k) < f k) : topK f (k + 1) = k := if_pos h
theorem topK_no {f : Nat → Int} {k : Nat} (h : ¬ f (topK f k) < f k) : topK f (k + 1) = topK f k := if_neg h
theorem topK_max (f : Nat → Int) : ∀ k j, j < k → f j ≤ f (topK f k) ∧ (f j = f (topK f k) → topK f k ≤ j)
  | 0, j, h => absurd h (by omega)
  | k + 1, j, h => by
    by_cases hx : f (topK f k) < f k
    · rw [topK_yes hx]
      rcases Nat.lt_or_ge j k with hj | hj
      · have := (topK_max f k j hj).1
        exact ⟨by omega, fun e => by omega⟩
      · obtain rfl : j = k := by omega
        exact ⟨Int.le_refl _, fun _ => Nat.le_refl _⟩
    · rw [topK_no hx]
      rcases Nat.lt_or_ge j k with hj | hj
      · exact topK_max f k j hj
      · obtain rfl : j = k := by omega
        exact ⟨by omega, fun _ => topK_le f j⟩

/-- How far each node is from the nearest of V. -/
def nearF (N : Int) (L : List Arc3) (V : List Int) (k : Nat) : Int := nearV N L (k : Int) V
/-- The first node that is farthest from the nearest of V. -/
def farI (N : Int) (L : List Arc3) (V : List Int) : Int := if hasUB N L V = true then ((topK (nearF N L V) N.toNat : Nat) : Int) else -1

end Go.Proofs.Ytmdmbobjdhjadaa
