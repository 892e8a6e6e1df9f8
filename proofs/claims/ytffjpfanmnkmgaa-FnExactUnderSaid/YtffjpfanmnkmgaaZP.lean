/-
  What is proved here: plain facts on distances there and back: by way of a third node it is no nearer; nodes by way of which it is at most so far; lengths of paths; plain facts on weights, on the nearest way over an arc, and on the arcs of all nodes, one behind the other; plain facts on arcs that are given a weight once and again; plain facts about a graph without one of its arcs; plain facts: where arcs are lighter nothing is farther; bounds of weights; plain facts on the first arc by way of which it is no farther, and on paths that are gone step by step; plain facts on the first of the shortest paths, and on nodes by way of which it is at most so far; how long a path is, as the model and as the code reckon it; plain facts on pieces of the first of the shortest paths; plain facts on arcs without each of which alone it is farther: all of them are on the first path. No conditions beyond those that each theorem states.
-/
import Derived.Test.YtffjpfanmnkmgaaZN
import Derived.Test.YtffjpfanmnkmgaaG2
import Derived.Lib.SlBy
set_option linter.unusedSimpArgs false
set_option linter.unusedVariables false
namespace Go.Proofs.Ytffjpfanmnkmgaa
open Go.RowKit

theorem IsDist.tri {N : Int} {L : List Arc3} {s t : Int} {D E : List Int} (ho : okB N L = true) (hD : IsDist N L s D) (hE : IsDist N (revL L) t E) :
    ∀ (n : Nat) (v : Int), 0 ≤ v → v < N → (dAt E v).toNat = n → 0 ≤ dAt E v → 0 ≤ dAt D v → 0 ≤ dAt D t ∧ dAt D t ≤ dAt D v + dAt E v := by
  have hp := (okB_elim ho).2.2.2.2
  have hin := arcsIn_of_ok ho
  intro n
  induction n using Nat.strongRecOn with
  | ind n ih =>
    intro v h0 h1 hn hb ha
    rcases hE.back v h0 h1 hb with rfl | ⟨r, hr, e1, e2, e3⟩
    · have := hE.start
      omega
    · have hm := (revL_mem hp).1 hr
      obtain ⟨a0, a1, a2, a3, a4, a5⟩ := hin _ hm
      simp only [turnA] at a0 a1 a2 a3 a4 a5
      have := hD.arc _ hm (by simp only [turnA]; rw [e1]; exact ha)
      simp only [turnA] at this
      rw [e1] at this
      obtain ⟨x, y⟩ := ih (dAt E r.1).toNat (by omega) r.1 a2 a3 rfl e2 this.1
      omega
/-- In the graph that is turned it is as far the other way round. -/
theorem IsDist.turned {N : Int} {L : List Arc3} {s t : Int} {D E : List Int} (ho : okB N L = true) (hs : 0 ≤ s ∧ s < N) (ht : 0 ≤ t ∧ t < N) (hD : IsDist N L s D) (hE : IsDist N (revL L) t E) : dAt E s = dAt D t := by
  have h1 := fun h => hD.tri ho hE _ s hs.1 hs.2 rfl h (by rw [hD.start]; omega)
  have hD' : IsDist N (revL (revL L)) s D := by rw [revL_revL ho]; exact hD
  have h2 := fun h => hE.tri (revL_ok ho) hD' _ t ht.1 ht.2 rfl h (by rw [hE.start]; omega)
  have e1 := hD.start
  have e2 := hE.start
  have l1 := hD.low t
  have l2 := hE.low s
  by_cases p : 0 ≤ dAt E s
  · obtain ⟨a, b⟩ := h1 p
    obtain ⟨c, d⟩ := h2 a
    omega
  · by_cases q : 0 ≤ dAt D t
    · obtain ⟨c, d⟩ := h2 q
      omega
    · omega

/-- The nodes of N, rising. -/
def nodesL (N : Int) : List Int := (List.range N.toNat).map Int.ofNat
/-- Is it by way of v at most so far? -/
def byB (D E : List Int) (m v : Int) : Bool := decide (0 ≤ dAt D v ∧ 0 ≤ dAt E v ∧ dAt D v + dAt E v ≤ m)
/-- The nodes by way of which it is at most so far. -/
def withinD (N : Int) (D E : List Int) (m : Int) : List Int := (nodesL N).filter (byB D E m)
def withinL (N : Int) (L : List Arc3) (s t m : Int) : List Int := withinD N (distL N L s) (distL N (revL L) t) m
theorem withinD_len (N : Int) (D E : List Int) (m : Int) : (withinD N D E m).length ≤ N.toNat := by
  unfold withinD
  exact Nat.le_trans (List.length_filter_le _ _) (by simp [nodesL])
/-- The first k of them. -/
def withinK (D E : List Int) (m : Int) (k : Nat) : List Int := ((List.range k).map Int.ofNat).filter (byB D E m)
theorem withinK_zero (D E : List Int) (m : Int) : withinK D E m 0 = [] := rfl
theorem withinK_yes {D E : List Int} {m : Int} {k : Nat} (h : byB D E m (k : Int) = true) : withinK D E m (k + 1) = withinK D E m k ++ [(k : Int)] := by
  unfold withinK
  rw [List.range_succ, List.map_append, List.filter_append]
  congr 1
  show List.filter _ [(k : Int)] = _
  rw [List.filter_cons, if_pos h]
  rfl
theorem withinK_no {D E : List Int} {m : Int} {k : Nat} (h : byB D E m (k : Int) = false) : withinK D E m (k + 1) = withinK D E m k := by
  unfold withinK
  rw [List.range_succ, List.map_append, List.filter_append]
  have : List.filter (byB D E m) (List.map Int.ofNat [k]) = [] := by
    show List.filter _ [(k : Int)] = _
    rw [List.filter_cons, if_neg (by rw [h]; simp)]
    rfl
  rw [this, List.append_nil]
theorem withinK_len (D E : List Int) (m : Int) (k : Nat) : (withinK D E m k).length ≤ k := by
  unfold withinK
  exact Nat.le_trans (List.length_filter_le _ _) (by simp)
theorem withinK_all (N : Int) (D E : List Int) (m : Int) : withinK D E m N.toNat = withinD N D E m := rfl
theorem mem_nodesL {N v : Int} : v ∈ nodesL N ↔ 0 ≤ v ∧ v < N := by
  unfold nodesL
  rw [List.mem_map]
  constructor
  · rintro ⟨k, hk, rfl⟩
    have := List.mem_range.1 hk
    simp
    omega
  · rintro ⟨h0, h1⟩
    exact ⟨v.toNat, List.mem_range.2 (by omega), by simp; omega⟩
theorem mem_withinD {N : Int} {D E : List Int} {m v : Int} : v ∈ withinD N D E m ↔ (0 ≤ v ∧ v < N) ∧ 0 ≤ dAt D v ∧ 0 ≤ dAt E v ∧ dAt D v + dAt E v ≤ m := by
  unfold withinD
  rw [List.mem_filter, mem_nodesL]
  simp [byB]

/-- The nodes of the shortest paths. -/
def onL (N : Int) (L : List Arc3) (s t : Int) : List Int := if has2 N L s t = true then withinL N L s t (dAt (distL N L s) t) else []
def betL (N : Int) (L : List Arc3) (s t m : Int) : List Int := if (has2 N L s t && decide (0 ≤ m ∧ m ≤ 24000)) = true then withinL N L s t m else []
theorem byB_on {N : Int} {L : List Arc3} {s t v : Int} {D E : List Int} (ho : okB N L = true) (hD : IsDist N L s D) (hE : IsDist N (revL L) t E) (h0 : 0 ≤ v) (h1 : v < N) : byB D E (dAt D t) v = decide (0 ≤ dAt D v ∧ 0 ≤ dAt E v ∧ dAt D v + dAt E v = dAt D t) := by
  unfold byB
  rw [Bool.eq_iff_iff]
  simp only [decide_eq_true_eq]
  constructor
  · rintro ⟨a, b, c⟩
    have := hD.tri ho hE _ v h0 h1 rfl b a
    omega
  · rintro ⟨a, b, c⟩
    omega
theorem byB_none {D E : List Int} {m v : Int} (h : m < 0) : byB D E m v = false := by
  unfold byB
  rw [decide_eq_false_iff_not]
  omega
theorem withinD_none {N : Int} {D E : List Int} {m : Int} (h : m < 0) : withinD N D E m = [] := by
  unfold withinD
  rw [List.filter_eq_nil_iff]
  intro v _
  rw [byB_none h]
  simp
theorem stepsL_len (L : List Arc3) (D : List Int) (t : Int) : ∀ (n : Nat) (v : Int), (dAt D v).toNat = n → (stepsL L D t v).length ≤ n := by
  intro n
  induction n using Nat.strongRecOn with
  | ind n ih =>
    intro v hn
    rw [stepsL]
    split
    · simp
    · split
      · simp
      · split
        · rename_i a _ h
          have := ih _ (by omega) a.2.1 rfl
          simp only [List.length_cons]
          omega
        · simp
theorem distL_of_turned {N s t : Int} {L : List Arc3} (ho : okB N L = true) (hs : 0 ≤ s ∧ s < N) (ht : 0 ≤ t ∧ t < N) : dAt (distL N (revL L) t) s = dAt (distL N L s) t :=
  IsDist.turned ho hs ht (distL_is (arcsIn_of_ok ho) (okB_elim ho).2.1 hs.1 hs.2) (distL_is (arcsIn_of_ok (revL_ok ho)) (okB_elim ho).2.1 ht.1 ht.2)

/-- The first of the shortest paths; none: there is none. -/
def pathL (N : Int) (L : List Arc3) (s t : Int) : List Int := if (has2 N L s t && decide (0 ≤ dAt (distL N (revL L) t) s)) = true then s :: stepsL L (distL N (revL L) t) t s else []

theorem onL_len (N : Int) (L : List Arc3) (s t : Int) : (onL N L s t).length ≤ 1048576 := by
  unfold onL
  split
  · rename_i h
    have := (okB_elim (has2_of h).1).2.1
    have := withinD_len N (distL N L s) (distL N (revL L) t) (dAt (distL N L s) t)
    unfold withinL
    omega
  · simp
theorem betL_len (N : Int) (L : List Arc3) (s t m : Int) : (betL N L s t m).length ≤ 1048576 := by
  unfold betL
  split
  · rename_i h
    rw [Bool.and_eq_true] at h
    have := (okB_elim (has2_of h.1).1).2.1
    have := withinD_len N (distL N L s) (distL N (revL L) t) m
    unfold withinL
    omega
  · simp
theorem pathL_len (N : Int) (L : List Arc3) (s t : Int) : (pathL N L s t).length ≤ 1048576 := by
  unfold pathL
  split
  · rename_i h
    rw [Bool.and_eq_true] at h
    obtain ⟨ho, h1, h2⟩ := has2_of h.1
    have := (distL_top (revL_ok ho) h2.1 h2.2 s).2
    have := stepsL_len L (distL N (revL L) t) t _ s rfl
    simp only [List.length_cons]
    omega
  · simp

/-- The weight of step k of a path; 0: it is none. -/
def stepW (L : List Arc3) (P : List Int) (k : Nat) : Int := wtL (P.getD k 0) (P.getD (k + 1) 0) L
/-- The first k steps together. -/
def sumW (L : List Arc3) (P : List Int) : Nat → Int
  | 0 => 0
  | k + 1 => sumW L P k + stepW L P k
theorem stepW_at {L : List Arc3} {P : List Int} {k : Nat} (h : k + 1 < P.length) : stepW L P k = wtL P[k] P[k + 1] L := by
  unfold stepW
  rw [List.getD_eq_getElem?_getD, List.getD_eq_getElem?_getD, List.getElem?_eq_getElem (by omega), List.getElem?_eq_getElem h]
  rfl
/-- Is it a path of a right graph? -/
def pathB (N : Int) (L : List Arc3) (P : List Int) : Bool := okB N L && decide (0 < P.length ∧ P.length ≤ 1000 ∧ (0 ≤ P.getD 0 0 ∧ P.getD 0 0 < N) ∧ ∀ j, j < P.length - 1 → stepW L P j ≠ 0)
def lenI (N : Int) (L : List Arc3) (P : List Int) : Int := if pathB N L P = true then sumW L P (P.length - 1) else 0

end Go.Proofs.Ytffjpfanmnkmgaa

set_option linter.unusedSimpArgs false
set_option linter.unusedVariables false
namespace Go.Proofs.Ytffjpfanmnkmgaa
open Go.RowKit

theorem wtL_mem {L : List Arc3} (hs : L.Pairwise AheadP) : ∀ {a : Arc3}, a ∈ L → wtL a.1 a.2.1 L = a.2.2 := by
  induction L with
  | nil => intro a ha; cases ha
  | cons b L ih =>
    intro a ha
    rw [List.pairwise_cons] at hs
    unfold wtL
    rcases List.mem_cons.1 ha with rfl | h
    · rw [if_pos (isEnds_iff.2 ⟨rfl, rfl⟩)]
    · rw [if_neg (fun he => ahead_ne (hs.1 a h) (isEnds_iff.1 he))]
      exact ih hs.2 h
theorem wtL_pos {u v : Int} : ∀ {L : List Arc3}, 0 < wtL u v L → (u, v, wtL u v L) ∈ L
  | [], h => by simp [wtL] at h
  | a :: l, h => by
    unfold wtL at h ⊢
    split
    · rename_i he
      obtain ⟨rfl, rfl⟩ := isEnds_iff.1 he
      exact List.mem_cons_self
    · rename_i he
      rw [if_neg he] at h
      exact List.mem_cons_of_mem _ (wtL_pos h)

/-- The least way over an arc from one of the first k nodes. -/
def leastSt (D : List Int) (L : List Arc3) (s v : Int) : Nat → Int
  | 0 => if v = s then 0 else -1
  | k + 1 => if 0 < wtL k v L ∧ 0 ≤ dAt D k ∧ (leastSt D L s v k < 0 ∨ dAt D k + wtL k v L < leastSt D L s v k) then dAt D k + wtL k v L else leastSt D L s v k
theorem leastSt_inv {N : Int} {L : List Arc3} {s v : Int} {D : List Int} (hD : IsDist N L s D) : ∀ k : Nat,
    -1 ≤ leastSt D L s v k ∧ (0 ≤ leastSt D L s v k → 0 ≤ dAt D v ∧ dAt D v ≤ leastSt D L s v k) ∧ (v = s → 0 ≤ leastSt D L s v k ∧ leastSt D L s v k ≤ 0) ∧
      ∀ u : Nat, u < k → 0 < wtL u v L → 0 ≤ dAt D u → 0 ≤ leastSt D L s v k ∧ leastSt D L s v k ≤ dAt D u + wtL u v L
  | 0 => by
    have hst := hD.start
    unfold leastSt
    split
    · rename_i e
      rw [e]
      exact ⟨by omega, fun _ => by omega, fun _ => by omega, fun u h => absurd h (by omega)⟩
    · rename_i e
      exact ⟨by omega, fun h => by omega, fun h => absurd h e, fun u h => absurd h (by omega)⟩
  | k + 1 => by
    obtain ⟨h1, h2, h3, h4⟩ := leastSt_inv (v := v) hD k
    have hst := hD.start
    unfold leastSt
    split
    · rename_i hc
      obtain ⟨c1, c2, c3⟩ := hc
      have ha := hD.arc _ (wtL_pos c1) (by simpa using c2)
      simp only at ha
      refine ⟨by omega, fun _ => ha, fun e => ?_, fun u hu p q => ?_⟩
      · have := h3 e
        rw [e] at ha
        omega
      · rcases Nat.lt_or_ge u k with h | h
        · have := h4 u h p q
          omega
        · obtain rfl : u = k := by omega
          omega
    · rename_i hc
      refine ⟨h1, h2, h3, fun u hu p q => ?_⟩
      rcases Nat.lt_or_ge u k with h | h
      · exact h4 u h p q
      · obtain rfl : u = k := by omega
        omega
theorem leastSt_all {N : Int} {L : List Arc3} {s v : Int} {D : List Int} (ho : okB N L = true) (hD : IsDist N L s D) (h0 : 0 ≤ v) (h1 : v < N) : leastSt D L s v N.toNat = dAt D v := by
  obtain ⟨a, b, c, d⟩ := leastSt_inv (v := v) hD N.toNat
  have hl := hD.low v
  by_cases hp : 0 ≤ dAt D v
  · rcases hD.back v h0 h1 hp with e | ⟨x, hx, e1, e2, e3⟩
    · subst e
      have h := c rfl
      have := b h.1
      have hst := hD.start
      omega
    · obtain ⟨a0, a1, a2, a3, a4, a5⟩ := arcsIn_of_ok ho x hx
      have hw := wtL_mem (okB_elim ho).2.2.2.2 hx
      rw [e1] at hw
      obtain ⟨u, hu⟩ : ∃ u : Nat, x.1 = u := ⟨x.1.toNat, by omega⟩
      rw [hu] at hw e2 e3
      have h := d u (by omega) (by omega) e2
      have := b h.1
      omega
  · have : ¬ 0 ≤ leastSt D L s v N.toNat := fun h => hp (b h).1
    omega

theorem triangle {N s t v : Int} {L : List Arc3} (h : has2 N L s t = true) (h0 : 0 ≤ v) (h1 : v < N) (ha : 0 ≤ distOfI N L s v) (hb : 0 ≤ distOfI N L v t) : 0 ≤ distOfI N L s t ∧ distOfI N L s t ≤ distOfI N L s v + distOfI N L v t := by
  obtain ⟨ho, hs, ht⟩ := has2_of h
  have e1 : distOfI N L s v = dAt (distL N L s) v := by
    unfold distOfI
    rw [if_pos (by unfold has2; rw [ho, Bool.true_and, decide_eq_true_eq]; omega)]
  have e2 : distOfI N L v t = dAt (distL N L v) t := by
    unfold distOfI
    rw [if_pos (by unfold has2; rw [ho, Bool.true_and, decide_eq_true_eq]; omega)]
  have e3 : distOfI N L s t = dAt (distL N L s) t := by unfold distOfI; rw [if_pos h]
  rw [e1] at ha ⊢
  rw [e2] at hb ⊢
  rw [e3]
  have e4 := distL_of_turned ho ⟨h0, h1⟩ ht
  rw [← e4] at hb ⊢
  have hD := distL_is (s := s) (arcsIn_of_ok ho) (okB_elim ho).2.1 hs.1 hs.2
  have hE := distL_is (s := t) (arcsIn_of_ok (revL_ok ho)) (okB_elim ho).2.1 ht.1 ht.2
  exact hD.tri ho hE _ v h0 h1 rfl hb ha
theorem distOfI_bounds {N s t : Int} {L : List Arc3} : -1 ≤ distOfI N L s t ∧ distOfI N L s t ≤ 23000 := by
  unfold distOfI
  split
  · rename_i h
    obtain ⟨ho, hs, ht⟩ := has2_of h
    exact distL_top ho hs.1 hs.2 t
  · omega

/-- The arcs of the first k nodes, one behind the other. -/
def catL (L : List Arc3) (k : Nat) : List Arc3 := L.filter fun a => decide (a.1 < (k : Int))
theorem catL_zero {L : List Arc3} (h : ∀ a ∈ L, 0 ≤ a.1) : catL L 0 = [] := by
  unfold catL
  rw [List.filter_eq_nil_iff]
  intro a ha
  have := h a ha
  simp
  omega
theorem catL_succ {L : List Arc3} (hs : L.Pairwise AheadP) (k : Nat) : catL L (k + 1) = catL L k ++ fromL k L := by
  induction L with
  | nil => rfl
  | cons a L ih =>
    rw [List.pairwise_cons] at hs
    have ih' := ih hs.2
    unfold catL fromL at ih' ⊢
    simp only [List.filter_cons]
    by_cases h1 : a.1 < (k : Int)
    · rw [if_pos (by simp; omega), if_pos (by simpa using h1), if_neg (by simp; omega), ih']
      rfl
    · by_cases h2 : a.1 = (k : Int)
      · have h3 : L.filter (fun a => decide (a.1 < (k : Int))) = [] := by
          rw [List.filter_eq_nil_iff]
          intro b hb hlt
          have := hs.1 b hb
          unfold AheadP at this
          simp only [aheadB, decide_eq_true_eq] at this hlt
          omega
        rw [h3, List.nil_append] at ih'
        rw [if_pos (by simp; omega), if_neg (by simpa using h1), if_pos (by simpa using h2), ih', h3]
        rfl
      · have h3 : L.filter (fun a => decide (a.1 < ((k + 1 : Nat) : Int))) = [] := by
          rw [List.filter_eq_nil_iff]
          intro b hb hlt
          have := hs.1 b hb
          unfold AheadP at this
          simp only [aheadB, decide_eq_true_eq] at this hlt
          omega
        rw [h3] at ih'
        rw [if_neg (by simp; omega), if_neg (by simpa using h1), if_neg (by simpa using h2), h3]
        exact ih'
theorem catL_all {N : Int} {L : List Arc3} (h : okB N L = true) : catL L N.toNat = L := by
  unfold catL
  rw [List.filter_eq_self]
  intro a ha
  have := arcsIn_of_ok h a ha
  simp
  omega
theorem catL_len (L : List Arc3) (k : Nat) : (catL L k).length ≤ L.length := List.length_filter_le _ _
theorem fromL_at {v : Int} {L : List Arc3} {k : Nat} (hs : L.Pairwise AheadP) (h : k < (fromL v L).length) : (fromL v L)[k].1 = v ∧ wtL v (fromL v L)[k].2.1 L = (fromL v L)[k].2.2 := by
  have hm : (fromL v L)[k] ∈ fromL v L := List.getElem_mem h
  generalize (fromL v L)[k] = a at hm
  unfold fromL at hm
  obtain ⟨h1, h2⟩ := List.mem_filter.1 hm
  have e : a.1 = v := by simpa using h2
  refine ⟨e, ?_⟩
  have := wtL_mem hs h1
  rwa [e] at this

/-- How many arcs come to a node. -/
def intoN (L : List Arc3) (v : Int) (k : Nat) : Nat := ((L.take k).filter fun a => a.2.1 == v).length
theorem intoN_all {L : List Arc3} (hs : L.Pairwise AheadP) (v : Int) : (fromL v (revL L)).length = intoN L v L.length := by
  unfold fromL intoN
  rw [List.take_length]
  have h := ((revL_sorted hs).2.filter fun a => a.1 == v).length_eq
  rw [h, List.filter_map, List.length_map]
  rfl

end Go.Proofs.Ytffjpfanmnkmgaa

set_option linter.unusedSimpArgs false
set_option linter.unusedVariables false
namespace Go.Proofs.Ytffjpfanmnkmgaa
open Go.RowKit

theorem restL_sorted {L : List Arc3} (u v : Int) (hs : L.Pairwise AheadP) : (restL u v L).Pairwise AheadP := hs.filter _
theorem restL_ends {L : List Arc3} {u v : Int} : ∀ b ∈ restL u v L, isEnds u v b = false := fun b hb => by
  have := (List.mem_filter.1 hb).2
  simpa using this
theorem restL_same {M : List Arc3} {u v : Int} (hE : ∀ b ∈ M, isEnds u v b = false) : restL u v M = M :=
  List.filter_eq_self.2 fun b hb => by simp [hE b hb]
theorem restL_put {M : List Arc3} {u v y : Int} (hs : M.Pairwise AheadP) (hE : ∀ b ∈ M, isEnds u v b = false) : restL u v (putL (u, v, y) M) = M := by
  obtain ⟨p1, p2⟩ := putL_sorted (u, v, y) M hs hE
  refine sorted_uniq (restL_sorted u v p1) hs ((p2.filter _).trans ?_)
  have e : ((u, v, y) :: M).filter (fun a => !(isEnds u v a)) = restL u v M := by
    rw [List.filter_cons_of_neg (by simp [isEnds])]
    rfl
  rw [e, restL_same hE]
theorem restL_weighed {L : List Arc3} {u v y : Int} (hs : L.Pairwise AheadP) : restL u v (weighedL u v y L) = restL u v L := by
  unfold weighedL
  split
  · exact restL_put (restL_sorted u v hs) restL_ends
  · exact restL_same restL_ends
/-- A weight that is given again is as if it were given once. -/
theorem weighed_twice {L : List Arc3} {u v x y : Int} (hs : L.Pairwise AheadP) : weighedL u v x (weighedL u v y L) = weighedL u v x L := by
  show (if 0 < x then putL (u, v, x) (restL u v (weighedL u v y L)) else restL u v (weighedL u v y L)) = _
  rw [restL_weighed hs]
  rfl
theorem weighedB_twice {N : Int} {L : List Arc3} {u v x y : Int} (h1 : weighedB N L u v x = true) (h2 : weighedB N L u v y = true) : weighedB N (weighedL u v y L) u v x = true := by
  unfold weighedB at *
  simp only [Bool.and_eq_true] at *
  obtain ⟨⟨⟨a1, a2⟩, a3⟩, a4⟩ := h1
  obtain ⟨⟨⟨b1, b2⟩, b3⟩, b4⟩ := h2
  exact ⟨⟨⟨b4, a2⟩, a3⟩, by rw [weighed_twice (okB_elim a1).2.2.2.2]; exact a4⟩
theorem ends_one {L : List Arc3} {u v : Int} (hs : L.Pairwise AheadP) {a : Arc3} (ha : a ∈ L) (he : isEnds u v a = true) : L.filter (isEnds u v) = [a] := by
  have hp := hs.filter (isEnds u v)
  have hm : a ∈ L.filter (isEnds u v) := List.mem_filter.2 ⟨ha, he⟩
  have hall : ∀ b ∈ L.filter (isEnds u v), isEnds u v b = true := fun b hb => (List.mem_filter.1 hb).2
  generalize L.filter (isEnds u v) = M at *
  match M, hm, hp, hall with
  | [], hm, _, _ => cases hm
  | [b], hm, _, _ => rw [List.mem_singleton] at hm; rw [hm]
  | b :: d :: r, hm, hp, hall =>
    have h1 := isEnds_iff.1 (hall b (by simp))
    have h2 := isEnds_iff.1 (hall d (by simp))
    have h3 := List.rel_of_pairwise_cons hp (show d ∈ d :: r by simp)
    unfold AheadP at h3
    rw [h1.1, h1.2, h2.1, h2.2, ahead_irrefl] at h3
    cases h3
theorem wtL_has {L : List Arc3} {u v : Int} : 0 < wtL u v L → ∃ a ∈ L, isEnds u v a = true ∧ wtL u v L = a.2.2 := by
  induction L with
  | nil => intro h; exact absurd h (by simp [wtL])
  | cons b L ih =>
    intro h
    unfold wtL at h ⊢
    split at h
    · rename_i e
      rw [if_pos e]
      exact ⟨b, by simp, e, rfl⟩
    · rename_i e
      rw [if_neg e]
      obtain ⟨a, h1, h2, h3⟩ := ih h
      exact ⟨a, by simp [h1], h2, h3⟩
theorem wtL_ends {L : List Arc3} {u v : Int} (h : ∀ a ∈ L, isEnds u v a = false) : wtL u v L = 0 :=
  wtL_none fun k hk => h _ (List.getElem_mem hk)
theorem weighed_back {L : List Arc3} {u v : Int} (hs : L.Pairwise AheadP) (hw : ∀ a ∈ L, 1 ≤ a.2.2) : weighedL u v (wtL u v L) L = L := by
  have hperm : (L.filter (isEnds u v) ++ restL u v L).Perm L := List.filter_append_perm _ _
  unfold weighedL
  split
  · rename_i h
    obtain ⟨a, hm, he, e⟩ := wtL_has h
    have h1 := ends_one hs hm he
    obtain ⟨e1, e2⟩ := isEnds_iff.1 he
    have ea : (u, v, wtL u v L) = a := by rw [e, ← e1, ← e2]
    rw [ea]
    obtain ⟨p1, p2⟩ := putL_sorted a (restL u v L) (restL_sorted u v hs) (by rw [e1, e2]; exact restL_ends)
    refine sorted_uniq p1 hs (p2.trans ?_)
    rw [h1] at hperm
    exact hperm
  · rename_i h
    refine restL_same fun b hb => ?_
    cases hc : isEnds u v b with
    | false => rfl
    | true =>
      obtain ⟨e1, e2⟩ := isEnds_iff.1 hc
      have h3 := wtL_mem hs hb
      rw [e1, e2] at h3
      have := hw b hb
      omega
/-- A weight that was given is the arc's; no other is another. -/
theorem wtL_weighed {L : List Arc3} {u v x s t : Int} (hs : L.Pairwise AheadP) (hx : 0 ≤ x) : wtL s t (weighedL u v x L) = if s = u ∧ t = v then x else wtL s t L := by
  have hr := restL_sorted u v hs
  have hin : ∀ a : Arc3, a ∈ restL u v L ↔ a ∈ L ∧ isEnds u v a = false := fun a => by
    unfold restL
    rw [List.mem_filter]
    simp
  have hne : ∀ a : Arc3, isEnds s t a = true → ¬ (s = u ∧ t = v) → isEnds u v a = false := fun a h h' => by
    cases hc : isEnds u v a with
    | false => rfl
    | true =>
      obtain ⟨a1, a2⟩ := isEnds_iff.1 h
      obtain ⟨b1, b2⟩ := isEnds_iff.1 hc
      exact absurd ⟨a1.symm.trans b1, a2.symm.trans b2⟩ h'
  -- two sorted lists with the same arcs of these ends weigh the same
  have key : ∀ (X Y : List Arc3), X.Pairwise AheadP → Y.Pairwise AheadP → (∀ a : Arc3, isEnds s t a = true → (a ∈ X ↔ a ∈ Y)) → wtL s t X = wtL s t Y := fun X Y hX hY h => by
    by_cases hc : ∃ a ∈ X, isEnds s t a = true
    · obtain ⟨a, ha, he⟩ := hc
      obtain ⟨e1, e2⟩ := isEnds_iff.1 he
      have h1 := wtL_mem hX ha
      have h2 := wtL_mem hY ((h a he).1 ha)
      rw [e1, e2] at h1 h2
      rw [h1, h2]
    · rw [wtL_ends (fun a ha => by cases hq : isEnds s t a with
        | false => rfl
        | true => exact absurd ⟨a, ha, hq⟩ hc), wtL_ends (fun a ha => by cases hq : isEnds s t a with
        | false => rfl
        | true => exact absurd ⟨a, (h a hq).2 ha, hq⟩ hc)]
  unfold weighedL
  split
  · rename_i h
    obtain ⟨p1, p2⟩ := putL_sorted (u, v, x) (restL u v L) hr restL_ends
    split
    · rename_i e
      obtain ⟨rfl, rfl⟩ := e
      exact wtL_mem p1 (a := (s, t, x)) (p2.mem_iff.2 (by simp))
    · rename_i e
      refine key _ _ p1 hs fun a ha => ?_
      rw [p2.mem_iff, List.mem_cons, hin]
      constructor
      · rintro (rfl | h1)
        · obtain ⟨e1, e2⟩ := isEnds_iff.1 ha
          exact absurd ⟨e1.symm, e2.symm⟩ e
        · exact h1.1
      · exact fun h1 => .inr ⟨h1, hne a ha e⟩
  · rename_i h
    split
    · rename_i e
      obtain ⟨rfl, rfl⟩ := e
      rw [wtL_ends restL_ends]
      omega
    · rename_i e
      exact key _ _ hr hs fun a ha => by rw [hin]; exact ⟨fun h1 => h1.1, fun h1 => ⟨h1, hne a ha e⟩⟩

end Go.Proofs.Ytffjpfanmnkmgaa

set_option linter.unusedSimpArgs false
set_option linter.unusedVariables false
namespace Go.Proofs.Ytffjpfanmnkmgaa
open Go.RowKit

theorem restL_ok {N u v : Int} {L : List Arc3} (ho : okB N L = true) : okB N (restL u v L) = true := by
  obtain ⟨h1, h2, h3, ha, hp⟩ := okB_elim ho
  refine okB_intro h1 h2 ?_ (fun a h => ha a ((List.mem_filter.1 h).1)) (restL_sorted u v hp)
  have : (restL u v L).length ≤ L.length := by unfold restL; exact List.length_filter_le _ _
  omega
theorem restL_nopair {N u v : Int} {L : List Arc3} (ho : okB N L = true) (h : pairB N u v = false) : restL u v L = L := by
  obtain ⟨h1, h2, h3, ha, hp⟩ := okB_elim ho
  refine restL_same fun b hb => ?_
  have hb' := ha b hb
  unfold arcB at hb'
  unfold pairB at h
  simp only [decide_eq_true_eq, decide_eq_false_iff_not] at hb' h
  rw [Bool.eq_false_iff]
  intro he
  rw [isEnds_iff] at he
  obtain ⟨e1, e2⟩ := he
  rw [e1, e2] at hb'
  exact h hb'.1
theorem weighed0 (u v : Int) (L : List Arc3) : weighedL u v 0 L = restL u v L := by unfold weighedL; rw [if_neg (by omega)]
theorem weighedB0 {N u v : Int} {L : List Arc3} (ho : okB N L = true) : weighedB N L u v 0 = pairB N u v := by
  unfold weighedB
  rw [weighed0, restL_ok ho, ho, show inB 0 0 1000 = true from by decide]
  simp
/-- How far it is without an arc. -/
def detI (N : Int) (L : List Arc3) (s t u v : Int) : Int := if has2 N L s t = true then dAt (distL N (restL u v L) s) t else -1

end Go.Proofs.Ytffjpfanmnkmgaa

set_option linter.unusedSimpArgs false
set_option linter.unusedVariables false
namespace Go.Proofs.Ytffjpfanmnkmgaa
open Go.RowKit

theorem IsDist.lighter {N s : Int} {L M : List Arc3} {D E : List Int} (hM : ArcsIn N M) (hsub : ∀ a ∈ M, ∃ b ∈ L, b.1 = a.1 ∧ b.2.1 = a.2.1 ∧ b.2.2 ≤ a.2.2) (hD : IsDist N L s D) (hE : IsDist N M s E) :
    ∀ (n : Nat) (v : Int), 0 ≤ v → v < N → (dAt E v).toNat = n → 0 ≤ dAt E v → 0 ≤ dAt D v ∧ dAt D v ≤ dAt E v := by
  intro n
  induction n using Nat.strongRecOn with
  | ind n ih =>
    intro v h0 h1 hn hp
    rcases hE.back v h0 h1 hp with rfl | ⟨a, ha, rfl, hu, he⟩
    · rw [hE.start, hD.start]; omega
    · obtain ⟨a0, a1, a2, a3, a4, a5⟩ := hM a ha
      obtain ⟨x, y⟩ := ih (dAt E a.1).toNat (by omega) a.1 a0 a1 rfl hu
      obtain ⟨b, hb, e1, e2, e3⟩ := hsub a ha
      obtain ⟨z, t⟩ := hD.arc b hb (by rw [e1]; exact x)
      rw [e1] at t
      rw [e2] at z t
      omega
theorem weighed_mem {u v x : Int} {L : List Arc3} (hs : L.Pairwise AheadP) {b : Arc3} : b ∈ weighedL u v x L ↔ (0 < x ∧ b = (u, v, x)) ∨ (b ∈ L ∧ isEnds u v b = false) := by
  have hr : b ∈ restL u v L ↔ b ∈ L ∧ isEnds u v b = false := by
    unfold restL
    rw [List.mem_filter]
    simp
  unfold weighedL
  split
  · rename_i h
    obtain ⟨-, hp⟩ := putL_sorted (u, v, x) (restL u v L) (restL_sorted u v hs) restL_ends
    rw [hp.mem_iff, List.mem_cons, hr]
    constructor
    · rintro (h' | h')
      · exact .inl ⟨h, h'⟩
      · exact .inr h'
    · rintro (h' | h')
      · exact .inl h'.2
      · exact .inr h'
  · rename_i h
    rw [hr]
    constructor
    · exact fun h' => .inr h'
    · rintro (h' | h')
      · exact absurd h'.1 h
      · exact h'
/-- With an arc that is heavier, or gone, nothing is nearer. -/
theorem heavier_far {N s u v x : Int} {L : List Arc3} (hok : weighedB N L u v x = true) (hs : 0 ≤ s ∧ s < N) (hh : x = 0 ∨ (0 < wtL u v L ∧ wtL u v L ≤ x)) {t : Int} (ht : 0 ≤ t ∧ t < N) (h : 0 ≤ dAt (distL N (weighedL u v x L) s) t) :
    0 ≤ dAt (distL N L s) t ∧ dAt (distL N L s) t ≤ dAt (distL N (weighedL u v x L) s) t := by
  unfold weighedB at hok
  simp only [Bool.and_eq_true] at hok
  have ho := hok.1.1.1
  have ho2 := hok.2
  have hN := (okB_elim ho).2.1
  have hs2 := (okB_elim ho).2.2.2.2
  refine IsDist.lighter (arcsIn_of_ok ho2) (fun a ha => ?_) (distL_is (arcsIn_of_ok ho) hN hs.1 hs.2) (distL_is (arcsIn_of_ok ho2) hN hs.1 hs.2) _ t ht.1 ht.2 rfl h
  rcases (weighed_mem hs2).1 ha with ⟨h0, rfl⟩ | ⟨h1, -⟩
  · rcases hh with e | ⟨e1, e2⟩
    · omega
    · exact ⟨_, wtL_pos e1, rfl, rfl, e2⟩
  · exact ⟨a, h1, rfl, rfl, Int.le_refl _⟩
/-- With an arc that is lighter, or new, nothing is farther. -/
theorem lighter_near {N s u v x : Int} {L : List Arc3} (hok : weighedB N L u v x = true) (hs : 0 ≤ s ∧ s < N) (hx : 0 < x) (hh : wtL u v L ≤ 0 ∨ x < wtL u v L) {t : Int} (ht : 0 ≤ t ∧ t < N) (h : 0 ≤ dAt (distL N L s) t) :
    0 ≤ dAt (distL N (weighedL u v x L) s) t ∧ dAt (distL N (weighedL u v x L) s) t ≤ dAt (distL N L s) t := by
  unfold weighedB at hok
  simp only [Bool.and_eq_true] at hok
  have ho := hok.1.1.1
  have ho2 := hok.2
  have hN := (okB_elim ho).2.1
  have hs2 := (okB_elim ho).2.2.2.2
  refine IsDist.lighter (arcsIn_of_ok ho) (fun a ha => ?_) (distL_is (arcsIn_of_ok ho2) hN hs.1 hs.2) (distL_is (arcsIn_of_ok ho) hN hs.1 hs.2) _ t ht.1 ht.2 rfl h
  cases he : isEnds u v a with
  | false => exact ⟨a, (weighed_mem hs2).2 (.inr ⟨ha, he⟩), rfl, rfl, Int.le_refl _⟩
  | true =>
    have hw := wtL_mem hs2 ha
    have hp := (arcsIn_of_ok ho a ha).2.2.2.2.1
    simp [isEnds] at he
    obtain ⟨e1, e2⟩ := he
    rw [e1, e2] at hw
    refine ⟨(u, v, x), (weighed_mem hs2).2 (.inl ⟨hx, rfl⟩), e1.symm, e2.symm, ?_⟩
    show x ≤ a.2.2
    omega

end Go.Proofs.Ytffjpfanmnkmgaa

set_option linter.unusedSimpArgs false
set_option linter.unusedVariables false
namespace Go.Proofs.Ytffjpfanmnkmgaa
open Go.RowKit

theorem wtL_bounds {N u v : Int} {L : List Arc3} (ho : okB N L = true) : 0 ≤ wtL u v L ∧ wtL u v L ≤ 1000 := by
  have h := arcsIn_of_ok ho
  have key : ∀ (M : List Arc3), (∀ a ∈ M, 1 ≤ a.2.2 ∧ a.2.2 ≤ 1000) → 0 ≤ wtL u v M ∧ wtL u v M ≤ 1000 := by
    intro M
    induction M with
    | nil => intro _; simp [wtL]
    | cons a M ih =>
      intro hM
      unfold wtL
      split
      · have := hM a (by simp); omega
      · exact ih fun b hb => hM b (by simp [hb])
  exact key L fun a ha => by have := h a ha; omega

theorem dAt_at {D : List Int} {k : Nat} (hk : k < D.length) : dAt D (k : Int) = D[k] := by simp [dAt, hk]

end Go.Proofs.Ytffjpfanmnkmgaa

set_option linter.unusedSimpArgs false
set_option linter.unusedVariables false
namespace Go.Proofs.Ytffjpfanmnkmgaa
open Go.RowKit

/-- Arcs between nodes of n. -/
structure ArcN (N : Int) where
  a : Arc3
  h : 0 ≤ a.2.1 ∧ a.2.1 < N ∧ 1 ≤ a.2.2 ∧ a.2.2 ≤ 1000
def arcsN {N : Int} (M : List Arc3) (h : ∀ a ∈ M, 0 ≤ a.2.1 ∧ a.2.1 < N ∧ 1 ≤ a.2.2 ∧ a.2.2 ≤ 1000) : List (ArcN N) := M.pmap (fun a ha => ⟨a, ha⟩) h
theorem arcsN_len {N : Int} {M : List Arc3} (h : ∀ a ∈ M, 0 ≤ a.2.1 ∧ a.2.1 < N ∧ 1 ≤ a.2.2 ∧ a.2.2 ≤ 1000) : (arcsN M h).length = M.length := by unfold arcsN; rw [List.length_pmap]
theorem arcsN_at {N : Int} [Inhabited (ArcN N)] {M : List Arc3} (h : ∀ a ∈ M, 0 ≤ a.2.1 ∧ a.2.1 < N ∧ 1 ≤ a.2.2 ∧ a.2.2 ≤ 1000) {j : Nat} (hj : j < M.length) : ((arcsN M h)[j]!).1 = M[j] := by
  rw [getElem!_pos (arcsN M h) j (by rw [arcsN_len]; exact hj)]
  unfold arcsN
  rw [List.getElem_pmap]
/-- Where the first arc is that a search finds. -/
theorem first_at {M : List Arc3} {q : Arc3 → Bool} {a : Arc3} (h : M.find? q = some a) : ∃ k, ∃ (hk : k < M.length), M[k] = a ∧ q M[k] = true ∧ ∀ j (hj : j < k), q (M[j]'(by omega)) = false := by
  obtain ⟨h1, k, hk, e, h2⟩ := List.find?_eq_some_iff_getElem.1 h
  exact ⟨k, hk, e, by rw [e]; exact h1, fun j hj => by simpa using h2 j hj⟩
theorem idx_first {N : Int} [Inhabited (ArcN N)] {M : List Arc3} (h : ∀ a ∈ M, 0 ≤ a.2.1 ∧ a.2.1 < N ∧ 1 ≤ a.2.2 ∧ a.2.2 ≤ 1000) (q : Arc3 → Bool) {k : Nat} (hk : k < M.length) (hq : q M[k] = true) (hno : ∀ j (hj : j < k), q (M[j]'(by omega)) = false) :
    Lib.idxBy (fun _ (y : ArcN N) => q y.1) ((arcsN M h).take M.length) default = (k : Int) := by
  refine Lib.idxBy_hit _ _ M.length k default hk (by rw [arcsN_len]; exact Nat.le_refl _) ?_ (fun j hj => ?_)
  · show q ((arcsN M h)[k]!).1 = true
    rw [arcsN_at h hk]; exact hq
  · show q ((arcsN M h)[j]!).1 = false
    rw [arcsN_at h (by omega)]; exact hno j hj

/-- Where all of the first places are as far, the next arc is the same. -/
theorem nextB_take {E : List Int} {n : Nat} {v : Int} {a : Arc3} (h : n ≤ E.length) (hv : 0 ≤ v ∧ v < n) (ha : 0 ≤ a.2.1 ∧ a.2.1 < n) : nextB (E.take n) v a = nextB E v a := by
  have e : ∀ x : Int, 0 ≤ x → x < n → dAt (E.take n) x = dAt E x := fun x h0 h1 => by
    unfold dAt
    simp only [List.getD_eq_getElem?_getD]
    rw [List.getElem?_take, if_pos (by omega)]
  unfold nextB
  rw [e _ ha.1 ha.2, e _ hv.1 hv.2]

/-- k steps along a path, the node behind them being v, and what is still to come. -/
structure OnWay (L : List Arc3) (D : List Int) (s t : Int) (P : List Int) (v : Int) : Prop where
  all : P ++ stepsL L D t v = s :: stepsL L D t s
  last : ∃ Q, P = Q ++ [v]
  far : 0 ≤ dAt D v
theorem OnWay.start {L : List Arc3} {D : List Int} {s t : Int} (h : 0 ≤ dAt D s) : OnWay L D s t [s] s := ⟨rfl, ⟨[], rfl⟩, h⟩
theorem OnWay.next {L : List Arc3} {D : List Int} {s t v : Int} {P : List Int} (h : OnWay L D s t P v) (hv : v ≠ t) {a : Arc3} (hn : nextL L D v = some a) (h0 : 0 ≤ dAt D a.2.1) (hl : dAt D a.2.1 < dAt D v) : OnWay L D s t (P ++ [a.2.1]) a.2.1 := by
  refine ⟨?_, ⟨P, rfl⟩, h0⟩
  rw [← h.all, stepsL_next hv hn h0 hl, List.append_assoc]
  rfl
theorem OnWay.done {L : List Arc3} {D : List Int} {s t : Int} {P : List Int} (h : OnWay L D s t P t) : P = s :: stepsL L D t s := by
  have := h.all
  rwa [stepsL_end, List.append_nil] at this
theorem OnWay.len {L : List Arc3} {D : List Int} {s t v : Int} {P : List Int} (h : OnWay L D s t P v) (hd : dAt D s ≤ 23000) : P.length ≤ 23001 := by
  have h1 := congrArg List.length h.all
  have h2 := stepsL_len L D t _ s rfl
  simp only [List.length_append, List.length_cons] at h1
  omega

end Go.Proofs.Ytffjpfanmnkmgaa

set_option linter.unusedSimpArgs false
set_option linter.unusedVariables false
namespace Go.Proofs.Ytffjpfanmnkmgaa
open Go.RowKit

/-- The path from v down to t, by the next arcs. -/
inductive Way (N : Int) (L : List Arc3) (D : List Int) (t : Int) : Int → List Int → Prop
  | stop : Way N L D t t [t]
  | go {v : Int} {a : Arc3} {P : List Int} (hv : v ≠ t) (hr : 0 ≤ v ∧ v < N) (hn : nextL L D v = some a) (hL : a ∈ L) (h1 : a.1 = v) (h0 : 0 ≤ dAt D a.2.1) (hd : a.2.2 + dAt D a.2.1 = dAt D v) (hl : dAt D a.2.1 < dAt D v) (h : Way N L D t a.2.1 P) : Way N L D t v (v :: P)
theorem way_steps {N t : Int} {L : List Arc3} {D : List Int} (ho : okB N L = true) (h : IsDist N (revL L) t D) : ∀ (n : Nat) (v : Int), (dAt D v).toNat = n → 0 ≤ v → v < N → 0 ≤ dAt D v → Way N L D t v (v :: stepsL L D t v) := by
  intro n
  induction n using Nat.strongRecOn with
  | ind n ih =>
    intro v hn h0 h1 hd
    by_cases hv : v = t
    · subst hv
      rw [stepsL_end]
      exact .stop
    · obtain ⟨a, e, hL, ha, hp, hs, r0, r1, hl⟩ := nextL_some ho h h0 h1 hv hd
      rw [stepsL_next hv e hp hl]
      exact .go hv ⟨h0, h1⟩ e hL ha hp hs hl (ih _ (by omega) _ rfl r0 r1 hp)
theorem way_path {N s t : Int} {L : List Arc3} (hh : has2 N L s t = true) (hd : 0 ≤ dAt (distL N (revL L) t) s) : Way N L (distL N (revL L) t) t s (pathL N L s t) := by
  obtain ⟨ho, hs, ht⟩ := has2_of hh
  unfold pathL
  rw [if_pos (by rw [Bool.and_eq_true]; exact ⟨hh, by simpa using hd⟩)]
  exact way_steps ho (distL_is (arcsIn_of_ok (revL_ok ho)) (okB_elim ho).2.1 ht.1 ht.2) _ s rfl hs.1 hs.2 hd
section
variable {N t v : Int} {L : List Arc3} {D P : List Int}
theorem Way.pos (h : Way N L D t v P) : 0 < P.length := by cases h <;> simp
theorem Way.head (h : Way N L D t v P) (hp : 0 < P.length) : P[0] = v := by cases h <;> rfl
theorem Way.last (h : Way N L D t v P) : ∀ (hp : P.length - 1 < P.length), P[P.length - 1] = t := by
  induction h with
  | stop => intro _; rfl
  | go hv hr hn hL h1 h0 hd hl h ih =>
    intro hp
    have := h.pos
    have h2 := ih (by omega)
    simp only [List.length_cons]
    rw [List.getElem_cons]
    rw [dif_neg (by omega)]
    simpa using h2
theorem Way.nodes (h : Way N L D t v P) (ht : 0 ≤ t ∧ t < N) (hz : 0 ≤ dAt D t) : ∀ x ∈ P, (0 ≤ x ∧ x < N) ∧ 0 ≤ dAt D x ∧ dAt D x ≤ dAt D v := by
  induction h with
  | stop => intro x hx; simp at hx; subst hx; exact ⟨ht, hz, Int.le_refl _⟩
  | go hv hr hn hL h1 h0 hd hl h ih =>
    intro x hx
    rcases List.mem_cons.1 hx with rfl | hx
    · exact ⟨hr, by omega, Int.le_refl _⟩
    · obtain ⟨a, b, c⟩ := ih x hx
      exact ⟨a, b, by omega⟩
/-- Each step is the next arc. -/
theorem Way.step (h : Way N L D t v P) : ∀ i (hi : i + 1 < P.length), ∃ a, nextL L D (P[i]'(by omega)) = some a ∧ a ∈ L ∧ a.1 = P[i]'(by omega) ∧ a.2.1 = P[i + 1] ∧ a.2.2 + dAt D P[i + 1] = dAt D (P[i]'(by omega)) ∧ dAt D P[i + 1] < dAt D (P[i]'(by omega)) := by
  induction h with
  | stop => intro i hi; simp at hi
  | go hv hr hn hL h1 h0 hd hl h ih =>
    intro i hi
    rcases i with _ | i
    · have hp := h.pos
      have hh := h.head hp
      simp only [List.getElem_cons_zero, List.getElem_cons_succ]
      rw [hh]
      exact ⟨_, hn, hL, h1, rfl, hd, hl⟩
    · simpa using ih i (by simpa using hi)
/-- How far is left falls along the path. -/
theorem Way.falls (h : Way N L D t v P) : ∀ i j (hij : i < j) (hj : j < P.length), dAt D P[j] < dAt D (P[i]'(by omega)) := by
  intro i j hij
  induction j with
  | zero => omega
  | succ j ih =>
    intro hj
    obtain ⟨a, -, -, -, -, -, e⟩ := h.step j hj
    by_cases hh : i = j
    · subst hh; exact e
    · have := ih (by omega) (by omega)
      omega
theorem Way.nodup (h : Way N L D t v P) : ∀ i j (hij : i < j) (hj : j < P.length), P[i]'(by omega) ≠ P[j] := fun i j hij hj e => by
  have := h.falls i j hij hj
  rw [e] at this
  omega
end

/-- Nodes of the first path are on a shortest one. -/
theorem way_on {N s t : Int} {L : List Arc3} {D E : List Int} (ho : okB N L = true) (hD : IsDist N L s D) (hE : IsDist N (revL L) t E) {v : Int} {P : List Int} (h : Way N L E t v P) (hv : 0 ≤ dAt D v ∧ dAt D v + dAt E v = dAt D t) (hr : 0 ≤ v ∧ v < N) (ht : 0 ≤ t ∧ t < N) (hz : 0 ≤ dAt E t) :
    ∀ x ∈ P, (0 ≤ x ∧ x < N) ∧ 0 ≤ dAt D x ∧ 0 ≤ dAt E x ∧ dAt D x + dAt E x = dAt D t := by
  induction h with
  | stop =>
    intro x hx
    simp at hx
    subst hx
    exact ⟨ht, hv.1, hz, hv.2⟩
  | @go v a P hv' hr' hn hL h1 h0 hd hl h ih =>
    intro x hx
    obtain ⟨a0, a1, a2, a3, a4, a5⟩ := arcsIn_of_ok ho a hL
    rcases List.mem_cons.1 hx with rfl | hx
    · exact ⟨hr, hv.1, by omega, hv.2⟩
    · have hle := hD.arc a hL (by rw [h1]; exact hv.1)
      rw [h1] at hle
      have htri := IsDist.tri ho hD hE _ a.2.1 a2 a3 rfl h0 hle.1
      exact ih ⟨hle.1, by omega⟩ ⟨a2, a3⟩ x hx

/-- Which nodes are between two. -/
theorem distOfI_of {N s t : Int} {L : List Arc3} (ho : okB N L = true) (hs : 0 ≤ s ∧ s < N) (ht : 0 ≤ t ∧ t < N) : distOfI N L s t = dAt (distL N L s) t := by
  unfold distOfI
  rw [if_pos (by unfold has2; rw [ho, Bool.true_and, decide_eq_true_eq]; exact ⟨hs, ht⟩)]
theorem betL_mem {N s t m v : Int} {L : List Arc3} (hh : has2 N L s t = true) (hm : 0 ≤ m ∧ m ≤ 24000) (hv : 0 ≤ v ∧ v < N) :
    v ∈ betL N L s t m ↔ 0 ≤ distOfI N L s v ∧ 0 ≤ distOfI N L v t ∧ distOfI N L s v + distOfI N L v t ≤ m := by
  obtain ⟨ho, hs, ht⟩ := has2_of hh
  unfold betL
  rw [if_pos (by rw [Bool.and_eq_true]; exact ⟨hh, by simpa using hm⟩)]
  unfold withinL
  rw [mem_withinD, distOfI_of ho hs hv, distOfI_of ho hv ht, distL_of_turned ho hv ht]
  constructor
  · rintro ⟨-, h⟩; exact h
  · intro h; exact ⟨hv, h⟩
theorem onL_mem {N s t v : Int} {L : List Arc3} (hh : has2 N L s t = true) (hv : 0 ≤ v ∧ v < N) :
    v ∈ onL N L s t ↔ 0 ≤ distOfI N L s v ∧ 0 ≤ distOfI N L v t ∧ distOfI N L s v + distOfI N L v t = distOfI N L s t := by
  obtain ⟨ho, hs, ht⟩ := has2_of hh
  unfold onL
  rw [if_pos hh]
  unfold withinL
  have hD := distL_is (s := s) (arcsIn_of_ok ho) (okB_elim ho).2.1 hs.1 hs.2
  have hE := distL_is (s := t) (arcsIn_of_ok (revL_ok ho)) (okB_elim ho).2.1 ht.1 ht.2
  have hb := byB_on ho hD hE hv.1 hv.2
  rw [distOfI_of ho hs hv, distOfI_of ho hv ht, distOfI_of ho hs ht, ← distL_of_turned ho hv ht]
  have hm : v ∈ withinD N (distL N L s) (distL N (revL L) t) (dAt (distL N L s) t) ↔ byB (distL N L s) (distL N (revL L) t) (dAt (distL N L s) t) v = true := by
    unfold withinD
    rw [List.mem_filter, mem_nodesL]
    constructor
    · exact fun h => h.2
    · exact fun h => ⟨hv, h⟩
  rw [hm, hb, decide_eq_true_eq]
theorem betL_on {N s t : Int} {L : List Arc3} (hh : has2 N L s t = true) (hd : 0 ≤ distOfI N L s t) : betL N L s t (distOfI N L s t) = onL N L s t := by
  obtain ⟨ho, hs, ht⟩ := has2_of hh
  have hb := (distOfI_bounds (N := N) (s := s) (t := t) (L := L)).2
  unfold betL onL
  rw [if_pos (by rw [Bool.and_eq_true]; exact ⟨hh, by simp; omega⟩), if_pos hh, distOfI_of ho hs ht]
theorem betL_more {N s t m v : Int} {L : List Arc3} (hm : m < 24000) (h : v ∈ betL N L s t m) : v ∈ betL N L s t (m + 1) := by
  unfold betL at h ⊢
  split at h
  · rename_i hc
    rw [Bool.and_eq_true] at hc
    have h2 : 0 ≤ m ∧ m ≤ 24000 := by simpa using hc.2
    rw [if_pos (by rw [Bool.and_eq_true]; exact ⟨hc.1, by simp; omega⟩)]
    unfold withinL at h ⊢
    rw [mem_withinD] at h ⊢
    obtain ⟨a, b, c, d⟩ := h
    exact ⟨a, b, c, by omega⟩
  · simp at h
theorem betL_turned {N s t m : Int} {L : List Arc3} (ho : okB N L = true) : betL N (revL L) t s m = betL N L s t m := by
  have e : has2 N (revL L) t s = has2 N L s t := by
    unfold has2
    rw [ho, revL_ok ho]
    simp [and_comm]
  unfold betL
  rw [e]
  by_cases h : (has2 N L s t && decide (0 ≤ m ∧ m ≤ 24000)) = true
  · rw [if_pos h, if_pos h]
    rw [Bool.and_eq_true] at h
    obtain ⟨-, hs, ht⟩ := has2_of h.1
    unfold withinL withinD
    rw [revL_revL ho]
    congr 1
    funext v
    unfold byB
    rw [decide_eq_decide]
    constructor <;> (intro h; omega)
  · rw [if_neg h, if_neg h]
/-- The first path's nodes are on a shortest one. -/
theorem path_on {N s t x : Int} {L : List Arc3} (h : x ∈ pathL N L s t) : x ∈ onL N L s t := by
  unfold pathL at h
  split at h
  · rename_i hc
    rw [Bool.and_eq_true] at hc
    have hd : 0 ≤ dAt (distL N (revL L) t) s := by simpa using hc.2
    obtain ⟨ho, hs, ht⟩ := has2_of hc.1
    have hD := distL_is (s := s) (arcsIn_of_ok ho) (okB_elim ho).2.1 hs.1 hs.2
    have hE := distL_is (s := t) (arcsIn_of_ok (revL_ok ho)) (okB_elim ho).2.1 ht.1 ht.2
    have hw := way_path hc.1 hd
    have hx : x ∈ pathL N L s t := by
      unfold pathL
      rw [if_pos (by rw [Bool.and_eq_true]; exact hc)]
      exact h
    have h0 := hD.start
    have h1 := hE.start
    have hst := distL_of_turned ho hs ht
    obtain ⟨a, b, c, d⟩ := way_on ho hD hE hw ⟨by omega, by omega⟩ hs ht (by omega) x hx
    rw [onL_mem hc.1 a, distOfI_of ho hs a, distOfI_of ho a ht, distOfI_of ho hs ht, ← distL_of_turned ho a ht]
    exact ⟨b, c, d⟩
  · simp at h

end Go.Proofs.Ytffjpfanmnkmgaa

set_option linter.unusedSimpArgs false
set_option linter.unusedVariables false
namespace Go.Proofs.Ytffjpfanmnkmgaa
open Go.RowKit

theorem sumW_bounds {N : Int} {L : List Arc3} (P : List Int) (ho : okB N L = true) : ∀ k : Nat, 0 ≤ sumW L P k ∧ sumW L P k ≤ 1000 * k
  | 0 => by simp [sumW]
  | k + 1 => by
    have h1 := sumW_bounds P ho k
    have h2 : 0 ≤ stepW L P k ∧ stepW L P k ≤ 1000 := wtL_bounds ho
    unfold sumW
    omega
theorem pathB_ok {N : Int} {L : List Arc3} {P : List Int} (ho : okB N L = false) : pathB N L P = false := by unfold pathB; rw [ho, Bool.false_and]
theorem pathB_long {N : Int} {L : List Arc3} {P : List Int} (h : 1000 < P.length) : pathB N L P = false := by
  unfold pathB
  rw [decide_eq_false (by omega), Bool.and_false]
theorem pathB_empty {N : Int} {L : List Arc3} {P : List Int} (h : P.length = 0) : pathB N L P = false := by
  unfold pathB
  rw [decide_eq_false (by omega), Bool.and_false]
theorem pathB_step {N : Int} {L : List Arc3} {P : List Int} {j : Nat} (h : j + 1 < P.length) (h0 : stepW L P j = 0) : pathB N L P = false := by
  unfold pathB
  rw [decide_eq_false (fun hc => hc.2.2.2 j (by omega) h0), Bool.and_false]
theorem pathB_first {N : Int} {L : List Arc3} {P : List Int} (h : ¬ (0 ≤ P.getD 0 0 ∧ P.getD 0 0 < N)) : pathB N L P = false := by
  unfold pathB
  rw [decide_eq_false (fun hc => h hc.2.2.1), Bool.and_false]
theorem pathB_yes {N : Int} {L : List Arc3} {P : List Int} (ho : okB N L = true) (h0 : 0 < P.length) (h1 : P.length ≤ 1000) (h2 : 0 ≤ P.getD 0 0 ∧ P.getD 0 0 < N) (h3 : ∀ j, j < P.length - 1 → stepW L P j ≠ 0) : pathB N L P = true := by
  unfold pathB
  rw [ho, Bool.true_and, decide_eq_true_eq]
  exact ⟨h0, h1, h2, h3⟩
theorem lenI_no {N : Int} {L : List Arc3} {P : List Int} (h : pathB N L P = false) : lenI N L P = 0 := by unfold lenI; rw [h]; rfl
theorem lenI_yes {N : Int} {L : List Arc3} {P : List Int} (h : pathB N L P = true) : lenI N L P = sumW L P (P.length - 1) := by unfold lenI; rw [if_pos h]
theorem getD_at {P : List Int} {k : Nat} (h : k < P.length) : P.getD k 0 = P[k] := by
  rw [List.getD_eq_getElem?_getD, List.getElem?_eq_getElem h]
  rfl

/-- What is left where a path is measured. -/
def LenLeft (N : Int) (L : List Arc3) (P : List Int) (w : World) (e : Ending) (w' : World) : Prop := e = .returned (.tuple #[.int .i64 (lenI N L P), .bool (pathB N L P)]) ∧ Bl w w'
theorem LenLeft.no {N : Int} {L : List Arc3} {P : List Int} {w w' : World} (h : pathB N L P = false) (hb : Bl w w') : LenLeft N L P w (.returned (.tuple #[.int .i64 0, .bool false])) w' :=
  ⟨by rw [lenI_no h, h], hb⟩

/-- The sum of the steps, and whether all of them are there, and there is a first one that is a node. -/
def len3B (N : Int) (L : List Arc3) (P : List Int) : Bool := decide ((∀ j, j < P.length - 1 → stepW L P j ≠ 0) ∧ 0 < P.length ∧ (0 ≤ P.getD 0 0 ∧ P.getD 0 0 < N))
def len3I (L : List Arc3) (P : List Int) : Int := if (∀ j, j < P.length - 1 → stepW L P j ≠ 0) then sumW L P (P.length - 1) else 0

set_option maxRecDepth 100000 in
set_option maxHeartbeats 4000000 in
theorem l3Length_any (N : Int) (A : Option Addr) (n c : Nat) (L : List Arc3) (hn : n = L.length) (ho : okB N L = true) (A2 : Option Addr) (k c2 : Nat) (P : List Int) (hk : k = P.length) (w : World) (hm : n ≤ 1048576) (hkm : k ≤ 1000) (H1 : ArcsAt w w.heap.size A L) (H2 : IntsAt w w.heap.size A2 P) :
    Calls Try.prog 88 #[.agg #[.int .i64 N, .slice A n c], .slice A2 k c2] w fun e w' => e = .returned (.tuple #[.int .i64 (len3I L P), .bool (len3B N L P)]) ∧ Bl w w' := by
  have K1 := Lib.hid H1
  have K2 := Lib.hid H2
  have HN := Lib.hid hn
  have HK := Lib.hid hk
  have HO := Lib.hid ho
  have HNB := Lib.hid (fun v => nodeB_ok (v := v) ho)
  clear H1 H2 hn hk ho
  go_enter Try.func88, Try.ntmps88
  go_wp2_with fail
  go_loopw [6, 7] (fun s i wr => ∃ j : Nat, (j + 1 ≤ k ∨ j = 0) ∧ i = .int .i64 ((j : Int) + 1) ∧ s = .int .i64 (sumW L P j) ∧ Bl (w.alloc (.cells #[.int .i64 N, .slice A n c] 38)) wr ∧ Hid (∀ t, t < j → stepW L P t ≠ 0)) (fun _ i _ => k - (intOf i).toNat)
  case atStart => exact ⟨0, .inr rfl, by simp, rfl, (by repeat' (first | exact Bl.refl _ | with_reducible assumption | with_reducible refine Bl.drew_ ?_ | with_reducible refine Bl.drewN_ ?_ _ | with_reducible refine Bl.alloc_ ?_ _ | with_reducible refine Bl.trans_ ?_ (by assumption) | with_reducible refine Bl.trans_ ?_ (And.left (by assumption)))), Lib.hid fun t h => absurd h (by omega)⟩
  case round =>
    obtain ⟨j, hj, rfl, rfl, hbl, NO⟩ := hrel
    have hbw : Bl w wr := (Bl.alloc_ (Bl.refl w) _).trans_ hbl
    have hsb := Lib.hid (sumW_bounds P HO.out j)
    have HSS := Lib.hid (show sumW L P (j + 1) = sumW L P j + stepW L P j from rfl)
    generalize hS : sumW L P j = S at hsb HSS
    have HS := Lib.hid hS
    clear hS
    by_cases hlt : j + 1 < k
    · have hkl : j + 1 < P.length := by have := HK.out; omega
      obtain ⟨g2, o2, rfl, hg2, hc2⟩ := K2.out.cell (by omega)
      have p1 := hc2 j (by omega)
      have p2 := hc2 (j + 1) hkl
      clear hc2
      have HW := Lib.hid (stepW_at (L := L) hkl)
      generalize P[j] = u at p1 HW
      generalize P[j + 1] = v at p2 HW
      have HSH := Lib.hid (show ∀ wx, Bl wr wx → Bl wr wx ∧ wx.cell? ⟨w.heap.size, 0, none⟩ = some (.int .i64 N) ∧ wx.cell? ⟨w.heap.size, 1, none⟩ = some (.slice A n c) ∧ wx.cell? ⟨g2, o2 + j, none⟩ = some (.int .i64 u) ∧ wx.cell? ⟨g2, o2 + (j + 1), none⟩ = some (.int .i64 v) from fun wx hb => by
        obtain ⟨b0, b1⟩ := box2 (hbl.trans_ hb)
        have hc := (bcell (hbw.trans_ hb)).1
        exact ⟨hb, b0, b1, (hc _ _ hg2).trans p1, (hc _ _ hg2).trans p2⟩)
      clear p1 p2
      have hwb := Lib.hid (wtL_bounds (u := u) (v := v) HO.out)
      generalize hx : wtL u v L = x at HW hwb
      have HX := Lib.hid hx
      clear hx
      have w1 : IntKind.i64.wrap (j : Int) = (j : Int) := IntWalk.i64_in _ (by omega)
      have i0 : (0 : Int) ≤ (j : Int) := by omega
      have i1 : (j : Int) < (k : Int) := by omega
      have i2 : (0 : Int) ≤ (j : Int) + 1 := by omega
      have i3 : (j : Int) + 1 < (k : Int) := by omega
      have i4 : ((j : Int) + 1).toNat = j + 1 := by omega
      by_cases h0 : x = 0
      · have b0 : (x == 0) = true := by simp [h0]
        go_wp2_with fail
        refine wp_region_held_drew (S := fun wx => Bl wr wx ∧ wx.cell? ⟨w.heap.size, 0, none⟩ = some (.int .i64 N) ∧ wx.cell? ⟨w.heap.size, 1, none⟩ = some (.slice A n c) ∧ wx.cell? ⟨g2, o2 + j, none⟩ = some (.int .i64 u) ∧ wx.cell? ⟨g2, o2 + (j + 1), none⟩ = some (.int .i64 v)) (by kernel_rfl) ?_ (fun hHeld => ?_)
        · (exact HSH.out _ (by repeat' (first | exact Bl.refl _ | with_reducible assumption | with_reducible refine Bl.drew_ ?_ | with_reducible refine Bl.drewN_ ?_ _ | with_reducible refine Bl.alloc_ ?_ _ | with_reducible refine Bl.trans_ ?_ (by assumption) | with_reducible refine Bl.trans_ ?_ (And.left (by assumption)))))
        refine wpAnyH_take (i := 0) (v := ?_) rfl (by kernel_rfl) (by kernel_rfl) (by kernel_rfl) (fun _ _ _ h => h) (Or.inl ⟨by kernel_rfl, ?_⟩) (by assumption) ?_
        rotate_left
        · (intro wx hSw; (try dsimp only at hSw); go_simp; try (with_reducible rfl))
        try simp only [Act.put, List.getElem_toArray, List.getElem_cons_succ, List.getElem_cons_zero, List.setIfInBounds_toArray, List.set_cons_zero, List.set_cons_succ]
        refine wpAnyH_take (i := 1) (v := ?_) rfl (by kernel_rfl) (by kernel_rfl) (by kernel_rfl) (fun _ _ _ h => h) (Or.inl ⟨by kernel_rfl, ?_⟩) (by assumption) ?_
        rotate_left
        · (intro wx hSw; (try dsimp only at hSw); go_simp; try (with_reducible rfl))
        try simp only [Act.put, List.getElem_toArray, List.getElem_cons_succ, List.getElem_cons_zero, List.setIfInBounds_toArray, List.set_cons_zero, List.set_cons_succ]
        refine wpAnyH_take (i := 2) (v := ?_) rfl (by kernel_rfl) (by kernel_rfl) (by kernel_rfl) (fun _ _ _ h => h) (Or.inl ⟨by kernel_rfl, ?_⟩) (by assumption) ?_
        rotate_left
        · (intro wx hSw; (try dsimp only at hSw); go_simp; try (with_reducible rfl))
        try simp only [Act.put, List.getElem_toArray, List.getElem_cons_succ, List.getElem_cons_zero, List.setIfInBounds_toArray, List.set_cons_zero, List.set_cons_succ]
        refine wpAnyH_take (i := 3) (v := ?_) rfl (by kernel_rfl) (by kernel_rfl) (by kernel_rfl) (fun _ _ _ h => h) (Or.inl ⟨by kernel_rfl, ?_⟩) (by assumption) ?_
        rotate_left
        · (intro wx hSw; (try dsimp only at hSw); go_simp; try (with_reducible rfl))
        try simp only [Act.put, List.getElem_toArray, List.getElem_cons_succ, List.getElem_cons_zero, List.setIfInBounds_toArray, List.set_cons_zero, List.set_cons_succ]
        refine wpAnyH_take (i := 4) (v := ?_) rfl (by kernel_rfl) (by kernel_rfl) (by kernel_rfl) (fun _ _ _ h => h) (Or.inl ⟨by kernel_rfl, ?_⟩) (by assumption) ?_
        rotate_left
        · (intro wx hSw; (try dsimp only at hSw); go_simp; try (with_reducible rfl))
        try simp only [Act.put, List.getElem_toArray, List.getElem_cons_succ, List.getElem_cons_zero, List.setIfInBounds_toArray, List.set_cons_zero, List.set_cons_succ]
        refine wpAnyH_take (i := 5) (v := ?_) rfl (by kernel_rfl) (by kernel_rfl) (by kernel_rfl) (fun _ _ _ h => h) (Or.inl ⟨by kernel_rfl, ?_⟩) (by assumption) ?_
        rotate_left
        · (intro wx hSw; (try dsimp only at hSw); go_simp; try (with_reducible rfl))
        try simp only [Act.put, List.getElem_toArray, List.getElem_cons_succ, List.getElem_cons_zero, List.setIfInBounds_toArray, List.set_cons_zero, List.set_cons_succ]
        refine wpAnyH_take (i := 6) (v := ?_) rfl (by kernel_rfl) (by kernel_rfl) (by kernel_rfl) (fun _ _ _ h => h) (Or.inl ⟨by kernel_rfl, ?_⟩) (by assumption) ?_
        rotate_left
        · (intro wx hSw; (try dsimp only at hSw); go_simp; try (with_reducible rfl))
        try simp only [Act.put, List.getElem_toArray, List.getElem_cons_succ, List.getElem_cons_zero, List.setIfInBounds_toArray, List.set_cons_zero, List.set_cons_succ]
        refine wpAnyH_take (i := 7) (v := ?_) rfl (by kernel_rfl) (by kernel_rfl) (by kernel_rfl) (fun _ _ _ h => h) (Or.inl ⟨by kernel_rfl, ?_⟩) (by assumption) ?_
        rotate_left
        · (intro wx hSw; (try dsimp only at hSw); go_simp; try (with_reducible rfl))
        try simp only [Act.put, List.getElem_toArray, List.getElem_cons_succ, List.getElem_cons_zero, List.setIfInBounds_toArray, List.set_cons_zero, List.set_cons_succ]
        refine wpAnyH_take (i := 8) (v := ?_) rfl (by kernel_rfl) (by kernel_rfl) (by kernel_rfl) (fun _ _ _ h => h) (Or.inl ⟨by kernel_rfl, ?_⟩) (by assumption) ?_
        rotate_left
        · (intro wx hSw; (try dsimp only at hSw); go_simp; try (with_reducible rfl))
        try simp only [Act.put, List.getElem_toArray, List.getElem_cons_succ, List.getElem_cons_zero, List.setIfInBounds_toArray, List.set_cons_zero, List.set_cons_succ]
        refine wpAnyH_take (i := 9) (v := ?_) rfl (by kernel_rfl) (by kernel_rfl) (by kernel_rfl) (fun _ _ _ h => h) (Or.inl ⟨by kernel_rfl, ?_⟩) (by assumption) ?_
        rotate_left
        · (intro wx hSw; (try dsimp only at hSw); go_simp; try (with_reducible rfl))
        try simp only [Act.put, List.getElem_toArray, List.getElem_cons_succ, List.getElem_cons_zero, List.setIfInBounds_toArray, List.set_cons_zero, List.set_cons_succ]
        refine wpAnyH_ready (rs := [10]) (by kernel_rfl) (by simp) ?_
        refine AllReadyH.cons rfl (fun K hK => ?_) AllReadyH.nil
        go_simp
        (go_at_call 102; refine (l1Weight_any N u v A n c L HN.out _ (by omega) (K1.out.bl (hbw.trans_ (by repeat' (first | exact Bl.refl _ | with_reducible assumption | with_reducible refine Bl.drew_ ?_ | with_reducible refine Bl.drewN_ ?_ _ | with_reducible refine Bl.alloc_ ?_ _ | with_reducible refine Bl.trans_ ?_ (by assumption) | with_reducible refine Bl.trans_ ?_ (And.left (by assumption))))))).mono ?_; rintro e w3 ⟨rfl, hb3⟩; rw [HX.out])
        try (go_wp2_with fail)
        refine hK.out _ _ ?_ (fun hHeld => ?_)
        · (exact HSH.out _ (by repeat' (first | exact Bl.refl _ | with_reducible assumption | with_reducible refine Bl.drew_ ?_ | with_reducible refine Bl.drewN_ ?_ _ | with_reducible refine Bl.alloc_ ?_ _ | with_reducible refine Bl.trans_ ?_ (by assumption) | with_reducible refine Bl.trans_ ?_ (And.left (by assumption)))))
        clear hK K
        try simp only [Act.put, List.getElem_toArray, List.getElem_cons_succ, List.getElem_cons_zero, List.setIfInBounds_toArray, List.set_cons_zero, List.set_cons_succ]
        refine wpAnyH_take (i := 11) (v := ?_) rfl (by kernel_rfl) (by kernel_rfl) (by kernel_rfl) (fun _ _ _ h => h) (Or.inl ⟨by kernel_rfl, ?_⟩) (by assumption) ?_
        rotate_left
        · (intro wx hSw; (try dsimp only at hSw); go_simp; try (with_reducible rfl))
        try simp only [Act.put, List.getElem_toArray, List.getElem_cons_succ, List.getElem_cons_zero, List.setIfInBounds_toArray, List.set_cons_zero, List.set_cons_succ]
        refine wpAnyH_done (by kernel_rfl) ?_ _
        go_wp2
        go_ret2
        have hz : stepW L P j = 0 := by rw [HW.out]; exact h0
        have e1 : len3I L P = 0 := by unfold len3I; rw [if_neg (fun h => h j (by have := HK.out; omega) hz)]
        have e2 : len3B N L P = false := by unfold len3B; rw [decide_eq_false (fun h => h.1 j (by have := HK.out; omega) hz)]
        exact ⟨by rw [e1, e2]; rfl, hbw.trans_ (by repeat' (first | exact Bl.refl _ | with_reducible assumption | with_reducible refine Bl.drew_ ?_ | with_reducible refine Bl.drewN_ ?_ _ | with_reducible refine Bl.alloc_ ?_ _ | with_reducible refine Bl.trans_ ?_ (by assumption) | with_reducible refine Bl.trans_ ?_ (And.left (by assumption))))⟩
      · have b0 : (x == 0) = false := by simp [h0]
        have hxs := hsb.out
        have hxw := hwb.out
        have a1 : IntKind.i64.wrap (S + x) = S + x := IntWalk.i64_in _ (by omega)
        clear hxs hxw
        go_wp2_with fail
        refine wp_region_held_drew (S := fun wx => Bl wr wx ∧ wx.cell? ⟨w.heap.size, 0, none⟩ = some (.int .i64 N) ∧ wx.cell? ⟨w.heap.size, 1, none⟩ = some (.slice A n c) ∧ wx.cell? ⟨g2, o2 + j, none⟩ = some (.int .i64 u) ∧ wx.cell? ⟨g2, o2 + (j + 1), none⟩ = some (.int .i64 v)) (by kernel_rfl) ?_ (fun hHeld => ?_)
        · (exact HSH.out _ (by repeat' (first | exact Bl.refl _ | with_reducible assumption | with_reducible refine Bl.drew_ ?_ | with_reducible refine Bl.drewN_ ?_ _ | with_reducible refine Bl.alloc_ ?_ _ | with_reducible refine Bl.trans_ ?_ (by assumption) | with_reducible refine Bl.trans_ ?_ (And.left (by assumption)))))
        refine wpAnyH_take (i := 0) (v := ?_) rfl (by kernel_rfl) (by kernel_rfl) (by kernel_rfl) (fun _ _ _ h => h) (Or.inl ⟨by kernel_rfl, ?_⟩) (by assumption) ?_
        rotate_left
        · (intro wx hSw; (try dsimp only at hSw); go_simp; try (with_reducible rfl))
        try simp only [Act.put, List.getElem_toArray, List.getElem_cons_succ, List.getElem_cons_zero, List.setIfInBounds_toArray, List.set_cons_zero, List.set_cons_succ]
        refine wpAnyH_take (i := 1) (v := ?_) rfl (by kernel_rfl) (by kernel_rfl) (by kernel_rfl) (fun _ _ _ h => h) (Or.inl ⟨by kernel_rfl, ?_⟩) (by assumption) ?_
        rotate_left
        · (intro wx hSw; (try dsimp only at hSw); go_simp; try (with_reducible rfl))
        try simp only [Act.put, List.getElem_toArray, List.getElem_cons_succ, List.getElem_cons_zero, List.setIfInBounds_toArray, List.set_cons_zero, List.set_cons_succ]
        refine wpAnyH_take (i := 2) (v := ?_) rfl (by kernel_rfl) (by kernel_rfl) (by kernel_rfl) (fun _ _ _ h => h) (Or.inl ⟨by kernel_rfl, ?_⟩) (by assumption) ?_
        rotate_left
        · (intro wx hSw; (try dsimp only at hSw); go_simp; try (with_reducible rfl))
        try simp only [Act.put, List.getElem_toArray, List.getElem_cons_succ, List.getElem_cons_zero, List.setIfInBounds_toArray, List.set_cons_zero, List.set_cons_succ]
        refine wpAnyH_take (i := 3) (v := ?_) rfl (by kernel_rfl) (by kernel_rfl) (by kernel_rfl) (fun _ _ _ h => h) (Or.inl ⟨by kernel_rfl, ?_⟩) (by assumption) ?_
        rotate_left
        · (intro wx hSw; (try dsimp only at hSw); go_simp; try (with_reducible rfl))
        try simp only [Act.put, List.getElem_toArray, List.getElem_cons_succ, List.getElem_cons_zero, List.setIfInBounds_toArray, List.set_cons_zero, List.set_cons_succ]
        refine wpAnyH_take (i := 4) (v := ?_) rfl (by kernel_rfl) (by kernel_rfl) (by kernel_rfl) (fun _ _ _ h => h) (Or.inl ⟨by kernel_rfl, ?_⟩) (by assumption) ?_
        rotate_left
        · (intro wx hSw; (try dsimp only at hSw); go_simp; try (with_reducible rfl))
        try simp only [Act.put, List.getElem_toArray, List.getElem_cons_succ, List.getElem_cons_zero, List.setIfInBounds_toArray, List.set_cons_zero, List.set_cons_succ]
        refine wpAnyH_take (i := 5) (v := ?_) rfl (by kernel_rfl) (by kernel_rfl) (by kernel_rfl) (fun _ _ _ h => h) (Or.inl ⟨by kernel_rfl, ?_⟩) (by assumption) ?_
        rotate_left
        · (intro wx hSw; (try dsimp only at hSw); go_simp; try (with_reducible rfl))
        try simp only [Act.put, List.getElem_toArray, List.getElem_cons_succ, List.getElem_cons_zero, List.setIfInBounds_toArray, List.set_cons_zero, List.set_cons_succ]
        refine wpAnyH_take (i := 6) (v := ?_) rfl (by kernel_rfl) (by kernel_rfl) (by kernel_rfl) (fun _ _ _ h => h) (Or.inl ⟨by kernel_rfl, ?_⟩) (by assumption) ?_
        rotate_left
        · (intro wx hSw; (try dsimp only at hSw); go_simp; try (with_reducible rfl))
        try simp only [Act.put, List.getElem_toArray, List.getElem_cons_succ, List.getElem_cons_zero, List.setIfInBounds_toArray, List.set_cons_zero, List.set_cons_succ]
        refine wpAnyH_take (i := 7) (v := ?_) rfl (by kernel_rfl) (by kernel_rfl) (by kernel_rfl) (fun _ _ _ h => h) (Or.inl ⟨by kernel_rfl, ?_⟩) (by assumption) ?_
        rotate_left
        · (intro wx hSw; (try dsimp only at hSw); go_simp; try (with_reducible rfl))
        try simp only [Act.put, List.getElem_toArray, List.getElem_cons_succ, List.getElem_cons_zero, List.setIfInBounds_toArray, List.set_cons_zero, List.set_cons_succ]
        refine wpAnyH_take (i := 8) (v := ?_) rfl (by kernel_rfl) (by kernel_rfl) (by kernel_rfl) (fun _ _ _ h => h) (Or.inl ⟨by kernel_rfl, ?_⟩) (by assumption) ?_
        rotate_left
        · (intro wx hSw; (try dsimp only at hSw); go_simp; try (with_reducible rfl))
        try simp only [Act.put, List.getElem_toArray, List.getElem_cons_succ, List.getElem_cons_zero, List.setIfInBounds_toArray, List.set_cons_zero, List.set_cons_succ]
        refine wpAnyH_take (i := 9) (v := ?_) rfl (by kernel_rfl) (by kernel_rfl) (by kernel_rfl) (fun _ _ _ h => h) (Or.inl ⟨by kernel_rfl, ?_⟩) (by assumption) ?_
        rotate_left
        · (intro wx hSw; (try dsimp only at hSw); go_simp; try (with_reducible rfl))
        try simp only [Act.put, List.getElem_toArray, List.getElem_cons_succ, List.getElem_cons_zero, List.setIfInBounds_toArray, List.set_cons_zero, List.set_cons_succ]
        refine wpAnyH_ready (rs := [10]) (by kernel_rfl) (by simp) ?_
        refine AllReadyH.cons rfl (fun K hK => ?_) AllReadyH.nil
        go_simp
        (go_at_call 102; refine (l1Weight_any N u v A n c L HN.out _ (by omega) (K1.out.bl (hbw.trans_ (by repeat' (first | exact Bl.refl _ | with_reducible assumption | with_reducible refine Bl.drew_ ?_ | with_reducible refine Bl.drewN_ ?_ _ | with_reducible refine Bl.alloc_ ?_ _ | with_reducible refine Bl.trans_ ?_ (by assumption) | with_reducible refine Bl.trans_ ?_ (And.left (by assumption))))))).mono ?_; rintro e w3 ⟨rfl, hb3⟩; rw [HX.out])
        try (go_wp2_with fail)
        refine hK.out _ _ ?_ (fun hHeld => ?_)
        · (exact HSH.out _ (by repeat' (first | exact Bl.refl _ | with_reducible assumption | with_reducible refine Bl.drew_ ?_ | with_reducible refine Bl.drewN_ ?_ _ | with_reducible refine Bl.alloc_ ?_ _ | with_reducible refine Bl.trans_ ?_ (by assumption) | with_reducible refine Bl.trans_ ?_ (And.left (by assumption)))))
        clear hK K
        try simp only [Act.put, List.getElem_toArray, List.getElem_cons_succ, List.getElem_cons_zero, List.setIfInBounds_toArray, List.set_cons_zero, List.set_cons_succ]
        refine wpAnyH_take (i := 11) (v := ?_) rfl (by kernel_rfl) (by kernel_rfl) (by kernel_rfl) (fun _ _ _ h => h) (Or.inl ⟨by kernel_rfl, ?_⟩) (by assumption) ?_
        rotate_left
        · (intro wx hSw; (try dsimp only at hSw); go_simp; try (with_reducible rfl))
        try simp only [Act.put, List.getElem_toArray, List.getElem_cons_succ, List.getElem_cons_zero, List.setIfInBounds_toArray, List.set_cons_zero, List.set_cons_succ]
        refine wpAnyH_done (by kernel_rfl) ?_ _
        go_wp2
        go_roundw
        case rel =>
          refine ⟨j + 1, .inl (by omega), by go_num, by rw [HSS.out, HW.out], hbl.trans_ (by repeat' (first | exact Bl.refl _ | with_reducible assumption | with_reducible refine Bl.drew_ ?_ | with_reducible refine Bl.drewN_ ?_ _ | with_reducible refine Bl.alloc_ ?_ _ | with_reducible refine Bl.trans_ ?_ (by assumption) | with_reducible refine Bl.trans_ ?_ (And.left (by assumption)))), Lib.hid fun t ht => ?_⟩
          rcases Nat.lt_or_ge t j with h | h
          · exact NO.out t h
          · obtain rfl : t = j := by omega
            rw [HW.out]
            exact h0
        case measure => simp [intOf]; omega
    · by_cases h0 : 0 < k
      · have hjk : j + 1 = k := by omega
        have hkl : 0 < P.length := by have := HK.out; omega
        obtain ⟨g2, o2, rfl, hg2, hc2⟩ := K2.out.cell (by omega)
        have p1 := hc2 0 hkl
        clear hc2
        have HG := Lib.hid (getD_at hkl)
        generalize P[0] = u at p1 HG
        have HSH := Lib.hid (show ∀ wx, Bl wr wx → Bl wr wx ∧ wx.cell? ⟨w.heap.size, 0, none⟩ = some (.int .i64 N) ∧ wx.cell? ⟨w.heap.size, 1, none⟩ = some (.slice A n c) ∧ wx.cell? ⟨g2, o2, none⟩ = some (.int .i64 u) from fun wx hb => by
          obtain ⟨b0, b1⟩ := box2 (hbl.trans_ hb)
          have hc := (bcell (hbw.trans_ hb)).1
          exact ⟨hb, b0, b1, (hc _ _ hg2).trans p1⟩)
        clear p1
        have i1 : (0 : Int) < (k : Int) := by omega
        go_wp2_with fail
        refine wp_region_held_drew (S := fun wx => Bl wr wx ∧ wx.cell? ⟨w.heap.size, 0, none⟩ = some (.int .i64 N) ∧ wx.cell? ⟨w.heap.size, 1, none⟩ = some (.slice A n c) ∧ wx.cell? ⟨g2, o2, none⟩ = some (.int .i64 u)) (by kernel_rfl) ?_ (fun hHeld => ?_)
        · (exact HSH.out _ (by repeat' (first | exact Bl.refl _ | with_reducible assumption | with_reducible refine Bl.drew_ ?_ | with_reducible refine Bl.drewN_ ?_ _ | with_reducible refine Bl.alloc_ ?_ _ | with_reducible refine Bl.trans_ ?_ (by assumption) | with_reducible refine Bl.trans_ ?_ (And.left (by assumption)))))
        refine wpAnyH_take (i := 0) (v := ?_) rfl (by kernel_rfl) (by kernel_rfl) (by kernel_rfl) (fun _ _ _ h => h) (Or.inl ⟨by kernel_rfl, ?_⟩) (by assumption) ?_
        rotate_left
        · (intro wx hSw; (try dsimp only at hSw); go_simp; try (with_reducible rfl))
        try simp only [Act.put, List.getElem_toArray, List.getElem_cons_succ, List.getElem_cons_zero, List.setIfInBounds_toArray, List.set_cons_zero, List.set_cons_succ]
        refine wpAnyH_take (i := 1) (v := ?_) rfl (by kernel_rfl) (by kernel_rfl) (by kernel_rfl) (fun _ _ _ h => h) (Or.inl ⟨by kernel_rfl, ?_⟩) (by assumption) ?_
        rotate_left
        · (intro wx hSw; (try dsimp only at hSw); go_simp; try (with_reducible rfl))
        try simp only [Act.put, List.getElem_toArray, List.getElem_cons_succ, List.getElem_cons_zero, List.setIfInBounds_toArray, List.set_cons_zero, List.set_cons_succ]
        refine wpAnyH_ready (rs := [2]) (by kernel_rfl) (by simp) ?_
        refine AllReadyH.cons rfl (fun K hK => ?_) AllReadyH.nil
        go_simp
        refine hK.out _ _ ?_ (fun hHeld => ?_)
        · (exact HSH.out _ (by repeat' (first | exact Bl.refl _ | with_reducible assumption | with_reducible refine Bl.drew_ ?_ | with_reducible refine Bl.drewN_ ?_ _ | with_reducible refine Bl.alloc_ ?_ _ | with_reducible refine Bl.trans_ ?_ (by assumption) | with_reducible refine Bl.trans_ ?_ (And.left (by assumption)))))
        clear hK K
        try simp only [Act.put, List.getElem_toArray, List.getElem_cons_succ, List.getElem_cons_zero, List.setIfInBounds_toArray, List.set_cons_zero, List.set_cons_succ]
        refine wpAnyH_take (i := 3) (v := ?_) rfl (by kernel_rfl) (by kernel_rfl) (by kernel_rfl) (fun _ _ _ h => h) (Or.inl ⟨by kernel_rfl, ?_⟩) (by assumption) ?_
        rotate_left
        · (intro wx hSw; (try dsimp only at hSw); go_simp; try (with_reducible rfl))
        try simp only [Act.put, List.getElem_toArray, List.getElem_cons_succ, List.getElem_cons_zero, List.setIfInBounds_toArray, List.set_cons_zero, List.set_cons_succ]
        refine wpAnyH_take (i := 4) (v := ?_) rfl (by kernel_rfl) (by kernel_rfl) (by kernel_rfl) (fun _ _ _ h => h) (Or.inl ⟨by kernel_rfl, ?_⟩) (by assumption) ?_
        rotate_left
        · (intro wx hSw; (try dsimp only at hSw); go_simp; try (with_reducible rfl))
        try simp only [Act.put, List.getElem_toArray, List.getElem_cons_succ, List.getElem_cons_zero, List.setIfInBounds_toArray, List.set_cons_zero, List.set_cons_succ]
        refine wpAnyH_take (i := 5) (v := ?_) rfl (by kernel_rfl) (by kernel_rfl) (by kernel_rfl) (fun _ _ _ h => h) (Or.inl ⟨by kernel_rfl, ?_⟩) (by assumption) ?_
        rotate_left
        · (intro wx hSw; (try dsimp only at hSw); go_simp; try (with_reducible rfl))
        try simp only [Act.put, List.getElem_toArray, List.getElem_cons_succ, List.getElem_cons_zero, List.setIfInBounds_toArray, List.set_cons_zero, List.set_cons_succ]
        refine wpAnyH_take (i := 6) (v := ?_) rfl (by kernel_rfl) (by kernel_rfl) (by kernel_rfl) (fun _ _ _ h => h) (Or.inl ⟨by kernel_rfl, ?_⟩) (by assumption) ?_
        rotate_left
        · (intro wx hSw; (try dsimp only at hSw); go_simp; try (with_reducible rfl))
        try simp only [Act.put, List.getElem_toArray, List.getElem_cons_succ, List.getElem_cons_zero, List.setIfInBounds_toArray, List.set_cons_zero, List.set_cons_succ]
        refine wpAnyH_take (i := 7) (v := ?_) rfl (by kernel_rfl) (by kernel_rfl) (by kernel_rfl) (fun _ _ _ h => h) (Or.inl ⟨by kernel_rfl, ?_⟩) (by assumption) ?_
        rotate_left
        · (intro wx hSw; (try dsimp only at hSw); go_simp; try (with_reducible rfl))
        try simp only [Act.put, List.getElem_toArray, List.getElem_cons_succ, List.getElem_cons_zero, List.setIfInBounds_toArray, List.set_cons_zero, List.set_cons_succ]
        refine wpAnyH_take (i := 8) (v := ?_) rfl (by kernel_rfl) (by kernel_rfl) (by kernel_rfl) (fun _ _ _ h => h) (Or.inl ⟨by kernel_rfl, ?_⟩) (by assumption) ?_
        rotate_left
        · (intro wx hSw; (try dsimp only at hSw); go_simp; try (with_reducible rfl))
        try simp only [Act.put, List.getElem_toArray, List.getElem_cons_succ, List.getElem_cons_zero, List.setIfInBounds_toArray, List.set_cons_zero, List.set_cons_succ]
        refine wpAnyH_ready (rs := [9]) (by kernel_rfl) (by simp) ?_
        refine AllReadyH.cons rfl (fun K hK => ?_) AllReadyH.nil
        go_simp
        (go_at_call 76; refine (l1Node_any N u _ _).mono ?_; rintro e w3 ⟨rfl, hb3⟩; rw [HNB.out])
        try (go_wp2_with fail)
        refine hK.out _ _ ?_ (fun hHeld => ?_)
        · (exact HSH.out _ (by repeat' (first | exact Bl.refl _ | with_reducible assumption | with_reducible refine Bl.drew_ ?_ | with_reducible refine Bl.drewN_ ?_ _ | with_reducible refine Bl.alloc_ ?_ _ | with_reducible refine Bl.trans_ ?_ (by assumption) | with_reducible refine Bl.trans_ ?_ (And.left (by assumption)))))
        clear hK K
        try simp only [Act.put, List.getElem_toArray, List.getElem_cons_succ, List.getElem_cons_zero, List.setIfInBounds_toArray, List.set_cons_zero, List.set_cons_succ]
        refine wpAnyH_take (i := 10) (v := ?_) rfl (by kernel_rfl) (by kernel_rfl) (by kernel_rfl) (fun _ _ _ h => h) (Or.inl ⟨by kernel_rfl, ?_⟩) (by assumption) ?_
        rotate_left
        · (intro wx hSw; (try dsimp only at hSw); go_simp; try (with_reducible rfl))
        try simp only [Act.put, List.getElem_toArray, List.getElem_cons_succ, List.getElem_cons_zero, List.setIfInBounds_toArray, List.set_cons_zero, List.set_cons_succ]
        refine wpAnyH_take (i := 11) (v := ?_) rfl (by kernel_rfl) (by kernel_rfl) (by kernel_rfl) (fun _ _ _ h => h) (Or.inl ⟨by kernel_rfl, ?_⟩) (by assumption) ?_
        rotate_left
        · (intro wx hSw; (try dsimp only at hSw); go_simp; try (with_reducible rfl))
        try simp only [Act.put, List.getElem_toArray, List.getElem_cons_succ, List.getElem_cons_zero, List.setIfInBounds_toArray, List.set_cons_zero, List.set_cons_succ]
        refine wpAnyH_take (i := 12) (v := ?_) rfl (by kernel_rfl) (by kernel_rfl) (by kernel_rfl) (fun _ _ _ h => h) (Or.inl ⟨by kernel_rfl, ?_⟩) (by assumption) ?_
        rotate_left
        · (intro wx hSw; (try dsimp only at hSw); go_simp; try (with_reducible rfl))
        try simp only [Act.put, List.getElem_toArray, List.getElem_cons_succ, List.getElem_cons_zero, List.setIfInBounds_toArray, List.set_cons_zero, List.set_cons_succ]
        refine wpAnyH_done (by kernel_rfl) ?_ _
        go_wp2
        go_ret2
        have hall : ∀ t, t < P.length - 1 → stepW L P t ≠ 0 := fun t ht => NO.out t (by have := HK.out; omega)
        have e1 : len3I L P = S := by unfold len3I; rw [if_pos hall, show P.length - 1 = j from by have := HK.out; omega, HS.out]
        have e2 : len3B N L P = (decide (0 ≤ u) && decide (u < N)) := by
          unfold len3B
          rw [HG.out, Bool.eq_iff_iff]
          simp only [decide_eq_true_eq, Bool.and_eq_true]
          exact ⟨fun h => h.2.2, fun h => ⟨hall, hkl, h⟩⟩
        exact ⟨by rw [e1, e2]; rfl, hbw.trans_ (by repeat' (first | exact Bl.refl _ | with_reducible assumption | with_reducible refine Bl.drew_ ?_ | with_reducible refine Bl.drewN_ ?_ _ | with_reducible refine Bl.alloc_ ?_ _ | with_reducible refine Bl.trans_ ?_ (by assumption) | with_reducible refine Bl.trans_ ?_ (And.left (by assumption))))⟩
      · obtain rfl : k = 0 := by omega
        obtain rfl : j = 0 := by omega
        have hz : S = 0 := by rw [← HS.out]; rfl
        have HZ := Lib.hid hz
        clear hz
        have i1 : decide ((0 : Int) < ((0 : Nat) : Int)) = false := by simp
        go_wp2_with fail
        refine wp_region_held_drew (S := fun wx => Bl wr wx) (by kernel_rfl) ?_ (fun hHeld => ?_)
        · (exact (by repeat' (first | exact Bl.refl _ | with_reducible assumption | with_reducible refine Bl.drew_ ?_ | with_reducible refine Bl.drewN_ ?_ _ | with_reducible refine Bl.alloc_ ?_ _ | with_reducible refine Bl.trans_ ?_ (by assumption) | with_reducible refine Bl.trans_ ?_ (And.left (by assumption)))))
        refine wpAnyH_take (i := 0) (v := ?_) rfl (by kernel_rfl) (by kernel_rfl) (by kernel_rfl) (fun _ _ _ h => h) (Or.inl ⟨by kernel_rfl, ?_⟩) (by assumption) ?_
        rotate_left
        · (intro wx hSw; (try dsimp only at hSw); go_simp; try (with_reducible rfl))
        try simp only [Act.put, List.getElem_toArray, List.getElem_cons_succ, List.getElem_cons_zero, List.setIfInBounds_toArray, List.set_cons_zero, List.set_cons_succ]
        refine wpAnyH_take (i := 1) (v := ?_) rfl (by kernel_rfl) (by kernel_rfl) (by kernel_rfl) (fun _ _ _ h => h) (Or.inl ⟨by kernel_rfl, ?_⟩) (by assumption) ?_
        rotate_left
        · (intro wx hSw; (try dsimp only at hSw); go_simp; try (with_reducible rfl))
        try simp only [Act.put, List.getElem_toArray, List.getElem_cons_succ, List.getElem_cons_zero, List.setIfInBounds_toArray, List.set_cons_zero, List.set_cons_succ]
        refine wpAnyH_ready (rs := [2]) (by kernel_rfl) (by simp) ?_
        refine AllReadyH.cons rfl (fun K hK => ?_) AllReadyH.nil
        go_simp
        refine hK.out _ _ ?_ (fun hHeld => ?_)
        · (exact (by repeat' (first | exact Bl.refl _ | with_reducible assumption | with_reducible refine Bl.drew_ ?_ | with_reducible refine Bl.drewN_ ?_ _ | with_reducible refine Bl.alloc_ ?_ _ | with_reducible refine Bl.trans_ ?_ (by assumption) | with_reducible refine Bl.trans_ ?_ (And.left (by assumption)))))
        clear hK K
        try simp only [Act.put, List.getElem_toArray, List.getElem_cons_succ, List.getElem_cons_zero, List.setIfInBounds_toArray, List.set_cons_zero, List.set_cons_succ]
        refine wpAnyH_take (i := 3) (v := ?_) rfl (by kernel_rfl) (by kernel_rfl) (by kernel_rfl) (fun _ _ _ h => h) (Or.inl ⟨by kernel_rfl, ?_⟩) (by assumption) ?_
        rotate_left
        · (intro wx hSw; (try dsimp only at hSw); go_simp; try (with_reducible rfl))
        try simp only [Act.put, List.getElem_toArray, List.getElem_cons_succ, List.getElem_cons_zero, List.setIfInBounds_toArray, List.set_cons_zero, List.set_cons_succ]
        refine wpAnyH_take (i := 4) (v := ?_) rfl (by kernel_rfl) (by kernel_rfl) (by kernel_rfl) (fun _ _ _ h => h) (Or.inl ⟨by kernel_rfl, ?_⟩) (by assumption) ?_
        rotate_left
        · (intro wx hSw; (try dsimp only at hSw); go_simp; try (with_reducible rfl))
        try simp only [Act.put, List.getElem_toArray, List.getElem_cons_succ, List.getElem_cons_zero, List.setIfInBounds_toArray, List.set_cons_zero, List.set_cons_succ]
        refine wpAnyH_take (i := 5) (v := undef) rfl (by kernel_rfl) (by kernel_rfl) (by kernel_rfl) (fun _ _ _ h => h) (Or.inr ⟨by kernel_rfl, rfl⟩) (by assumption) ?_
        try simp only [Act.put, List.getElem_toArray, List.getElem_cons_succ, List.getElem_cons_zero, List.setIfInBounds_toArray, List.set_cons_zero, List.set_cons_succ]
        refine wpAnyH_take (i := 6) (v := undef) rfl (by kernel_rfl) (by kernel_rfl) (by kernel_rfl) (fun _ _ _ h => h) (Or.inr ⟨by kernel_rfl, rfl⟩) (by assumption) ?_
        try simp only [Act.put, List.getElem_toArray, List.getElem_cons_succ, List.getElem_cons_zero, List.setIfInBounds_toArray, List.set_cons_zero, List.set_cons_succ]
        refine wpAnyH_take (i := 7) (v := undef) rfl (by kernel_rfl) (by kernel_rfl) (by kernel_rfl) (fun _ _ _ h => h) (Or.inr ⟨by kernel_rfl, rfl⟩) (by assumption) ?_
        try simp only [Act.put, List.getElem_toArray, List.getElem_cons_succ, List.getElem_cons_zero, List.setIfInBounds_toArray, List.set_cons_zero, List.set_cons_succ]
        refine wpAnyH_take (i := 8) (v := undef) rfl (by kernel_rfl) (by kernel_rfl) (by kernel_rfl) (fun _ _ _ h => h) (Or.inr ⟨by kernel_rfl, rfl⟩) (by assumption) ?_
        try simp only [Act.put, List.getElem_toArray, List.getElem_cons_succ, List.getElem_cons_zero, List.setIfInBounds_toArray, List.set_cons_zero, List.set_cons_succ]
        refine wpAnyH_ready (rs := [9]) (by kernel_rfl) (by simp) ?_
        refine AllReadyH.cons rfl (fun K hK => ?_) AllReadyH.nil
        go_simp
        refine hK.out _ _ ?_ (fun hHeld => ?_)
        · (exact (by repeat' (first | exact Bl.refl _ | with_reducible assumption | with_reducible refine Bl.drew_ ?_ | with_reducible refine Bl.drewN_ ?_ _ | with_reducible refine Bl.alloc_ ?_ _ | with_reducible refine Bl.trans_ ?_ (by assumption) | with_reducible refine Bl.trans_ ?_ (And.left (by assumption)))))
        clear hK K
        try simp only [Act.put, List.getElem_toArray, List.getElem_cons_succ, List.getElem_cons_zero, List.setIfInBounds_toArray, List.set_cons_zero, List.set_cons_succ]
        refine wpAnyH_take (i := 10) (v := ?_) rfl (by kernel_rfl) (by kernel_rfl) (by kernel_rfl) (fun _ _ _ h => h) (Or.inl ⟨by kernel_rfl, ?_⟩) (by assumption) ?_
        rotate_left
        · (intro wx hSw; (try dsimp only at hSw); go_simp; try (with_reducible rfl))
        try simp only [Act.put, List.getElem_toArray, List.getElem_cons_succ, List.getElem_cons_zero, List.setIfInBounds_toArray, List.set_cons_zero, List.set_cons_succ]
        refine wpAnyH_take (i := 11) (v := ?_) rfl (by kernel_rfl) (by kernel_rfl) (by kernel_rfl) (fun _ _ _ h => h) (Or.inl ⟨by kernel_rfl, ?_⟩) (by assumption) ?_
        rotate_left
        · (intro wx hSw; (try dsimp only at hSw); go_simp; try (with_reducible rfl))
        try simp only [Act.put, List.getElem_toArray, List.getElem_cons_succ, List.getElem_cons_zero, List.setIfInBounds_toArray, List.set_cons_zero, List.set_cons_succ]
        refine wpAnyH_take (i := 12) (v := ?_) rfl (by kernel_rfl) (by kernel_rfl) (by kernel_rfl) (fun _ _ _ h => h) (Or.inl ⟨by kernel_rfl, ?_⟩) (by assumption) ?_
        rotate_left
        · (intro wx hSw; (try dsimp only at hSw); go_simp; try (with_reducible rfl))
        try simp only [Act.put, List.getElem_toArray, List.getElem_cons_succ, List.getElem_cons_zero, List.setIfInBounds_toArray, List.set_cons_zero, List.set_cons_succ]
        refine wpAnyH_done (by kernel_rfl) ?_ _
        go_wp2
        go_ret2
        have hl := HK.out
        have e1 : len3I L P = S := by unfold len3I; rw [if_pos (fun t ht => absurd ht (by omega)), show P.length - 1 = 0 from by omega, HZ.out]; rfl
        have e2 : len3B N L P = false := by unfold len3B; rw [decide_eq_false (fun h => by have := h.2.1; omega)]
        exact ⟨by rw [e1, e2]; rfl, hbw.trans_ (by repeat' (first | exact Bl.refl _ | with_reducible assumption | with_reducible refine Bl.drew_ ?_ | with_reducible refine Bl.drewN_ ?_ _ | with_reducible refine Bl.alloc_ ?_ _ | with_reducible refine Bl.trans_ ?_ (by assumption) | with_reducible refine Bl.trans_ ?_ (And.left (by assumption))))⟩

end Go.Proofs.Ytffjpfanmnkmgaa

set_option linter.unusedSimpArgs false
set_option linter.unusedVariables false
namespace Go.Proofs.Ytffjpfanmnkmgaa
open Go.RowKit

/-- A piece of a list: from place i to place k. -/
def pieceL (P : List Int) (i k : Nat) : List Int := (P.drop i).take (k + 1 - i)
theorem pieceL_len {P : List Int} {i k : Nat} (hi : i ≤ k) (hk : k < P.length) : (pieceL P i k).length = k + 1 - i := by
  unfold pieceL
  rw [List.length_take, List.length_drop]
  omega
theorem pieceL_at {P : List Int} {i k j : Nat} (hi : i ≤ k) (hk : k < P.length) (hj : j < k + 1 - i) : (pieceL P i k).getD j 0 = P[i + j]'(by omega) := by
  unfold pieceL
  rw [List.getD_eq_getElem?_getD, List.getElem?_take, if_pos hj, List.getElem?_drop, List.getElem?_eq_getElem (by omega)]
  rfl
theorem Way.short {N t v : Int} {L : List Arc3} {D P : List Int} (h : Way N L D t v P) (hN : N ≤ 24) (ht : 0 ≤ t ∧ t < N) (hz : 0 ≤ dAt D t) : P.length ≤ 24 := by
  have hn := h.nodes ht hz
  have h1 : (P.map Int.toNat).Nodup := by
    rw [List.Nodup, List.pairwise_map, List.pairwise_iff_getElem]
    intro i j hi hj hij
    have := h.nodup i j hij hj
    have a := (hn _ (List.getElem_mem hi)).1
    have b := (hn _ (List.getElem_mem hj)).1
    omega
  have h2 := nodup_len 24 _ h1 fun n hm => by
    obtain ⟨x, hx, rfl⟩ := List.mem_map.1 hm
    have := (hn x hx).1
    omega
  simpa using h2
section
variable {N s t : Int} {L : List Arc3} {E : List Int} {P : List Int}
/-- Along the path the weights are what falls. -/
theorem Way.weight (ho : okB N L = true) {v : Int} (h : Way N L E t v P) (i : Nat) (hi : i + 1 < P.length) : wtL (P[i]'(by omega)) P[i + 1] L = dAt E (P[i]'(by omega)) - dAt E P[i + 1] ∧ 0 < wtL (P[i]'(by omega)) P[i + 1] L := by
  obtain ⟨a, -, haL, h1, h2, h3, h4⟩ := h.step i hi
  have hw := wtL_mem (okB_elim ho).2.2.2.2 haL
  rw [h1, h2] at hw
  rw [hw]
  omega
theorem Way.sum (ho : okB N L = true) {v : Int} (h : Way N L E t v P) (i k : Nat) (hi : i ≤ k) (hk : k < P.length) : ∀ m : Nat, ∀ (hm : m ≤ k - i), sumW L (pieceL P i k) m = dAt E (P[i]'(by omega)) - dAt E (P[i + m]'(by omega))
  | 0, _ => by simp [sumW]
  | m + 1, hm => by
    have ih := h.sum ho i k hi hk m (by omega)
    have e : stepW L (pieceL P i k) m = wtL (P[i + m]'(by omega)) (P[i + m + 1]'(by omega)) L := by
      unfold stepW
      rw [pieceL_at hi hk (by omega), pieceL_at hi hk (by omega)]
      rfl
    have hw := (h.weight ho (i + m) (by omega)).1
    show sumW L (pieceL P i k) m + stepW L (pieceL P i k) m = _
    rw [ih, e, hw]
    have e2 : P[i + m + 1]'(by omega) = P[i + (m + 1)]'(by omega) := rfl
    rw [e2]
    omega
/-- From a node of the path to a later one it is as far as falls between them. -/
theorem Way.between (ho : okB N L = true) (ht : 0 ≤ t ∧ t < N) (hE : IsDist N (revL L) t E) {v : Int} (h : Way N L E t v P) (i k : Nat) (hi : i ≤ k) (hk : k < P.length) :
    distOfI N L (P[i]'(by omega)) P[k] = dAt E (P[i]'(by omega)) - dAt E P[k] := by
  have hz : 0 ≤ dAt E t := by rw [hE.start]; omega
  obtain ⟨hx, hx1, -⟩ := h.nodes ht hz _ (List.getElem_mem (show i < P.length by omega))
  obtain ⟨hy, hy1, -⟩ := h.nodes ht hz _ (List.getElem_mem hk)
  have hD := distL_is (s := P[i]'(by omega)) (arcsIn_of_ok ho) (okB_elim ho).2.1 hx.1 hx.2
  have up : ∀ m : Nat, ∀ (hm : i + m < P.length), 0 ≤ dAt (distL N L (P[i]'(by omega))) P[i + m] ∧ dAt (distL N L (P[i]'(by omega))) P[i + m] ≤ dAt E (P[i]'(by omega)) - dAt E P[i + m] := by
    intro m
    induction m with
    | zero =>
      intro hm
      have := hD.start
      simp only [Nat.add_zero]
      omega
    | succ m ih =>
      intro hm
      obtain ⟨h1, h2⟩ := ih (by omega)
      obtain ⟨a, -, haL, e1, e2, e3, e4⟩ := h.step (i + m) hm
      have := hD.arc a haL (by rw [e1]; exact h1)
      rw [e1, e2] at this
      have e5 : P[i + m + 1]'(by omega) = P[i + (m + 1)]'(by omega) := rfl
      rw [e5] at this e3
      omega
  obtain ⟨u1, u2⟩ := up (k - i) (by omega)
  have ek : P[i + (k - i)]'(by omega) = P[k] := by congr 1; omega
  rw [ek] at u1 u2
  have low := IsDist.tri ho hD hE _ P[k] hy.1 hy.2 rfl hy1 u1
  have tur := IsDist.turned ho hx ht hD hE
  rw [distOfI_of ho hx hy]
  omega
end

/-- A piece of the first path is a path, as long as it is far. -/
theorem piece_path {N s t : Int} {L : List Arc3} (hl : 0 < (pathL N L s t).length) (i k : Nat) (hi : i ≤ k) (hk : k < (pathL N L s t).length) :
    pathB N L (pieceL (pathL N L s t) i k) = true ∧ lenI N L (pieceL (pathL N L s t) i k) = distOfI N L ((pathL N L s t)[i]'(by omega)) (pathL N L s t)[k] := by
  have hcc : has2 N L s t = true ∧ 0 ≤ dAt (distL N (revL L) t) s := by
    unfold pathL at hl
    split at hl
    · rename_i hc
      rw [Bool.and_eq_true] at hc
      exact ⟨hc.1, by simpa using hc.2⟩
    · simp at hl
  obtain ⟨hh, hd⟩ := hcc
  obtain ⟨ho, hs, ht⟩ := has2_of hh
  have hE := distL_is (s := t) (arcsIn_of_ok (revL_ok ho)) (okB_elim ho).2.1 ht.1 ht.2
  have hw := way_path hh hd
  have hz : 0 ≤ dAt (distL N (revL L) t) t := by rw [hE.start]; omega
  have hsh := hw.short (okB_elim ho).2.1 ht hz
  have hplen := pieceL_len hi hk
  have hb : pathB N L (pieceL (pathL N L s t) i k) = true := by
    refine pathB_yes ho (by omega) (by omega) ?_ (fun j hj => ?_)
    · rw [pieceL_at hi hk (by omega)]
      exact (hw.nodes ht hz _ (List.getElem_mem _)).1
    · rw [hplen] at hj
      have := (hw.weight ho (i + j) (by omega)).2
      unfold stepW
      rw [pieceL_at hi hk (by omega), pieceL_at hi hk (by omega)]
      have e : (pathL N L s t)[i + (j + 1)]'(by omega) = (pathL N L s t)[i + j + 1]'(by omega) := rfl
      rw [e]
      omega
  refine ⟨hb, ?_⟩
  rw [lenI_yes hb, hplen, hw.sum ho i k hi hk (k + 1 - i - 1) (by omega), hw.between ho ht hE i k hi hk]
  congr 2
  congr 1
  omega

end Go.Proofs.Ytffjpfanmnkmgaa

set_option linter.unusedSimpArgs false
set_option linter.unusedVariables false
namespace Go.Proofs.Ytffjpfanmnkmgaa
open Go.RowKit

/-- Is it another distance without the arc? -/
def vitB (N : Int) (L : List Arc3) (s t : Int) (u v : Int) : Bool := detI N L s t u v != distOfI N L s t
/-- The arcs without each of which alone it is another distance. -/
def vitL (N : Int) (L : List Arc3) (s t : Int) : List Arc3 := if has2 N L s t = true ∧ 0 ≤ distOfI N L s t then L.filter (fun a => vitB N L s t a.1 a.2.1) else []
/-- Those of the first k steps of a path. -/
def vitK (N : Int) (L : List Arc3) (s t : Int) (P : List Int) (k : Nat) : List Arc3 :=
  ((List.range k).filter fun i => vitB N L s t (P.getD i 0) (P.getD (i + 1) 0)).map fun i => (P.getD i 0, P.getD (i + 1) 0, wtL (P.getD i 0) (P.getD (i + 1) 0) L)
theorem vitK_zero (N : Int) (L : List Arc3) (s t : Int) (P : List Int) : vitK N L s t P 0 = [] := rfl
theorem vitK_yes {N : Int} {L : List Arc3} {s t : Int} {P : List Int} {k : Nat} (h : vitB N L s t (P.getD k 0) (P.getD (k + 1) 0) = true) : vitK N L s t P (k + 1) = vitK N L s t P k ++ [(P.getD k 0, P.getD (k + 1) 0, wtL (P.getD k 0) (P.getD (k + 1) 0) L)] := by
  unfold vitK
  rw [List.range_succ, List.filter_append, List.map_append, List.filter_cons, if_pos h]
  rfl
theorem vitK_no {N : Int} {L : List Arc3} {s t : Int} {P : List Int} {k : Nat} (h : vitB N L s t (P.getD k 0) (P.getD (k + 1) 0) = false) : vitK N L s t P (k + 1) = vitK N L s t P k := by
  unfold vitK
  rw [List.range_succ, List.filter_append, List.map_append, List.filter_cons, if_neg (by rw [h]; simp)]
  simp
theorem vitK_len (N : Int) (L : List Arc3) (s t : Int) (P : List Int) (k : Nat) : (vitK N L s t P k).length ≤ k := by
  unfold vitK
  rw [List.length_map]
  exact Nat.le_trans (List.length_filter_le _ _) (by simp)
theorem vitL_len {N : Int} {L : List Arc3} {s t : Int} : (vitL N L s t).length ≤ 150 := by
  unfold vitL
  split
  · rename_i h
    have := (okB_elim (has2_of h.1).1).2.2.1
    exact Nat.le_trans (List.length_filter_le _ _) this
  · simp

/-- With fewer arcs nothing is nearer. -/
theorem rest_far {N s u v t : Int} {L : List Arc3} (ho : okB N L = true) (hs : 0 ≤ s ∧ s < N) (ht : 0 ≤ t ∧ t < N) (h : 0 ≤ dAt (distL N (restL u v L) s) t) : 0 ≤ dAt (distL N L s) t ∧ dAt (distL N L s) t ≤ dAt (distL N (restL u v L) s) t :=
  IsDist.lighter (arcsIn_of_ok (restL_ok ho)) (fun a ha => ⟨a, (List.mem_filter.1 ha).1, rfl, rfl, Int.le_refl _⟩) (distL_is (arcsIn_of_ok ho) (okB_elim ho).2.1 hs.1 hs.2) (distL_is (arcsIn_of_ok (restL_ok ho)) (okB_elim ho).2.1 hs.1 hs.2) _ t ht.1 ht.2 rfl h
theorem det_far {N s u v t : Int} {L : List Arc3} (hh : has2 N L s t = true) (h : 0 ≤ detI N L s t u v) : 0 ≤ distOfI N L s t ∧ distOfI N L s t ≤ detI N L s t u v := by
  obtain ⟨ho, hs, ht⟩ := has2_of hh
  rw [distOfI_of ho hs ht]
  unfold detI at h ⊢
  rw [if_pos hh] at h ⊢
  exact rest_far ho hs ht h
theorem detI_low {N s u v t : Int} {L : List Arc3} : -1 ≤ detI N L s t u v := by
  unfold detI
  split
  · rename_i hh
    obtain ⟨ho, hs, ht⟩ := has2_of hh
    exact (distL_is (arcsIn_of_ok (restL_ok ho)) (okB_elim ho).2.1 hs.1 hs.2).low t
  · omega
/-- Where no step of the path goes by an arc it is as far without it. -/
theorem det_same {N s u v t : Int} {L : List Arc3} (hh : has2 N L s t = true) (hd : 0 ≤ distOfI N L s t) (hno : ∀ i (hi : i + 1 < (pathL N L s t).length), ¬ ((pathL N L s t)[i]'(by omega) = u ∧ (pathL N L s t)[i + 1] = v)) : detI N L s t u v = distOfI N L s t := by
  obtain ⟨ho, hs, ht⟩ := has2_of hh
  have hN := (okB_elim ho).2.1
  have hd' := hd
  rw [distOfI_of ho hs ht, ← distL_of_turned ho hs ht] at hd'
  have hw := way_path hh hd'
  have hE : IsDist N (revL L) t (distL N (revL L) t) := distL_is (arcsIn_of_ok (revL_ok ho)) hN ht.1 ht.2
  have hD : IsDist N (restL u v L) s (distL N (restL u v L) s) := distL_is (arcsIn_of_ok (restL_ok ho)) hN hs.1 hs.2
  have hp := hw.pos
  have key : ∀ i (hi : i < (pathL N L s t).length), 0 ≤ dAt (distL N (restL u v L) s) (pathL N L s t)[i] ∧ dAt (distL N (restL u v L) s) (pathL N L s t)[i] ≤ dAt (distL N (revL L) t) s - dAt (distL N (revL L) t) (pathL N L s t)[i] := by
    intro i
    induction i with
    | zero =>
      intro hi
      rw [hw.head hi, hD.start]
      omega
    | succ i ih =>
      intro hi
      obtain ⟨x, y⟩ := ih (by omega)
      obtain ⟨a, -, ha, e1, e2, e3, e4⟩ := hw.step i hi
      have hm : a ∈ restL u v L := by
        unfold restL
        rw [List.mem_filter]
        refine ⟨ha, ?_⟩
        have := hno i hi
        rw [← e1, ← e2] at this
        rw [Bool.not_eq_true', Bool.eq_false_iff]
        intro he
        exact this (isEnds_iff.1 he)
      have := hD.arc a hm (by rw [e1]; exact x)
      rw [e1, e2] at this
      omega
  have hl := key ((pathL N L s t).length - 1) (by omega)
  rw [hw.last (by omega), hE.start] at hl
  have hf := rest_far (u := u) (v := v) ho hs ht hl.1
  rw [distOfI_of ho hs ht]
  unfold detI
  rw [if_pos hh]
  rw [distL_of_turned ho hs ht] at hl
  omega
/-- An arc without which it is another distance is a step of the first path. -/
theorem vital_on {N s u v t : Int} {L : List Arc3} (hh : has2 N L s t = true) (hd : 0 ≤ distOfI N L s t) (h : vitB N L s t u v = true) : ∃ i, ∃ (hi : i + 1 < (pathL N L s t).length), (pathL N L s t)[i]'(by omega) = u ∧ (pathL N L s t)[i + 1] = v := by
  by_cases hc : ∃ i, ∃ (hi : i + 1 < (pathL N L s t).length), (pathL N L s t)[i]'(by omega) = u ∧ (pathL N L s t)[i + 1] = v
  · exact hc
  · exfalso
    have := det_same (u := u) (v := v) hh hd (fun i hi e => hc ⟨i, hi, e⟩)
    unfold vitB at h
    rw [this] at h
    simp at h
theorem vital_perm {N s t : Int} {L : List Arc3} (hh : has2 N L s t = true) (hd : 0 ≤ distOfI N L s t) : (vitK N L s t (pathL N L s t) ((pathL N L s t).length - 1)).Perm (vitL N L s t) := by
  obtain ⟨ho, hs, ht⟩ := has2_of hh
  have hsr := (okB_elim ho).2.2.2.2
  have hd' := hd
  rw [distOfI_of ho hs ht, ← distL_of_turned ho hs ht] at hd'
  have hw := way_path hh hd'
  have hg : ∀ i (hi : i < (pathL N L s t).length), (pathL N L s t).getD i 0 = (pathL N L s t)[i] := fun i hi => by simp [hi]
  rw [List.perm_ext_iff_of_nodup]
  · intro a
    unfold vitL vitK
    rw [if_pos ⟨hh, hd⟩, List.mem_filter, List.mem_map]
    constructor
    · rintro ⟨i, hi, rfl⟩
      rw [List.mem_filter, List.mem_range] at hi
      obtain ⟨h1, h2⟩ := hi
      rw [hg i (by omega), hg (i + 1) (by omega)] at h2 ⊢
      obtain ⟨b, -, hb, e1, e2, -, -⟩ := hw.step i (by omega)
      refine ⟨?_, h2⟩
      have := wtL_mem hsr hb
      rw [e1, e2] at this
      rw [this]
      have : b = ((pathL N L s t)[i]'(by omega), (pathL N L s t)[i + 1]'(by omega), b.2.2) := by rw [← e1, ← e2]
      rw [← this]
      exact hb
    · rintro ⟨ha, hv⟩
      obtain ⟨i, hi, e1, e2⟩ := vital_on hh hd hv
      refine ⟨i, ?_, ?_⟩
      · rw [List.mem_filter, List.mem_range, hg i (by omega), hg (i + 1) (by omega), e1, e2]
        exact ⟨by omega, hv⟩
      · rw [hg i (by omega), hg (i + 1) (by omega), e1, e2, wtL_mem hsr ha]
  · unfold vitK
    refine List.Pairwise.map (R := fun i j => i ≠ j ∧ i < (pathL N L s t).length ∧ j < (pathL N L s t).length) _ ?_ ?_
    · rintro i j ⟨hne, hi, hj⟩ e
      have e1 : (pathL N L s t).getD i 0 = (pathL N L s t).getD j 0 := congrArg (·.1) e
      rw [hg i hi, hg j hj] at e1
      rcases Nat.lt_or_gt_of_ne hne with hlt | hlt
      · exact hw.nodup i j hlt hj e1
      · exact hw.nodup j i hlt hi e1.symm
    · refine List.Pairwise.imp_of_mem ?_ (List.nodup_range.filter _)
      intro i j hi hj hne
      have h1 := List.mem_range.1 ((List.mem_filter.1 hi).1)
      have h2 := List.mem_range.1 ((List.mem_filter.1 hj).1)
      exact ⟨hne, by omega, by omega⟩
  · unfold vitL
    rw [if_pos ⟨hh, hd⟩]
    refine (hsr.filter _).imp fun {a b} h e => ?_
    subst e
    exact ahead_ne h ⟨rfl, rfl⟩
theorem vitL_sorted {N s t : Int} {L : List Arc3} : (vitL N L s t).Pairwise AheadP := by
  unfold vitL
  split
  · rename_i h
    exact ((okB_elim (has2_of h.1).1).2.2.2.2).filter _
  · exact List.Pairwise.nil
theorem pathL_pos' {N s t : Int} {L : List Arc3} (h : 0 < (pathL N L s t).length) : has2 N L s t = true ∧ 0 ≤ dAt (distL N (revL L) t) s := by
  unfold pathL at h
  split at h
  · rename_i hc
    rw [Bool.and_eq_true] at hc
    exact ⟨hc.1, by simpa using hc.2⟩
  · simp at h
theorem path_far {N s t : Int} {L : List Arc3} : 0 < (pathL N L s t).length ↔ has2 N L s t = true ∧ 0 ≤ distOfI N L s t := by
  constructor
  · intro h
    obtain ⟨hh, hd⟩ := pathL_pos' h
    obtain ⟨ho, hs, ht⟩ := has2_of hh
    exact ⟨hh, by rw [distOfI_of ho hs ht, ← distL_of_turned ho hs ht]; exact hd⟩
  · rintro ⟨hh, hd⟩
    obtain ⟨ho, hs, ht⟩ := has2_of hh
    rw [distOfI_of ho hs ht, ← distL_of_turned ho hs ht] at hd
    exact (way_path hh hd).pos
theorem path_short {N s t : Int} {L : List Arc3} : (pathL N L s t).length ≤ 24 := by
  rcases Nat.eq_zero_or_pos (pathL N L s t).length with h | h
  · omega
  · obtain ⟨hh, hd⟩ := pathL_pos' h
    obtain ⟨ho, hs, ht⟩ := has2_of hh
    exact (way_path hh hd).short (okB_elim ho).2.1 ht (by rw [(distL_is (arcsIn_of_ok (revL_ok ho)) (okB_elim ho).2.1 ht.1 ht.2).start]; omega)

end Go.Proofs.Ytffjpfanmnkmgaa
