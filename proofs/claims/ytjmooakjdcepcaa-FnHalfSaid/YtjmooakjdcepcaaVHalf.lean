/-
  What is proved here: plain facts on distances there and back: by way of a third node it is no nearer; nodes by way of which it is at most so far; lengths of paths; plain facts on weights, on the nearest way over an arc, and on the arcs of all nodes, one behind the other; bounds of weights; plain facts on the nodes within a radius, nearest first; plain facts on lists without two alike, on the nearest of some nodes, and on the first of the greatest; the small functions of the code and of the model that ask whether numbers are nodes, no two alike; the laws' small functions on halves; what a half that comes in is made of. No conditions; the model's HalfOf; the product of one and a small number, as the library reckons it; a list of as many of one number as are asked for, at most 24, as the library makes it; plain facts on how many nodes are reached from one, and how far the farthest of these is; how many nodes are reached from one, and how far the farthest is, as the code reckons it; words on a half that is put together; the code's HalfOf; the code's HalfOf; HalfOf of the model; halves that are marked. No conditions beyond those that each theorem states.
-/
import Derived.Test.YtjmooakjdcepcaaNF4
import Derived.Test.YtjmooakjdcepcaaX1
import Derived.Test.YtjmooakjdcepcaaNF1
import Derived.Test.YtjmooakjdcepcaaK1
import Derived.Test.YtjmooakjdcepcaaNS2
import Derived.Test.YtjmooakjdcepcaaK2
import Derived.Test.YtjmooakjdcepcaaRows
import Derived.Laws.CopyOwn
import Derived.Deep.RegionLaw
import Derived.Test.YtjmooakjdcepcaaPN
import Derived.Test.YtjmooakjdcepcaaW5
set_option linter.unusedSimpArgs false
set_option linter.unusedVariables false
namespace Go.Proofs.Ytjmooakjdcepcaa
open Go.RowKit

theorem IsDist.tri {N : Int} {L : List Arc3} {s t : Int} {D E : List Int} (ho : okB N L = true) (hD : IsDist N L s D) (hE : IsDist N (revL L) t E) :
    ∀ (n : Nat) (v : Int), 0 ≤ v → v < N → (dAt E v).toNat = n → 0 ≤ dAt E v → 0 ≤ dAt D v → 0 ≤ dAt D t ∧ dAt D t ≤ dAt D v + dAt E v := by
  have hp := (okB_elim ho).2.2.2.2
  have hin := arcsIn_of_ok ho
  intro n
  induction n using Nat.strongRecOn with
  | ind n ih =>
    intro v h0 h1 hn hb ha
    rcases hE.back v h0 h1 hb with rfl | ⟨r, hr, e1, e2, e3⟩
    · have := hE.start
      omega
    · have hm := (revL_mem hp).1 hr
      obtain ⟨a0, a1, a2, a3, a4, a5⟩ := hin _ hm
      simp only [turnA] at a0 a1 a2 a3 a4 a5
      have := hD.arc _ hm (by simp only [turnA]; rw [e1]; exact ha)
      simp only [turnA] at this
      rw [e1] at this
      obtain ⟨x, y⟩ := ih (dAt E r.1).toNat (by omega) r.1 a2 a3 rfl e2 this.1
      omega
/-- In the graph that is turned it is as far the other way round. -/
theorem IsDist.turned {N : Int} {L : List Arc3} {s t : Int} {D E : List Int} (ho : okB N L = true) (hs : 0 ≤ s ∧ s < N) (ht : 0 ≤ t ∧ t < N) (hD : IsDist N L s D) (hE : IsDist N (revL L) t E) : dAt E s = dAt D t := by
  have h1 := fun h => hD.tri ho hE _ s hs.1 hs.2 rfl h (by rw [hD.start]; omega)
  have hD' : IsDist N (revL (revL L)) s D := by rw [revL_revL ho]; exact hD
  have h2 := fun h => hE.tri (revL_ok ho) hD' _ t ht.1 ht.2 rfl h (by rw [hE.start]; omega)
  have e1 := hD.start
  have e2 := hE.start
  have l1 := hD.low t
  have l2 := hE.low s
  by_cases p : 0 ≤ dAt E s
  · obtain ⟨a, b⟩ := h1 p
    obtain ⟨c, d⟩ := h2 a
    omega
  · by_cases q : 0 ≤ dAt D t
    · obtain ⟨c, d⟩ := h2 q
      omega
    · omega

/-- The nodes of N, rising. -/
def nodesL (N : Int) : List Int := (List.range N.toNat).map Int.ofNat
/-- Is it by way of v at most so far? -/
def byB (D E : List Int) (m v : Int) : Bool := decide (0 ≤ dAt D v ∧ 0 ≤ dAt E v ∧ dAt D v + dAt E v ≤ m)
/-- The nodes by way of which it is at most so far. -/
def withinD (N : Int) (D E : List Int) (m : Int) : List Int := (nodesL N).filter (byB D E m)
def withinL (N : Int) (L : List Arc3) (s t m : Int) : List Int := withinD N (distL N L s) (distL N (revL L) t) m
theorem withinD_len (N : Int) (D E : List Int) (m : Int) : (withinD N D E m).length ≤ N.toNat := by
  unfold withinD
  exact Nat.le_trans (List.length_filter_le _ _) (by simp [nodesL])
/-- The first k of them. -/
def withinK (D E : List Int) (m : Int) (k : Nat) : List Int := ((List.range k).map Int.ofNat).filter (byB D E m)
theorem withinK_zero (D E : List Int) (m : Int) : withinK D E m 0 = [] := rfl
theorem withinK_yes {D E : List Int} {m : Int} {k : Nat} (h : byB D E m (k : Int) = true) : withinK D E m (k + 1) = withinK D E m k ++ [(k : Int)] := by
  unfold withinK
  rw [List.range_succ, List.map_append, List.filter_append]
  congr 1
  show List.filter _ [(k : Int)] = _
  rw [List.filter_cons, if_pos h]
  rfl
theorem withinK_no {D E : List Int} {m : Int} {k : Nat} (h : byB D E m (k : Int) = false) : withinK D E m (k + 1) = withinK D E m k := by
  unfold withinK
  rw [List.range_succ, List.map_append, List.filter_append]
  have : List.filter (byB D E m) (List.map Int.ofNat [k]) = [] := by
    show List.filter _ [(k : Int)] = _
    rw [List.filter_cons, if_neg (by rw [h]; simp)]
    rfl
  rw [this, List.append_nil]
theorem withinK_len (D E : List Int) (m : Int) (k : Nat) : (withinK D E m k).length ≤ k := by
  unfold withinK
  exact Nat.le_trans (List.length_filter_le _ _) (by simp)
theorem withinK_all (N : Int) (D E : List Int) (m : Int) : withinK D E m N.toNat = withinD N D E m := rfl
theorem mem_nodesL {N v : Int} : v ∈ nodesL N ↔ 0 ≤ v ∧ v < N := by
  unfold nodesL
  rw [List.mem_map]
  constructor
  · rintro ⟨k, hk, rfl⟩
    have := List.mem_range.1 hk
    simp
    omega
  · rintro ⟨h0, h1⟩
    exact ⟨v.toNat, List.mem_range.2 (by omega), by simp; omega⟩
theorem mem_withinD {N : Int} {D E : List Int} {m v : Int} : v ∈ withinD N D E m ↔ (0 ≤ v ∧ v < N) ∧ 0 ≤ dAt D v ∧ 0 ≤ dAt E v ∧ dAt D v + dAt E v ≤ m := by
  unfold withinD
  rw [List.mem_filter, mem_nodesL]
  simp [byB]

/-- The nodes of the shortest paths. -/
def onL (N : Int) (L : List Arc3) (s t : Int) : List Int := if has2 N L s t = true then withinL N L s t (dAt (distL N L s) t) else []
def betL (N : Int) (L : List Arc3) (s t m : Int) : List Int := if (has2 N L s t && decide (0 ≤ m ∧ m ≤ 24000)) = true then withinL N L s t m else []
theorem byB_on {N : Int} {L : List Arc3} {s t v : Int} {D E : List Int} (ho : okB N L = true) (hD : IsDist N L s D) (hE : IsDist N (revL L) t E) (h0 : 0 ≤ v) (h1 : v < N) : byB D E (dAt D t) v = decide (0 ≤ dAt D v ∧ 0 ≤ dAt E v ∧ dAt D v + dAt E v = dAt D t) := by
  unfold byB
  rw [Bool.eq_iff_iff]
  simp only [decide_eq_true_eq]
  constructor
  · rintro ⟨a, b, c⟩
    have := hD.tri ho hE _ v h0 h1 rfl b a
    omega
  · rintro ⟨a, b, c⟩
    omega
theorem byB_none {D E : List Int} {m v : Int} (h : m < 0) : byB D E m v = false := by
  unfold byB
  rw [decide_eq_false_iff_not]
  omega
theorem withinD_none {N : Int} {D E : List Int} {m : Int} (h : m < 0) : withinD N D E m = [] := by
  unfold withinD
  rw [List.filter_eq_nil_iff]
  intro v _
  rw [byB_none h]
  simp
theorem stepsL_len (L : List Arc3) (D : List Int) (t : Int) : ∀ (n : Nat) (v : Int), (dAt D v).toNat = n → (stepsL L D t v).length ≤ n := by
  intro n
  induction n using Nat.strongRecOn with
  | ind n ih =>
    intro v hn
    rw [stepsL]
    split
    · simp
    · split
      · simp
      · split
        · rename_i a _ h
          have := ih _ (by omega) a.2.1 rfl
          simp only [List.length_cons]
          omega
        · simp
theorem distL_of_turned {N s t : Int} {L : List Arc3} (ho : okB N L = true) (hs : 0 ≤ s ∧ s < N) (ht : 0 ≤ t ∧ t < N) : dAt (distL N (revL L) t) s = dAt (distL N L s) t :=
  IsDist.turned ho hs ht (distL_is (arcsIn_of_ok ho) (okB_elim ho).2.1 hs.1 hs.2) (distL_is (arcsIn_of_ok (revL_ok ho)) (okB_elim ho).2.1 ht.1 ht.2)

/-- The first of the shortest paths; none: there is none. -/
def pathL (N : Int) (L : List Arc3) (s t : Int) : List Int := if (has2 N L s t && decide (0 ≤ dAt (distL N (revL L) t) s)) = true then s :: stepsL L (distL N (revL L) t) t s else []

theorem onL_len (N : Int) (L : List Arc3) (s t : Int) : (onL N L s t).length ≤ 1048576 := by
  unfold onL
  split
  · rename_i h
    have := (okB_elim (has2_of h).1).2.1
    have := withinD_len N (distL N L s) (distL N (revL L) t) (dAt (distL N L s) t)
    unfold withinL
    omega
  · simp
theorem betL_len (N : Int) (L : List Arc3) (s t m : Int) : (betL N L s t m).length ≤ 1048576 := by
  unfold betL
  split
  · rename_i h
    rw [Bool.and_eq_true] at h
    have := (okB_elim (has2_of h.1).1).2.1
    have := withinD_len N (distL N L s) (distL N (revL L) t) m
    unfold withinL
    omega
  · simp
theorem pathL_len (N : Int) (L : List Arc3) (s t : Int) : (pathL N L s t).length ≤ 1048576 := by
  unfold pathL
  split
  · rename_i h
    rw [Bool.and_eq_true] at h
    obtain ⟨ho, h1, h2⟩ := has2_of h.1
    have := (distL_top (revL_ok ho) h2.1 h2.2 s).2
    have := stepsL_len L (distL N (revL L) t) t _ s rfl
    simp only [List.length_cons]
    omega
  · simp

/-- The weight of step k of a path; 0: it is none. -/
def stepW (L : List Arc3) (P : List Int) (k : Nat) : Int := wtL (P.getD k 0) (P.getD (k + 1) 0) L
/-- The first k steps together. -/
def sumW (L : List Arc3) (P : List Int) : Nat → Int
  | 0 => 0
  | k + 1 => sumW L P k + stepW L P k
theorem stepW_at {L : List Arc3} {P : List Int} {k : Nat} (h : k + 1 < P.length) : stepW L P k = wtL P[k] P[k + 1] L := by
  unfold stepW
  rw [List.getD_eq_getElem?_getD, List.getD_eq_getElem?_getD, List.getElem?_eq_getElem (by omega), List.getElem?_eq_getElem h]
  rfl
/-- Is it a path of a right graph? -/
def pathB (N : Int) (L : List Arc3) (P : List Int) : Bool := okB N L && decide (0 < P.length ∧ P.length ≤ 1000 ∧ (0 ≤ P.getD 0 0 ∧ P.getD 0 0 < N) ∧ ∀ j, j < P.length - 1 → stepW L P j ≠ 0)
def lenI (N : Int) (L : List Arc3) (P : List Int) : Int := if pathB N L P = true then sumW L P (P.length - 1) else 0

end Go.Proofs.Ytjmooakjdcepcaa

set_option linter.unusedSimpArgs false
set_option linter.unusedVariables false
namespace Go.Proofs.Ytjmooakjdcepcaa
open Go.RowKit

theorem wtL_mem {L : List Arc3} (hs : L.Pairwise AheadP) : ∀ {a : Arc3}, a ∈ L → wtL a.1 a.2.1 L = a.2.2 := by
  induction L with
  | nil => intro a ha; cases ha
  | cons b L ih =>
    intro a ha
    rw [List.pairwise_cons] at hs
    unfold wtL
    rcases List.mem_cons.1 ha with rfl | h
    · rw [if_pos (isEnds_iff.2 ⟨rfl, rfl⟩)]
    · rw [if_neg (fun he => ahead_ne (hs.1 a h) (isEnds_iff.1 he))]
      exact ih hs.2 h
theorem wtL_pos {u v : Int} : ∀ {L : List Arc3}, 0 < wtL u v L → (u, v, wtL u v L) ∈ L
  | [], h => by simp [wtL] at h
  | a :: l, h => by
    unfold wtL at h ⊢
    split
    · rename_i he
      obtain ⟨rfl, rfl⟩ := isEnds_iff.1 he
      exact List.mem_cons_self
    · rename_i he
      rw [if_neg he] at h
      exact List.mem_cons_of_mem _ (wtL_pos h)

/-- The least way over an arc from one of the first k nodes. -/
def leastSt (D : List Int) (L : List Arc3) (s v : Int) : Nat → Int
  | 0 => if v = s then 0 else -1
  | k + 1 => if 0 < wtL k v L ∧ 0 ≤ dAt D k ∧ (leastSt D L s v k < 0 ∨ dAt D k + wtL k v L < leastSt D L s v k) then dAt D k + wtL k v L else leastSt D L s v k
theorem leastSt_inv {N : Int} {L : List Arc3} {s v : Int} {D : List Int} (hD : IsDist N L s D) : ∀ k : Nat,
    -1 ≤ leastSt D L s v k ∧ (0 ≤ leastSt D L s v k → 0 ≤ dAt D v ∧ dAt D v ≤ leastSt D L s v k) ∧ (v = s → 0 ≤ leastSt D L s v k ∧ leastSt D L s v k ≤ 0) ∧
      ∀ u : Nat, u < k → 0 < wtL u v L → 0 ≤ dAt D u → 0 ≤ leastSt D L s v k ∧ leastSt D L s v k ≤ dAt D u + wtL u v L
  | 0 => by
    have hst := hD.start
    unfold leastSt
    split
    · rename_i e
      rw [e]
      exact ⟨by omega, fun _ => by omega, fun _ => by omega, fun u h => absurd h (by omega)⟩
    · rename_i e
      exact ⟨by omega, fun h => by omega, fun h => absurd h e, fun u h => absurd h (by omega)⟩
  | k + 1 => by
    obtain ⟨h1, h2, h3, h4⟩ := leastSt_inv (v := v) hD k
    have hst := hD.start
    unfold leastSt
    split
    · rename_i hc
      obtain ⟨c1, c2, c3⟩ := hc
      have ha := hD.arc _ (wtL_pos c1) (by simpa using c2)
      simp only at ha
      refine ⟨by omega, fun _ => ha, fun e => ?_, fun u hu p q => ?_⟩
      · have := h3 e
        rw [e] at ha
        omega
      · rcases Nat.lt_or_ge u k with h | h
        · have := h4 u h p q
          omega
        · obtain rfl : u = k := by omega
          omega
    · rename_i hc
      refine ⟨h1, h2, h3, fun u hu p q => ?_⟩
      rcases Nat.lt_or_ge u k with h | h
      · exact h4 u h p q
      · obtain rfl : u = k := by omega
        omega
theorem leastSt_all {N : Int} {L : List Arc3} {s v : Int} {D : List Int} (ho : okB N L = true) (hD : IsDist N L s D) (h0 : 0 ≤ v) (h1 : v < N) : leastSt D L s v N.toNat = dAt D v := by
  obtain ⟨a, b, c, d⟩ := leastSt_inv (v := v) hD N.toNat
  have hl := hD.low v
  by_cases hp : 0 ≤ dAt D v
  · rcases hD.back v h0 h1 hp with e | ⟨x, hx, e1, e2, e3⟩
    · subst e
      have h := c rfl
      have := b h.1
      have hst := hD.start
      omega
    · obtain ⟨a0, a1, a2, a3, a4, a5⟩ := arcsIn_of_ok ho x hx
      have hw := wtL_mem (okB_elim ho).2.2.2.2 hx
      rw [e1] at hw
      obtain ⟨u, hu⟩ : ∃ u : Nat, x.1 = u := ⟨x.1.toNat, by omega⟩
      rw [hu] at hw e2 e3
      have h := d u (by omega) (by omega) e2
      have := b h.1
      omega
  · have : ¬ 0 ≤ leastSt D L s v N.toNat := fun h => hp (b h).1
    omega

theorem triangle {N s t v : Int} {L : List Arc3} (h : has2 N L s t = true) (h0 : 0 ≤ v) (h1 : v < N) (ha : 0 ≤ distOfI N L s v) (hb : 0 ≤ distOfI N L v t) : 0 ≤ distOfI N L s t ∧ distOfI N L s t ≤ distOfI N L s v + distOfI N L v t := by
  obtain ⟨ho, hs, ht⟩ := has2_of h
  have e1 : distOfI N L s v = dAt (distL N L s) v := by
    unfold distOfI
    rw [if_pos (by unfold has2; rw [ho, Bool.true_and, decide_eq_true_eq]; omega)]
  have e2 : distOfI N L v t = dAt (distL N L v) t := by
    unfold distOfI
    rw [if_pos (by unfold has2; rw [ho, Bool.true_and, decide_eq_true_eq]; omega)]
  have e3 : distOfI N L s t = dAt (distL N L s) t := by unfold distOfI; rw [if_pos h]
  rw [e1] at ha ⊢
  rw [e2] at hb ⊢
  rw [e3]
  have e4 := distL_of_turned ho ⟨h0, h1⟩ ht
  rw [← e4] at hb ⊢
  have hD := distL_is (s := s) (arcsIn_of_ok ho) (okB_elim ho).2.1 hs.1 hs.2
  have hE := distL_is (s := t) (arcsIn_of_ok (revL_ok ho)) (okB_elim ho).2.1 ht.1 ht.2
  exact hD.tri ho hE _ v h0 h1 rfl hb ha
theorem distOfI_bounds {N s t : Int} {L : List Arc3} : -1 ≤ distOfI N L s t ∧ distOfI N L s t ≤ 23000 := by
  unfold distOfI
  split
  · rename_i h
    obtain ⟨ho, hs, ht⟩ := has2_of h
    exact distL_top ho hs.1 hs.2 t
  · omega

/-- The arcs of the first k nodes, one behind the other. -/
def catL (L : List Arc3) (k : Nat) : List Arc3 := L.filter fun a => decide (a.1 < (k : Int))
theorem catL_zero {L : List Arc3} (h : ∀ a ∈ L, 0 ≤ a.1) : catL L 0 = [] := by
  unfold catL
  rw [List.filter_eq_nil_iff]
  intro a ha
  have := h a ha
  simp
  omega
theorem catL_succ {L : List Arc3} (hs : L.Pairwise AheadP) (k : Nat) : catL L (k + 1) = catL L k ++ fromL k L := by
  induction L with
  | nil => rfl
  | cons a L ih =>
    rw [List.pairwise_cons] at hs
    have ih' := ih hs.2
    unfold catL fromL at ih' ⊢
    simp only [List.filter_cons]
    by_cases h1 : a.1 < (k : Int)
    · rw [if_pos (by simp; omega), if_pos (by simpa using h1), if_neg (by simp; omega), ih']
      rfl
    · by_cases h2 : a.1 = (k : Int)
      · have h3 : L.filter (fun a => decide (a.1 < (k : Int))) = [] := by
          rw [List.filter_eq_nil_iff]
          intro b hb hlt
          have := hs.1 b hb
          unfold AheadP at this
          simp only [aheadB, decide_eq_true_eq] at this hlt
          omega
        rw [h3, List.nil_append] at ih'
        rw [if_pos (by simp; omega), if_neg (by simpa using h1), if_pos (by simpa using h2), ih', h3]
        rfl
      · have h3 : L.filter (fun a => decide (a.1 < ((k + 1 : Nat) : Int))) = [] := by
          rw [List.filter_eq_nil_iff]
          intro b hb hlt
          have := hs.1 b hb
          unfold AheadP at this
          simp only [aheadB, decide_eq_true_eq] at this hlt
          omega
        rw [h3] at ih'
        rw [if_neg (by simp; omega), if_neg (by simpa using h1), if_neg (by simpa using h2), h3]
        exact ih'
theorem catL_all {N : Int} {L : List Arc3} (h : okB N L = true) : catL L N.toNat = L := by
  unfold catL
  rw [List.filter_eq_self]
  intro a ha
  have := arcsIn_of_ok h a ha
  simp
  omega
theorem catL_len (L : List Arc3) (k : Nat) : (catL L k).length ≤ L.length := List.length_filter_le _ _
theorem fromL_at {v : Int} {L : List Arc3} {k : Nat} (hs : L.Pairwise AheadP) (h : k < (fromL v L).length) : (fromL v L)[k].1 = v ∧ wtL v (fromL v L)[k].2.1 L = (fromL v L)[k].2.2 := by
  have hm : (fromL v L)[k] ∈ fromL v L := List.getElem_mem h
  generalize (fromL v L)[k] = a at hm
  unfold fromL at hm
  obtain ⟨h1, h2⟩ := List.mem_filter.1 hm
  have e : a.1 = v := by simpa using h2
  refine ⟨e, ?_⟩
  have := wtL_mem hs h1
  rwa [e] at this

/-- How many arcs come to a node. -/
def intoN (L : List Arc3) (v : Int) (k : Nat) : Nat := ((L.take k).filter fun a => a.2.1 == v).length
theorem intoN_all {L : List Arc3} (hs : L.Pairwise AheadP) (v : Int) : (fromL v (revL L)).length = intoN L v L.length := by
  unfold fromL intoN
  rw [List.take_length]
  have h := ((revL_sorted hs).2.filter fun a => a.1 == v).length_eq
  rw [h, List.filter_map, List.length_map]
  rfl

end Go.Proofs.Ytjmooakjdcepcaa

set_option linter.unusedSimpArgs false
set_option linter.unusedVariables false
namespace Go.Proofs.Ytjmooakjdcepcaa
open Go.RowKit

theorem wtL_bounds {N u v : Int} {L : List Arc3} (ho : okB N L = true) : 0 ≤ wtL u v L ∧ wtL u v L ≤ 1000 := by
  have h := arcsIn_of_ok ho
  have key : ∀ (M : List Arc3), (∀ a ∈ M, 1 ≤ a.2.2 ∧ a.2.2 ≤ 1000) → 0 ≤ wtL u v M ∧ wtL u v M ≤ 1000 := by
    intro M
    induction M with
    | nil => intro _; simp [wtL]
    | cons a M ih =>
      intro hM
      unfold wtL
      split
      · have := hM a (by simp); omega
      · exact ih fun b hb => hM b (by simp [hb])
  exact key L fun a ha => by have := h a ha; omega

theorem dAt_at {D : List Int} {k : Nat} (hk : k < D.length) : dAt D (k : Int) = D[k] := by simp [dAt, hk]

end Go.Proofs.Ytjmooakjdcepcaa

set_option linter.unusedSimpArgs false
set_option linter.unusedVariables false
namespace Go.Proofs.Ytjmooakjdcepcaa

/-- A distance that is more than the radius is none. -/
def cutD (r d : Int) : Int := if r < d then -1 else d
/-- Is a node ahead of another one, by how far it is, then by itself? -/
def nearP (f : Int → Int) (a b : Int) : Prop := f a < f b ∨ f a = f b ∧ a < b
/-- A node behind all that are no farther. -/
def insF (f : Int → Int) (v : Int) (D : List Int) : List Int := D.take ((D.takeWhile fun u => decide (f u ≤ f v)).length) ++ v :: D.drop ((D.takeWhile fun u => decide (f u ≤ f v)).length)
/-- Of the first k nodes those within the radius, nearest first. -/
def doneK (f : Int → Int) : Nat → List Int
  | 0 => []
  | k + 1 => if f (k : Int) < 0 then doneK f k else insF f (k : Int) (doneK f k)
theorem insF_eq (f : Int → Int) (v : Int) (D : List Int) : insF f v D = (D.takeWhile fun u => decide (f u ≤ f v)) ++ v :: (D.dropWhile fun u => decide (f u ≤ f v)) := by
  unfold insF
  have h := List.takeWhile_append_dropWhile (p := fun u => decide (f u ≤ f v)) (l := D)
  have h1 : D.take ((D.takeWhile fun u => decide (f u ≤ f v)).length) = D.takeWhile fun u => decide (f u ≤ f v) := by
    conv => lhs; rhs; rw [← h]
    rw [List.take_left]
  have h2 : D.drop ((D.takeWhile fun u => decide (f u ≤ f v)).length) = D.dropWhile fun u => decide (f u ≤ f v) := by
    conv => lhs; rhs; rw [← h]
    rw [List.drop_left]
  rw [h1, h2]
theorem mem_insF {f : Int → Int} {v x : Int} {D : List Int} : x ∈ insF f v D ↔ x = v ∨ x ∈ D := by
  have h := List.takeWhile_append_dropWhile (p := fun u => decide (f u ≤ f v)) (l := D)
  rw [insF_eq]
  conv => rhs; rw [← h]
  simp only [List.mem_append, List.mem_cons]
  constructor
  · rintro (h | h | h) <;> simp [h]
  · rintro (h | h | h) <;> simp [h]
theorem mem_doneK (f : Int → Int) (x : Int) : ∀ k : Nat, x ∈ doneK f k ↔ (0 ≤ x ∧ x < k) ∧ 0 ≤ f x
  | 0 => by simp [doneK]; omega
  | k + 1 => by
    unfold doneK
    have ih := mem_doneK f x k
    by_cases h : f (k : Int) < 0
    · rw [if_pos h, ih]
      constructor
      · rintro ⟨h1, h2⟩; exact ⟨by omega, h2⟩
      · rintro ⟨h1, h2⟩
        by_cases e : x = (k : Int)
        · subst e; omega
        · exact ⟨by omega, h2⟩
    · rw [if_neg h, mem_insF, ih]
      constructor
      · rintro (rfl | ⟨h1, h2⟩)
        · exact ⟨by omega, by omega⟩
        · exact ⟨by omega, h2⟩
      · rintro ⟨h1, h2⟩
        by_cases e : x = (k : Int)
        · exact .inl e
        · exact .inr ⟨by omega, h2⟩
theorem dropWhile_all {p : Int → Bool} {lt : Int → Int → Prop} : ∀ {D : List Int}, D.Pairwise lt → (∀ a b, lt a b → p a = false → p b = false) → ∀ x ∈ D.dropWhile p, p x = false
  | [], _, _, x, hx => by simp at hx
  | a :: t, hp, hm, x, hx => by
    obtain ⟨h1, h2⟩ := List.pairwise_cons.1 hp
    rw [List.dropWhile_cons] at hx
    split at hx
    · exact dropWhile_all h2 hm x hx
    · rename_i ha
      have ha' : p a = false := by simpa using ha
      rcases List.mem_cons.1 hx with rfl | hx
      · exact ha'
      · exact hm a x (h1 x hx) ha'
theorem sorted_insF {f : Int → Int} {v : Int} {D : List Int} (h : D.Pairwise (nearP f)) (hv : ∀ x ∈ D, x < v) : (insF f v D).Pairwise (nearP f) := by
  have e := List.takeWhile_append_dropWhile (p := fun u => decide (f u ≤ f v)) (l := D)
  have hd := dropWhile_all (p := fun u => decide (f u ≤ f v)) h (fun a b hab ha => by
    simp only [decide_eq_false_iff_not] at ha ⊢
    unfold nearP at hab
    omega)
  have ht : ∀ x ∈ D.takeWhile fun u => decide (f u ≤ f v), decide (f x ≤ f v) = true := fun x hx => List.all_eq_true.1 List.all_takeWhile x hx
  rw [insF_eq]
  have h' := h
  rw [← e, List.pairwise_append] at h'
  rw [List.pairwise_append, List.pairwise_cons]
  have mt : ∀ x ∈ D.takeWhile fun u => decide (f u ≤ f v), x ∈ D := fun x hx => by rw [← e]; exact List.mem_append_left _ hx
  refine ⟨h'.1, ⟨fun x hx => ?_, h'.2.1⟩, fun a ha b hb => ?_⟩
  · have := hd x hx
    simp only [decide_eq_false_iff_not] at this
    exact .inl (by omega)
  · rcases List.mem_cons.1 hb with rfl | hb
    · have h1 := ht a ha
      have h2 := hv a (mt a ha)
      simp only [decide_eq_true_eq] at h1
      unfold nearP
      omega
    · exact h'.2.2 a ha b hb
theorem sorted_doneK (f : Int → Int) : ∀ k : Nat, (doneK f k).Pairwise (nearP f)
  | 0 => by simp [doneK]
  | k + 1 => by
    unfold doneK
    split
    · exact sorted_doneK f k
    · exact sorted_insF (sorted_doneK f k) fun x hx => by
        have := (mem_doneK f x k).1 hx
        omega
theorem nearP_ne {f : Int → Int} {a b : Int} (h : nearP f a b) : a ≠ b := by
  rintro rfl
  unfold nearP at h
  omega
theorem nearP_asymm {f : Int → Int} {a b : Int} (h : nearP f a b) (k : nearP f b a) : False := by
  unfold nearP at h k
  omega
theorem near_uniq {f : Int → Int} : ∀ {X Y : List Int}, X.Pairwise (nearP f) → Y.Pairwise (nearP f) → (∀ x, x ∈ X ↔ x ∈ Y) → X = Y
  | [], [], _, _, _ => rfl
  | [], b :: Y, _, _, h => absurd ((h b).2 (by simp)) (by simp)
  | a :: X, [], _, _, h => absurd ((h a).1 (by simp)) (by simp)
  | a :: X, b :: Y, hX, hY, h => by
    obtain ⟨h1, h2⟩ := List.pairwise_cons.1 hX
    obtain ⟨k1, k2⟩ := List.pairwise_cons.1 hY
    have e : a = b := by
      rcases List.mem_cons.1 ((h a).1 (by simp)) with e | hb
      · exact e
      · rcases List.mem_cons.1 ((h b).2 (by simp)) with e | ha
        · exact e.symm
        · exact (nearP_asymm (h1 b ha) (k1 a hb)).elim
    subst e
    congr 1
    refine near_uniq h2 k2 fun x => ?_
    constructor
    · intro hx
      rcases List.mem_cons.1 ((h x).1 (List.mem_cons_of_mem _ hx)) with e | h'
      · exact absurd e.symm (nearP_ne (h1 x hx))
      · exact h'
    · intro hx
      rcases List.mem_cons.1 ((h x).2 (List.mem_cons_of_mem _ hx)) with e | h'
      · exact absurd e.symm (nearP_ne (k1 x hx))
      · exact h'

/-- How far a node is, up to the radius. -/
def halfF (N : Int) (L : List Arc3) (s r : Int) (v : Int) : Int := cutD r (dAt (distL N L s) v)
/-- The list of how far all are, up to the radius. -/
def halfD (N : Int) (L : List Arc3) (s r : Int) : List Int := (distL N L s).map (cutD r)
/-- The nodes within the radius, nearest first. -/
def halfN (N : Int) (L : List Arc3) (s r : Int) : List Int := doneK (halfF N L s r) N.toNat
/-- What is told, up to the radius. -/
theorem done_of_near {N s r : Int} {L : List Arc3} {pre Z : List It} (ho : okB N L = true) (h : AllNear N L s (pre ++ Z)) (hp : ∀ y ∈ pre, y.1 ≤ r) (hz : ∀ z ∈ Z, r < z.1) : pre.map (·.2) = halfN N L s r := by
  have hN := (okB_elim ho).2.1
  have hL := arcsIn_of_ok ho
  have hm := fun k v => h.mem hL hN k v
  have hd : ∀ y ∈ pre, halfF N L s r y.2 = y.1 := fun y hy => by
    have h1 := (hm y.1 y.2).1 (by simp [hy])
    have h2 := hp y hy
    unfold halfF cutD
    rw [← h1.2.2, if_neg (by omega)]
  refine near_uniq (f := halfF N L s r) ?_ (sorted_doneK _ _) fun x => ?_
  · rw [List.pairwise_map]
    refine List.Pairwise.imp_of_mem (fun {a b} ha hb hab => ?_) (List.pairwise_append.1 h.sorted).1
    unfold nearP
    rw [hd a ha, hd b hb]
    simp only [lessI, decide_eq_true_eq] at hab
    exact hab
  · unfold halfN
    rw [mem_doneK]
    constructor
    · intro hx
      obtain ⟨y, hy, rfl⟩ := List.mem_map.1 hx
      have h1 := (hm y.1 y.2).1 (by simp [hy])
      rw [hd y hy]
      exact ⟨by omega, h1.2.1⟩
    · rintro ⟨h1, h2⟩
      have hx : 0 ≤ dAt (distL N L s) x ∧ dAt (distL N L s) x ≤ r := by
        unfold halfF cutD at h2
        split at h2 <;> omega
      have h3 := (hm (dAt (distL N L s) x) x).2 ⟨by omega, hx.1, rfl⟩
      rcases List.mem_append.1 h3 with h4 | h4
      · exact List.mem_map.2 ⟨_, h4, rfl⟩
      · have := hz _ h4
        simp at this
        omega
/-- The keys of what is told, up to the radius, are the distances, up to the radius. -/
theorem dist_of_near {N s r : Int} {L : List Arc3} {pre Z : List It} (ho : okB N L = true) (h : AllNear N L s (pre ++ Z)) (hp : ∀ y ∈ pre, y.1 ≤ r) (hz : ∀ z ∈ Z, r < z.1) (hr : 0 ≤ r) : keysL N.toNat pre = halfD N L s r := by
  have hN := (okB_elim ho).2.1
  have hL := arcsIn_of_ok ho
  have hm := fun k v => h.mem hL hN k v
  obtain ⟨z, hz', hzs, -⟩ := h.start
  have hs := h.inY z hz'
  have hl : (distL N L s).length = N.toNat := (distL_is hL hN (by omega) (by omega)).len
  have hlow := (distL_is hL hN (by omega) (by omega) : IsDist N L s (distL N L s)).low
  refine List.ext_getElem (by simp [halfD, hl, keysL_len]) fun i h1 h2 => ?_
  rw [keysL_len] at h1
  have e1 : (keysL N.toNat pre)[i]'(by rw [keysL_len]; exact h1) = keyOf pre (i : Int) := by simp [keysL]
  have e2 : (halfD N L s r)[i] = cutD r (dAt (distL N L s) (i : Int)) := by
    simp only [halfD, List.getElem_map]
    rw [dAt_at (by rw [hl]; exact h1)]
  rw [e1, e2]
  by_cases hk : ∃ y ∈ pre, y.2 = (i : Int)
  · obtain ⟨y, hy, hyi⟩ := hk
    have hids : (pre.map (·.2)).Nodup := by
      have := h.ids
      rw [List.map_append, List.nodup_append] at this
      exact this.1
    rw [← hyi, keyOf_yes hids hy]
    have h3 := (hm y.1 y.2).1 (by simp [hy])
    have h4 := hp y hy
    unfold cutD
    rw [← h3.2.2, if_neg (by omega)]
  · rw [keyOf_no (fun y hy e => hk ⟨y, hy, e⟩)]
    unfold cutD
    split
    · rfl
    · rename_i hc
      have hlo := hlow (i : Int)
      by_cases hd : dAt (distL N L s) (i : Int) = -1
      · exact hd.symm
      · have h3 := (hm (dAt (distL N L s) (i : Int)) (i : Int)).2 ⟨by omega, by omega, rfl⟩
        rcases List.mem_append.1 h3 with h4 | h4
        · exact absurd ⟨_, h4, rfl⟩ hk
        · have := hz _ h4
          simp at this
          omega

end Go.Proofs.Ytjmooakjdcepcaa

set_option linter.unusedSimpArgs false
set_option linter.unusedVariables false
namespace Go.Proofs.Ytjmooakjdcepcaa

/-- Are all of these nodes of N, no two alike? -/
def unB (N : Int) (V : List Int) : Bool := decide ((∀ v ∈ V, 0 ≤ v ∧ v < N) ∧ V.Nodup)
/-- Is the graph right, are all of these nodes of it, and no two alike? -/
def hasUB (N : Int) (L : List Arc3) (V : List Int) : Bool := okB N L && unB N V
theorem hasB_iff {N : Int} {L : List Arc3} {V : List Int} : hasB N L V = true ↔ okB N L = true ∧ ∀ v ∈ V, 0 ≤ v ∧ v < N := by
  unfold hasB
  rw [Bool.and_eq_true, List.all_eq_true]
  simp
theorem hasUB_no {N : Int} {L : List Arc3} {V : List Int} (h : hasB N L V = false) : hasUB N L V = false := by
  unfold hasUB unB
  rcases Bool.eq_false_or_eq_true (okB N L) with ho | ho
  · rw [ho, Bool.true_and, decide_eq_false_iff_not]
    intro hx
    have := hasB_iff.2 ⟨ho, hx.1⟩
    rw [this] at h
    exact absurd h (by simp)
  · rw [ho]; rfl
theorem hasUB_yes {N : Int} {L : List Arc3} {V : List Int} (h : hasB N L V = true) : hasUB N L V = decide V.Nodup := by
  obtain ⟨h1, h2⟩ := hasB_iff.1 h
  unfold hasUB unB
  rw [h1, Bool.true_and]
  by_cases hn : V.Nodup
  · rw [decide_eq_true hn]; exact decide_eq_true ⟨h2, hn⟩
  · rw [decide_eq_false hn]; exact decide_eq_false fun hx => hn hx.2
theorem hasUB_iff {N : Int} {L : List Arc3} {V : List Int} : hasUB N L V = true ↔ okB N L = true ∧ (∀ v ∈ V, 0 ≤ v ∧ v < N) ∧ V.Nodup := by
  unfold hasUB unB
  rw [Bool.and_eq_true, decide_eq_true_eq]

/-- Numbers as items. -/
def itV (V : List Int) : List It := V.map fun v => (0, v)
theorem told_itV {V : List Int} {v : Int} : toldB (itV V) v = decide (v ∈ V) := by
  rw [Bool.eq_iff_iff, toldB_iff, decide_eq_true_eq]
  constructor
  · rintro ⟨y, hy, rfl⟩
    obtain ⟨u, hu, rfl⟩ := List.mem_map.1 hy
    exact hu
  · intro h
    exact ⟨(0, v), List.mem_map.2 ⟨v, h, rfl⟩, rfl⟩
theorem itV_snoc (V : List Int) (v : Int) : itV (V ++ [v]) = itV V ++ [(0, v)] := by simp [itV]
theorem take_snocI {V : List Int} {j : Nat} (h : j < V.length) : V.take (j + 1) = V.take j ++ [V[j]] := by
  rw [List.take_succ_eq_append_getElem h]
theorem nodup_step {V : List Int} {j : Nat} (h : j < V.length) (hn : (V.take j).Nodup) (hv : V[j] ∉ V.take j) : (V.take (j + 1)).Nodup := by
  rw [take_snocI h, List.nodup_append]
  refine ⟨hn, by simp, fun a ha b hb => ?_⟩
  have : b = V[j] := by simpa using hb
  subst this
  intro e
  subst e
  exact hv ha
theorem nodup_hurt {V : List Int} {j : Nat} (h : j < V.length) (hv : V[j] ∈ V.take j) : ¬ V.Nodup := by
  intro hn
  obtain ⟨i, hi, e⟩ := List.mem_iff_getElem.1 hv
  rw [List.length_take] at hi
  rw [List.getElem_take] at e
  have := (List.nodup_iff_pairwise_ne.1 hn)
  exact (List.pairwise_iff_getElem.1 this) i j (by omega) h (by omega) e

/-- The lesser of a number and a distance that is there. -/
def minD (m d : Int) : Int := if 0 ≤ d then min m d else m
theorem minD_no {m d : Int} (h : d < 0) : minD m d = m := if_neg (by omega)
theorem minD_yes {m d : Int} (h : 0 ≤ d) : minD m d = min m d := if_pos h
/-- How far a node is from the nearest of some. -/
def nearV (N : Int) (L : List Arc3) (v : Int) (V : List Int) : Int := V.foldl (fun m s => minD m (dAt (distL N L s) v)) 24000
theorem nearV_nil (N : Int) (L : List Arc3) (v : Int) : nearV N L v [] = 24000 := rfl
theorem nearV_snoc (N : Int) (L : List Arc3) (v : Int) (V : List Int) (s : Int) : nearV N L v (V ++ [s]) = minD (nearV N L v V) (dAt (distL N L s) v) := by
  simp [nearV, List.foldl_append]
theorem nearV_step (N : Int) (L : List Arc3) (v : Int) {V : List Int} {j : Nat} (h : j < V.length) : nearV N L v (V.take (j + 1)) = minD (nearV N L v (V.take j)) (dAt (distL N L V[j]) v) := by
  rw [take_snocI h, nearV_snoc]
theorem nearV_bounds (N : Int) (L : List Arc3) (v : Int) (V : List Int) : 0 ≤ nearV N L v V ∧ nearV N L v V ≤ 24000 := by
  unfold nearV
  have h : ∀ (V : List Int) (m : Int), 0 ≤ m ∧ m ≤ 24000 → 0 ≤ V.foldl (fun m s => minD m (dAt (distL N L s) v)) m ∧ V.foldl (fun m s => minD m (dAt (distL N L s) v)) m ≤ 24000 := by
    intro V
    induction V with
    | nil => intro m hm; exact hm
    | cons a t ih =>
      intro m hm
      refine ih _ ?_
      show 0 ≤ minD m (dAt (distL N L a) v) ∧ minD m (dAt (distL N L a) v) ≤ 24000
      unfold minD
      split <;> omega
  exact h V 24000 (by omega)

/-- The array of the nearest behind some nodes that are told. -/
def minE (E : List Int) (Y : List It) : List Int := (List.range 24).map fun (i : Nat) => minD (E.getD i 0) (keyOf Y (i : Int))
theorem minE_len (E : List Int) (Y : List It) : (minE E Y).length = 24 := by simp [minE]
theorem minE_at {E : List Int} {Y : List It} {u : Nat} (h : u < (minE E Y).length) : (minE E Y)[u] = minD (E.getD u 0) (keyOf Y (u : Int)) := by simp [minE]
theorem minE_nil {E : List Int} (h : E.length = 24) : minE E [] = E := by
  refine List.ext_getElem (by rw [minE_len, h]) fun i h1 h2 => ?_
  rw [minE_at h1, minD_no (by rw [keyOf_no (by simp)]; omega)]
  simp [h2]
theorem minE_snoc {E : List Int} {Y : List It} {x : Int} {u : Nat} (hx : toldB Y (u : Int) = false) (h0 : 0 ≤ x) (hu : u < (minE E Y).length) : minE E (Y ++ [(x, (u : Int))]) = (minE E Y).set u (min (minE E Y)[u] x) := by
  refine List.ext_getElem (by simp [minE_len]) fun i h1 h2 => ?_
  rw [minE_at h1, List.getElem_set, keyOf_snoc (x := (x, (u : Int))) hx]
  by_cases e : u = i
  · subst e
    rw [if_pos rfl, if_pos rfl, minD_yes h0]
    congr 1
    rw [minE_at hu, minD_no (by rw [keyOf_no (toldB_no.1 hx)]; omega)]
  · rw [if_neg e, if_neg (by simp; omega), minE_at (by rw [minE_len] at h1 ⊢; exact h1)]
theorem minE_done {N : Int} {L : List Arc3} {s : Int} {V : List Int} {E : List Int} {Y : List It} (ho : okB N L = true) (hY : AllNear N L s Y)
    (hE : ∀ v : Nat, (v : Int) < N → E.getD v 0 = nearV N L (v : Int) V) : ∀ v : Nat, (v : Int) < N → (minE E Y).getD v 0 = nearV N L (v : Int) (V ++ [s]) := by
  intro v hv
  have hN := (okB_elim ho).2.1
  have hl : v < (minE E Y).length := by rw [minE_len]; omega
  have e : (minE E Y).getD v 0 = (minE E Y)[v] := by simp [hl]
  rw [e, minE_at hl, nearV_snoc, hE v hv]
  congr 1
  rw [← hY.keys (arcsIn_of_ok ho) hN, keysL_at (by omega) (by omega)]

/-- The first place of the greatest among the first k. -/
def topK (f : Nat → Int) : Nat → Nat
  | 0 => 0
  | k + 1 => if f (topK f k) < f k then k else topK f k
theorem topK_lt (f : Nat → Int) : ∀ k, 0 < k → topK f k < k
  | 0, h => absurd h (by omega)
  | k + 1, _ => by
    unfold topK
    split
    · omega
    · rcases Nat.eq_zero_or_pos k with rfl | hk
      · exact Nat.zero_lt_one
      · have := topK_lt f k hk; omega
theorem topK_le (f : Nat → Int) (k : Nat) : topK f k ≤ k := by
  rcases Nat.eq_zero_or_pos k with rfl | hk
  · exact Nat.le_refl _
  · exact Nat.le_of_lt (topK_lt f k hk)
theorem topK_yes {f : Nat → Int} {k : Nat} (h : f (topK f k) < f k) : topK f (k + 1) = k := if_pos h
theorem topK_no {f : Nat → Int} {k : Nat} (h : ¬ f (topK f k) < f k) : topK f (k + 1) = topK f k := if_neg h
theorem topK_max (f : Nat → Int) : ∀ k j, j < k → f j ≤ f (topK f k) ∧ (f j = f (topK f k) → topK f k ≤ j)
  | 0, j, h => absurd h (by omega)
  | k + 1, j, h => by
    by_cases hx : f (topK f k) < f k
    · rw [topK_yes hx]
      rcases Nat.lt_or_ge j k with hj | hj
      · have := (topK_max f k j hj).1
        exact ⟨by omega, fun e => by omega⟩
      · obtain rfl : j = k := by omega
        exact ⟨Int.le_refl _, fun _ => Nat.le_refl _⟩
    · rw [topK_no hx]
      rcases Nat.lt_or_ge j k with hj | hj
      · exact topK_max f k j hj
      · obtain rfl : j = k := by omega
        exact ⟨by omega, fun _ => topK_le f j⟩

/-- How far each node is from the nearest of V. -/
def nearF (N : Int) (L : List Arc3) (V : List Int) (k : Nat) : Int := nearV N L (k : Int) V
/-- The first node that is farthest from the nearest of V. -/
def farI (N : Int) (L : List Arc3) (V : List Int) : Int := if hasUB N L V = true then ((topK (nearF N L V) N.toNat : Nat) : Int) else -1

end Go.Proofs.Ytjmooakjdcepcaa

set_option linter.unusedSimpArgs false
set_option linter.unusedVariables false
namespace Go.Proofs.Ytjmooakjdcepcaa
open Go.RowKit

-- (hasUnlike_any left out)

-- (l1Has_any left out)

-- (l6Nodes_any left out)

end Go.Proofs.Ytjmooakjdcepcaa

set_option linter.unusedSimpArgs false
set_option linter.unusedVariables false
namespace Go.Proofs.Ytjmooakjdcepcaa
open Go.ChangeShapes Go.WideShapes Go.ChangeAt Go.RowKit

/-- A new half is left. -/
def HalfMade (n m : Nat) (r : Int) (D E : List Int) (w : World) (e : Ending) (w' : World) : Prop :=
  ∃ g h, e = .returned (.agg #[.slice (some ⟨g, 0, none⟩) n n, .slice (some ⟨h, 0, none⟩) m m, .int .i64 r]) ∧ IntsAt w' w'.heap.size (some ⟨g, 0, none⟩) D ∧ IntsAt w' w'.heap.size (some ⟨h, 0, none⟩) E ∧ Bl w w'

theorem IntsAt.set_ {w : World} {B : Nat} {A : Option Addr} {V : List Int} (h : IntsAt w B A V) {p : Addr} (hp : ∀ g, blockOf A = some g → p.block ≠ g) (v : Value) : IntsAt (w.setCell p v) B A V := fun h0 => by
  obtain ⟨g, off, rfl, hg, hc⟩ := h h0
  exact ⟨g, off, rfl, hg, fun k hk => by rw [World.cell?_setCell_other _ _ _ _ (fun e => hp g rfl (by rw [e]))]; exact hc k hk⟩

/-- Three cells, in a block of their own. -/
def Tri (w : World) (g : Nat) (a b c : Value) : Prop := w.rowIs g 42 3 (fun i => if i = 0 then a else if i = 1 then b else c)
theorem Tri.new (w : World) (a b c : Value) : Tri (w.alloc (.cells #[a, b, c] 42)) w.heap.size a b c :=
  World.rowIs_alloc w #[a, b, c] _ _ (fun i hi => by
    have : i = 0 ∨ i = 1 ∨ i = 2 := by simp at hi; omega
    rcases this with rfl | rfl | rfl <;> simp)
theorem Tri.facts {w : World} {g : Nat} {a b c : Value} (h : Tri w g a b c) : w.cell? ⟨g, 0, none⟩ = some a ∧ w.cell? ⟨g, 1, none⟩ = some b ∧ w.cell? ⟨g, 2, none⟩ = some c ∧ w.frozen? ⟨g, 0, none⟩ = false ∧ w.frozen? ⟨g, 1, none⟩ = false ∧ w.frozen? ⟨g, 2, none⟩ = false :=
  ⟨h.cell (i := 0) (by omega), h.cell (i := 1) (by omega), h.cell (i := 2) (by omega), h.frozen 0, h.frozen 1, h.frozen 2⟩
theorem Tri.bl {w w' : World} {g : Nat} {a b c : Value} (h : Tri w g a b c) (hb : Bl w w') : Tri w' g a b c := row_bl h hb
theorem Tri.far {w : World} {g : Nat} {a b c : Value} (h : Tri w g a b c) {p : Addr} (hp : g ≠ p.block) (u : Value) : Tri (w.setCell p u) g a b c := World.rowIs.setOther h hp u
theorem Tri.set0 {w : World} {g : Nat} {a b c : Value} (h : Tri w g a b c) (u : Value) : Tri (w.setCell ⟨g, 0, none⟩ u) g u b c :=
  (World.rowIs.set h 0 u).congr fun i hi => by
    have : i = 0 ∨ i = 1 ∨ i = 2 := by omega
    rcases this with rfl | rfl | rfl <;> simp
theorem Tri.set1 {w : World} {g : Nat} {a b c : Value} (h : Tri w g a b c) (u : Value) : Tri (w.setCell ⟨g, 1, none⟩ u) g a u c :=
  (World.rowIs.set h 1 u).congr fun i hi => by
    have : i = 0 ∨ i = 1 ∨ i = 2 := by omega
    rcases this with rfl | rfl | rfl <;> simp
theorem Tri.set2 {w : World} {g : Nat} {a b c : Value} (h : Tri w g a b c) (u : Value) : Tri (w.setCell ⟨g, 2, none⟩ u) g a b u :=
  (World.rowIs.set h 2 u).congr fun i hi => by
    have : i = 0 ∨ i = 1 ∨ i = 2 := by omega
    rcases this with rfl | rfl | rfl <;> simp

-- (toHalf_any left out)

-- (eqHalf_yes left out)

-- (szHalf_any left out)

end Go.Proofs.Ytjmooakjdcepcaa

set_option linter.unusedSimpArgs false
set_option linter.unusedVariables false
namespace Go.Proofs.Ytjmooakjdcepcaa
open Go.ChangeShapes Go.WideShapes Go.ChangeAt Go.RowKit Go.Deep Go.Joins

theorem open_cells {H : Type} {enc : TypeId × Value → H} {W : World} {v : Value} {y : DataW H × List MemPlace} {m0 : Nat} (ht : DataW.trod enc Try.prog W 0 (fun _ => true) true m0 32 [v] = some y) :
    ∃ (A : Option Addr) (n c : Nat) (V : List Int), v = .slice A n c ∧ n = V.length ∧ n ≤ 9223372036854775807 ∧ IntsAt W W.heap.size A V := by
  rcases open_ints Try.underlying32 Try.underlying2 (by kernel_rfl) ht with ⟨hcs, _⟩ | ⟨a, len, cap, zs, hcs, _, hl, hcap, hzs, hmax, hcell, hwf⟩
  · simp only [List.cons.injEq, and_true] at hcs
    subst hcs
    exact ⟨none, 0, 0, [], rfl, rfl, by omega, CellsAt.nil_ _ _ _⟩
  · simp only [List.cons.injEq, and_true] at hcs
    subst hcs
    have hz : len ≤ zs.length := by rw [hzs]; simp; omega
    refine ⟨some a, len, cap, zs.take len, rfl, by rw [List.length_take]; omega, by first | omega | (unfold maxLen at *; omega), fun h0 => ?_⟩
    rw [csI_len, List.length_take] at h0
    obtain ⟨b, off, spot⟩ := a
    have hc0 := hcell 0 (by omega)
    have hspot : spot = none := by simpa [Addr.add] using World.cell?_spot hc0
    subst hspot
    refine ⟨b, off, rfl, ?_, fun j hj => ?_⟩
    · have := World.block_lt_of_cell? _ _ hc0
      simpa [Addr.add] using this
    · rw [csI_len, List.length_take] at hj
      have hc := hcell j (by omega)
      rw [Go.WideShapes.add_plain] at hc
      rw [hc, csI_at, List.getElem_take, List.getD_eq_getElem?_getD, List.getElem?_eq_getElem (by omega)]
      rfl

-- (open_half left out)

end Go.Proofs.Ytjmooakjdcepcaa

set_option linter.unusedSimpArgs false
set_option linter.unusedVariables false
namespace Go.Proofs.Ytjmooakjdcepcaa
open Go.RowKit

theorem tw_len {p : Int → Bool} : ∀ {D : List Int} {a : Nat}, a ≤ D.length → (∀ i (h : i < D.length), i < a → p D[i] = true) → (∀ h : a < D.length, p D[a] = false) → (D.takeWhile p).length = a
  | [], a, ha, _, _ => by simp at ha; simp [ha]
  | d :: D, 0, _, _, h2 => by
    have := h2 (by simp)
    simp at this
    simp [this]
  | d :: D, a + 1, ha, h1, h2 => by
    have h0 := h1 0 (by simp) (by omega)
    simp only [List.getElem_cons_zero] at h0
    have ih := tw_len (p := p) (D := D) (a := a) (by simpa using ha) (fun i h hi => by have := h1 (i + 1) (by simp; omega) (by omega); rwa [List.getElem_cons_succ] at this) (fun h => by have := h2 (by simp; omega); rwa [List.getElem_cons_succ] at this)
    rw [List.takeWhile_cons_of_pos h0]
    simp [ih]
/-- The first k of how far all are, up to the radius. -/
def halfK (f : Int → Int) (k : Nat) : List Int := (List.range k).map fun (j : Nat) => f (j : Int)
theorem halfK_len (f : Int → Int) (k : Nat) : (halfK f k).length = k := by simp [halfK]
theorem halfK_at {f : Int → Int} {k j : Nat} (h : j < (halfK f k).length) : (halfK f k)[j] = f (j : Int) := by simp [halfK]
theorem halfK_succ (f : Int → Int) (k : Nat) : halfK f (k + 1) = halfK f k ++ [f (k : Int)] := by simp [halfK, List.range_succ]
theorem doneK_len (f : Int → Int) : ∀ k : Nat, (doneK f k).length ≤ k
  | 0 => by simp [doneK]
  | k + 1 => by
    unfold doneK
    have ih := doneK_len f k
    split
    · omega
    · rw [insF_eq]
      have := List.takeWhile_append_dropWhile (p := fun u => decide (f u ≤ f (k : Int))) (l := doneK f k)
      have h2 := congrArg List.length this
      simp only [List.length_append] at h2
      simp only [List.length_append, List.length_cons]
      omega

/-- What is put together, in the box ob. -/
structure HS (W : World) (ob : Nat) (r : Int) (P D : List Int) (A0 : Option Addr) (c0 : Nat) (A1 : Option Addr) (c1 : Nat) (wr : World) : Prop where
  d : wr.cell? ⟨ob, 0, none⟩ = some (.slice A0 P.length c0)
  n : wr.cell? ⟨ob, 1, none⟩ = some (.slice A1 D.length c1)
  rad : wr.cell? ⟨ob, 2, none⟩ = some (.int .i64 r)
  f0 : wr.frozen? ⟨ob, 0, none⟩ = false
  f1 : wr.frozen? ⟨ob, 1, none⟩ = false
  own0 : OwnN wr (ob + 1) (.slice A0 P.length c0) P
  own1 : OwnN wr (ob + 1) (.slice A1 D.length c1) D
  ne : ∀ g, blockOf A0 = some g → blockOf A1 ≠ some g
  bl : Bl W wr
  at_ : ob = W.heap.size
section
variable {W wr w5 : World} {ob : Nat} {r x : Int} {P D D' : List Int} {A0 A1 : Option Addr} {c0 c1 : Nat}
theorem HS.bl_ (h : HS W ob r P D A0 c0 A1 c1 wr) (b : Bl wr w5) : HS W ob r P D A0 c0 A1 c1 w5 := by
  have hl := World.block_lt_of_cell? _ _ h.d
  obtain ⟨e1, e2⟩ := bcell b
  simp only at hl
  exact ⟨(e1 _ _ hl).trans h.d, (e1 _ _ hl).trans h.n, (e1 _ _ hl).trans h.rad, (e2 _ _ hl).trans h.f0, (e2 _ _ hl).trans h.f1, h.own0.bl b, h.own1.bl b, h.ne, h.bl.trans_ b, h.at_⟩
theorem HS.mid (h : HS W ob r P D A0 c0 A1 c1 wr) (hg : wr.grownBy w5 (blockOf A0)) : w5.cell? ⟨ob, 0, none⟩ = some (.slice A0 P.length c0) ∧ w5.cell? ⟨ob, 1, none⟩ = some (.slice A1 D.length c1) ∧ w5.cell? ⟨ob, 2, none⟩ = some (.int .i64 r) ∧ w5.frozen? ⟨ob, 0, none⟩ = false ∧ w5.frozen? ⟨ob, 1, none⟩ = false ∧ OwnN w5 (ob + 1) (.slice A1 D.length c1) D ∧ Bl W w5 := by
  have hl := World.block_lt_of_cell? _ _ h.d
  simp only at hl
  have hne : some ob ≠ blockOf A0 := fun e => by
    have := (Owns.lt_ h.own0 ob e.symm).1
    omega
  have hb := hg.block ob hl hne
  exact ⟨(World.cell?_of_block (a := ⟨ob, 0, none⟩) hb).trans h.d, (World.cell?_of_block (a := ⟨ob, 1, none⟩) hb).trans h.n, (World.cell?_of_block (a := ⟨ob, 2, none⟩) hb).trans h.rad, (World.frozen?_of_block (a := ⟨ob, 0, none⟩) hb).trans h.f0, (World.frozen?_of_block (a := ⟨ob, 1, none⟩) hb).trans h.f1,
    Owns.grown_ h.own1 hg (fun g e1 e2 => h.ne g e2.symm (by rw [ownBlock_slice] at e1; exact e1)), h.bl.grown_ hg (fun g e => by
      have := (Owns.lt_ h.own0 g e).1
      have := h.at_
      omega)⟩
theorem HS.app0 (h : HS W ob r P D A0 c0 A1 c1 wr) (hg : wr.grownBy w5 (blockOf A0)) {A' : Option Addr} {c' l : Nat} (hl : l = (P ++ [x]).length) (ho : OwnN w5 (ob + 1) (.slice A' l c') (P ++ [x])) (hw : blockOf A' = blockOf A0 ∨ blockOf A' = some wr.heap.size) :
    HS W ob r (P ++ [x]) D A' c' A1 c1 (w5.setCell ⟨ob, 0, none⟩ (.slice A' l c')) := by
  subst hl
  obtain ⟨m0, m1, m2, m3, m4, m5, m6⟩ := h.mid hg
  have hlt : ∀ g, blockOf A' = some g → ob < g := fun g e => by have := (Owns.lt_ ho g e).1; omega
  have hlt1 : ∀ g, blockOf A1 = some g → ob < g ∧ g < wr.heap.size := fun g e => by have := Owns.lt_ h.own1 g e; omega
  refine ⟨World.cell?_setCell_same' _ _ _ (by rw [m0]; rfl), ?_, ?_, by rw [World.frozen?_setCell]; exact m3, by rw [World.frozen?_setCell]; exact m4, Owns.setOther ho (fun g e => ?_) _, Owns.setOther m5 (fun g e => ?_) _, fun g e1 e2 => ?_, m6.set_ (by have := h.at_; simp; omega) _, h.at_⟩
  · rw [World.cell?_setCell_other _ _ _ _ (by simp)]; exact m1
  · rw [World.cell?_setCell_other _ _ _ _ (by simp)]; exact m2
  · rw [ownBlock_slice] at e
    have := hlt g e
    show g ≠ ob
    omega
  · rw [ownBlock_slice] at e
    have := (hlt1 g e).1
    show g ≠ ob
    omega
  · rcases hw with hw | hw
    · exact h.ne g (hw.symm.trans e1) e2
    · have e3 := hw.symm.trans e1
      injection e3 with e3
      have := (hlt1 g e2).2
      omega
theorem HS.put1 (h : HS W ob r P D A0 c0 A1 c1 wr) (b : Bl wr w5) {A' : Option Addr} {c' l : Nat} (hl : l = D'.length) (ho : OwnN w5 wr.heap.size (.slice A' l c') D') :
    HS W ob r P D' A0 c0 A' c' (w5.setCell ⟨ob, 1, none⟩ (.slice A' l c')) := by
  subst hl
  obtain ⟨m0, m1, m2, m3, m4, m5, m6, m7, m8, m9⟩ := h.bl_ b
  have hob := World.block_lt_of_cell? _ _ h.d
  simp only at hob
  have hlt : ∀ g, blockOf A' = some g → wr.heap.size ≤ g := fun g e => (Owns.lt_ ho g e).1
  have hlt0 : ∀ g, blockOf A0 = some g → ob < g ∧ g < wr.heap.size := fun g e => by have := Owns.lt_ h.own0 g e; omega
  refine ⟨?_, World.cell?_setCell_same' _ _ _ (by rw [m1]; rfl), ?_, by rw [World.frozen?_setCell]; exact m3, by rw [World.frozen?_setCell]; exact m4, Owns.setOther m5 (fun g e => ?_) _, Owns.setOther (OwnN.low ho (by omega)) (fun g e => ?_) _, fun g e1 e2 => ?_, m8.set_ (by have := h.at_; simp; omega) _, h.at_⟩
  · rw [World.cell?_setCell_other _ _ _ _ (by simp)]; exact m0
  · rw [World.cell?_setCell_other _ _ _ _ (by simp)]; exact m2
  · rw [ownBlock_slice] at e
    have := (hlt0 g e).1
    show g ≠ ob
    omega
  · rw [ownBlock_slice] at e
    have := hlt g e
    show g ≠ ob
    omega
  · have := hlt g e2
    have := (hlt0 g e1).2
    omega
end

theorem reads_take {w : World} {B a : Nat} {A : Option Addr} {D : List Int} (h : IntsAt w B A D) (ha : a ≤ D.length) : Reads w B 1 A a (csI (D.take a)) := by
  refine ⟨by rw [csI_len, List.length_take]; omega, fun hp => ?_⟩
  obtain ⟨g, o, rfl, hg, hc⟩ := h.cell (by omega)
  refine ⟨_, rfl, hg, fun j u hj => ?_⟩
  have hj1 : j < (D.take a).length := by rw [← csI_len]; exact (List.getElem?_eq_some_iff.1 hj).1
  rw [List.getElem?_eq_getElem (by rw [csI_len]; exact hj1), csI_at] at hj
  injection hj with hj
  subst hj
  rw [List.length_take] at hj1
  have := hc j (by omega)
  rw [Addr.add_lit]
  simpa using this
theorem reads_drop {w : World} {B a m : Nat} {A A' : Option Addr} {D : List Int} (h : IntsAt w B A D) (hm : m = D.length - a) (hA : a < D.length → A' = A.map (·.add a)) : Reads w B 1 A' m (csI (D.drop a)) := by
  subst hm
  refine ⟨by rw [csI_len, List.length_drop]; omega, fun hp => ?_⟩
  rw [hA (by omega)]
  obtain ⟨g, o, rfl, hg, hc⟩ := h.cell (by omega)
  refine ⟨⟨g, o + a, none⟩, by show some ((⟨g, o, none⟩ : Addr).add a) = _; rw [Addr.add_lit], hg, fun j u hj => ?_⟩
  have hj1 : j < (D.drop a).length := by rw [← csI_len]; exact (List.getElem?_eq_some_iff.1 hj).1
  rw [List.getElem?_eq_getElem (by rw [csI_len]; exact hj1), csI_at] at hj
  injection hj with hj
  subst hj
  rw [List.length_drop] at hj1
  have := hc (a + j) (by omega)
  rw [Addr.add_lit, Nat.add_assoc]
  simpa using this
theorem halfK_all {q : Nat} {L : List Arc3} {s r : Int} (hl : (distL q L s).length = q) : halfK (halfF q L s r) q = halfD q L s r := by
  unfold halfD
  refine List.ext_getElem (by simp [halfK_len, hl]) fun i h1 h2 => ?_
  rw [halfK_at, List.getElem_map]
  unfold halfF
  rw [dAt_at (by rw [halfK_len] at h1; omega)]

/-- A half is left. -/
def HalfLeft (D M : List Int) (r : Int) (w : World) (e : Ending) (w' : World) : Prop :=
  ∃ A c A' c', e = .returned (.agg #[.slice A D.length c, .slice A' M.length c', .int .i64 r]) ∧ OwnN w' w.heap.size (.slice A D.length c) D ∧ OwnN w' w.heap.size (.slice A' M.length c') M ∧ (∀ g, blockOf A = some g → blockOf A' ≠ some g) ∧ Bl w w'

set_option maxRecDepth 100000 in
set_option maxHeartbeats 4000000 in
theorem l4Half_any (q : Nat) (s r : Int) (A : Option Addr) (n c : Nat) (L : List Arc3) (hn : n = L.length) (ho : okB (q : Int) L = true) (h0 : 0 ≤ s) (h1 : s < q) (hr : 0 ≤ r) (w : World) (hm : n ≤ 1048576) (H1 : ArcsAt w w.heap.size A L) :
    Calls Try.prog 59 #[.agg #[.int .i64 (q : Int), .slice A n c], .int .i64 s, .int .i64 r] w (HalfLeft (halfD q L s r) (halfN q L s r) r w) := by
  obtain ⟨i0, hi, hz0, hz1, hz2⟩ := info_parts infoInt
  have I0 := Lib.hid hi
  have I1 := Lib.hid hz0
  have I2 := Lib.hid hz1
  have I3 := Lib.hid hz2
  have K1 := Lib.hid H1
  have HN := Lib.hid hn
  have HO := Lib.hid ho
  have hN24 := (okB_elim ho).2.1
  have hdl : (distL q L s).length = q := by rw [distL_len ho h0 h1]; simp
  have HF := Lib.hid (show ∀ j (hj : j < (distL q L s).length), halfF q L s r (j : Int) = cutD r (distL q L s)[j] from fun j hj => by unfold halfF; rw [dAt_at hj])
  have HA := Lib.hid (halfK_all (r := r) hdl)
  have HM := Lib.hid (show doneK (halfF q L s r) q = halfN q L s r from by unfold halfN; simp)
  have HDI := Lib.hid (fun (k : Nat) (x : Int) => mem_doneK (halfF q L s r) x k)
  have HLO := Lib.hid (fun j => (distL_is (s := s) (arcsIn_of_ok ho) hN24 h0 h1).low j)
  clear H1 hn ho hi hz0 hz1 hz2
  go_enter Try.func59, Try.ntmps59
  go_wp2_with fail
  refine (l3Dist_any q s A n c L HN.out HO.out h0 h1 _ hm (K1.out.bl (by repeat' (first | exact Bl.refl _ | with_reducible assumption | with_reducible refine Bl.drew_ ?_ | with_reducible refine Bl.drewN_ ?_ _ | with_reducible refine Bl.alloc_ ?_ _ | with_reducible refine Bl.trans_ ?_ (by assumption) | with_reducible refine Bl.trans_ ?_ (And.left (by assumption)))))).mono ?_
  rintro e w4 ⟨v4, rfl, hv4, hb4⟩
  obtain ⟨A4, c4, rfl, -, hi4, -, -⟩ := OwnN.shape hv4
  rw [hdl]
  have J4 := Lib.hid hi4
  have DL := Lib.hid hdl
  have BW := Lib.hid (show Bl w w4 from ((Bl.alloc_ (Bl.refl w) _).alloc_ _).trans_ hb4)
  have BX := Lib.hid (show ∀ wx, Bl w4 wx → (wx.cell? ⟨w.heap.size, 0, none⟩ = some (.int .i64 (q : Int)) ∧ wx.cell? ⟨w.heap.size, 1, none⟩ = some (.slice A n c)) ∧ (wx.cell? ⟨w.heap.size + 1, 0, none⟩ = some (.slice none 0 0) ∧ wx.cell? ⟨w.heap.size + 1, 1, none⟩ = some (.slice none 0 0) ∧ wx.cell? ⟨w.heap.size + 1, 2, none⟩ = some (.int .i64 0)) ∧ wx.frozen? ⟨w.heap.size + 1, 0, none⟩ = false ∧ wx.frozen? ⟨w.heap.size + 1, 1, none⟩ = false ∧ wx.frozen? ⟨w.heap.size + 1, 2, none⟩ = false from fun wx hb => by
    obtain ⟨e1, e2⟩ := bcell (hb4.trans_ hb)
    refine ⟨⟨?_, ?_⟩, ⟨?_, ?_, ?_⟩, ?_, ?_, ?_⟩
    · rw [e1 _ _ (by simp; omega)]; simp [go_sem]
    · rw [e1 _ _ (by simp; omega)]; simp [go_sem]
    · rw [e1 _ _ (by simp)]; simp [go_sem]
    · rw [e1 _ _ (by simp)]; simp [go_sem]
    · rw [e1 _ _ (by simp)]; simp [go_sem]
    · rw [e2 _ _ (by simp)]; simp [go_sem]
    · rw [e2 _ _ (by simp)]; simp [go_sem]
    · rw [e2 _ _ (by simp)]; simp [go_sem])
  have sw4 : w.heap.size + 1 < w4.heap.size := by have := hb4.size; simp at this; omega
  clear hv4 hi4 hb4 hdl
  obtain ⟨f, hf⟩ : ∃ f, f = halfF q L s r := ⟨_, rfl⟩
  rw [← hf] at HF HA HM HDI
  clear hf
  generalize distL (q : Int) L s = dl at *
  have HS0 := Lib.hid (show HS w4 w4.heap.size r [] [] none 0 none 0 (w4.alloc (.cells #[.slice none 0 0, .slice none 0 0, .int .i64 r] 42)) from
    ⟨by simp [go_sem], by simp [go_sem], by simp [go_sem], by simp [go_sem], by simp [go_sem], OwnN.nil_ _ _, OwnN.nil_ _ _, fun g e => by simp [blockOf] at e, Bl.alloc_ (Bl.refl _) _, rfl⟩)
  go_wp2_with fail
  go_loopw [9] (fun i wr => ∃ (k : Nat) (A0 : Option Addr) (c0 : Nat) (A1 : Option Addr) (c1 : Nat), k ≤ q ∧ i = .int .i64 k ∧ HS w4 w4.heap.size r (halfK f k) (doneK f k) A0 c0 A1 c1 wr) (fun i _ => q - (intOf i).toNat)
  case atStart => exact ⟨0, none, 0, none, 0, by omega, rfl, HS0.out⟩
  case round =>
    obtain ⟨k, A0, c0, A1, c1, hk, rfl, hh⟩ := hrel
    have HH := Lib.hid hh
    obtain ⟨x0, x1, x2, x3, x4, xo, -, -, xb, -⟩ := hh
    obtain ⟨⟨q0, q1⟩, -⟩ := BX.out _ xb
    rw [halfK_len] at x0 xo
    have OW0 := Lib.hid (show wr.ownsRow (w4.heap.size + 1) 2 1 (.slice A0 k c0) k (csI (halfK f k)) from by have h : Owns 2 1 wr (w4.heap.size + 1) (.slice A0 k c0) (halfK f k).length (csI (halfK f k)) := xo; rw [halfK_len] at h; exact h)
    have hdk := doneK_len f k
    obtain ⟨l1, hl1⟩ : ∃ l1, l1 = (doneK f k).length := ⟨_, rfl⟩
    rw [← hl1] at x1 hdk
    have HL1 := Lib.hid hl1
    have xs := xb.size
    clear xo HS0
    by_cases hlt : k < q
    · have hkl : k < dl.length := by have := DL.out; omega
      have hk0 : (0 : Int) ≤ (k : Int) := by omega
      have hk1 : (k : Int) < (q : Int) := by omega
      obtain ⟨g4, o4, rfl, hg4, hc4⟩ := J4.out.cell (by omega)
      have p4 := ((bcell xb).1 _ _ hg4).trans (hc4 k hkl)
      have FK := Lib.hid (HF.out k hkl)
      have LOW := HLO.out (k : Int)
      rw [dAt_at hkl] at LOW
      clear hc4
      obtain ⟨dk, hdk9⟩ : ∃ dk, dk = dl[k] := ⟨_, rfl⟩
      rw [← hdk9] at p4 FK LOW
      clear hdk9
      by_cases hrd : r < dk
      · have b1 : decide (r < dk) = true := by simpa using hrd
        have FN := Lib.hid (show f (k : Int) = -1 from by rw [FK.out]; unfold cutD; rw [if_pos hrd])
        go_wp2_with (at_builtin; refine wpList_append_any _ rfl (.tmp 32) (.tmp 34) _ rfl (w4.heap.size + 1) 2 i0 _ 1 8 Try.underlying32 I0.out I1.out I2.out I3.out rfl (by decide) _ k (csI (halfK f k)) rfl (World.ownsRow.alloc OW0.out _) (wr.heap.size + 1) (some ⟨wr.heap.size, 0, none⟩) 1 1 [.int .i64 (-1)] rfl ?c0 (by simp [Value.oneCell']) (by unfold maxLen; omega) (by omega) (by simp; omega) ?_)
        case c0 =>
          refine ⟨rfl, fun _ => ⟨_, rfl, by show wr.heap.size < wr.heap.size + 1; omega, fun y u hj => ?_⟩⟩
          match y, hj with
          | 0, hj => simp at hj; subst hj; simp [Addr.add, go_sem]
          | (y + 1), hj => simp at hj
        intro v' w5 hown' hgrow hwh
        have O5 := Lib.hid (OwnN.snoc (V := halfK f k) (x := (-1)) (n := k) (halfK_len f k).symm hown')
        have HA5 := Lib.hid (HH.out.bl_ (show Bl wr (wr.alloc (.cells #[.int .i64 (-1)] 2)) from Bl.alloc_ (Bl.refl _) _))
        rw [ownBlock_slice] at hgrow hwh
        obtain ⟨A', c', hv', -⟩ := OwnN.shape O5.out
        obtain ⟨l', hl'⟩ : ∃ l', l' = (halfK f k ++ [(-1)]).length := ⟨_, rfl⟩
        rw [← hl'] at hv'
        subst hv'
        rw [ownBlock_slice] at hwh
        have H6 := Lib.hid (HA5.out.app0 hgrow hl' O5.out (by simpa using hwh))
        obtain ⟨m0, m1, m2, m3, m4, -, m6⟩ := HA5.out.mid hgrow
        rw [halfK_len] at m0
        rw [← hl1] at m1
        have hlk : l' = k + 1 := by rw [hl']; simp [halfK_len]
        clear hown' hgrow hwh hl'
        subst hlk
        go_wp2
        go_roundw
        case rel => exact ⟨k + 1, A', c', A1, c1, by omega, by go_num, by
          rw [halfK_succ, FN.out, show doneK f (k + 1) = doneK f k from if_pos (by rw [FN.out]; omega)]
          exact H6.out⟩
        case measure => simp [intOf]; omega
      · have b1 : decide (r < dk) = false := by simpa using hrd
        have FN := Lib.hid (show f (k : Int) = dk from by rw [FK.out]; unfold cutD; rw [if_neg hrd])
        by_cases hneg : dk < 0
        · have b2 : decide (dk < 0) = true := by simpa using hneg
          go_wp2_with (at_builtin; refine wpList_append_any _ rfl (.tmp 32) (.tmp 34) _ rfl (w4.heap.size + 1) 2 i0 _ 1 8 Try.underlying32 I0.out I1.out I2.out I3.out rfl (by decide) _ k (csI (halfK f k)) rfl (World.ownsRow.alloc OW0.out _) (wr.heap.size + 1) (some ⟨wr.heap.size, 0, none⟩) 1 1 [.int .i64 dk] rfl ?c0 (by simp [Value.oneCell']) (by unfold maxLen; omega) (by omega) (by simp; omega) ?_)
          case c0 =>
            refine ⟨rfl, fun _ => ⟨_, rfl, by show wr.heap.size < wr.heap.size + 1; omega, fun y u hj => ?_⟩⟩
            match y, hj with
            | 0, hj => simp at hj; subst hj; simp [Addr.add, go_sem]
            | (y + 1), hj => simp at hj
          intro v' w5 hown' hgrow hwh
          have O5 := Lib.hid (OwnN.snoc (V := halfK f k) (x := dk) (n := k) (halfK_len f k).symm hown')
          have HA5 := Lib.hid (HH.out.bl_ (show Bl wr (wr.alloc (.cells #[.int .i64 dk] 2)) from Bl.alloc_ (Bl.refl _) _))
          rw [ownBlock_slice] at hgrow hwh
          obtain ⟨A', c', hv', -⟩ := OwnN.shape O5.out
          obtain ⟨l', hl'⟩ : ∃ l', l' = (halfK f k ++ [dk]).length := ⟨_, rfl⟩
          rw [← hl'] at hv'
          subst hv'
          rw [ownBlock_slice] at hwh
          have H6 := Lib.hid (HA5.out.app0 hgrow hl' O5.out (by simpa using hwh))
          obtain ⟨m0, m1, m2, m3, m4, -, m6⟩ := HA5.out.mid hgrow
          rw [halfK_len] at m0
          rw [← hl1] at m1
          have hlk : l' = k + 1 := by rw [hl']; simp [halfK_len]
          clear hown' hgrow hwh hl'
          subst hlk
          go_wp2
          go_roundw
          case rel => exact ⟨k + 1, A', c', A1, c1, by omega, by go_num, by
            rw [halfK_succ, FN.out, show doneK f (k + 1) = doneK f k from if_pos (by rw [FN.out]; omega)]
            exact H6.out⟩
          case measure => simp [intOf]; omega
        · have b2 : decide (dk < 0) = false := by simpa using hneg
          go_wp2_with (at_builtin; refine wpList_append_any _ rfl (.tmp 32) (.tmp 34) _ rfl (w4.heap.size + 1) 2 i0 _ 1 8 Try.underlying32 I0.out I1.out I2.out I3.out rfl (by decide) _ k (csI (halfK f k)) rfl (World.ownsRow.alloc OW0.out _) (wr.heap.size + 1) (some ⟨wr.heap.size, 0, none⟩) 1 1 [.int .i64 dk] rfl ?c0 (by simp [Value.oneCell']) (by unfold maxLen; omega) (by omega) (by simp; omega) ?_)
          case c0 =>
            refine ⟨rfl, fun _ => ⟨_, rfl, by show wr.heap.size < wr.heap.size + 1; omega, fun y u hj => ?_⟩⟩
            match y, hj with
            | 0, hj => simp at hj; subst hj; simp [Addr.add, go_sem]
            | (y + 1), hj => simp at hj
          intro v' w5 hown' hgrow hwh
          have O5 := Lib.hid (OwnN.snoc (V := halfK f k) (x := dk) (n := k) (halfK_len f k).symm hown')
          have HA5 := Lib.hid (HH.out.bl_ (show Bl wr (wr.alloc (.cells #[.int .i64 dk] 2)) from Bl.alloc_ (Bl.refl _) _))
          rw [ownBlock_slice] at hgrow hwh
          obtain ⟨A', c', hv', -⟩ := OwnN.shape O5.out
          obtain ⟨l', hl'⟩ : ∃ l', l' = (halfK f k ++ [dk]).length := ⟨_, rfl⟩
          rw [← hl'] at hv'
          subst hv'
          rw [ownBlock_slice] at hwh
          have H6 := Lib.hid (HA5.out.app0 hgrow hl' O5.out (by simpa using hwh))
          obtain ⟨m0, m1, m2, m3, m4, -, m6⟩ := HA5.out.mid hgrow
          rw [halfK_len] at m0
          rw [← hl1] at m1
          have hlk : l' = k + 1 := by rw [hl']; simp [halfK_len]
          clear hown' hgrow hwh hl'
          subst hlk
          go_wp2_with fail
          obtain ⟨w6, hw6⟩ : ∃ w6, w6 = w5.setCell ⟨w4.heap.size, 0, none⟩ (.slice A' (k + 1) c') := ⟨_, rfl⟩
          rw [← hw6] at H6 ⊢
          clear hw6 m0 m1 m2 m3 m4 m6
          obtain ⟨y0, y1, -, -, -, yo0, yo1, -, -, -⟩ := H6.out
          rw [← hl1] at y1 yo1
          have J1 := Lib.hid (show IntsAt w6 w6.heap.size A1 (doneK f k) from by
            obtain ⟨Ax, cx, hx, -, yi, -, -⟩ := OwnN.shape yo1
            injection hx with e1 e2 e3
            subst e1
            exact yi)
          have HC1 := Lib.hid (show l1 ≤ c1 from by
            obtain ⟨Ax, cx, hx, hcx, -, -, -⟩ := OwnN.shape yo1
            injection hx with e1 e2 e3
            omega)
          rw [show halfK f k ++ [dk] = halfK f (k + 1) from by rw [halfK_succ, FN.out]] at H6 yo0
          have J0 := Lib.hid (show IntsAt w6 w6.heap.size A' (halfK f (k + 1)) from by
            obtain ⟨Ax, cx, hx, -, yi, -, -⟩ := OwnN.shape yo0
            injection hx with e1 e2 e3
            subst e1
            exact yi)
          rw [show (halfK f k ++ [dk]).length = k + 1 from by simp [halfK_len]] at y0
          clear yo0 yo1
          go_loopw [11] (fun i wz => ∃ a : Nat, a ≤ l1 ∧ i = .int .i64 a ∧ Hid (∀ i (h : i < (doneK f k).length), i < a → f (doneK f k)[i] ≤ dk) ∧ Bl w6 wz) (fun i _ => l1 - (intOf i).toNat)
          case atStart => exact ⟨0, by omega, rfl, Lib.hid (fun i _ h => absurd h (by omega)), Bl.refl _⟩
          case round =>
            obtain ⟨a, hal, rfl, hle, hbz⟩ := hrel
            have BZ := Lib.hid hbz
            have LE9 := Lib.hid hle.out
            clear hle hbz
            by_cases hlt2 : a < l1
            · have hal2 : a < (doneK f k).length := by omega
              obtain ⟨u, hu9⟩ : ∃ u, u = (doneK f k)[a] := ⟨_, rfl⟩
              have HU := Lib.hid hu9
              have hu := (HDI.out k u).1 (by rw [hu9]; exact List.getElem_mem hal2)
              obtain ⟨⟨hu0, hu1⟩, hu2⟩ := hu
              obtain ⟨un, rfl⟩ : ∃ un : Nat, u = un := ⟨u.toNat, by omega⟩
              clear hu9
              obtain ⟨g1, o1, rfl, hg1, hc1⟩ := J1.out.cell (by omega)
              obtain ⟨g0, o0, rfl, hg0, hc0⟩ := J0.out.cell (by rw [halfK_len]; omega)
              have p1 := hc1 a hal2
              rw [← HU.out] at p1
              have p0 := hc0 un (by rw [halfK_len]; omega)
              rw [halfK_at] at p0
              clear hc1 hc0
              have hu3 : (un : Int) < ((k + 1 : Nat) : Int) := by omega
              have hu4 : (un : Int) < (k : Int) + 1 := by omega
              have ha0 : (0 : Int) ≤ (a : Int) := by omega
              have ha1 : (a : Int) < (l1 : Int) := by omega
              have hy := World.block_lt_of_cell? _ _ y0
              simp only at hy
              have HSH := Lib.hid (show ∀ wx, Bl wr wx → Bl wr wx ∧ wx.cell? ⟨w4.heap.size, 0, none⟩ = some (.slice (some ⟨g0, o0, none⟩) (k + 1) c') ∧ wx.cell? ⟨w4.heap.size, 1, none⟩ = some (.slice (some ⟨g1, o1, none⟩) l1 c1) ∧ wx.cell? ⟨g1, o1 + a, none⟩ = some (.int .i64 (un : Int)) ∧ wx.cell? ⟨g0, o0 + un, none⟩ = some (.int .i64 (f (un : Int))) from fun wx hb => by
                have h := (bcell (BZ.out.trans_ hb)).1
                exact ⟨hb, (h _ _ hy).trans y0, (h _ _ hy).trans y1, (h _ _ hg1).trans p1, (h _ _ hg0).trans p0⟩)
              clear p0 p1
              have FU := Lib.hid (show f (un : Int) = f (doneK f k)[a] from by rw [← HU.out])
              generalize f (un : Int) = x at *
              go_wp2_with fail
              refine wp_region_held_drew (S := fun wx => Bl wr wx ∧ wx.cell? ⟨w4.heap.size, 0, none⟩ = some (.slice (some ⟨g0, o0, none⟩) (k + 1) c') ∧ wx.cell? ⟨w4.heap.size, 1, none⟩ = some (.slice (some ⟨g1, o1, none⟩) l1 c1) ∧ wx.cell? ⟨g1, o1 + a, none⟩ = some (.int .i64 (un : Int)) ∧ wx.cell? ⟨g0, o0 + un, none⟩ = some (.int .i64 x)) (by kernel_rfl) ?_ (fun hHeld => ?_)
              · (exact HSH.out _ (by repeat' (first | exact Bl.refl _ | with_reducible assumption | with_reducible refine Bl.drew_ ?_ | with_reducible refine Bl.drewN_ ?_ _ | with_reducible refine Bl.alloc_ ?_ _ | with_reducible refine Bl.trans_ ?_ (by assumption) | with_reducible refine Bl.trans_ ?_ (And.left (by assumption)))))
              refine wpAnyH_take (i := 0) (v := ?_) rfl (by kernel_rfl) (by kernel_rfl) (by kernel_rfl) (fun _ _ _ h => h) (Or.inl ⟨by kernel_rfl, ?_⟩) (by assumption) ?_
              rotate_left
              · (intro wx hSw; (try dsimp only at hSw); go_simp; try (with_reducible rfl))
              try simp only [Act.put, List.getElem_toArray, List.getElem_cons_succ, List.getElem_cons_zero, List.setIfInBounds_toArray, List.set_cons_zero, List.set_cons_succ]
              refine wpAnyH_take (i := 1) (v := ?_) rfl (by kernel_rfl) (by kernel_rfl) (by kernel_rfl) (fun _ _ _ h => h) (Or.inl ⟨by kernel_rfl, ?_⟩) (by assumption) ?_
              rotate_left
              · (intro wx hSw; (try dsimp only at hSw); go_simp; try (with_reducible rfl))
              try simp only [Act.put, List.getElem_toArray, List.getElem_cons_succ, List.getElem_cons_zero, List.setIfInBounds_toArray, List.set_cons_zero, List.set_cons_succ]
              refine wpAnyH_take (i := 2) (v := ?_) rfl (by kernel_rfl) (by kernel_rfl) (by kernel_rfl) (fun _ _ _ h => h) (Or.inl ⟨by kernel_rfl, ?_⟩) (by assumption) ?_
              rotate_left
              · (intro wx hSw; (try dsimp only at hSw); go_simp; try (with_reducible rfl))
              try simp only [Act.put, List.getElem_toArray, List.getElem_cons_succ, List.getElem_cons_zero, List.setIfInBounds_toArray, List.set_cons_zero, List.set_cons_succ]
              refine wpAnyH_ready (rs := [3]) (by kernel_rfl) (by simp) ?_
              refine AllReadyH.cons rfl (fun K hK => ?_) AllReadyH.nil
              go_simp
              refine hK.out _ _ ?_ (fun hHeld => ?_)
              · (exact HSH.out _ (by repeat' (first | exact Bl.refl _ | with_reducible assumption | with_reducible refine Bl.drew_ ?_ | with_reducible refine Bl.drewN_ ?_ _ | with_reducible refine Bl.alloc_ ?_ _ | with_reducible refine Bl.trans_ ?_ (by assumption) | with_reducible refine Bl.trans_ ?_ (And.left (by assumption)))))
              clear hK K
              try simp only [Act.put, List.getElem_toArray, List.getElem_cons_succ, List.getElem_cons_zero, List.setIfInBounds_toArray, List.set_cons_zero, List.set_cons_succ]
              refine wpAnyH_take (i := 4) (v := ?_) rfl (by kernel_rfl) (by kernel_rfl) (by kernel_rfl) (fun _ _ _ h => h) (Or.inl ⟨by kernel_rfl, ?_⟩) (by assumption) ?_
              rotate_left
              · (intro wx hSw; (try dsimp only at hSw); go_simp; try (with_reducible rfl))
              try simp only [Act.put, List.getElem_toArray, List.getElem_cons_succ, List.getElem_cons_zero, List.setIfInBounds_toArray, List.set_cons_zero, List.set_cons_succ]
              refine wpAnyH_take (i := 5) (v := ?_) rfl (by kernel_rfl) (by kernel_rfl) (by kernel_rfl) (fun _ _ _ h => h) (Or.inl ⟨by kernel_rfl, ?_⟩) (by assumption) ?_
              rotate_left
              · (intro wx hSw; (try dsimp only at hSw); go_simp; try (with_reducible rfl))
              try simp only [Act.put, List.getElem_toArray, List.getElem_cons_succ, List.getElem_cons_zero, List.setIfInBounds_toArray, List.set_cons_zero, List.set_cons_succ]
              refine wpAnyH_take (i := 6) (v := ?_) rfl (by kernel_rfl) (by kernel_rfl) (by kernel_rfl) (fun _ _ _ h => h) (Or.inl ⟨by kernel_rfl, ?_⟩) (by assumption) ?_
              rotate_left
              · (intro wx hSw; (try dsimp only at hSw); go_simp; try (with_reducible rfl))
              try simp only [Act.put, List.getElem_toArray, List.getElem_cons_succ, List.getElem_cons_zero, List.setIfInBounds_toArray, List.set_cons_zero, List.set_cons_succ]
              refine wpAnyH_take (i := 7) (v := ?_) rfl (by kernel_rfl) (by kernel_rfl) (by kernel_rfl) (fun _ _ _ h => h) (Or.inl ⟨by kernel_rfl, ?_⟩) (by assumption) ?_
              rotate_left
              · (intro wx hSw; (try dsimp only at hSw); go_simp; try (with_reducible rfl))
              try simp only [Act.put, List.getElem_toArray, List.getElem_cons_succ, List.getElem_cons_zero, List.setIfInBounds_toArray, List.set_cons_zero, List.set_cons_succ]
              refine wpAnyH_take (i := 8) (v := ?_) rfl (by kernel_rfl) (by kernel_rfl) (by kernel_rfl) (fun _ _ _ h => h) (Or.inl ⟨by kernel_rfl, ?_⟩) (by assumption) ?_
              rotate_left
              · (intro wx hSw; (try dsimp only at hSw); go_simp; try (with_reducible rfl))
              try simp only [Act.put, List.getElem_toArray, List.getElem_cons_succ, List.getElem_cons_zero, List.setIfInBounds_toArray, List.set_cons_zero, List.set_cons_succ]
              refine wpAnyH_take (i := 9) (v := ?_) rfl (by kernel_rfl) (by kernel_rfl) (by kernel_rfl) (fun _ _ _ h => h) (Or.inl ⟨by kernel_rfl, ?_⟩) (by assumption) ?_
              rotate_left
              · (intro wx hSw; (try dsimp only at hSw); go_simp; try (with_reducible rfl))
              try simp only [Act.put, List.getElem_toArray, List.getElem_cons_succ, List.getElem_cons_zero, List.setIfInBounds_toArray, List.set_cons_zero, List.set_cons_succ]
              refine wpAnyH_take (i := 10) (v := ?_) rfl (by kernel_rfl) (by kernel_rfl) (by kernel_rfl) (fun _ _ _ h => h) (Or.inl ⟨by kernel_rfl, ?_⟩) (by assumption) ?_
              rotate_left
              · (intro wx hSw; (try dsimp only at hSw); go_simp; try (with_reducible rfl))
              try simp only [Act.put, List.getElem_toArray, List.getElem_cons_succ, List.getElem_cons_zero, List.setIfInBounds_toArray, List.set_cons_zero, List.set_cons_succ]
              refine wpAnyH_take (i := 11) (v := ?_) rfl (by kernel_rfl) (by kernel_rfl) (by kernel_rfl) (fun _ _ _ h => h) (Or.inl ⟨by kernel_rfl, ?_⟩) (by assumption) ?_
              rotate_left
              · (intro wx hSw; (try dsimp only at hSw); go_simp; try (with_reducible rfl))
              try simp only [Act.put, List.getElem_toArray, List.getElem_cons_succ, List.getElem_cons_zero, List.setIfInBounds_toArray, List.set_cons_zero, List.set_cons_succ]
              refine wpAnyH_take (i := 12) (v := ?_) rfl (by kernel_rfl) (by kernel_rfl) (by kernel_rfl) (fun _ _ _ h => h) (Or.inl ⟨by kernel_rfl, ?_⟩) (by assumption) ?_
              rotate_left
              · (intro wx hSw; (try dsimp only at hSw); go_simp; try (with_reducible rfl))
              try simp only [Act.put, List.getElem_toArray, List.getElem_cons_succ, List.getElem_cons_zero, List.setIfInBounds_toArray, List.set_cons_zero, List.set_cons_succ]
              refine wpAnyH_take (i := 13) (v := ?_) rfl (by kernel_rfl) (by kernel_rfl) (by kernel_rfl) (fun _ _ _ h => h) (Or.inl ⟨by kernel_rfl, ?_⟩) (by assumption) ?_
              rotate_left
              · (intro wx hSw; (try dsimp only at hSw); go_simp; try (with_reducible rfl))
              try simp only [Act.put, List.getElem_toArray, List.getElem_cons_succ, List.getElem_cons_zero, List.setIfInBounds_toArray, List.set_cons_zero, List.set_cons_succ]
              refine wpAnyH_take (i := 14) (v := ?_) rfl (by kernel_rfl) (by kernel_rfl) (by kernel_rfl) (fun _ _ _ h => h) (Or.inl ⟨by kernel_rfl, ?_⟩) (by assumption) ?_
              rotate_left
              · (intro wx hSw; (try dsimp only at hSw); go_simp; try (with_reducible rfl))
              try simp only [Act.put, List.getElem_toArray, List.getElem_cons_succ, List.getElem_cons_zero, List.setIfInBounds_toArray, List.set_cons_zero, List.set_cons_succ]
              refine wpAnyH_take (i := 15) (v := ?_) rfl (by kernel_rfl) (by kernel_rfl) (by kernel_rfl) (fun _ _ _ h => h) (Or.inl ⟨by kernel_rfl, ?_⟩) (by assumption) ?_
              rotate_left
              · (intro wx hSw; (try dsimp only at hSw); go_simp; try (with_reducible rfl))
              try simp only [Act.put, List.getElem_toArray, List.getElem_cons_succ, List.getElem_cons_zero, List.setIfInBounds_toArray, List.set_cons_zero, List.set_cons_succ]
              refine wpAnyH_take (i := 16) (v := ?_) rfl (by kernel_rfl) (by kernel_rfl) (by kernel_rfl) (fun _ _ _ h => h) (Or.inl ⟨by kernel_rfl, ?_⟩) (by assumption) ?_
              rotate_left
              · (intro wx hSw; (try dsimp only at hSw); go_simp; try (with_reducible rfl))
              try simp only [Act.put, List.getElem_toArray, List.getElem_cons_succ, List.getElem_cons_zero, List.setIfInBounds_toArray, List.set_cons_zero, List.set_cons_succ]
              refine wpAnyH_take (i := 17) (v := ?_) rfl (by kernel_rfl) (by kernel_rfl) (by kernel_rfl) (fun _ _ _ h => h) (Or.inl ⟨by kernel_rfl, ?_⟩) (by assumption) ?_
              rotate_left
              · (intro wx hSw; (try dsimp only at hSw); go_simp; try (with_reducible rfl))
              try simp only [Act.put, List.getElem_toArray, List.getElem_cons_succ, List.getElem_cons_zero, List.setIfInBounds_toArray, List.set_cons_zero, List.set_cons_succ]
              refine wpAnyH_done (by kernel_rfl) ?_ _
              by_cases hx : x ≤ dk
              · have bx : decide (x ≤ dk) = true := by simpa using hx
                have LE2 := Lib.hid (show ∀ i (h : i < (doneK f k).length), i < a + 1 → f (doneK f k)[i] ≤ dk from fun i h hi => by
                  by_cases e : i = a
                  · subst e; rw [← FU.out]; exact hx
                  · exact LE9.out i h (by omega))
                go_wp2
                go_roundw
                case rel => exact ⟨a + 1, by omega, by go_num, Lib.hid LE2.out, BZ.out.trans_ (by repeat' (first | exact Bl.refl _ | with_reducible assumption | with_reducible refine Bl.drew_ ?_ | with_reducible refine Bl.drewN_ ?_ _ | with_reducible refine Bl.alloc_ ?_ _ | with_reducible refine Bl.trans_ ?_ (by assumption) | with_reducible refine Bl.trans_ ?_ (And.left (by assumption))))⟩
                case measure => simp [intOf]; omega
              · have bx : decide (x ≤ dk) = false := by simpa using hx
                have TW9 := Lib.hid (show ((doneK f k).takeWhile fun u => decide (f u ≤ f (k : Int))).length = a from tw_len (by omega) (fun i h hi => by rw [FN.out, decide_eq_true_eq]; exact LE9.out i h hi) (fun h => by rw [FN.out, decide_eq_false_iff_not, ← FU.out]; exact hx))
                obtain ⟨wz, hwz⟩ : ∃ wz, wz = wr.drew := ⟨_, rfl⟩
                have DB := Lib.hid (show Bl w6 wz from by rw [hwz]; exact BZ.out.drew_)
                rw [← hwz]
                clear hwz
                have AT := Lib.hid (show doneK f (k + 1) = (doneK f k).take a ++ (k : Int) :: (doneK f k).drop a from by
                  have e : doneK f (k + 1) = insF f (k : Int) (doneK f k) := if_neg (by rw [FN.out]; omega)
                  rw [e]
                  unfold insF
                  rw [TW9.out])
                have HZ := Lib.hid (H6.out.bl_ DB.out)
                obtain ⟨-, y1, -, -, -, -, yo, -, yb, -⟩ := HZ.out
                have YI := Lib.hid (show IntsAt wz wz.heap.size (some ⟨g1, o1, none⟩) (doneK f k) from by
                  obtain ⟨Ax, cx, hx, -, yi, -, -⟩ := OwnN.shape yo
                  injection hx with e1 e2 e3
                  subst e1
                  exact yi)
                have hcl : (doneK f k).length ≤ c1 := by have := HC1.out; have := HL1.out; omega
                have sz9 := World.block_lt_of_cell? _ _ y1
                simp only at sz9
                have hal9 : a ≤ (doneK f k).length := by have := HL1.out; omega
                have ha0 : (0 : Int) ≤ (a : Int) := by omega
                have hac : (a : Int) ≤ ((c1 : Nat) : Int) := by omega
                have hal : (a : Int) ≤ ((doneK f k).length : Int) := by omega
                have hlc : ((doneK f k).length : Int) ≤ ((c1 : Nat) : Int) := by omega
                clear yo
                have O90 := Lib.hid (show (wz.alloc (.cells #[] 2)).ownsRow wz.heap.size 2 1 (.slice (some ⟨wz.heap.size, 0, none⟩) 0 0) 0 [] from World.ownsRow_made (base := wz.heap.size) (e := 2) (size := 1) wz #[] 0 (Nat.le_refl _) (by unfold maxLen; omega) rfl)
                have hat := (show ((doneK f k).take a).length = a from by rw [List.length_take]; omega)
                have hkk : k ≤ 24 := by omega
                have hdk2 := doneK_len f k
                go_wp2_with (at_builtin; refine wpList_append_any _ rfl (.tmp 59) (.tmp 63) _ rfl wz.heap.size 2 i0 _ 1 8 Try.underlying32 I0.out I1.out I2.out I3.out rfl (by decide) _ 0 [] rfl O90.out wz.heap.size (some ⟨g1, o1, none⟩) a c1 (csI ((doneK f k).take a)) rfl ((reads_take YI.out hal9).alloc (Nat.le_refl _) _) (csI_one' _) (by unfold maxLen; omega) (by omega) (by simp) ?_)
                intro v7 w7 hown7 hgrow7 _
                have O7 := Lib.hid (show OwnN w7 wz.heap.size v7 ((doneK f k).take a) from by unfold OwnN Owns; rw [hat]; simpa using hown7)
                have B7 := Lib.hid (show Bl wz w7 from ((Bl.refl wz).alloc_ (.cells #[] 2)).grown_ hgrow7 (fun g hg => by simp [Value.ownBlock] at hg; omega))
                have s7 := B7.out.size
                clear hown7 hgrow7
                go_wp2_with (at_builtin; refine wpList_append_any _ rfl (.tmp 65) (.tmp 67) _ rfl wz.heap.size 2 i0 _ 1 8 Try.underlying32 I0.out I1.out I2.out I3.out rfl (by decide) _ ((doneK f k).take a).length (csI ((doneK f k).take a)) rfl (World.ownsRow.alloc O7.out _) (w7.heap.size + 1) (some ⟨w7.heap.size, 0, none⟩) 1 1 [.int .i64 (k : Int)] rfl ?c0 (by simp [Value.oneCell']) (by unfold maxLen; omega) (by omega) (by simp; omega) ?_)
                case c0 =>
                  refine ⟨rfl, fun _ => ⟨_, rfl, by show w7.heap.size < w7.heap.size + 1; omega, fun y u hj => ?_⟩⟩
                  match y, hj with
                  | 0, hj => simp at hj; subst hj; simp [Addr.add, go_sem]
                  | (y + 1), hj => simp at hj
                intro v8 w8 hown8 hgrow8 _
                have O8 := Lib.hid (OwnN.snoc (V := (doneK f k).take a) (x := (k : Int)) (n := a) hat.symm hown8)
                have B8 := Lib.hid (show Bl wz w8 from (B7.out.alloc_ (.cells #[.int .i64 (k : Int)] 2)).grown_ hgrow8 (fun g hg => (Owns.lt O7.out g hg).1))
                have s8 := B8.out.size
                have y1 := ((bcell B8.out).1 _ _ sz9).trans y1
                have YI8 := Lib.hid (YI.out.bl B8.out)
                have hl8 : ((doneK f k).take a ++ [(k : Int)]).length = a + 1 := by simp [hat]
                clear hown8 hgrow8
                go_wp2_with (at_builtin; refine wpList_append_any _ rfl (.tmp 69) (.tmp 73) _ rfl wz.heap.size 2 i0 _ 1 8 Try.underlying32 I0.out I1.out I2.out I3.out rfl (by decide) _ ((doneK f k).take a ++ [(k : Int)]).length (csI ((doneK f k).take a ++ [(k : Int)])) rfl O8.out w8.heap.size _ _ _ (csI ((doneK f k).drop a)) rfl (reads_drop YI8.out rfl (by first | exact fun h => absurd h (by have := HL1.out; omega) | exact fun _ => rfl | exact fun _ => by simp [Addr.add_lit])) (csI_one' _) (by unfold maxLen; rw [hl8]; omega) (by rw [hl8]; omega) (by omega) ?_)
                all_goals
                  intro v9 w9 hown9 hgrow9 _
                  have O9 := Lib.hid (show OwnN w9 wz.heap.size v9 (doneK f (k + 1)) from by
                    rw [AT.out]
                    unfold OwnN Owns
                    have e1 : ((doneK f k).take a ++ (k : Int) :: (doneK f k).drop a).length = ((doneK f k).take a ++ [(k : Int)]).length + ((doneK f k).length - a) := by simp; omega
                    have e2 : csI ((doneK f k).take a ++ (k : Int) :: (doneK f k).drop a) = csI ((doneK f k).take a ++ [(k : Int)]) ++ csI ((doneK f k).drop a) := by simp [csI]
                    rw [hl8] at e1
                    rw [e1, e2]
                    exact hown9)
                  have B9 := Lib.hid (show Bl wz w9 from B8.out.grown_ hgrow9 (fun g hg => (Owns.lt O8.out g hg).1))
                  clear hown9 hgrow9
                  obtain ⟨A9, c9, hv9, -⟩ := OwnN.shape O9.out
                  obtain ⟨l9, hl9⟩ : ∃ l9, l9 = (doneK f (k + 1)).length := ⟨_, rfl⟩
                  rw [← hl9] at hv9
                  subst hv9
                  have HX := Lib.hid (HZ.out.put1 B9.out hl9 O9.out)
                  obtain ⟨-, z1, -, -, z4, -, -, -, -, -⟩ := HZ.out.bl_ B9.out
                  clear hl9
                  go_wp2
                  go_roundw
                  case rel => exact ⟨k + 1, _, _, A9, c9, by omega, by go_num, HX.out⟩
                  case measure => simp [intOf]; omega
            · obtain rfl : a = l1 := by omega
              clear hl1
              have hy := World.block_lt_of_cell? _ _ y0
              simp only at hy
              have HSH := Lib.hid (show ∀ wx, Bl wr wx → Bl wr wx ∧ wx.cell? ⟨w4.heap.size, 0, none⟩ = some (.slice A' (k + 1) c') ∧ wx.cell? ⟨w4.heap.size, 1, none⟩ = some (.slice A1 a c1) from fun wx hb => by
                have h := (bcell (BZ.out.trans_ hb)).1
                exact ⟨hb, (h _ _ hy).trans y0, (h _ _ hy).trans y1⟩)
              go_wp2_with fail
              refine wp_region_held_drew (S := fun wx => Bl wr wx ∧ wx.cell? ⟨w4.heap.size, 0, none⟩ = some (.slice A' (k + 1) c') ∧ wx.cell? ⟨w4.heap.size, 1, none⟩ = some (.slice A1 a c1)) (by kernel_rfl) ?_ (fun hHeld => ?_)
              · (exact HSH.out _ (by repeat' (first | exact Bl.refl _ | with_reducible assumption | with_reducible refine Bl.drew_ ?_ | with_reducible refine Bl.drewN_ ?_ _ | with_reducible refine Bl.alloc_ ?_ _ | with_reducible refine Bl.trans_ ?_ (by assumption) | with_reducible refine Bl.trans_ ?_ (And.left (by assumption)))))
              refine wpAnyH_take (i := 0) (v := ?_) rfl (by kernel_rfl) (by kernel_rfl) (by kernel_rfl) (fun _ _ _ h => h) (Or.inl ⟨by kernel_rfl, ?_⟩) (by assumption) ?_
              rotate_left
              · (intro wx hSw; (try dsimp only at hSw); go_simp; try (with_reducible rfl))
              try simp only [Act.put, List.getElem_toArray, List.getElem_cons_succ, List.getElem_cons_zero, List.setIfInBounds_toArray, List.set_cons_zero, List.set_cons_succ]
              refine wpAnyH_take (i := 1) (v := ?_) rfl (by kernel_rfl) (by kernel_rfl) (by kernel_rfl) (fun _ _ _ h => h) (Or.inl ⟨by kernel_rfl, ?_⟩) (by assumption) ?_
              rotate_left
              · (intro wx hSw; (try dsimp only at hSw); go_simp; try (with_reducible rfl))
              try simp only [Act.put, List.getElem_toArray, List.getElem_cons_succ, List.getElem_cons_zero, List.setIfInBounds_toArray, List.set_cons_zero, List.set_cons_succ]
              refine wpAnyH_take (i := 2) (v := ?_) rfl (by kernel_rfl) (by kernel_rfl) (by kernel_rfl) (fun _ _ _ h => h) (Or.inl ⟨by kernel_rfl, ?_⟩) (by assumption) ?_
              rotate_left
              · (intro wx hSw; (try dsimp only at hSw); go_simp; try (with_reducible rfl))
              try simp only [Act.put, List.getElem_toArray, List.getElem_cons_succ, List.getElem_cons_zero, List.setIfInBounds_toArray, List.set_cons_zero, List.set_cons_succ]
              refine wpAnyH_ready (rs := [3]) (by kernel_rfl) (by simp) ?_
              refine AllReadyH.cons rfl (fun K hK => ?_) AllReadyH.nil
              go_simp
              refine hK.out _ _ ?_ (fun hHeld => ?_)
              · (exact HSH.out _ (by repeat' (first | exact Bl.refl _ | with_reducible assumption | with_reducible refine Bl.drew_ ?_ | with_reducible refine Bl.drewN_ ?_ _ | with_reducible refine Bl.alloc_ ?_ _ | with_reducible refine Bl.trans_ ?_ (by assumption) | with_reducible refine Bl.trans_ ?_ (And.left (by assumption)))))
              clear hK K
              try simp only [Act.put, List.getElem_toArray, List.getElem_cons_succ, List.getElem_cons_zero, List.setIfInBounds_toArray, List.set_cons_zero, List.set_cons_succ]
              refine wpAnyH_take (i := 4) (v := ?_) rfl (by kernel_rfl) (by kernel_rfl) (by kernel_rfl) (fun _ _ _ h => h) (Or.inl ⟨by kernel_rfl, ?_⟩) (by assumption) ?_
              rotate_left
              · (intro wx hSw; (try dsimp only at hSw); go_simp; try (with_reducible rfl))
              try simp only [Act.put, List.getElem_toArray, List.getElem_cons_succ, List.getElem_cons_zero, List.setIfInBounds_toArray, List.set_cons_zero, List.set_cons_succ]
              refine wpAnyH_take (i := 5) (v := ?_) rfl (by kernel_rfl) (by kernel_rfl) (by kernel_rfl) (fun _ _ _ h => h) (Or.inl ⟨by kernel_rfl, ?_⟩) (by assumption) ?_
              rotate_left
              · (intro wx hSw; (try dsimp only at hSw); go_simp; try (with_reducible rfl))
              try simp only [Act.put, List.getElem_toArray, List.getElem_cons_succ, List.getElem_cons_zero, List.setIfInBounds_toArray, List.set_cons_zero, List.set_cons_succ]
              refine wpAnyH_take (i := 6) (v := undef) rfl (by kernel_rfl) (by kernel_rfl) (by kernel_rfl) (fun _ _ _ h => h) (Or.inr ⟨by kernel_rfl, rfl⟩) (by assumption) ?_
              try simp only [Act.put, List.getElem_toArray, List.getElem_cons_succ, List.getElem_cons_zero, List.setIfInBounds_toArray, List.set_cons_zero, List.set_cons_succ]
              refine wpAnyH_take (i := 7) (v := undef) rfl (by kernel_rfl) (by kernel_rfl) (by kernel_rfl) (fun _ _ _ h => h) (Or.inr ⟨by kernel_rfl, rfl⟩) (by assumption) ?_
              try simp only [Act.put, List.getElem_toArray, List.getElem_cons_succ, List.getElem_cons_zero, List.setIfInBounds_toArray, List.set_cons_zero, List.set_cons_succ]
              refine wpAnyH_take (i := 8) (v := undef) rfl (by kernel_rfl) (by kernel_rfl) (by kernel_rfl) (fun _ _ _ h => h) (Or.inr ⟨by kernel_rfl, rfl⟩) (by assumption) ?_
              try simp only [Act.put, List.getElem_toArray, List.getElem_cons_succ, List.getElem_cons_zero, List.setIfInBounds_toArray, List.set_cons_zero, List.set_cons_succ]
              refine wpAnyH_take (i := 9) (v := undef) rfl (by kernel_rfl) (by kernel_rfl) (by kernel_rfl) (fun _ _ _ h => h) (Or.inr ⟨by kernel_rfl, rfl⟩) (by assumption) ?_
              try simp only [Act.put, List.getElem_toArray, List.getElem_cons_succ, List.getElem_cons_zero, List.setIfInBounds_toArray, List.set_cons_zero, List.set_cons_succ]
              refine wpAnyH_take (i := 10) (v := undef) rfl (by kernel_rfl) (by kernel_rfl) (by kernel_rfl) (fun _ _ _ h => h) (Or.inr ⟨by kernel_rfl, rfl⟩) (by assumption) ?_
              try simp only [Act.put, List.getElem_toArray, List.getElem_cons_succ, List.getElem_cons_zero, List.setIfInBounds_toArray, List.set_cons_zero, List.set_cons_succ]
              refine wpAnyH_take (i := 11) (v := undef) rfl (by kernel_rfl) (by kernel_rfl) (by kernel_rfl) (fun _ _ _ h => h) (Or.inr ⟨by kernel_rfl, rfl⟩) (by assumption) ?_
              try simp only [Act.put, List.getElem_toArray, List.getElem_cons_succ, List.getElem_cons_zero, List.setIfInBounds_toArray, List.set_cons_zero, List.set_cons_succ]
              refine wpAnyH_take (i := 12) (v := undef) rfl (by kernel_rfl) (by kernel_rfl) (by kernel_rfl) (fun _ _ _ h => h) (Or.inr ⟨by kernel_rfl, rfl⟩) (by assumption) ?_
              try simp only [Act.put, List.getElem_toArray, List.getElem_cons_succ, List.getElem_cons_zero, List.setIfInBounds_toArray, List.set_cons_zero, List.set_cons_succ]
              refine wpAnyH_take (i := 13) (v := undef) rfl (by kernel_rfl) (by kernel_rfl) (by kernel_rfl) (fun _ _ _ h => h) (Or.inr ⟨by kernel_rfl, rfl⟩) (by assumption) ?_
              try simp only [Act.put, List.getElem_toArray, List.getElem_cons_succ, List.getElem_cons_zero, List.setIfInBounds_toArray, List.set_cons_zero, List.set_cons_succ]
              refine wpAnyH_take (i := 14) (v := undef) rfl (by kernel_rfl) (by kernel_rfl) (by kernel_rfl) (fun _ _ _ h => h) (Or.inr ⟨by kernel_rfl, rfl⟩) (by assumption) ?_
              try simp only [Act.put, List.getElem_toArray, List.getElem_cons_succ, List.getElem_cons_zero, List.setIfInBounds_toArray, List.set_cons_zero, List.set_cons_succ]
              refine wpAnyH_take (i := 15) (v := undef) rfl (by kernel_rfl) (by kernel_rfl) (by kernel_rfl) (fun _ _ _ h => h) (Or.inr ⟨by kernel_rfl, rfl⟩) (by assumption) ?_
              try simp only [Act.put, List.getElem_toArray, List.getElem_cons_succ, List.getElem_cons_zero, List.setIfInBounds_toArray, List.set_cons_zero, List.set_cons_succ]
              refine wpAnyH_take (i := 16) (v := undef) rfl (by kernel_rfl) (by kernel_rfl) (by kernel_rfl) (fun _ _ _ h => h) (Or.inr ⟨by kernel_rfl, rfl⟩) (by assumption) ?_
              try simp only [Act.put, List.getElem_toArray, List.getElem_cons_succ, List.getElem_cons_zero, List.setIfInBounds_toArray, List.set_cons_zero, List.set_cons_succ]
              refine wpAnyH_take (i := 17) (v := ?_) rfl (by kernel_rfl) (by kernel_rfl) (by kernel_rfl) (fun _ _ _ h => h) (Or.inl ⟨by kernel_rfl, ?_⟩) (by assumption) ?_
              rotate_left
              · (intro wx hSw; (try dsimp only at hSw); go_simp; try (with_reducible rfl))
              try simp only [Act.put, List.getElem_toArray, List.getElem_cons_succ, List.getElem_cons_zero, List.setIfInBounds_toArray, List.set_cons_zero, List.set_cons_succ]
              refine wpAnyH_done (by kernel_rfl) ?_ _
              have TW9 := Lib.hid (show ((doneK f k).takeWhile fun u => decide (f u ≤ f (k : Int))).length = a from tw_len (by have := HL1.out; omega) (fun i h hi => by rw [FN.out, decide_eq_true_eq]; exact LE9.out i h hi) (fun h => by have := HL1.out; omega))
              have hform : (A1 = none ∧ c1 = 0) ∨ ∃ g1 o1, A1 = some ⟨g1, o1, none⟩ := by
                have h := H6.out.own1
                rcases h.2 with ⟨e, -⟩ | ⟨g, cap, cur, e, -⟩
                · injection e with e1 e2 e3
                  exact .inl ⟨e1, e3⟩
                · injection e with e1 e2 e3
                  exact .inr ⟨g, 0, e1⟩
              rcases hform with ⟨rfl, rfl⟩ | ⟨g1, o1, rfl⟩
              · obtain ⟨wz, hwz⟩ : ∃ wz, wz = wr.drew := ⟨_, rfl⟩
                have DB := Lib.hid (show Bl w6 wz from by rw [hwz]; exact BZ.out.drew_)
                rw [← hwz]
                clear hwz
                have AT := Lib.hid (show doneK f (k + 1) = (doneK f k).take a ++ (k : Int) :: (doneK f k).drop a from by
                  have e : doneK f (k + 1) = insF f (k : Int) (doneK f k) := if_neg (by rw [FN.out]; omega)
                  rw [e]
                  unfold insF
                  rw [TW9.out])
                have HZ := Lib.hid (H6.out.bl_ DB.out)
                obtain ⟨-, y1, -, -, -, -, yo, -, yb, -⟩ := HZ.out
                have YI := Lib.hid (show IntsAt wz wz.heap.size none (doneK f k) from by
                  obtain ⟨Ax, cx, hx, -, yi, -, -⟩ := OwnN.shape yo
                  injection hx with e1 e2 e3
                  subst e1
                  exact yi)
                have hcl : (doneK f k).length ≤ 0 := by have := HC1.out; have := HL1.out; omega
                have sz9 := World.block_lt_of_cell? _ _ y1
                simp only at sz9
                have hal9 : a ≤ (doneK f k).length := by have := HL1.out; omega
                have ha0 : (0 : Int) ≤ (a : Int) := by omega
                have hac : (a : Int) ≤ ((0 : Nat) : Int) := by omega
                have hal : (a : Int) ≤ ((doneK f k).length : Int) := by omega
                have hlc : ((doneK f k).length : Int) ≤ ((0 : Nat) : Int) := by omega
                clear yo
                have O90 := Lib.hid (show (wz.alloc (.cells #[] 2)).ownsRow wz.heap.size 2 1 (.slice (some ⟨wz.heap.size, 0, none⟩) 0 0) 0 [] from World.ownsRow_made (base := wz.heap.size) (e := 2) (size := 1) wz #[] 0 (Nat.le_refl _) (by unfold maxLen; omega) rfl)
                have hat := (show ((doneK f k).take a).length = a from by rw [List.length_take]; omega)
                have hkk : k ≤ 24 := by omega
                have hdk2 := doneK_len f k
                go_wp2_with (at_builtin; refine wpList_append_any _ rfl (.tmp 59) (.tmp 63) _ rfl wz.heap.size 2 i0 _ 1 8 Try.underlying32 I0.out I1.out I2.out I3.out rfl (by decide) _ 0 [] rfl O90.out wz.heap.size none a 0 (csI ((doneK f k).take a)) rfl ((reads_take YI.out hal9).alloc (Nat.le_refl _) _) (csI_one' _) (by unfold maxLen; omega) (by omega) (by simp) ?_)
                intro v7 w7 hown7 hgrow7 _
                have O7 := Lib.hid (show OwnN w7 wz.heap.size v7 ((doneK f k).take a) from by unfold OwnN Owns; rw [hat]; simpa using hown7)
                have B7 := Lib.hid (show Bl wz w7 from ((Bl.refl wz).alloc_ (.cells #[] 2)).grown_ hgrow7 (fun g hg => by simp [Value.ownBlock] at hg; omega))
                have s7 := B7.out.size
                clear hown7 hgrow7
                go_wp2_with (at_builtin; refine wpList_append_any _ rfl (.tmp 65) (.tmp 67) _ rfl wz.heap.size 2 i0 _ 1 8 Try.underlying32 I0.out I1.out I2.out I3.out rfl (by decide) _ ((doneK f k).take a).length (csI ((doneK f k).take a)) rfl (World.ownsRow.alloc O7.out _) (w7.heap.size + 1) (some ⟨w7.heap.size, 0, none⟩) 1 1 [.int .i64 (k : Int)] rfl ?c0 (by simp [Value.oneCell']) (by unfold maxLen; omega) (by omega) (by simp; omega) ?_)
                case c0 =>
                  refine ⟨rfl, fun _ => ⟨_, rfl, by show w7.heap.size < w7.heap.size + 1; omega, fun y u hj => ?_⟩⟩
                  match y, hj with
                  | 0, hj => simp at hj; subst hj; simp [Addr.add, go_sem]
                  | (y + 1), hj => simp at hj
                intro v8 w8 hown8 hgrow8 _
                have O8 := Lib.hid (OwnN.snoc (V := (doneK f k).take a) (x := (k : Int)) (n := a) hat.symm hown8)
                have B8 := Lib.hid (show Bl wz w8 from (B7.out.alloc_ (.cells #[.int .i64 (k : Int)] 2)).grown_ hgrow8 (fun g hg => (Owns.lt O7.out g hg).1))
                have s8 := B8.out.size
                have y1 := ((bcell B8.out).1 _ _ sz9).trans y1
                have YI8 := Lib.hid (YI.out.bl B8.out)
                have hl8 : ((doneK f k).take a ++ [(k : Int)]).length = a + 1 := by simp [hat]
                clear hown8 hgrow8
                go_wp2_with (at_builtin; refine wpList_append_any _ rfl (.tmp 69) (.tmp 73) _ rfl wz.heap.size 2 i0 _ 1 8 Try.underlying32 I0.out I1.out I2.out I3.out rfl (by decide) _ ((doneK f k).take a ++ [(k : Int)]).length (csI ((doneK f k).take a ++ [(k : Int)])) rfl O8.out w8.heap.size _ _ _ (csI ((doneK f k).drop a)) rfl (reads_drop YI8.out rfl (by first | exact fun h => absurd h (by have := HL1.out; omega) | exact fun _ => rfl | exact fun _ => by simp [Addr.add_lit])) (csI_one' _) (by unfold maxLen; rw [hl8]; omega) (by rw [hl8]; omega) (by omega) ?_)
                all_goals
                  intro v9 w9 hown9 hgrow9 _
                  have O9 := Lib.hid (show OwnN w9 wz.heap.size v9 (doneK f (k + 1)) from by
                    rw [AT.out]
                    unfold OwnN Owns
                    have e1 : ((doneK f k).take a ++ (k : Int) :: (doneK f k).drop a).length = ((doneK f k).take a ++ [(k : Int)]).length + ((doneK f k).length - a) := by simp; omega
                    have e2 : csI ((doneK f k).take a ++ (k : Int) :: (doneK f k).drop a) = csI ((doneK f k).take a ++ [(k : Int)]) ++ csI ((doneK f k).drop a) := by simp [csI]
                    rw [hl8] at e1
                    rw [e1, e2]
                    exact hown9)
                  have B9 := Lib.hid (show Bl wz w9 from B8.out.grown_ hgrow9 (fun g hg => (Owns.lt O8.out g hg).1))
                  clear hown9 hgrow9
                  obtain ⟨A9, c9, hv9, -⟩ := OwnN.shape O9.out
                  obtain ⟨l9, hl9⟩ : ∃ l9, l9 = (doneK f (k + 1)).length := ⟨_, rfl⟩
                  rw [← hl9] at hv9
                  subst hv9
                  have HX := Lib.hid (HZ.out.put1 B9.out hl9 O9.out)
                  obtain ⟨-, z1, -, -, z4, -, -, -, -, -⟩ := HZ.out.bl_ B9.out
                  clear hl9
                  go_wp2
                  go_roundw
                  case rel => exact ⟨k + 1, _, _, A9, c9, by omega, by go_num, HX.out⟩
                  case measure => simp [intOf]; omega
              · obtain ⟨wz, hwz⟩ : ∃ wz, wz = wr.drew := ⟨_, rfl⟩
                have DB := Lib.hid (show Bl w6 wz from by rw [hwz]; exact BZ.out.drew_)
                rw [← hwz]
                clear hwz
                have AT := Lib.hid (show doneK f (k + 1) = (doneK f k).take a ++ (k : Int) :: (doneK f k).drop a from by
                  have e : doneK f (k + 1) = insF f (k : Int) (doneK f k) := if_neg (by rw [FN.out]; omega)
                  rw [e]
                  unfold insF
                  rw [TW9.out])
                have HZ := Lib.hid (H6.out.bl_ DB.out)
                obtain ⟨-, y1, -, -, -, -, yo, -, yb, -⟩ := HZ.out
                have YI := Lib.hid (show IntsAt wz wz.heap.size (some ⟨g1, o1, none⟩) (doneK f k) from by
                  obtain ⟨Ax, cx, hx, -, yi, -, -⟩ := OwnN.shape yo
                  injection hx with e1 e2 e3
                  subst e1
                  exact yi)
                have hcl : (doneK f k).length ≤ c1 := by have := HC1.out; have := HL1.out; omega
                have sz9 := World.block_lt_of_cell? _ _ y1
                simp only at sz9
                have hal9 : a ≤ (doneK f k).length := by have := HL1.out; omega
                have ha0 : (0 : Int) ≤ (a : Int) := by omega
                have hac : (a : Int) ≤ ((c1 : Nat) : Int) := by omega
                have hal : (a : Int) ≤ ((doneK f k).length : Int) := by omega
                have hlc : ((doneK f k).length : Int) ≤ ((c1 : Nat) : Int) := by omega
                clear yo
                have O90 := Lib.hid (show (wz.alloc (.cells #[] 2)).ownsRow wz.heap.size 2 1 (.slice (some ⟨wz.heap.size, 0, none⟩) 0 0) 0 [] from World.ownsRow_made (base := wz.heap.size) (e := 2) (size := 1) wz #[] 0 (Nat.le_refl _) (by unfold maxLen; omega) rfl)
                have hat := (show ((doneK f k).take a).length = a from by rw [List.length_take]; omega)
                have hkk : k ≤ 24 := by omega
                have hdk2 := doneK_len f k
                go_wp2_with (at_builtin; refine wpList_append_any _ rfl (.tmp 59) (.tmp 63) _ rfl wz.heap.size 2 i0 _ 1 8 Try.underlying32 I0.out I1.out I2.out I3.out rfl (by decide) _ 0 [] rfl O90.out wz.heap.size (some ⟨g1, o1, none⟩) a c1 (csI ((doneK f k).take a)) rfl ((reads_take YI.out hal9).alloc (Nat.le_refl _) _) (csI_one' _) (by unfold maxLen; omega) (by omega) (by simp) ?_)
                intro v7 w7 hown7 hgrow7 _
                have O7 := Lib.hid (show OwnN w7 wz.heap.size v7 ((doneK f k).take a) from by unfold OwnN Owns; rw [hat]; simpa using hown7)
                have B7 := Lib.hid (show Bl wz w7 from ((Bl.refl wz).alloc_ (.cells #[] 2)).grown_ hgrow7 (fun g hg => by simp [Value.ownBlock] at hg; omega))
                have s7 := B7.out.size
                clear hown7 hgrow7
                go_wp2_with (at_builtin; refine wpList_append_any _ rfl (.tmp 65) (.tmp 67) _ rfl wz.heap.size 2 i0 _ 1 8 Try.underlying32 I0.out I1.out I2.out I3.out rfl (by decide) _ ((doneK f k).take a).length (csI ((doneK f k).take a)) rfl (World.ownsRow.alloc O7.out _) (w7.heap.size + 1) (some ⟨w7.heap.size, 0, none⟩) 1 1 [.int .i64 (k : Int)] rfl ?c0 (by simp [Value.oneCell']) (by unfold maxLen; omega) (by omega) (by simp; omega) ?_)
                case c0 =>
                  refine ⟨rfl, fun _ => ⟨_, rfl, by show w7.heap.size < w7.heap.size + 1; omega, fun y u hj => ?_⟩⟩
                  match y, hj with
                  | 0, hj => simp at hj; subst hj; simp [Addr.add, go_sem]
                  | (y + 1), hj => simp at hj
                intro v8 w8 hown8 hgrow8 _
                have O8 := Lib.hid (OwnN.snoc (V := (doneK f k).take a) (x := (k : Int)) (n := a) hat.symm hown8)
                have B8 := Lib.hid (show Bl wz w8 from (B7.out.alloc_ (.cells #[.int .i64 (k : Int)] 2)).grown_ hgrow8 (fun g hg => (Owns.lt O7.out g hg).1))
                have s8 := B8.out.size
                have y1 := ((bcell B8.out).1 _ _ sz9).trans y1
                have YI8 := Lib.hid (YI.out.bl B8.out)
                have hl8 : ((doneK f k).take a ++ [(k : Int)]).length = a + 1 := by simp [hat]
                clear hown8 hgrow8
                go_wp2_with (at_builtin; refine wpList_append_any _ rfl (.tmp 69) (.tmp 73) _ rfl wz.heap.size 2 i0 _ 1 8 Try.underlying32 I0.out I1.out I2.out I3.out rfl (by decide) _ ((doneK f k).take a ++ [(k : Int)]).length (csI ((doneK f k).take a ++ [(k : Int)])) rfl O8.out w8.heap.size _ _ _ (csI ((doneK f k).drop a)) rfl (reads_drop YI8.out rfl (by first | exact fun h => absurd h (by have := HL1.out; omega) | exact fun _ => rfl | exact fun _ => by simp [Addr.add_lit])) (csI_one' _) (by unfold maxLen; rw [hl8]; omega) (by rw [hl8]; omega) (by omega) ?_)
                all_goals
                  intro v9 w9 hown9 hgrow9 _
                  have O9 := Lib.hid (show OwnN w9 wz.heap.size v9 (doneK f (k + 1)) from by
                    rw [AT.out]
                    unfold OwnN Owns
                    have e1 : ((doneK f k).take a ++ (k : Int) :: (doneK f k).drop a).length = ((doneK f k).take a ++ [(k : Int)]).length + ((doneK f k).length - a) := by simp; omega
                    have e2 : csI ((doneK f k).take a ++ (k : Int) :: (doneK f k).drop a) = csI ((doneK f k).take a ++ [(k : Int)]) ++ csI ((doneK f k).drop a) := by simp [csI]
                    rw [hl8] at e1
                    rw [e1, e2]
                    exact hown9)
                  have B9 := Lib.hid (show Bl wz w9 from B8.out.grown_ hgrow9 (fun g hg => (Owns.lt O8.out g hg).1))
                  clear hown9 hgrow9
                  obtain ⟨A9, c9, hv9, -⟩ := OwnN.shape O9.out
                  obtain ⟨l9, hl9⟩ : ∃ l9, l9 = (doneK f (k + 1)).length := ⟨_, rfl⟩
                  rw [← hl9] at hv9
                  subst hv9
                  have HX := Lib.hid (HZ.out.put1 B9.out hl9 O9.out)
                  obtain ⟨-, z1, -, -, z4, -, -, -, -, -⟩ := HZ.out.bl_ B9.out
                  clear hl9
                  go_wp2
                  go_roundw
                  case rel => exact ⟨k + 1, _, _, A9, c9, by omega, by go_num, HX.out⟩
                  case measure => simp [intOf]; omega
    · obtain rfl : k = q := by omega
      obtain ⟨-, ⟨r0, r1, r2⟩, fr0, fr1, fr2⟩ := BX.out _ xb
      go_wp2
      refine bodyPost_ret (v := .agg #[.slice A0 k c0, .slice A1 (doneK f k).length c1, .int .i64 r]) (by simp [results, Try.results59, go_sem, r0, r1, r2, fr0, fr1, fr2]) rfl ?_
      have hg0 : ∀ g, (Value.slice A0 (halfK f k).length c0).ownBlock = some g → g ≠ w.heap.size + 1 := fun g e => by
        have := (Owns.lt HH.out.own0 g e).1
        omega
      have hg1 : ∀ g, (Value.slice A1 (doneK f k).length c1).ownBlock = some g → g ≠ w.heap.size + 1 := fun g e => by
        have := (Owns.lt HH.out.own1 g e).1
        omega
      refine ⟨A0, c0, A1, c1, ?_, ?_, ?_, HH.out.ne, ?_⟩
      · rw [← HA.out, ← HM.out, halfK_len]
      · rw [← HA.out]
        exact OwnN.low (Owns.setOther (Owns.setOther (Owns.setOther HH.out.own0 hg0 _) hg0 _) hg0 _) (by omega)
      · rw [← HM.out]
        exact OwnN.low (Owns.setOther (Owns.setOther (Owns.setOther HH.out.own1 hg1 _) hg1 _) hg1 _) (by omega)
      · exact (((BW.out.trans_ xb).set_ (by simp) _).set_ (by simp) _).set_ (by simp) _

end Go.Proofs.Ytjmooakjdcepcaa

set_option linter.unusedSimpArgs false
set_option linter.unusedVariables false
namespace Go.Proofs.Ytjmooakjdcepcaa
open Go.RowKit

set_option maxRecDepth 100000 in
set_option maxHeartbeats 8000000 in
theorem mul64_one (n : Nat) (hn : n ≤ 24) (w : World) :
    Calls Try.prog 101 #[.int .u64 1, .int .u64 (n : Int)] w fun e w' => e = .returned (.tuple #[.int .u64 0, .int .u64 (n : Int)]) ∧ w' = w := by
  match n, hn with
  | 0, _ | 1, _ | 2, _ | 3, _ | 4, _ | 5, _ | 6, _ | 7, _ | 8, _ | 9, _ | 10, _ | 11, _ | 12, _ | 13, _ | 14, _ | 15, _ | 16, _ | 17, _ | 18, _ | 19, _ | 20, _ | 21, _ | 22, _ | 23, _ | 24, _ =>
    go_enter Try.func101, Try.ntmps101
    go_wp2
    go_ret2
    exact ⟨rfl, rfl⟩
  | (k + 25), h => exact absurd h (by omega)

set_option maxRecDepth 100000 in
set_option maxHeartbeats 1000000 in
theorem mul_one_ (n : Nat) (hn : n ≤ 24) (w : World) :
    Calls Try.prog 84 #[.int .u64 1, .int .u64 (n : Int)] w fun e w' => e = .returned (.tuple #[.int .u64 0, .int .u64 (n : Int)]) ∧ w' = w := by
  go_enter Try.func84, Try.ntmps84
  go_wp2_with fail
  refine (mul64_one n hn _).mono ?_
  rintro e w1 ⟨rfl, rfl⟩
  go_wp2
  go_ret2
  exact ⟨rfl, rfl⟩

end Go.Proofs.Ytjmooakjdcepcaa

set_option linter.unusedSimpArgs false
set_option linter.unusedVariables false
namespace Go.Proofs.Ytjmooakjdcepcaa
open Go.RowKit

theorem splice_rep {α : Type} (a b : α) (i k m : Nat) (h : m ≤ k) : splice (List.replicate i a ++ List.replicate k b) i (List.replicate m a) = List.replicate (i + m) a ++ List.replicate (k - m) b := by
  unfold splice
  rw [List.length_replicate, List.take_left' (by simp), List.drop_append, List.drop_eq_nil_of_le (by simp), List.nil_append, List.length_replicate, show i + m - i = m by omega, List.drop_replicate, ← List.append_assoc, List.replicate_append_replicate]

theorem mk1_cells (n : Nat) : mk1 n = (List.replicate n (Value.int .i64 0)).toArray := by
  refine Array.ext (by simp [size_mk1]) fun i h1 h2 => ?_
  unfold mk1
  simp [madeCells, Nat.mod_one]
/-- What is laid down of the numbers. -/
def repC (x : Int) (i k : Nat) : List Value := List.replicate i (.int .i64 x) ++ List.replicate k (.int .i64 0)
theorem repC_len (x : Int) (i k : Nat) : (repC x i k).length = i + k := by simp [repC]
theorem repC_at {x : Int} {i k j : Nat} (h : j < i) : (repC x i k)[j]? = some (.int .i64 x) := by
  unfold repC
  rw [List.getElem?_append_left (by simpa using h)]
  simp [h]

set_option maxRecDepth 100000 in
set_option maxHeartbeats 4000000 in
theorem repeat_any (g0 c0 : Nat) (x : Int) (n : Nat) (h1 : 1 ≤ n) (hn : n ≤ 24) (w : World) (hg : g0 < w.heap.size) (hc : w.cell? ⟨g0, 0, none⟩ = some (.int .i64 x)) :
    Calls Try.prog 57 #[.slice (some ⟨g0, 0, none⟩) 1 c0, .int .i64 (n : Int)] w fun e w' => e = .returned (.slice (some ⟨w.heap.size, 0, none⟩) n n) ∧ OwnN w' w.heap.size (.slice (some ⟨w.heap.size, 0, none⟩) n n) (List.replicate n x) ∧ Bl w w' := by
  have hmk := make_nums n (by omega)
  have n0 : (0 : Int) ≤ (n : Int) := by omega
  have HSZ := Lib.hid (show (Try.prog.info? 2).map (·.size) = some 1 from by kernel_rfl)
  go_enter Try.func57, Try.ntmps57
  go_wp2_with fail
  refine (mul_one_ n hn _).mono ?_
  rintro e w1 ⟨rfl, rfl⟩
  have HC := Lib.hid hc
  clear hc
  have HM0 := Lib.hid (show (w1.alloc (.cells (mk1 n) 2)).heap[w1.heap.size]? = some (.cells (repC x 0 n).toArray 2 (0, 0)) from by
    rw [mk1_cells, World.alloc_heap_new]
    simp [repC])
  have HB0 := Lib.hid (show Bl w1 (w1.alloc (.cells (mk1 n) 2)) from Bl.alloc_ (Bl.refl _) _)
  obtain ⟨Y, hY⟩ : ∃ Y, Y = List.replicate 1 (Value.int .i64 x) := ⟨_, rfl⟩
  have YL := Lib.hid (show Y.length = 1 from by rw [hY]; rfl)
  have HY := Lib.hid hY
  clear hY
  go_wp2_with (refine wpList_copy_splice (o := ⟨some 33, _, _, _, _, _⟩) rfl (.tmp 31) (.tmp 32) 32 32 rfl 2 Try.underlying32 HSZ.out _ _ n n 1 c0 rfl rfl w1.heap.size 0 (repC x 0 n) 2 HM0.out Y ?k1 ?k2 ?k3 ?k4 w1.heap.size w1 HB0.out (Nat.le_refl _) ?_)
  case k1 => rw [YL.out]; exact (Nat.min_eq_left h1).symm
  case k2 =>
    intro _ j v hj
    rw [HY.out] at hj
    match j, hj with
    | 0, hj =>
      have e : v = .int .i64 x := by simpa using hj.symm
      rw [e]
      exact HC.out
    | (j + 1), hj => simp at hj
  case k3 => rw [repC_len, YL.out]; omega
  case k4 => intro v hv; rw [HY.out] at hv; rw [List.eq_of_mem_replicate hv]; rfl
  intro w2 hg2 hb2
  have HG2 := Lib.hid (show w2.heap[w1.heap.size]? = some (.cells (repC x 1 (n - 1)).toArray 2 (0, 0)) from by
    have h := hg2.out
    rw [HY.out, show splice (repC x 0 n) 0 (List.replicate 1 (Value.int .i64 x)) = repC x 1 (n - 1) from splice_rep _ _ 0 n 1 h1] at h
    exact h)
  have B2 := Lib.hid hb2
  clear hg2 hb2 hmk
  go_wp2_with fail
  go_loopw [8] (fun i wr => ∃ j : Nat, 1 ≤ j ∧ j ≤ n ∧ i = .int .i64 j ∧ Hid (wr.heap[w1.heap.size]? = some (.cells (repC x j (n - j)).toArray 2 (0, 0))) ∧ Bl w1 wr) (fun i _ => n - (intOf i).toNat)
  case atStart => exact ⟨1, by omega, h1, by rw [YL.out], HG2, B2.out⟩
  case round =>
    obtain ⟨j, hj1, hj, rfl, HG, hbl⟩ := hrel
    have BB := Lib.hid hbl
    by_cases hlt : j < n
    · have i0 : (0 : Int) ≤ (j : Int) := by omega
      have i1 : (j : Int) ≤ (n : Int) := by omega
      have i2 : (j : Int) < (n : Int) := by omega
      obtain ⟨m, hm⟩ : ∃ m, m = Nat.min j (n - j) := ⟨_, rfl⟩
      have hm1 : 1 ≤ m ∧ m ≤ j ∧ m ≤ n - j := by rw [hm]; exact ⟨by simp [Nat.min_def]; split <;> omega, Nat.min_le_left _ _, Nat.min_le_right _ _⟩
      have HM := Lib.hid hm
      have HRL := Lib.hid (repC_len x j (n - j))
      obtain ⟨C, hC⟩ : ∃ C, C = repC x j (n - j) := ⟨_, rfl⟩
      rw [← hC] at HG HRL
      obtain ⟨X, hX⟩ : ∃ X, X = List.replicate m (Value.int .i64 x) := ⟨_, rfl⟩
      have XL := Lib.hid (show X.length = m from by rw [hX]; simp)
      have HCC := Lib.hid hC
      have HXX := Lib.hid hX
      clear hm hC hX hbl
      have OWN : wr.ownsRow w1.heap.size 2 1 (.slice (some ⟨w1.heap.size, 0, none⟩) n n) n C :=
        ⟨by rw [HRL.out]; omega, .inr ⟨w1.heap.size, n, C.toArray, rfl, Nat.le_refl _, HG.out, Nat.le_refl _, by unfold maxLen; omega, by rw [List.size_toArray, HRL.out]; omega, by rw [List.take_of_length_le (by simp [HRL.out]; omega)]⟩⟩
      have CE := Lib.hid (show ∀ (t : Nat) (v : Value), X[t]? = some v → wr.drew.cell? ((⟨w1.heap.size, 0, none⟩ : Addr).add t) = some v from fun t v ht => by
        have htl : t < m := by have := (List.getElem?_eq_some_iff.1 ht).1; rw [XL.out] at this; exact this
        have e := World.ownsRow.cellAt OWN t (by omega)
        rw [HXX.out] at ht
        simp [htl] at ht
        subst ht
        have e2 : C[t]? = some (Value.int .i64 x) := by rw [HCC.out]; exact repC_at (by omega)
        rcases Nat.eq_zero_or_pos t with rfl | h
        · simpa [Addr.add] using e.trans e2
        · simpa [Addr.add, show ¬ t = 0 by omega] using e.trans e2)
      clear OWN
      have w0 : IntKind.i64.wrap ((n : Int) - j) = (n : Int) - j := IntWalk.i64_in _ (by omega)
      go_wp2_with fail
      refine wp_region_held_drew (S := fun wx => Bl w1 wx) (by kernel_rfl) ?_ (fun hHeld => ?_)
      · (first | exact BB.out.drew_ | exact hb4)
      refine wpAnyH_take (i := 0) (v := ?_) rfl (by kernel_rfl) (by kernel_rfl) (by kernel_rfl) (fun _ _ _ h => h) (Or.inl ⟨by kernel_rfl, ?_⟩) (by assumption) ?_
      rotate_left
      · (intro wx hSw; (try dsimp only at hSw); go_simp; try (with_reducible rfl))
      try simp only [Act.put, List.getElem_toArray, List.getElem_cons_succ, List.getElem_cons_zero, List.setIfInBounds_toArray, List.set_cons_zero, List.set_cons_succ]
      refine wpAnyH_take (i := 1) (v := ?_) rfl (by kernel_rfl) (by kernel_rfl) (by kernel_rfl) (fun _ _ _ h => h) (Or.inl ⟨by kernel_rfl, ?_⟩) (by assumption) ?_
      rotate_left
      · (intro wx hSw; (try dsimp only at hSw); go_simp; try (with_reducible rfl))
      try simp only [Act.put, List.getElem_toArray, List.getElem_cons_succ, List.getElem_cons_zero, List.setIfInBounds_toArray, List.set_cons_zero, List.set_cons_succ]
      refine wpAnyH_take (i := 2) (v := ?_) rfl (by kernel_rfl) (by kernel_rfl) (by kernel_rfl) (fun _ _ _ h => h) (Or.inl ⟨by kernel_rfl, ?_⟩) (by assumption) ?_
      rotate_left
      · (intro wx hSw; (try dsimp only at hSw); go_simp; try (with_reducible rfl))
      try simp only [Act.put, List.getElem_toArray, List.getElem_cons_succ, List.getElem_cons_zero, List.setIfInBounds_toArray, List.set_cons_zero, List.set_cons_succ]
      refine wpAnyH_take (i := 3) (v := ?_) rfl (by kernel_rfl) (by kernel_rfl) (by kernel_rfl) (fun _ _ _ h => h) (Or.inl ⟨by kernel_rfl, ?_⟩) (by assumption) ?_
      rotate_left
      · (intro wx hSw; (try dsimp only at hSw); go_simp; try (with_reducible rfl))
      try simp only [Act.put, List.getElem_toArray, List.getElem_cons_succ, List.getElem_cons_zero, List.setIfInBounds_toArray, List.set_cons_zero, List.set_cons_succ]
      refine wpAnyH_take (i := 4) (v := ?_) rfl (by kernel_rfl) (by kernel_rfl) (by kernel_rfl) (fun _ _ _ h => h) (Or.inl ⟨by kernel_rfl, ?_⟩) (by assumption) ?_
      rotate_left
      · (intro wx hSw; (try dsimp only at hSw); go_simp; try (with_reducible rfl))
      try simp only [Act.put, List.getElem_toArray, List.getElem_cons_succ, List.getElem_cons_zero, List.setIfInBounds_toArray, List.set_cons_zero, List.set_cons_succ]
      refine wpAnyH_take (i := 5) (v := ?_) rfl (by kernel_rfl) (by kernel_rfl) (by kernel_rfl) (fun _ _ _ h => h) (Or.inl ⟨by kernel_rfl, ?_⟩) (by assumption) ?_
      rotate_left
      · (intro wx hSw; (try dsimp only at hSw); go_simp; try (with_reducible rfl))
      try simp only [Act.put, List.getElem_toArray, List.getElem_cons_succ, List.getElem_cons_zero, List.setIfInBounds_toArray, List.set_cons_zero, List.set_cons_succ]
      refine wpAnyH_take (i := 6) (v := ?_) rfl (by kernel_rfl) (by kernel_rfl) (by kernel_rfl) (fun _ _ _ h => h) (Or.inl ⟨by kernel_rfl, ?_⟩) (by assumption) ?_
      rotate_left
      · (intro wx hSw; (try dsimp only at hSw); go_simp; try (with_reducible rfl))
      try simp only [Act.put, List.getElem_toArray, List.getElem_cons_succ, List.getElem_cons_zero, List.setIfInBounds_toArray, List.set_cons_zero, List.set_cons_succ]
      refine wpAnyH_ready (rs := [7]) (by kernel_rfl) (by simp) ?_
      refine AllReadyH.cons rfl (fun K hK => ?_) AllReadyH.nil
      refine step_copy_splice rfl (.tmp 41) (.tmp 44) 32 32 rfl 2 Try.underlying32 HSZ.out _ _ _ _ _ _ rfl rfl w1.heap.size j C 2 HG.out X ?k1 ?k2 ?k3 ?k4 w1.heap.size w1 BB.out.drew_ (Nat.le_refl _) ?_; (case k1 => rw [XL.out, HM.out]); (case k2 => exact fun _ => ⟨if_neg (by omega), _, rfl, fun t v ht => CE.out t v ht⟩); (case k3 => rw [XL.out, HRL.out]; omega); (case k4 => intro v hv; rw [HXX.out] at hv; rw [List.eq_of_mem_replicate hv]; rfl); intro w4 hg4 hb4
      refine hK.out _ _ ?_ (fun hHeld => ?_)
      · (first | exact BB.out.drew_ | exact hb4)
      clear hK K
      try simp only [Act.put, List.getElem_toArray, List.getElem_cons_succ, List.getElem_cons_zero, List.setIfInBounds_toArray, List.set_cons_zero, List.set_cons_succ]
      refine wpAnyH_take (i := 8) (v := ?_) rfl (by kernel_rfl) (by kernel_rfl) (by kernel_rfl) (fun _ _ _ h => h) (Or.inl ⟨by kernel_rfl, ?_⟩) (by assumption) ?_
      rotate_left
      · (intro wx hSw; (try dsimp only at hSw); go_simp; try (with_reducible rfl))
      try simp only [Act.put, List.getElem_toArray, List.getElem_cons_succ, List.getElem_cons_zero, List.setIfInBounds_toArray, List.set_cons_zero, List.set_cons_succ]
      refine wpAnyH_take (i := 9) (v := ?_) rfl (by kernel_rfl) (by kernel_rfl) (by kernel_rfl) (fun _ _ _ h => h) (Or.inl ⟨by kernel_rfl, ?_⟩) (by assumption) ?_
      rotate_left
      · (intro wx hSw; (try dsimp only at hSw); go_simp; try (with_reducible rfl))
      try simp only [Act.put, List.getElem_toArray, List.getElem_cons_succ, List.getElem_cons_zero, List.setIfInBounds_toArray, List.set_cons_zero, List.set_cons_succ]
      refine wpAnyH_done (by kernel_rfl) ?_ _
      have HG4 := Lib.hid (show w4.heap[w1.heap.size]? = some (.cells (repC x (j + m) (n - (j + m))).toArray 2 (0, 0)) from by
        have h := hg4.out
        rw [HCC.out, HXX.out, show splice (repC x j (n - j)) j (List.replicate m (Value.int .i64 x)) = repC x (j + m) (n - j - m) from splice_rep _ _ j (n - j) m hm1.2.2] at h
        rwa [show n - (j + m) = n - j - m by omega])
      have B4 := Lib.hid hb4
      clear hg4 hb4
      go_wp2
      go_roundw
      case rel => exact ⟨j + m, by omega, by omega, by rw [XL.out, IntWalk.i64_in _ (by omega)]; go_num, HG4, B4.out⟩
      case measure => rw [XL.out, IntWalk.i64_in _ (by omega)]; simp [intOf]; omega
    · obtain rfl : j = n := by omega
      have HO := Lib.hid (show OwnN wr w1.heap.size (.slice (some ⟨w1.heap.size, 0, none⟩) j j) (List.replicate j x) from by
        unfold OwnN Owns
        rw [List.length_replicate]
        refine ⟨by simp [csI], .inr ⟨w1.heap.size, j, _, rfl, Nat.le_refl _, HG.out, Nat.le_refl _, by unfold maxLen; omega, by simp [repC_len], ?_⟩⟩
        simp [repC, csI])
      go_wp2
      go_ret
      exact ⟨rfl, HO.out, BB.out⟩

end Go.Proofs.Ytjmooakjdcepcaa

set_option linter.unusedSimpArgs false
set_option linter.unusedVariables false
namespace Go.Proofs.Ytjmooakjdcepcaa


/-- How many are reached, and how far the farthest one is. -/
def cntD (D : List Int) : Nat := (D.filter fun d => decide (0 ≤ d)).length
def maxD (D : List Int) : Int := D.foldl max 0
theorem cntD_nil : cntD [] = 0 := rfl
theorem maxD_nil : maxD [] = 0 := rfl
theorem take_snocD {D : List Int} {j : Nat} (h : j < D.length) : D.take (j + 1) = D.take j ++ [D[j]] := by
  rw [List.take_add_one, List.getElem?_eq_getElem h]; rfl
theorem cntD_yes {D : List Int} {j : Nat} (h : j < D.length) (h0 : 0 ≤ D[j]) : cntD (D.take (j + 1)) = cntD (D.take j) + 1 := by
  unfold cntD
  rw [take_snocD h, List.filter_append, List.length_append]
  simp [h0]
theorem cntD_no {D : List Int} {j : Nat} (h : j < D.length) (h0 : ¬ 0 ≤ D[j]) : cntD (D.take (j + 1)) = cntD (D.take j) := by
  unfold cntD
  rw [take_snocD h, List.filter_append, List.length_append]
  simp [h0]
theorem cntD_le (D : List Int) : cntD D ≤ D.length := List.length_filter_le _ _
theorem maxD_step {D : List Int} {j : Nat} (h : j < D.length) : maxD (D.take (j + 1)) = max (maxD (D.take j)) D[j] := by
  unfold maxD
  rw [take_snocD h, List.foldl_append]
  rfl
theorem foldl_max_le {b : Int} : ∀ {D : List Int} {m : Int}, m ≤ b → (∀ d ∈ D, d ≤ b) → D.foldl max m ≤ b
  | [], _, h, _ => h
  | d :: D, m, h, k => foldl_max_le (D := D) (by have := k d (by simp); omega) (fun x hx => k x (by simp [hx]))
theorem le_foldl_max : ∀ {D : List Int} {m : Int}, m ≤ D.foldl max m ∧ ∀ d ∈ D, d ≤ D.foldl max m
  | [], m => ⟨by simp, by simp⟩
  | x :: D, m => by
    obtain ⟨h1, h2⟩ := le_foldl_max (D := D) (m := max m x)
    refine ⟨by rw [List.foldl_cons]; omega, fun d hd => ?_⟩
    rw [List.foldl_cons]
    rcases List.mem_cons.1 hd with rfl | hd
    · omega
    · exact h2 d hd
theorem maxD_bounds {D : List Int} (h : ∀ d ∈ D, d ≤ 24000) : 0 ≤ maxD D ∧ maxD D ≤ 24000 := ⟨le_foldl_max.1, foldl_max_le (by omega) h⟩

/-- The key of the last one that is told. -/
def lastK (Y : List It) : Int := match Y.getLast? with | some y => y.1 | none => 0
theorem lastK_nil : lastK [] = 0 := rfl
theorem lastK_snoc (Y : List It) (x : It) : lastK (Y ++ [x]) = x.1 := by simp [lastK]

theorem AllNear.dlen {N s : Int} {L : List (Int × Int × Int)} {Y : List It} (hL : ArcsIn N L) (hN : N ≤ 24) (h : AllNear N L s Y) : (distL N L s).length = N.toNat := by
  rw [← h.keys hL hN, keysL_len]
theorem dAt_el {D : List Int} {k : Nat} (h : k < D.length) : dAt D (k : Int) = D[k] := by simp [dAt, h]

theorem AllNear.count {N s : Int} {L : List (Int × Int × Int)} {Y : List It} (hL : ArcsIn N L) (hN : N ≤ 24) (h : AllNear N L s Y) : Y.length = cntD (distL N L s) := by
  have hm := fun k v => h.mem hL hN k v
  have hl := h.dlen hL hN
  have e1 : distL N L s = (List.range (distL N L s).length).map fun (i : Nat) => dAt (distL N L s) (i : Int) := by
    refine List.ext_getElem (by simp) fun i h1 h2 => ?_
    simp [dAt_el h1]
  have e2 : cntD (distL N L s) = ((List.range (distL N L s).length).filter fun i => decide (0 ≤ dAt (distL N L s) ((i : Nat) : Int))).length := by
    unfold cntD
    conv => lhs; rw [e1]
    rw [List.filter_map, List.length_map]
    rfl
  have hp : (Y.map fun y => y.2.toNat).Perm ((List.range (distL N L s).length).filter fun i => decide (0 ≤ dAt (distL N L s) ((i : Nat) : Int))) := by
    refine (List.perm_ext_iff_of_nodup ?_ ?_).2 fun a => ?_
    · have hi := h.ids
      rw [List.Nodup, List.pairwise_map] at hi ⊢
      refine hi.imp_of_mem fun {a b} ha hb hab e => hab ?_
      have h1 := ((hm a.1 a.2).1 ha).1
      have h2 := ((hm b.1 b.2).1 hb).1
      omega
    · exact List.Pairwise.filter _ List.nodup_range
    · rw [List.mem_map, List.mem_filter, List.mem_range, decide_eq_true_eq]
      constructor
      · rintro ⟨y, hy, rfl⟩
        have h1 := (hm y.1 y.2).1 hy
        have e : ((y.2.toNat : Nat) : Int) = y.2 := by omega
        rw [e]
        exact ⟨by omega, by omega⟩
      · rintro ⟨h1, h2⟩
        exact ⟨(dAt (distL N L s) (a : Int), (a : Int)), (hm _ _).2 ⟨by omega, h2, rfl⟩, by simp⟩
  rw [e2, ← hp.length_eq, List.length_map]

theorem AllNear.last {N s : Int} {L : List (Int × Int × Int)} {Y : List It} (hL : ArcsIn N L) (hN : N ≤ 24) (h : AllNear N L s Y) : lastK Y = maxD (distL N L s) := by
  have hm := fun k v => h.mem hL hN k v
  have hl := h.dlen hL hN
  obtain ⟨z, hz, -, -⟩ := h.start
  obtain ⟨Y', x, rfl⟩ : ∃ Y' x, Y = Y' ++ [x] := ⟨Y.dropLast, Y.getLast (List.ne_nil_of_mem hz), (List.dropLast_concat_getLast _).symm⟩
  rw [lastK_snoc]
  have h1 := (hm x.1 x.2).1 (by simp)
  have hs : ∀ y ∈ Y' ++ [x], y.1 ≤ x.1 := fun y hy => by
    rcases List.mem_append.1 hy with hy | hy
    · exact lessI_key' ((List.pairwise_append.1 h.sorted).2.2 y hy x (by simp))
    · obtain rfl : y = x := by simpa using hy
      exact Int.le_refl _
  have ub : ∀ d ∈ distL N L s, d ≤ x.1 := fun d hd => by
    by_cases h0 : 0 ≤ d
    · obtain ⟨i, hi, rfl⟩ := List.mem_iff_getElem.1 hd
      have := hs ((distL N L s)[i], (i : Int)) ((hm _ _).2 ⟨by omega, h0, (dAt_el hi).symm⟩)
      exact this
    · omega
  have hx : x.1 ∈ distL N L s := by
    have e : x.2 = ((x.2.toNat : Nat) : Int) := by omega
    rw [h1.2.2, e, dAt_el (by omega)]
    exact List.getElem_mem _
  have h2 := le_foldl_max (D := distL N L s) (m := 0)
  have h3 := h2.2 _ hx
  have h4 := foldl_max_le (D := distL N L s) (m := 0) (b := x.1) (by omega) ub
  unfold maxD
  omega

/-- More nodes, or as many and all of them nearer. -/
def betterB (a b : Int × Int) : Bool := decide (b.1 < a.1 ∨ a.1 = b.1 ∧ a.2 < b.2)
/-- The first of the best ones of the first k. -/
def topB (f : Nat → Int × Int) : Nat → Nat
  | 0 => 0
  | k + 1 => if betterB (f k) (f (topB f k)) = true then k else topB f k
theorem topB_yes {f : Nat → Int × Int} {k : Nat} (h : betterB (f k) (f (topB f k)) = true) : topB f (k + 1) = k := if_pos h
theorem topB_no {f : Nat → Int × Int} {k : Nat} (h : betterB (f k) (f (topB f k)) = false) : topB f (k + 1) = topB f k := if_neg (by rw [h]; simp)
theorem topB_one (f : Nat → Int × Int) : topB f 1 = 0 := by
  unfold topB
  split <;> rfl
theorem topB_lt (f : Nat → Int × Int) : ∀ k, 0 < k → topB f k < k
  | k + 1, _ => by
    unfold topB
    split
    · omega
    · rcases Nat.eq_zero_or_pos k with rfl | h
      · simp [topB]
      · have := topB_lt f k h
        omega
/-- The best one so far, with none at first. -/
def bestA (f : Nat → Int × Int) (j : Nat) : Int × Int := if j = 0 then (0, 0) else f (topB f j)
theorem best_yes {f : Nat → Int × Int} {j : Nat} (h : betterB (f j) (bestA f j) = true) : topB f (j + 1) = j ∧ bestA f (j + 1) = f j := by
  unfold bestA at h ⊢
  rcases Nat.eq_zero_or_pos j with rfl | hj
  · rw [topB_one]
    exact ⟨rfl, by simp⟩
  · rw [if_neg (by omega)] at h
    rw [topB_yes h]
    exact ⟨rfl, by simp⟩
theorem best_no {f : Nat → Int × Int} {j : Nat} (h0 : 0 < (f 0).1) (h : betterB (f j) (bestA f j) = false) : topB f (j + 1) = topB f j ∧ bestA f (j + 1) = bestA f j := by
  unfold bestA at h ⊢
  rcases Nat.eq_zero_or_pos j with rfl | hj
  · exfalso
    simp [betterB] at h
    omega
  · rw [if_neg (by omega)] at h
    rw [topB_no h]
    exact ⟨rfl, by simp [show ¬ j = 0 by omega]⟩

/-- How many nodes are reached from one, and how far the farthest is. -/
def lookI (N : Int) (L : List (Int × Int × Int)) (k : Nat) : Int × Int := (((cntD (distL N L (k : Int)) : Nat) : Int), maxD (distL N L (k : Int)))

end Go.Proofs.Ytjmooakjdcepcaa

set_option linter.unusedSimpArgs false
set_option linter.unusedVariables false
namespace Go.Proofs.Ytjmooakjdcepcaa
open Go.RowKit Go.Shelf
attribute [local go_sem] Oper.semAt_some

/-- Two numbers lie at the front of a block, and may be written. -/
structure PairAt (w : World) (b : Nat) (x y : Int) : Prop where
  lt : b < w.heap.size
  c0 : w.cell? ⟨b, 0, none⟩ = some (.int .i64 x)
  c1 : w.cell? ⟨b, 1, none⟩ = some (.int .i64 y)
  f0 : w.frozen? ⟨b, 0, none⟩ = false
  f1 : w.frozen? ⟨b, 1, none⟩ = false
theorem PairAt.turn {w w' : World} {b : Nat} {x y : Int} (h : PairAt w b x y) {S : Nat → Prop} (t : Turn S w w') (hS : ¬ S b) : PairAt w' b x y :=
  ⟨Nat.lt_of_lt_of_le h.lt t.size, (t.cells h.lt hS 0).1.trans h.c0, (t.cells h.lt hS 1).1.trans h.c1, (t.cells h.lt hS 0).2.trans h.f0, (t.cells h.lt hS 1).2.trans h.f1⟩
theorem PairAt.bl {w w' : World} {b : Nat} {x y : Int} (h : PairAt w b x y) (t : Bl w w') : PairAt w' b x y := h.turn (Turn.of_bl (S := fun _ => False) t) id
theorem PairAt.set0 {w : World} {b : Nat} {x y : Int} (h : PairAt w b x y) (z : Int) : PairAt (w.setCell ⟨b, 0, none⟩ (.int .i64 z)) b z y := by
  have h1 := h.lt
  have h2 := h.c0
  have h3 := h.c1
  have h4 := h.f0
  have h5 := h.f1
  refine ⟨by simpa using h1, ?_, ?_, ?_, ?_⟩ <;> simp [go_sem, *]
theorem PairAt.set1 {w : World} {b : Nat} {x y : Int} (h : PairAt w b x y) (z : Int) : PairAt (w.setCell ⟨b, 1, none⟩ (.int .i64 z)) b x z := by
  have h1 := h.lt
  have h2 := h.c0
  have h3 := h.c1
  have h4 := h.f0
  have h5 := h.f1
  refine ⟨by simpa using h1, ?_, ?_, ?_, ?_⟩ <;> simp [go_sem, *]
theorem PairAt.range {w : World} {b : Nat} {x y : Int} (h : PairAt w b x y) : w.rangeAt b 0 (csI [x, y]) := fun j v hv => by
  match j, hv with
  | 0, hv => simp [csI] at hv; subst hv; exact h.c0
  | 1, hv => simp [csI] at hv; subst hv; exact h.c1
  | (k + 2), hv => simp [csI] at hv
/-- What is told is told of nodes, one by one. -/
theorem told_len {N s : Int} {L : List Arc3} {Y Z : List It} (hL : ArcsIn N L) (hN : N ≤ 24) (h : AllNear N L s (Y ++ Z)) : Y.length ≤ 24 := by
  have h1 := h.count hL hN
  have h2 := cntD_le (distL N L s)
  have h3 := h.dlen hL hN
  rw [List.length_append] at h1
  omega

set_option maxRecDepth 100000 in
set_option maxHeartbeats 4000000 in
theorem outlook_any (N s : Int) (A : Option Addr) (n c : Nat) (L : List Arc3) (hn : n = L.length) (hc : n ≤ c) (ho : okB N L = true) (h0 : 0 ≤ s) (h1 : s < N) (w : World) (H1 : ArcsAt w w.heap.size A L) :
    Calls Try.prog 42 #[.agg #[.int .i64 N, .slice A n c], .int .i64 s] w fun e w' => e = .returned (.agg #[.int .i64 (cntD (distL N L s) : Nat), .int .i64 (maxD (distL N L s))]) ∧ Bl w w' := by
  have K1 := Lib.hid H1
  have HN := Lib.hid hn
  have HO := Lib.hid ho
  clear H1 hn ho
  refine (callsIn_wide (n := 0)).1 ?_
  refine callsIn_of_wp_marks Try.func42 rfl trivial ?_ rfl
  simp only [Try.ntmps42, List.size_toArray, List.length_cons, List.length_nil, Nat.reduceAdd, Nat.reduceSub, Array.replicate_succ, Array.replicate_zero, List.push_toArray, List.append_toArray, List.nil_append, List.cons_append]
  gi_wp2_with fail
  have hN24 := (okB_elim HO.out).2.1
  refine ⟨trivial, rfl, CallsIn.mono (callsIn_wide.2 (nearestFrom_any N s A n c _)) ?_⟩
  rintro e w3 ⟨rfl, hw3⟩
  have HW3 := Lib.hid hw3
  clear hw3
  gi_wp2_with fail
  have hs3 : w3.heap.size = w.heap.size + 7 := by rw [HW3.out]; simp
  have hbw : Bl w w3 := by rw [HW3.out]; exact (by repeat' (first | exact Bl.refl _ | with_reducible assumption | with_reducible refine Bl.drew_ ?_ | with_reducible refine Bl.drewN_ ?_ _ | with_reducible refine Bl.alloc_ ?_ _ | with_reducible refine Bl.trans_ ?_ (by assumption) | with_reducible refine Bl.trans_ ?_ (And.left (by assumption))))
  have hin : NIn w3 (w.heap.size + 6) (w.heap.size + 5) (w.heap.size + 4) N s A n c L := by
    refine ⟨?_, ?_, ?_, ?_, K1.out.bl hbw⟩ <;> (rw [HW3.out]; simp [go_sem])
  have hp0 : PairAt w3 (w.heap.size + 2) ((([] : List It).length : Nat) : Int) (lastK []) := by
    rw [HW3.out]
    refine ⟨?_, ?_, ?_, ?_, ?_⟩ <;> simp [go_sem, lastK]
  have HP0 := Lib.hid hp0
  refine wpIn_range (gf := 102) (lb := #[.pointer (some ⟨w.heap.size + 6, 0, none⟩), .pointer (some ⟨w.heap.size + 5, 0, none⟩), .pointer (some ⟨w.heap.size + 4, 0, none⟩)]) ?e1 ?e2
    (near_stops N s A n c (w.heap.size + 6) (w.heap.size + 5) (w.heap.size + 4) L HN.out hc HO.out h0 h1 w3 hin) (Bl.refl _) (fun i hi => inBlocks_lt hin hi) ?e3
    (fun pre K W' => (∀ i, K i ↔ i = w.heap.size + 2) ∧ PairAt W' (w.heap.size + 2) ((pre.length : Nat) : Int) (lastK pre))
    (fun _ _ _ _ => False)
    (fun pre x a K W' => ∃ xb : Nat, ∃ z0 z1 z2 z3 z4 z7 z8 z9 z10 z11 z12 z13 z14 z15 z16 z17 z18 : Value, (∀ i, K i ↔ (i = w.heap.size + 2 ∨ i = xb)) ∧ PairAt W' (w.heap.size + 2) ((pre.length : Nat) : Int) (lastK pre) ∧ (xb ≠ w.heap.size + 2 ∧ W'.cell? ⟨xb, 0, none⟩ = some (.int .i64 x.1) ∧ W'.cell? ⟨xb, 1, none⟩ = some (.int .i64 x.2)) ∧
      a = { tmps := #[z0, z1, z2, z3, z4, .pointer (some ⟨w.heap.size + 1 + 1, 0, none⟩), .pointer (some ⟨xb, 0, none⟩), z7, z8, z9, z10, z11, z12, z13, z14, z15, z16, z17, z18], defers := [] })
    (fun i => i = w.heap.size + 2) ?hK0 ?hI (fun _ _ _ _ _ h _ => h) ?hM ?hlt ⟨fun i => Iff.rfl, hp0⟩ ?assign ?body ?done (fun _ _ _ _ _ _ _ h _ _ _ => h.elim)
  case e1 => rfl
  case e2 => exact enters_of Try.func102 (by kernel_rfl) rfl
  case e3 => exact fun x => rfl
  case hK0 =>
    rintro i rfl hi
    rcases hi with h | h | h | ⟨hl, h⟩
    · omega
    · omega
    · omega
    · obtain ⟨g, off, rfl, hg, -⟩ := K1.out hl
      have : g = w.heap.size + 2 := by simpa [blockOf] using h
      omega
  case hI =>
    rintro pre K X Y ⟨hk, hnum⟩ ht
    exact ⟨hk, hnum.turn ht (fun h => h ((hk _).2 rfl))⟩
  case hM =>
    rintro pre x a K X Y ⟨xb, z0, z1, z2, z3, z4, z7, z8, z9, z10, z11, z12, z13, z14, z15, z16, z17, z18, hk, hnum, ⟨hne, hc0, hc1⟩, he⟩ ht
    have hx := World.block_lt_of_cell? _ _ hc0
    have hs := fun o => (ht.cells hx (fun h => h ((hk _).2 (.inr rfl))) o).1
    exact ⟨xb, z0, z1, z2, z3, z4, z7, z8, z9, z10, z11, z12, z13, z14, z15, z16, z17, z18, hk, hnum.turn ht (fun h => h ((hk _).2 (.inl rfl))), ⟨hne, (hs 0).trans hc0, (hs 1).trans hc1⟩, he⟩
  case hlt =>
    rintro pre K X ⟨hk, hnum⟩ i hi
    rw [(hk i).1 hi]
    exact hnum.lt
  case assign =>
    rintro l pre ⟨x, y⟩ K W R ⟨hk, hnum⟩ hpre hR
    have HK := Lib.hid hk
    have HNM := Lib.hid hnum
    have HR := Lib.hid hR
    clear hk hnum hpre hR hs3 hbw hin hp0
    dsimp only [encI]
    gi_wp2_with fail
    have hlt := HNM.out.lt
    refine HR.out _ (fun i => i = w.heap.size + 2 ∨ i = W.heap.size) _ ⟨Turn.of_bl (by repeat' (first | exact Bl.refl _ | with_reducible assumption | with_reducible refine Bl.drew_ ?_ | with_reducible refine Bl.drewN_ ?_ _ | with_reducible refine Bl.alloc_ ?_ _ | with_reducible refine Bl.trans_ ?_ (by assumption) | with_reducible refine Bl.trans_ ?_ (And.left (by assumption)))), fun i hi => hi.imp (fun h => (HK.out i).2 h) (fun h => by rw [h]; exact Nat.le_refl _)⟩ ⟨W.heap.size, _, _, _, _, _, _, _, _, _, _, _, _, _, _, _, _, _, fun i => Iff.rfl, HNM.out.bl (by repeat' (first | exact Bl.refl _ | with_reducible assumption | with_reducible refine Bl.drew_ ?_ | with_reducible refine Bl.drewN_ ?_ _ | with_reducible refine Bl.alloc_ ?_ _ | with_reducible refine Bl.trans_ ?_ (by assumption) | with_reducible refine Bl.trans_ ?_ (And.left (by assumption)))), ⟨by omega, by simp [go_sem], by simp [go_sem]⟩, rfl⟩
  case body =>
    rintro l pre ⟨x, y⟩ a₁ K W ⟨xb, z0, z1, z2, z3, z4, z7, z8, z9, z10, z11, z12, z13, z14, z15, z16, z17, z18, hk, hnum, ⟨hne, hc0, hc1⟩, rfl⟩ ⟨Z, hZ⟩
    have hpl := told_len (Z := (x, y) :: Z) (arcsIn_of_ok HO.out) hN24 hZ
    have r0 := hnum.c0
    have r1 := hnum.c1
    have r2 := hnum.f0
    have r3 := hnum.f1
    have hdl := hnum.lt
    have HK := Lib.hid hk
    have HNM := Lib.hid hnum
    have e1 : ((pre ++ [(x, y)]).length : Nat) = pre.length + 1 := by simp
    have e2 : lastK (pre ++ [(x, y)]) = x := lastK_snoc _ _
    have E1 := Lib.hid e1
    have E2 := Lib.hid e2
    obtain ⟨m, hm⟩ : ∃ m, m = pre.length := ⟨_, rfl⟩
    have HM := Lib.hid hm
    rw [← hm] at r0 hpl
    generalize lastK pre = lk at r1
    clear hk hnum hs3 hbw hin hp0 hZ e1 e2 hm
    simp only at hc0 hc1
    have hne' : w.heap.size + 2 ≠ xb := fun h => hne h.symm
    gi_wp2_with fail
    refine ⟨fun i => i = w.heap.size + 2, ⟨Turn.set (p := ⟨w.heap.size + 2, 1, none⟩) (Turn.set (p := ⟨w.heap.size + 2, 0, none⟩) (Turn.refl K W) (.inl ((HK.out _).2 (.inl rfl))) _) (.inl ((HK.out _).2 (.inl rfl))) _, fun i hi => .inl ((HK.out i).2 (.inl hi))⟩, fun i => Iff.rfl, ?_⟩
    have h5 := (HNM.out.set0 ((m : Int) + 1)).set1 x
    rw [E1.out, E2.out, ← HM.out]
    exact h5
  case done =>
    rintro D xs K W hD hall ⟨hk, hnum⟩ hT hKD hdef
    have HK := Lib.hid hk
    have HNM := Lib.hid hnum
    have HT := Lib.hid hT
    have HA := Lib.hid hall
    have HD := Lib.hid hdef
    have S3 := Lib.hid hs3
    have BW := Lib.hid hbw
    clear hk hnum hT hall hdef hs3 hbw hin hp0
    have RB := Lib.hid ((show PairAt w3 (w.heap.size + 1) 0 0 from by rw [HW3.out]; refine ⟨?_, ?_, ?_, ?_, ?_⟩ <;> simp [go_sem]).turn HT.out (by omega))
    have EC := Lib.hid (HA.out.count (arcsIn_of_ok HO.out) hN24)
    have EM := Lib.hid (HA.out.last (arcsIn_of_ok HO.out) hN24)
    have r0 := HNM.out.c0
    have r1 := HNM.out.c1
    have r2 := RB.out.c0
    have r3 := RB.out.c1
    have r4 := RB.out.f0
    have r5 := RB.out.f1
    rw [EC.out] at r0
    rw [EM.out] at r1
    gi_wp2_with fail
    have hs3 := S3.out
    have PR := (RB.out.set0 ((cntD (distL N L s) : Nat) : Int)).set1 (maxD (distL N L s))
    have hDl : D < W.heap.size := (Array.getElem?_eq_some_iff.1 HD.out).1
    have hts : Turn (fun i => i = w.heap.size + 1) W ((W.setCell ⟨w.heap.size + 1, 0, none⟩ (.int .i64 ((cntD (distL N L s) : Nat) : Int))).setCell ⟨w.heap.size + 1, 1, none⟩ (.int .i64 (maxD (distL N L s)))) := Turn.set (p := ⟨w.heap.size + 1, 1, none⟩) (Turn.set (S := fun i => i = w.heap.size + 1) (p := ⟨w.heap.size + 1, 0, none⟩) (Turn.refl _ _) (.inl rfl) _) (.inl rfl) _
    have hD2 := (hts.block D hDl (by omega)).trans HD.out
    have hnums2 := PR.turn (turn_put (fun i => i = D) _ (.deferred none) rfl) (show ¬ (w.heap.size + 1 = D) by omega)
    refine ⟨by simp, .inl ⟨_, _, rfl, run_takeDeferred hD2, ?_⟩⟩
    refine ⟨_, results_cell_mid rfl _ _ (w.heap.size + 1) (csI [((cntD (distL N L s) : Nat) : Int), maxD (distL N L s)]) _ rfl hnums2.range Try.underlying54 rfl (by kernel_rfl), ?_⟩
    refine ⟨rfl, ?_⟩
    have hbW : Bl w W := Turn.to_bl BW.out HT.out (fun i hi => by rw [hi]; omega)
    have h4 : Bl w _ := Turn.to_bl hbW hts (fun i hi => by rw [hi]; omega)
    exact Turn.to_bl h4 (turn_put (fun i => i = D) _ (.deferred none) rfl) (fun i hi => by rw [hi]; omega)

set_option maxHeartbeats 1000000 in
theorem betterThan_any (a1 a2 b1 b2 : Int) (w : World) :
    Calls Try.prog 43 #[.agg #[.int .i64 a1, .int .i64 a2], .agg #[.int .i64 b1, .int .i64 b2]] w fun e w' => e = .returned (.bool (betterB (a1, a2) (b1, b2))) ∧ Bl w w' := by
  by_cases h1 : a1 = b1
  · have d1 : (a1 != b1) = false := by simpa using h1
    go_enter Try.func43, Try.ntmps43
    go_wp2
    go_ret
    exact ⟨ret_bool (by unfold betterB; simp [h1]), (by repeat' (first | exact Bl.refl _ | with_reducible assumption | with_reducible refine Bl.drew_ ?_ | with_reducible refine Bl.drewN_ ?_ _ | with_reducible refine Bl.alloc_ ?_ _ | with_reducible refine Bl.trans_ ?_ (by assumption) | with_reducible refine Bl.trans_ ?_ (And.left (by assumption))))⟩
  · have d1 : (a1 != b1) = true := by simpa using h1
    go_enter Try.func43, Try.ntmps43
    go_wp2
    go_ret
    exact ⟨ret_bool (by unfold betterB; simp [h1]), (by repeat' (first | exact Bl.refl _ | with_reducible assumption | with_reducible refine Bl.drew_ ?_ | with_reducible refine Bl.drewN_ ?_ _ | with_reducible refine Bl.alloc_ ?_ _ | with_reducible refine Bl.trans_ ?_ (by assumption) | with_reducible refine Bl.trans_ ?_ (And.left (by assumption))))⟩

end Go.Proofs.Ytjmooakjdcepcaa

set_option linter.unusedSimpArgs false
set_option linter.unusedVariables false
namespace Go.Proofs.Ytjmooakjdcepcaa
open Go.RowKit Go.Shelf
attribute [local go_sem] Oper.semAt_some

/-- May a half be asked for? -/
def halfB (N : Int) (L : List Arc3) (s r : Int) : Bool := has1 N L s && decide (0 ≤ r ∧ r ≤ 24000)
/-- A half is left, or none. -/
def HalfT (b : Bool) (D M : List Int) (r : Int) (w : World) (e : Ending) (w' : World) : Prop :=
  ∃ A c A' c', e = .returned (.tuple #[.agg #[.slice A D.length c, .slice A' M.length c', .int .i64 r], .bool b]) ∧ OwnN w' w.heap.size (.slice A D.length c) D ∧ OwnN w' w.heap.size (.slice A' M.length c') M ∧ (∀ g, blockOf A = some g → blockOf A' ≠ some g) ∧ Bl w w'
def halfDD (N : Int) (L : List Arc3) (s r : Int) : List Int := if halfB N L s r = true then halfD N L s r else []
def halfNN (N : Int) (L : List Arc3) (s r : Int) : List Int := if halfB N L s r = true then halfN N L s r else []
def halfR (N : Int) (L : List Arc3) (s r : Int) : Int := if halfB N L s r = true then r else 0
def HalfLaw (N : Int) (L : List Arc3) (s r : Int) (w : World) (e : Ending) (w' : World) : Prop := HalfT (halfB N L s r) (halfDD N L s r) (halfNN N L s r) (halfR N L s r) w e w'
theorem HalfLaw.no {N : Int} {L : List Arc3} {s r : Int} {w w' : World} (h : halfB N L s r = false) (hb : Bl w w') : HalfLaw N L s r w (.returned (.tuple #[.agg #[.slice none 0 0, .slice none 0 0, .int .i64 0], .bool false])) w' := by
  unfold HalfLaw halfDD halfNN halfR
  rw [h]
  exact ⟨none, 0, none, 0, rfl, OwnN.nil_ _ _, OwnN.nil_ _ _, fun g e => by simp [blockOf] at e, hb⟩
theorem HalfLaw.yes {N : Int} {L : List Arc3} {s r : Int} {w w' : World} (h : halfB N L s r = true) {A : Option Addr} {c : Nat} {A' : Option Addr} {c' : Nat} {P M : List Int} (hP : P = halfD N L s r) (hM : M = halfN N L s r) (h0 : OwnN w' w.heap.size (.slice A P.length c) P) (h1 : OwnN w' w.heap.size (.slice A' M.length c') M) (hne : ∀ g, blockOf A = some g → blockOf A' ≠ some g) (hb : Bl w w') :
    HalfLaw N L s r w (.returned (.tuple #[.agg #[.slice A P.length c, .slice A' M.length c', .int .i64 r], .bool true])) w' := by
  subst hP hM
  unfold HalfLaw halfDD halfNN halfR
  rw [h]
  exact ⟨A, c, A', c', rfl, h0, h1, hne, hb⟩

theorem OwnN.cell_' {w : World} {B g c n : Nat} {V : List Int} (h : OwnN w B (.slice (some ⟨g, 0, none⟩) n c) V) {d : Nat} (hd : d < V.length) : w.cell? ⟨g, d, none⟩ = some (.int .i64 V[d]) ∧ w.frozen? ⟨g, d, none⟩ = false ∧ g < w.heap.size := by
  obtain ⟨A, c', e, -, -, -, hs⟩ := Owns.shape h
  injection e with e1 e2 e3
  obtain ⟨g', e4, hB, hg, hf, hc⟩ := hs (by omega)
  rw [← e1] at e4
  injection e4 with e4
  injection e4 with e5
  subst e5
  exact ⟨by rw [hc d (by rw [csI_len]; exact hd), csI_at], hf d, hg⟩
/-- What is put together, in the block ob, of two lists of its own. -/
structure HR (B ob : Nat) (r : Int) (P D : List Int) (rb : Nat) (A1 : Option Addr) (c1 : Nat) (wr : World) : Prop where
  d : wr.cell? ⟨ob, 0, none⟩ = some (.slice (some ⟨rb, 0, none⟩) P.length P.length)
  n : wr.cell? ⟨ob, 1, none⟩ = some (.slice A1 D.length c1)
  rad : wr.cell? ⟨ob, 2, none⟩ = some (.int .i64 r)
  f1 : wr.frozen? ⟨ob, 1, none⟩ = false
  o0 : OwnN wr B (.slice (some ⟨rb, 0, none⟩) P.length P.length) P
  o1 : OwnN wr B (.slice A1 D.length c1) D
  ne : ob ≠ rb
  ne1 : ∀ g, blockOf A1 = some g → g ≠ ob ∧ g ≠ rb
  lo : B ≤ ob ∧ ob < wr.heap.size
variable {B ob rb c1 : Nat} {r : Int} {P D : List Int} {A1 : Option Addr} {wr w5 : World}
theorem HR.rlt (h : HR B ob r P D rb A1 c1 wr) : B ≤ rb ∧ rb < wr.heap.size := Owns.lt h.o0 rb (by rw [ownBlock_slice]; rfl)
theorem HR.turn (h : HR B ob r P D rb A1 c1 wr) {S : Nat → Prop} (t : Turn S wr w5) (h1 : ¬ S ob) (h2 : ¬ S rb) (h3 : ∀ g, blockOf A1 = some g → ¬ S g) : HR B ob r P D rb A1 c1 w5 := by
  have hl := h.lo.2
  refine ⟨(t.cell hl h1 0).trans h.d, (t.cell hl h1 1).trans h.n, (t.cell hl h1 2).trans h.rad, (t.cells hl h1 1).2.trans h.f1, Owns.turn h.o0 t (fun g hg => ?_), Owns.turn h.o1 t (fun g hg => ?_), h.ne, h.ne1, h.lo.1, Nat.lt_of_lt_of_le hl t.size⟩
  · rw [ownBlock_slice] at hg
    obtain rfl : rb = g := by simpa [blockOf] using hg
    exact h2
  · rw [ownBlock_slice] at hg
    exact h3 g hg
theorem HR.bl (h : HR B ob r P D rb A1 c1 wr) (b : Bl wr w5) : HR B ob r P D rb A1 c1 w5 := h.turn (Turn.of_bl (S := fun _ => False) b) id id (fun _ _ => id)
/-- A number of the first list is set. -/
theorem HR.put (h : HR B ob r P D rb A1 c1 wr) (u : Nat) (x : Int) : HR B ob r (P.set u x) D rb A1 c1 (wr.setCell ⟨rb, u, none⟩ (.int .i64 x)) := by
  have t : Turn (fun i => i = rb) wr (wr.setCell ⟨rb, u, none⟩ (.int .i64 x)) := Turn.set (p := ⟨rb, u, none⟩) (Turn.refl (fun i => i = rb) _) (.inl rfl) _
  have hl := h.lo.2
  have h1 : ¬ ob = rb := h.ne
  refine ⟨by rw [List.length_set]; exact (t.cell hl h1 0).trans h.d, (t.cell hl h1 1).trans h.n, (t.cell hl h1 2).trans h.rad, (t.cells hl h1 1).2.trans h.f1, ?_, Owns.turn h.o1 t (fun g hg => ?_), h.ne, h.ne1, h.lo.1, Nat.lt_of_lt_of_le hl t.size⟩
  · have k := (Owns.stored (t := 2) (s := 1) (B := B) (n := P.length) h.o0 u (.int .i64 x)).1
    unfold OwnN
    rw [List.length_set]
    have e : csI (P.set u x) = (csI P).set u (.int .i64 x) := by simp [csI, List.map_set]
    rw [e]
    exact k
  · rw [ownBlock_slice] at hg
    exact (h.ne1 g hg).2
/-- A number is put behind the second list. -/
theorem HR.snoc (h : HR B ob r P D rb A1 c1 wr) {x : Int} {A' : Option Addr} {c' l : Nat} (hl' : l = (D ++ [x]).length) (hg : wr.grownBy w5 (blockOf A1)) (ho : OwnN w5 B (.slice A' l c') (D ++ [x])) (hw : blockOf A' = blockOf A1 ∨ blockOf A' = some wr.heap.size) :
    HR B ob r P (D ++ [x]) rb A' c' (w5.setCell ⟨ob, 1, none⟩ (.slice A' l c')) := by
  subst hl'
  have hl := h.lo.2
  have hr := h.rlt.2
  have t1 : Turn (fun i => blockOf A1 = some i) wr w5 := Turn.of_grown hg (fun k e => e)
  have n1 : ¬ blockOf A1 = some ob := fun e => (h.ne1 ob e).1 rfl
  have n2 : ¬ blockOf A1 = some rb := fun e => (h.ne1 rb e).2 rfl
  have hne : ∀ g, blockOf A' = some g → g ≠ ob ∧ g ≠ rb := fun g e => by
    rcases hw with hw | hw
    · exact h.ne1 g (hw ▸ e)
    · rw [hw] at e
      obtain rfl : wr.heap.size = g := by simpa using e
      omega
  have hl5 : ob < w5.heap.size := Nat.lt_of_lt_of_le hl t1.size
  have d5 := (t1.cell hl n1 0).trans h.d
  have r5 := (t1.cell hl n1 2).trans h.rad
  have m5 := (t1.cell hl n1 1).trans h.n
  have f5 := (t1.cells hl n1 1).2.trans h.f1
  have t2 : Turn (fun i => i = ob) w5 (w5.setCell ⟨ob, 1, none⟩ (.slice A' (D ++ [x]).length c')) := Turn.set (p := ⟨ob, 1, none⟩) (Turn.refl (fun i => i = ob) _) (.inl rfl) _
  have hne' : ¬ rb = ob := fun e => h.ne e.symm
  refine ⟨by simp [go_sem, *], by simp [go_sem, *], by simp [go_sem, *], by simp [go_sem, *], Owns.turn (Owns.turn h.o0 t1 (fun g hg => ?_)) t2 (fun g hg => ?_), Owns.turn ho t2 (fun g hg => ?_), h.ne, hne, h.lo.1, Nat.lt_of_lt_of_le hl5 t2.size⟩
  · rw [ownBlock_slice] at hg
    obtain rfl : rb = g := by simpa [blockOf] using hg
    exact n2
  · rw [ownBlock_slice] at hg
    obtain rfl : rb = g := by simpa [blockOf] using hg
    exact hne'
  · rw [ownBlock_slice] at hg
    exact (hne g hg).1

/-- Three cells of a block that may be written. -/
structure T3At (b : Nat) (v0 v1 v2 : Value) (w : World) : Prop where
  lt : b < w.heap.size
  c0 : w.cell? ⟨b, 0, none⟩ = some v0
  c1 : w.cell? ⟨b, 1, none⟩ = some v1
  c2 : w.cell? ⟨b, 2, none⟩ = some v2
  f0 : w.frozen? ⟨b, 0, none⟩ = false
  f1 : w.frozen? ⟨b, 1, none⟩ = false
  f2 : w.frozen? ⟨b, 2, none⟩ = false
theorem T3At.turn {b : Nat} {v0 v1 v2 : Value} {w w' : World} (h : T3At b v0 v1 v2 w) {S : Nat → Prop} (t : Turn S w w') (hS : ¬ S b) : T3At b v0 v1 v2 w' :=
  ⟨Nat.lt_of_lt_of_le h.lt t.size, (t.cells h.lt hS 0).1.trans h.c0, (t.cells h.lt hS 1).1.trans h.c1, (t.cells h.lt hS 2).1.trans h.c2, (t.cells h.lt hS 0).2.trans h.f0, (t.cells h.lt hS 1).2.trans h.f1, (t.cells h.lt hS 2).2.trans h.f2⟩
theorem T3At.set3 {b : Nat} {v0 v1 v2 : Value} {w : World} (h : T3At b v0 v1 v2 w) (y0 y1 y2 : Value) : T3At b y0 y1 y2 (((w.setCell ⟨b, 0, none⟩ y0).setCell ⟨b, 1, none⟩ y1).setCell ⟨b, 2, none⟩ y2) := by
  have h1 := h.lt
  have c0 := h.c0
  have c1 := h.c1
  have c2 := h.c2
  have f0 := h.f0
  have f1 := h.f1
  have f2 := h.f2
  refine ⟨by simpa using h1, ?_, ?_, ?_, ?_, ?_, ?_⟩ <;> simp [go_sem, *]
/-- How the nodes were left: at the first one beyond the radius. -/
def HStop (B rad ob rb q : Nat) (r : Int) (co : Code) (pre' : List It) (K : Nat → Prop) (W' : World) : Prop :=
  co = .exit 0 ∧ ∃ (pre : List It) (x : It) (A1 : Option Addr) (c1 : Nat), pre' = pre ++ [x] ∧ r < x.1 ∧ (∀ i, K i ↔ (i = rad ∨ i = ob ∨ i = rb ∨ blockOf A1 = some i)) ∧ HR B ob r (keysL q pre) (pre.map (·.2)) rb A1 c1 W' ∧ (∀ y ∈ pre, y.1 ≤ r)
/-- A half with nothing in it. -/
structure Half0 (ob : Nat) (w : World) : Prop where
  c0 : w.cell? ⟨ob, 0, none⟩ = some (.slice none 0 0)
  c1 : w.cell? ⟨ob, 1, none⟩ = some (.slice none 0 0)
  c2 : w.cell? ⟨ob, 2, none⟩ = some (.int .i64 0)
  f0 : w.frozen? ⟨ob, 0, none⟩ = false
  f1 : w.frozen? ⟨ob, 1, none⟩ = false
  f2 : w.frozen? ⟨ob, 2, none⟩ = false
  lt : ob < w.heap.size
theorem Half0.bl {ob : Nat} {w w' : World} (h : Half0 ob w) (b : Bl w w') : Half0 ob w' := by
  obtain ⟨e1, e2⟩ := bcell b
  have hl := h.lt
  exact ⟨(e1 _ _ hl).trans h.c0, (e1 _ _ hl).trans h.c1, (e1 _ _ hl).trans h.c2, (e2 _ _ hl).trans h.f0, (e2 _ _ hl).trans h.f1, (e2 _ _ hl).trans h.f2, Nat.lt_of_lt_of_le hl b.size⟩
theorem half0_new (w : World) {w' : World} (b : Bl (w.alloc (.cells #[.slice none 0 0, .slice none 0 0, .int .i64 0] 42)) w') : Half0 w.heap.size w' :=
  Half0.bl (w := w.alloc (.cells #[.slice none 0 0, .slice none 0 0, .int .i64 0] 42)) (by refine ⟨?_, ?_, ?_, ?_, ?_, ?_, ?_⟩ <;> simp [go_sem]) b
theorem half_start {q : Nat} {w : World} (h : Half0 ob w) (hne : ob ≠ rb) (hB : B ≤ ob) (ho : OwnN w B (.slice (some ⟨rb, 0, none⟩) q q) (List.replicate q (-1))) :
    HR B ob r (List.replicate q (-1)) [] rb none 0 (((w.setCell ⟨ob, 0, none⟩ (.slice (some ⟨rb, 0, none⟩) q q)).setCell ⟨ob, 1, none⟩ (.slice none 0 0)).setCell ⟨ob, 2, none⟩ (.int .i64 r)) := by
  have c0 := h.c0
  have c1 := h.c1
  have c2 := h.c2
  have f0 := h.f0
  have f1 := h.f1
  have f2 := h.f2
  have hl := h.lt
  have hne' : ¬ rb = ob := fun e => hne e.symm
  have t : Turn (fun i => i = ob) w (((w.setCell ⟨ob, 0, none⟩ (.slice (some ⟨rb, 0, none⟩) q q)).setCell ⟨ob, 1, none⟩ (.slice none 0 0)).setCell ⟨ob, 2, none⟩ (.int .i64 r)) :=
    Turn.set (p := ⟨ob, 2, none⟩) (Turn.set (p := ⟨ob, 1, none⟩) (Turn.set (p := ⟨ob, 0, none⟩) (Turn.refl (fun i => i = ob) _) (.inl rfl) _) (.inl rfl) _) (.inl rfl) _
  refine ⟨by simp [go_sem, *], by simp [go_sem, *], by simp [go_sem, *], by simp [go_sem, *], ?_, OwnN.nil_ _ _, hne, fun g e => by simp [blockOf] at e, hB, by simpa using hl⟩
  have k := Owns.turn ho t (fun g hg => by
    rw [ownBlock_slice] at hg
    obtain rfl : rb = g := by simpa [blockOf] using hg
    exact hne')
  rw [List.length_replicate]
  exact k


end Go.Proofs.Ytjmooakjdcepcaa

set_option linter.unusedSimpArgs false
set_option linter.unusedVariables false
namespace Go.Proofs.Ytjmooakjdcepcaa
open Go.RowKit Go.Shelf
attribute [local go_sem] Oper.semAt_some

set_option maxRecDepth 100000 in
set_option maxHeartbeats 16000000 in
theorem implHalf_yes (q : Nat) (s r : Int) (A : Option Addr) (n c : Nat) (L : List Arc3) (hn : n = L.length) (hc : n ≤ c) (hh : has1 (q : Int) L s = true) (hr0 : 0 ≤ r) (hr1 : r ≤ 24000) (w : World) (hm : n ≤ 1048576) (H1 : ArcsAt w w.heap.size A L) :
    Calls Try.prog 25 #[.agg #[.int .i64 (q : Int), .slice A n c], .int .i64 s, .int .i64 r] w (HalfLaw q L s r w) := by
  obtain ⟨i0, hi, hz0, hz1, hz2⟩ := info_parts infoInt
  have I0 := Lib.hid hi
  have I1 := Lib.hid hz0
  have I2 := Lib.hid hz1
  have I3 := Lib.hid hz2
  have K1 := Lib.hid H1
  have HN := Lib.hid hn
  have HH := Lib.hid hh
  obtain ⟨ho, hs0, hs1⟩ := has1_of hh
  have HO := Lib.hid ho
  have hN1 := (okB_elim ho).1
  have hN24 := (okB_elim ho).2.1
  have HB := Lib.hid (show halfB q L s r = true from by unfold halfB; rw [hh]; simp; exact ⟨hr0, hr1⟩)
  clear H1 hn hi hz0 hz1 hz2 hh ho
  have d0 : decide (r < 0) = false := by simpa using hr0
  have d1 : decide (24000 < r) = false := by simpa using hr1
  have BX := Lib.hid (show ∀ wx, Bl (((w.alloc (.cells #[.int .i64 (q : Int), .slice A n c] 26)).alloc (.cells #[.int .i64 r] 2)).alloc (.cells #[.slice none 0 0, .slice none 0 0, .int .i64 0] 42)) wx → (wx.cell? ⟨w.heap.size, 0, none⟩ = some (.int .i64 (q : Int)) ∧ wx.cell? ⟨w.heap.size, 1, none⟩ = some (.slice A n c)) ∧ wx.cell? ⟨w.heap.size + 1, 0, none⟩ = some (.int .i64 r) ∧ (wx.cell? ⟨w.heap.size + 1 + 1, 0, none⟩ = some (.slice none 0 0) ∧ wx.cell? ⟨w.heap.size + 1 + 1, 1, none⟩ = some (.slice none 0 0) ∧ wx.cell? ⟨w.heap.size + 1 + 1, 2, none⟩ = some (.int .i64 0)) ∧ (wx.frozen? ⟨w.heap.size + 1 + 1, 0, none⟩ = false ∧ wx.frozen? ⟨w.heap.size + 1 + 1, 1, none⟩ = false ∧ wx.frozen? ⟨w.heap.size + 1 + 1, 2, none⟩ = false) ∧ w.heap.size + 3 ≤ wx.heap.size from fun wx hb => by
    obtain ⟨e1, e2⟩ := bcell hb
    have hs := hb.size
    refine ⟨⟨?_, ?_⟩, ?_, ⟨?_, ?_, ?_⟩, ⟨?_, ?_, ?_⟩, by simpa using hs⟩
    · rw [e1 _ _ (by simp; omega)]; simp [go_sem]
    · rw [e1 _ _ (by simp; omega)]; simp [go_sem]
    · rw [e1 _ _ (by simp)]; simp [go_sem]
    · rw [e1 _ _ (by simp)]; simp [go_sem]
    · rw [e1 _ _ (by simp)]; simp [go_sem]
    · rw [e1 _ _ (by simp)]; simp [go_sem]
    · rw [e2 _ _ (by simp)]; simp [go_sem]
    · rw [e2 _ _ (by simp)]; simp [go_sem]
    · rw [e2 _ _ (by simp)]; simp [go_sem])
  have BW := Lib.hid (show Bl w (((w.alloc (.cells #[.int .i64 (q : Int), .slice A n c] 26)).alloc (.cells #[.int .i64 r] 2)).alloc (.cells #[.slice none 0 0, .slice none 0 0, .int .i64 0] 42)) from Bl.alloc_ (Bl.alloc_ (Bl.alloc_ (Bl.refl w) _) _) _)
  refine (callsIn_wide (n := 0)).1 ?_
  refine callsIn_of_wp_marks Try.func25 rfl trivial ?_ rfl
  simp only [Try.ntmps25, List.size_toArray, List.length_cons, List.length_nil, Nat.reduceAdd, Nat.reduceSub, Array.replicate_succ, Array.replicate_zero, List.push_toArray, List.append_toArray, List.nil_append, List.cons_append]
  gi_wp2_with fail
  refine ⟨trivial, rfl, CallsIn.mono (callsIn_wide.2 (hasNodes_1 q s A n c L HN.out (w.heap.size + 3) 1 _ (by omega) (K1.out.bl (by repeat' (first | exact Bl.refl _ | with_reducible assumption | with_reducible refine Bl.drew_ ?_ | with_reducible refine Bl.drewN_ ?_ _ | with_reducible refine Bl.alloc_ ?_ _ | with_reducible refine Bl.trans_ ?_ (by assumption) | with_reducible refine Bl.trans_ ?_ (And.left (by assumption))))) (by simp) (by simp [go_sem]))) ?_⟩
  rintro e X ⟨rfl, hb1⟩
  rw [HH.out]
  have B1 := Lib.hid (show Bl (((w.alloc (.cells #[.int .i64 (q : Int), .slice A n c] 26)).alloc (.cells #[.int .i64 r] 2)).alloc (.cells #[.slice none 0 0, .slice none 0 0, .int .i64 0] 42)) X from Bl.trans_ (Bl.alloc_ (Bl.refl _) _) hb1)
  obtain ⟨⟨q0, q1⟩, q2, -, -, hX3⟩ := BX.out _ B1.out
  clear hb1
  gi_wp2_with fail
  have HSH := Lib.hid (show ∀ wx, Bl X wx → wx.cell? ⟨w.heap.size, 0, none⟩ = some (.int .i64 (q : Int)) ∧ wx.cell? ⟨w.heap.size + 1, 0, none⟩ = some (.int .i64 r) from fun wx hb => by
    obtain ⟨⟨p0, -⟩, p2, -⟩ := BX.out _ (B1.out.trans_ hb)
    exact ⟨p0, p2⟩)
  clear q0 q1 q2
  refine wpIn_mono (Q := fun e a wc => e = Exit.normal ∧ ∃ (ob rb : Nat), ∃ z0 z2 z7 z10 z11 z12 z13 z14 z15 z16 z17 z18 z19 z20 z21 z22 z23 z24 z25 z26 z27 z28 z29 : Value, a = { tmps := #[z0, .int .i64 s, z2, .pointer (some ⟨w.heap.size, 0, none⟩), undef, .pointer (some ⟨w.heap.size + 1, 0, none⟩), .pointer (some ⟨w.heap.size + 1 + 1, 0, none⟩), z7, .pointer (some ⟨ob, 0, none⟩), undef, z10, z11, z12, z13, z14, z15, z16, z17, z18, z19, z20, z21, z22, z23, z24, z25, z26, z27, z28, z29, undef, undef, undef, undef, undef, undef, undef, undef, undef, undef, undef, undef, undef, undef, undef, undef, undef, undef, undef, undef, undef, undef, undef], defers := [] } ∧ HR X.heap.size ob r (List.replicate q (-1)) [] rb none 0 wc ∧ Bl X wc) ?first ?rest
  case first =>
    refine wpIn_region_held (S := fun wx => wx.cell? ⟨w.heap.size, 0, none⟩ = some (.int .i64 (q : Int)) ∧ wx.cell? ⟨w.heap.size + 1, 0, none⟩ = some (.int .i64 r)) (by kernel_rfl) ?_ (fun hHeld => ?_)
    · exact HSH.out _ (Bl.drew_ (Bl.refl X))
    refine wpAnyH_take (i := 1) (v := ?_) rfl (by kernel_rfl) (by kernel_rfl) (by kernel_rfl) (fun _ _ _ h => h) (Or.inl ⟨by kernel_rfl, ?_⟩) (by assumption) ?_
    rotate_left
    · (intro wx hSw; (try dsimp only at hSw); go_simp; try (with_reducible rfl))
    try simp only [Act.put, List.getElem_toArray, List.getElem_cons_succ, List.getElem_cons_zero, List.setIfInBounds_toArray, List.set_cons_zero, List.set_cons_succ]
    refine wpAnyH_take (i := 2) (v := ?_) rfl (by kernel_rfl) (by kernel_rfl) (by kernel_rfl) (fun _ _ _ h => h) (Or.inl ⟨by kernel_rfl, ?_⟩) (by assumption) ?_
    rotate_left
    · (intro wx hSw; (try dsimp only at hSw); go_simp; try (with_reducible rfl))
    try simp only [Act.put, List.getElem_toArray, List.getElem_cons_succ, List.getElem_cons_zero, List.setIfInBounds_toArray, List.set_cons_zero, List.set_cons_succ]
    refine wpAnyH_take (i := 4) (v := ?_) rfl (by kernel_rfl) (by kernel_rfl) (by kernel_rfl) (fun _ _ _ h => h) (Or.inl ⟨by kernel_rfl, ?_⟩) (by assumption) ?_
    rotate_left
    · (intro wx hSw; (try dsimp only at hSw); go_simp; try (with_reducible rfl))
    try simp only [Act.put, List.getElem_toArray, List.getElem_cons_succ, List.getElem_cons_zero, List.setIfInBounds_toArray, List.set_cons_zero, List.set_cons_succ]
    clear hHeld
    refine wpAnyH_ready (rs := [0, 6]) (by kernel_rfl) (by simp) ?_
    refine AllReadyH.cons rfl (fun K hK => ?_) (AllReadyH.cons rfl (fun K hK => ?_) AllReadyH.nil)
    · go_simp
      refine hK.out _ _ ?_ (fun hHeld => ?_)
      · exact HSH.out _ (by first | exact Bl.alloc_ (Bl.drew_ (Bl.refl X)) _ | exact Bl.drew_ (Bl.alloc_ (Bl.refl X) _))
      clear hK K
      try simp only [Act.put, List.getElem_toArray, List.getElem_cons_succ, List.getElem_cons_zero, List.setIfInBounds_toArray, List.set_cons_zero, List.set_cons_succ]
      clear hHeld
      generalize hw : World.drew (World.alloc _ _) = w_1
      have B_1 := Lib.hid (show Bl X w_1 from by rw [← hw]; exact Bl.drew_ (Bl.alloc_ (Bl.refl X) _))
      have hz1 : X.heap.size < w_1.heap.size := by rw [← hw]; simp
      have C_1 := Lib.hid (show w_1.cell? ⟨X.heap.size, 0, none⟩ = some (.int .i64 (-1)) from by rw [← hw]; simp [go_sem])
      clear hw
      refine wpAnyH_ready (rs := [3, 6]) (by kernel_rfl) (by simp) ?_
      refine AllReadyH.cons rfl (fun K hK => ?_) (AllReadyH.cons rfl (fun K hK => ?_) AllReadyH.nil)
      · go_simp
        refine (repeat_any (X.heap.size) 1 (-1) q (by omega) (by omega) w_1 (by omega) C_1.out).mono ?_
        rintro e w_2 ⟨rfl, hO2, hb2⟩
        have O_2 := Lib.hid hO2
        have B_2 := Lib.hid (B_1.out.trans_ hb2)
        have hy2 := hb2.size
        have hx2 := B_1.out.size
        have hq2 := Owns.lt hO2 (w_1.heap.size) (by rw [ownBlock_slice]; rfl)
        try (go_wp2_with fail)
        refine hK.out _ _ ?_ (fun hHeld => ?_)
        · exact HSH.out _ B_2.out
        clear hK K
        try simp only [Act.put, List.getElem_toArray, List.getElem_cons_succ, List.getElem_cons_zero, List.setIfInBounds_toArray, List.set_cons_zero, List.set_cons_succ]
        refine wpAnyH_take (i := 5) (v := ?_) rfl (by kernel_rfl) (by kernel_rfl) (by kernel_rfl) (fun _ _ _ h => h) (Or.inl ⟨by kernel_rfl, ?_⟩) (by assumption) ?_
        rotate_left
        · (intro wx hSw; (try dsimp only at hSw); go_simp; try (with_reducible rfl))
        try simp only [Act.put, List.getElem_toArray, List.getElem_cons_succ, List.getElem_cons_zero, List.setIfInBounds_toArray, List.set_cons_zero, List.set_cons_succ]
        clear hHeld
        refine wpAnyH_ready (rs := [6]) (by kernel_rfl) (by simp) ?_
        refine AllReadyH.cons rfl (fun K hK => ?_) AllReadyH.nil
        go_simp
        refine hK.out _ _ ?_ (fun hHeld => ?_)
        · exact HSH.out _ (by first | exact Bl.alloc_ B_2.out _ | exact Bl.drew_ (Bl.alloc_ (Bl.refl X) _))
        clear hK K
        try simp only [Act.put, List.getElem_toArray, List.getElem_cons_succ, List.getElem_cons_zero, List.setIfInBounds_toArray, List.set_cons_zero, List.set_cons_succ]
        clear hHeld
        generalize hw : World.alloc _ _ = w_3
        have B_3 := Lib.hid (show Bl X w_3 from by rw [← hw]; exact Bl.alloc_ B_2.out _)
        have hz3 : w_2.heap.size < w_3.heap.size := by rw [← hw]; simp
        have hb3 : Bl w_2 w_3 := by rw [← hw]; exact Bl.alloc_ (Bl.refl _) _
        have hy3 := B_2.out.size
        have Z_3 := Lib.hid (show Half0 w_2.heap.size w_3 from by rw [← hw]; exact half0_new _ (Bl.refl _))
        have O_3 := Lib.hid (O_2.out.bl hb3)
        clear hw
        have z0 := Z_3.out.c0
        have z1 := Z_3.out.c1
        have z2 := Z_3.out.c2
        have y0 := Z_3.out.f0
        have y1 := Z_3.out.f1
        have y2 := Z_3.out.f2
        have zl := Z_3.out.lt
        have hol := Owns.lt O_3.out (w_1.heap.size) (by rw [ownBlock_slice]; rfl)
        refine wpAnyH_ready (rs := [7]) (by kernel_rfl) (by simp) ?_
        refine AllReadyH.cons rfl (fun K hK => ?_) AllReadyH.nil
        go_simp
        refine hK.out _ _ ?_ (fun hHeld => ?_)
        · exact HSH.out _ (Bl.set_ (Bl.set_ (Bl.set_ B_3.out (by first | exact Nat.le_refl _ | (show X.heap.size ≤ w_2.heap.size; omega)) _) (by first | exact Nat.le_refl _ | (show X.heap.size ≤ w_2.heap.size; omega)) _) (by first | exact Nat.le_refl _ | (show X.heap.size ≤ w_2.heap.size; omega)) _)
        clear hK K
        try simp only [Act.put, List.getElem_toArray, List.getElem_cons_succ, List.getElem_cons_zero, List.setIfInBounds_toArray, List.set_cons_zero, List.set_cons_succ]
        clear hHeld
        refine wpAnyH_done (by kernel_rfl) ?_ _
        refine NoOut.normal ?_
        refine ⟨rfl, w_2.heap.size, w_1.heap.size, _, _, _, _, _, _, _, _, _, _, _, _, _, _, _, _, _, _, _, _, _, _, _, rfl, ?_, (Bl.set_ (Bl.set_ (Bl.set_ B_3.out (by first | exact Nat.le_refl _ | (show X.heap.size ≤ w_2.heap.size; omega)) _) (by first | exact Nat.le_refl _ | (show X.heap.size ≤ w_2.heap.size; omega)) _) (by first | exact Nat.le_refl _ | (show X.heap.size ≤ w_2.heap.size; omega)) _)⟩
        exact half_start Z_3.out (r := r) (show w_2.heap.size ≠ w_1.heap.size by omega) (by first | exact Nat.le_refl _ | omega) (O_3.out.low (by omega))
      · go_simp
        refine hK.out _ _ ?_ (fun hHeld => ?_)
        · exact HSH.out _ (by first | exact Bl.alloc_ B_1.out _ | exact Bl.drew_ (Bl.alloc_ (Bl.refl X) _))
        clear hK K
        try simp only [Act.put, List.getElem_toArray, List.getElem_cons_succ, List.getElem_cons_zero, List.setIfInBounds_toArray, List.set_cons_zero, List.set_cons_succ]
        clear hHeld
        generalize hw : World.alloc _ _ = w_4
        have B_4 := Lib.hid (show Bl X w_4 from by rw [← hw]; exact Bl.alloc_ B_1.out _)
        have hz4 : w_1.heap.size < w_4.heap.size := by rw [← hw]; simp
        have hb4 : Bl w_1 w_4 := by rw [← hw]; exact Bl.alloc_ (Bl.refl _) _
        have hy4 := B_1.out.size
        have Z_4 := Lib.hid (show Half0 w_1.heap.size w_4 from by rw [← hw]; exact half0_new _ (Bl.refl _))
        have C_4 := Lib.hid (((bcell hb4).1 _ _ hz1).trans C_1.out)
        clear hw
        refine wpAnyH_ready (rs := [3]) (by kernel_rfl) (by simp) ?_
        refine AllReadyH.cons rfl (fun K hK => ?_) AllReadyH.nil
        go_simp
        refine (repeat_any (X.heap.size) 1 (-1) q (by omega) (by omega) w_4 (by omega) C_4.out).mono ?_
        rintro e w_5 ⟨rfl, hO5, hb5⟩
        have O_5 := Lib.hid hO5
        have B_5 := Lib.hid (B_4.out.trans_ hb5)
        have hy5 := hb5.size
        have hx5 := B_4.out.size
        have hq5 := Owns.lt hO5 (w_4.heap.size) (by rw [ownBlock_slice]; rfl)
        have Z_5 := Lib.hid (Z_4.out.bl hb5)
        try (go_wp2_with fail)
        refine hK.out _ _ ?_ (fun hHeld => ?_)
        · exact HSH.out _ B_5.out
        clear hK K
        try simp only [Act.put, List.getElem_toArray, List.getElem_cons_succ, List.getElem_cons_zero, List.setIfInBounds_toArray, List.set_cons_zero, List.set_cons_succ]
        refine wpAnyH_take (i := 5) (v := ?_) rfl (by kernel_rfl) (by kernel_rfl) (by kernel_rfl) (fun _ _ _ h => h) (Or.inl ⟨by kernel_rfl, ?_⟩) (by assumption) ?_
        rotate_left
        · (intro wx hSw; (try dsimp only at hSw); go_simp; try (with_reducible rfl))
        try simp only [Act.put, List.getElem_toArray, List.getElem_cons_succ, List.getElem_cons_zero, List.setIfInBounds_toArray, List.set_cons_zero, List.set_cons_succ]
        clear hHeld
        have z0 := Z_5.out.c0
        have z1 := Z_5.out.c1
        have z2 := Z_5.out.c2
        have y0 := Z_5.out.f0
        have y1 := Z_5.out.f1
        have y2 := Z_5.out.f2
        have zl := Z_5.out.lt
        have hol := Owns.lt O_5.out (w_4.heap.size) (by rw [ownBlock_slice]; rfl)
        refine wpAnyH_ready (rs := [7]) (by kernel_rfl) (by simp) ?_
        refine AllReadyH.cons rfl (fun K hK => ?_) AllReadyH.nil
        go_simp
        refine hK.out _ _ ?_ (fun hHeld => ?_)
        · exact HSH.out _ (Bl.set_ (Bl.set_ (Bl.set_ B_5.out (by first | exact Nat.le_refl _ | (show X.heap.size ≤ w_1.heap.size; omega)) _) (by first | exact Nat.le_refl _ | (show X.heap.size ≤ w_1.heap.size; omega)) _) (by first | exact Nat.le_refl _ | (show X.heap.size ≤ w_1.heap.size; omega)) _)
        clear hK K
        try simp only [Act.put, List.getElem_toArray, List.getElem_cons_succ, List.getElem_cons_zero, List.setIfInBounds_toArray, List.set_cons_zero, List.set_cons_succ]
        clear hHeld
        refine wpAnyH_done (by kernel_rfl) ?_ _
        refine NoOut.normal ?_
        refine ⟨rfl, w_1.heap.size, w_4.heap.size, _, _, _, _, _, _, _, _, _, _, _, _, _, _, _, _, _, _, _, _, _, _, _, rfl, ?_, (Bl.set_ (Bl.set_ (Bl.set_ B_5.out (by first | exact Nat.le_refl _ | (show X.heap.size ≤ w_1.heap.size; omega)) _) (by first | exact Nat.le_refl _ | (show X.heap.size ≤ w_1.heap.size; omega)) _) (by first | exact Nat.le_refl _ | (show X.heap.size ≤ w_1.heap.size; omega)) _)⟩
        exact half_start Z_5.out (r := r) (show w_1.heap.size ≠ w_4.heap.size by omega) (by first | exact Nat.le_refl _ | omega) (O_5.out.low (by omega))
    · go_simp
      refine hK.out _ _ ?_ (fun hHeld => ?_)
      · exact HSH.out _ (by first | exact Bl.alloc_ (Bl.drew_ (Bl.refl X)) _ | exact Bl.drew_ (Bl.alloc_ (Bl.refl X) _))
      clear hK K
      try simp only [Act.put, List.getElem_toArray, List.getElem_cons_succ, List.getElem_cons_zero, List.setIfInBounds_toArray, List.set_cons_zero, List.set_cons_succ]
      clear hHeld
      generalize hw : World.drew (World.alloc _ _) = w_6
      have B_6 := Lib.hid (show Bl X w_6 from by rw [← hw]; exact Bl.drew_ (Bl.alloc_ (Bl.refl X) _))
      have hz6 : X.heap.size < w_6.heap.size := by rw [← hw]; simp
      have Z_6 := Lib.hid (show Half0 X.heap.size w_6 from by rw [← hw]; exact half0_new X (Bl.drew_ (Bl.refl _)))
      clear hw
      refine wpAnyH_ready (rs := [0]) (by kernel_rfl) (by simp) ?_
      refine AllReadyH.cons rfl (fun K hK => ?_) AllReadyH.nil
      go_simp
      refine hK.out _ _ ?_ (fun hHeld => ?_)
      · exact HSH.out _ (by first | exact Bl.alloc_ B_6.out _ | exact Bl.drew_ (Bl.alloc_ (Bl.refl X) _))
      clear hK K
      try simp only [Act.put, List.getElem_toArray, List.getElem_cons_succ, List.getElem_cons_zero, List.setIfInBounds_toArray, List.set_cons_zero, List.set_cons_succ]
      clear hHeld
      generalize hw : World.alloc _ _ = w_7
      have B_7 := Lib.hid (show Bl X w_7 from by rw [← hw]; exact Bl.alloc_ B_6.out _)
      have hz7 : w_6.heap.size < w_7.heap.size := by rw [← hw]; simp
      have hb7 : Bl w_6 w_7 := by rw [← hw]; exact Bl.alloc_ (Bl.refl _) _
      have hy7 := B_6.out.size
      have C_7 := Lib.hid (show w_7.cell? ⟨w_6.heap.size, 0, none⟩ = some (.int .i64 (-1)) from by rw [← hw]; simp [go_sem])
      have Z_7 := Lib.hid (Z_6.out.bl hb7)
      clear hw
      refine wpAnyH_ready (rs := [3]) (by kernel_rfl) (by simp) ?_
      refine AllReadyH.cons rfl (fun K hK => ?_) AllReadyH.nil
      go_simp
      refine (repeat_any (w_6.heap.size) 1 (-1) q (by omega) (by omega) w_7 (by omega) C_7.out).mono ?_
      rintro e w_8 ⟨rfl, hO8, hb8⟩
      have O_8 := Lib.hid hO8
      have B_8 := Lib.hid (B_7.out.trans_ hb8)
      have hy8 := hb8.size
      have hx8 := B_7.out.size
      have hq8 := Owns.lt hO8 (w_7.heap.size) (by rw [ownBlock_slice]; rfl)
      have Z_8 := Lib.hid (Z_7.out.bl hb8)
      try (go_wp2_with fail)
      refine hK.out _ _ ?_ (fun hHeld => ?_)
      · exact HSH.out _ B_8.out
      clear hK K
      try simp only [Act.put, List.getElem_toArray, List.getElem_cons_succ, List.getElem_cons_zero, List.setIfInBounds_toArray, List.set_cons_zero, List.set_cons_succ]
      refine wpAnyH_take (i := 5) (v := ?_) rfl (by kernel_rfl) (by kernel_rfl) (by kernel_rfl) (fun _ _ _ h => h) (Or.inl ⟨by kernel_rfl, ?_⟩) (by assumption) ?_
      rotate_left
      · (intro wx hSw; (try dsimp only at hSw); go_simp; try (with_reducible rfl))
      try simp only [Act.put, List.getElem_toArray, List.getElem_cons_succ, List.getElem_cons_zero, List.setIfInBounds_toArray, List.set_cons_zero, List.set_cons_succ]
      clear hHeld
      have z0 := Z_8.out.c0
      have z1 := Z_8.out.c1
      have z2 := Z_8.out.c2
      have y0 := Z_8.out.f0
      have y1 := Z_8.out.f1
      have y2 := Z_8.out.f2
      have zl := Z_8.out.lt
      have hol := Owns.lt O_8.out (w_7.heap.size) (by rw [ownBlock_slice]; rfl)
      refine wpAnyH_ready (rs := [7]) (by kernel_rfl) (by simp) ?_
      refine AllReadyH.cons rfl (fun K hK => ?_) AllReadyH.nil
      go_simp
      refine hK.out _ _ ?_ (fun hHeld => ?_)
      · exact HSH.out _ (Bl.set_ (Bl.set_ (Bl.set_ B_8.out (by first | exact Nat.le_refl _ | (show X.heap.size ≤ X.heap.size; omega)) _) (by first | exact Nat.le_refl _ | (show X.heap.size ≤ X.heap.size; omega)) _) (by first | exact Nat.le_refl _ | (show X.heap.size ≤ X.heap.size; omega)) _)
      clear hK K
      try simp only [Act.put, List.getElem_toArray, List.getElem_cons_succ, List.getElem_cons_zero, List.setIfInBounds_toArray, List.set_cons_zero, List.set_cons_succ]
      clear hHeld
      refine wpAnyH_done (by kernel_rfl) ?_ _
      refine NoOut.normal ?_
      refine ⟨rfl, X.heap.size, w_7.heap.size, _, _, _, _, _, _, _, _, _, _, _, _, _, _, _, _, _, _, _, _, _, _, _, rfl, ?_, (Bl.set_ (Bl.set_ (Bl.set_ B_8.out (by first | exact Nat.le_refl _ | (show X.heap.size ≤ X.heap.size; omega)) _) (by first | exact Nat.le_refl _ | (show X.heap.size ≤ X.heap.size; omega)) _) (by first | exact Nat.le_refl _ | (show X.heap.size ≤ X.heap.size; omega)) _)⟩
      exact half_start Z_8.out (r := r) (show X.heap.size ≠ w_7.heap.size by omega) (by first | exact Nat.le_refl _ | omega) (O_8.out.low (by omega))
  case rest =>
    rintro ex a wc ⟨rfl, ob, rb, z0, z2, z7, z10, z11, z12, z13, z14, z15, z16, z17, z18, z19, z20, z21, z22, z23, z24, z25, z26, z27, z28, z29, rfl, hHR, hbc⟩
    have HRR := Lib.hid hHR
    have BC := Lib.hid (B1.out.trans_ hbc)
    have hlo := hHR.lo
    have hrlt := hHR.rlt
    have hne := hHR.ne
    obtain ⟨⟨q0, q1⟩, q2, -, -, hc3⟩ := BX.out _ BC.out
    clear hHR hbc
    gi_wp2_with fail
    refine ⟨trivial, rfl, CallsIn.mono (callsIn_wide.2 (nearestFrom_any q s A n c _)) ?_⟩
    rintro e w3 ⟨rfl, hw3⟩
    have HW3 := Lib.hid hw3
    clear hw3
    gi_wp2_with fail
    have hs3 : w3.heap.size = wc.heap.size + 4 := by rw [HW3.out]; simp
    have hb3 : Bl wc w3 := by rw [HW3.out]; exact ((((Bl.refl wc).alloc_ _).alloc_ _).alloc_ _).alloc_ _
    have hin : NIn w3 (wc.heap.size + 3) (wc.heap.size + 2) (wc.heap.size + 1) q s A n c L := by
      refine ⟨?_, ?_, ?_, ?_, (K1.out.bl (BW.out.trans_ BC.out)).bl hb3⟩ <;> (rw [HW3.out]; simp [go_sem])
    have BC3 := Lib.hid (BC.out.trans_ hb3)
    have hr3 : w3.cell? ⟨w.heap.size + 1, 0, none⟩ = some (.int .i64 r) := (BX.out _ BC3.out).2.1
    have hH3 : HR X.heap.size ob r (keysL q []) (([] : List It).map (·.2)) rb none 0 w3 := by
      have h := HRR.out.bl hb3
      have e : keysL q [] = List.replicate q (-1) := List.ext_getElem (by simp [keysL_len]) fun i h1 h2 => by simp [keysL, keyOf]
      rw [e]
      exact h
    clear q0 q1 q2
    refine wpIn_range (gf := 102) (lb := #[.pointer (some ⟨wc.heap.size + 3, 0, none⟩), .pointer (some ⟨wc.heap.size + 2, 0, none⟩), .pointer (some ⟨wc.heap.size + 1, 0, none⟩)]) ?e1 ?e2
      (near_stops q s A n c (wc.heap.size + 3) (wc.heap.size + 2) (wc.heap.size + 1) L HN.out hc HO.out hs0 hs1 w3 hin) (Bl.refl _) (fun i hi => inBlocks_lt hin hi) ?e3
      (fun pre K W' => ∃ A1 c1, (∀ i, K i ↔ (i = w.heap.size + 1 ∨ i = ob ∨ i = rb ∨ blockOf A1 = some i)) ∧ HR X.heap.size ob r (keysL q pre) (pre.map (·.2)) rb A1 c1 W' ∧ W'.cell? ⟨w.heap.size + 1, 0, none⟩ = some (.int .i64 r) ∧ Hid (∀ y ∈ pre, y.1 ≤ r))
      (HStop X.heap.size (w.heap.size + 1) ob rb q r)
      (fun pre x a K W' => ∃ (xb : Nat) (A1 : Option Addr) (c1 : Nat), ∃ y0 y1 y2 y3 y4 y6 y7 y10 y11 y12 y13 y14 y15 y16 y17 y18 y19 y20 y21 y22 y23 y24 y25 y26 y27 y28 y29 y30 y31 y32 y33 y34 y35 y36 y37 y38 y39 y40 y41 y42 y43 y44 y45 y46 y47 y48 y49 y50 y51 y52 : Value, (∀ i, K i ↔ ((i = w.heap.size + 1 ∨ i = ob ∨ i = rb ∨ blockOf A1 = some i) ∨ i = xb)) ∧ HR X.heap.size ob r (keysL q pre) (pre.map (·.2)) rb A1 c1 W' ∧ W'.cell? ⟨w.heap.size + 1, 0, none⟩ = some (.int .i64 r) ∧ Hid (∀ y ∈ pre, y.1 ≤ r) ∧ ((xb ≠ ob ∧ xb ≠ rb ∧ blockOf A1 ≠ some xb) ∧ W'.cell? ⟨xb, 0, none⟩ = some (.int .i64 x.1) ∧ W'.cell? ⟨xb, 1, none⟩ = some (.int .i64 x.2)) ∧
        a = { tmps := #[y0, y1, y2, y3, y4, .pointer (some ⟨w.heap.size + 1, 0, none⟩), y6, y7, .pointer (some ⟨ob, 0, none⟩), .pointer (some ⟨xb, 0, none⟩), y10, y11, y12, y13, y14, y15, y16, y17, y18, y19, y20, y21, y22, y23, y24, y25, y26, y27, y28, y29, y30, y31, y32, y33, y34, y35, y36, y37, y38, y39, y40, y41, y42, y43, y44, y45, y46, y47, y48, y49, y50, y51, y52], defers := [] })
      (fun i => i = w.heap.size + 1 ∨ i = ob ∨ i = rb) ?hK0 ?hI ?hIx ?hM ?hlt ⟨none, 0, fun i => by simp [blockOf], hH3, hr3, Lib.hid (by simp)⟩ ?assign ?body ?done ?stop
    case e1 => rfl
    case e2 => exact enters_of Try.func102 (by kernel_rfl) rfl
    case e3 => exact fun x => rfl
    case hK0 =>
      intro i hK hi
      have a1 := hX3
      have a2 : ∀ g, blockOf A = some g → 0 < L.length → g < w.heap.size := fun g e h0 => by
        obtain ⟨g', off, rfl, hg, -⟩ := K1.out h0
        obtain rfl : g' = g := by simpa [blockOf] using e
        exact hg
      rcases hi with h | h | h | ⟨hl, h⟩
      · omega
      · omega
      · omega
      · have := a2 i h hl
        omega
    case hI =>
      rintro pre K A' B' ⟨A1, c1, hk, hH, hr, hkeys⟩ ht
      have hrl := World.block_lt_of_cell? _ _ hr
      exact ⟨A1, c1, hk, hH.turn ht (fun h => h ((hk _).2 (.inr (.inl rfl)))) (fun h => h ((hk _).2 (.inr (.inr (.inl rfl))))) (fun g e h => h ((hk _).2 (.inr (.inr (.inr e))))), (ht.cell hrl (fun h => h ((hk _).2 (.inl rfl))) 0).trans hr, hkeys⟩
    case hIx =>
      rintro co pre' K A' B' ⟨e, pre, x, A1, c1, e2, hx, hk, hH, hkeys⟩ ht
      refine ⟨e, pre, x, A1, c1, e2, hx, hk, hH.turn ht (fun h => h ((hk _).2 (.inr (.inl rfl)))) (fun h => h ((hk _).2 (.inr (.inr (.inl rfl))))) (fun g e h => h ((hk _).2 (.inr (.inr (.inr e))))), hkeys⟩
    case hM =>
      rintro pre x a K A' B' ⟨xb, A1, c1, y0, y1, y2, y3, y4, y6, y7, y10, y11, y12, y13, y14, y15, y16, y17, y18, y19, y20, y21, y22, y23, y24, y25, y26, y27, y28, y29, y30, y31, y32, y33, y34, y35, y36, y37, y38, y39, y40, y41, y42, y43, y44, y45, y46, y47, y48, y49, y50, y51, y52, hk, hH, hr, hkeys, ⟨hne, hc0, hc1⟩, he⟩ ht
      have hx := World.block_lt_of_cell? _ _ hc0
      have hrl := World.block_lt_of_cell? _ _ hr
      have hs := fun o => ht.cell hx (fun h => h ((hk _).2 (.inr rfl))) o
      exact ⟨xb, A1, c1, y0, y1, y2, y3, y4, y6, y7, y10, y11, y12, y13, y14, y15, y16, y17, y18, y19, y20, y21, y22, y23, y24, y25, y26, y27, y28, y29, y30, y31, y32, y33, y34, y35, y36, y37, y38, y39, y40, y41, y42, y43, y44, y45, y46, y47, y48, y49, y50, y51, y52, hk, hH.turn ht (fun h => h ((hk _).2 (.inl (.inr (.inl rfl))))) (fun h => h ((hk _).2 (.inl (.inr (.inr (.inl rfl)))))) (fun g e h => h ((hk _).2 (.inl (.inr (.inr (.inr e)))))), (ht.cell hrl (fun h => h ((hk _).2 (.inl (.inl rfl)))) 0).trans hr, hkeys, ⟨hne, (hs 0).trans hc0, (hs 1).trans hc1⟩, he⟩
    case hlt =>
      rintro pre K A' ⟨A1, c1, hk, hH, hr, -⟩ i hi
      have hrl := World.block_lt_of_cell? _ _ hr
      rcases (hk i).1 hi with h | h | h | h
      · rw [h]; exact hrl
      · rw [h]; exact hH.lo.2
      · rw [h]; exact hH.rlt.2
      · exact (Owns.lt hH.o1 i (by rw [ownBlock_slice]; exact h)).2
    case assign =>
      rintro l pre ⟨x, y⟩ K W R ⟨A1, c1, hk, hH, hr, hkeys⟩ hpre hR
      have HK := Lib.hid hk
      have HHH := Lib.hid hH
      have HRD := Lib.hid hr
      have HRR9 := Lib.hid hR
      have l1 := hH.lo.2
      have l2 := hH.rlt.2
      have l3 := Lib.hid (fun i (h : blockOf A1 = some i) => (Owns.lt hH.o1 i (by rw [ownBlock_slice]; exact h)).2)
      clear hk hH hr hpre hR hs3 hb3 hin hH3 hr3
      dsimp only [encI]
      gi_wp2_with fail
      refine HRR9.out _ (fun i => (i = w.heap.size + 1 ∨ i = ob ∨ i = rb ∨ blockOf A1 = some i) ∨ i = W.heap.size) _ ⟨Turn.of_bl (by repeat' (first | exact Bl.refl _ | with_reducible assumption | with_reducible refine Bl.drew_ ?_ | with_reducible refine Bl.drewN_ ?_ _ | with_reducible refine Bl.alloc_ ?_ _ | with_reducible refine Bl.trans_ ?_ (by assumption) | with_reducible refine Bl.trans_ ?_ (And.left (by assumption)))), fun i hi => hi.imp (fun h => (HK.out i).2 h) (fun h => by rw [h]; exact Nat.le_refl _)⟩ ⟨W.heap.size, A1, c1, _, _, _, _, _, _, _, _, _, _, _, _, _, _, _, _, _, _, _, _, _, _, _, _, _, _, _, _, _, _, _, _, _, _, _, _, _, _, _, _, _, _, _, _, _, _, _, _, _, _, fun i => Iff.rfl, HHH.out.bl (by repeat' (first | exact Bl.refl _ | with_reducible assumption | with_reducible refine Bl.drew_ ?_ | with_reducible refine Bl.drewN_ ?_ _ | with_reducible refine Bl.alloc_ ?_ _ | with_reducible refine Bl.trans_ ?_ (by assumption) | with_reducible refine Bl.trans_ ?_ (And.left (by assumption)))), ?_, hkeys, ⟨⟨by omega, by omega, fun e => by have := l3.out _ e; omega⟩, by simp [go_sem], by simp [go_sem]⟩, rfl⟩
      have hrl := World.block_lt_of_cell? _ _ HRD.out
      exact ((bcell (show Bl W _ from (by repeat' (first | exact Bl.refl _ | with_reducible assumption | with_reducible refine Bl.drew_ ?_ | with_reducible refine Bl.drewN_ ?_ _ | with_reducible refine Bl.alloc_ ?_ _ | with_reducible refine Bl.trans_ ?_ (by assumption) | with_reducible refine Bl.trans_ ?_ (And.left (by assumption)))))).1 _ _ hrl).trans HRD.out
    case body =>
      rintro l pre ⟨x, y⟩ a₁ K W ⟨xb, A1, c1, y0, y1, y2, y3, y4, y6, y7, y10, y11, y12, y13, y14, y15, y16, y17, y18, y19, y20, y21, y22, y23, y24, y25, y26, y27, y28, y29, y30, y31, y32, y33, y34, y35, y36, y37, y38, y39, y40, y41, y42, y43, y44, y45, y46, y47, y48, y49, y50, y51, y52, hk, hH, hr, hkeys, ⟨⟨hne1, hne2, hne3⟩, hc0, hc1⟩, rfl⟩ ⟨Z, hZ⟩
      obtain ⟨f1, f2, f3, -, -⟩ := NextFacts (arcsIn_of_ok HO.out) hN24 hZ
      simp only at f1 f2 f3
      have MLE := Lib.hid (told_len (Z := (x, y) :: Z) (arcsIn_of_ok HO.out) hN24 hZ)
      obtain ⟨u, rfl⟩ : ∃ u : Nat, y = u := ⟨y.toNat, by omega⟩
      have hu : u < q := by omega
      have hkl := keysL_len q pre
      have hx0 := World.block_lt_of_cell? _ _ hc0
      have HK := Lib.hid hk
      have HHH := Lib.hid hH
      have F3 := Lib.hid f3
      have hsl := hH.lo
      have hslr := hH.rlt
      clear hk f1 f2 f3 hs3 hb3 hin hH3 hr3 hZ
      by_cases hbr : r < x
      · have hbd : decide (r < x) = true := by simpa using hbr
        clear hH
        gi_wp2_with fail
        refine ⟨fun i => i = w.heap.size + 1 ∨ i = ob ∨ i = rb ∨ blockOf A1 = some i, ⟨Turn.refl K W, fun i hi => .inl ((HK.out i).2 (.inl hi))⟩, ⟨rfl, pre, _, A1, c1, rfl, hbr, fun i => Iff.rfl, HHH.out, hkeys.out⟩⟩
      · have hbd : decide (r < x) = false := by simpa using hbr
        have KS := Lib.hid (show ∀ z ∈ pre ++ [(x, (u : Int))], z.1 ≤ r from fun z hz => by
          rcases List.mem_append.1 hz with h | h
          · exact hkeys.out z h
          · obtain rfl : z = (x, (u : Int)) := by simpa using h
            simp only
            omega)
        obtain ⟨P, hP⟩ : ∃ P, P = keysL q pre := ⟨_, rfl⟩
        obtain ⟨M, hM⟩ : ∃ M, M = pre.map (·.2) := ⟨_, rfl⟩
        have HP := Lib.hid hP
        have HMM := Lib.hid hM
        rw [← hP] at hH hkl HHH
        rw [← hM] at hH HHH
        have c0 := hH.d
        have c1' := hH.n
        have fz := hH.f1
        obtain ⟨m, hm9⟩ : ∃ m, m = M.length := ⟨_, rfl⟩
        have HM9 := Lib.hid hm9
        rw [hkl] at c0
        rw [← hm9] at c1'
        have rw0 := Lib.hid (OwnN.cell_' hH.o0 (by rw [hkl]; exact hu))
        obtain ⟨r0, r1, -⟩ := rw0.out
        have hu0 : (0 : Int) ≤ (u : Int) := by omega
        have hu1 : (u : Int) < (q : Int) := by omega
        have hne := hH.ne
        have hne' : rb ≠ ob := fun h => hne h.symm
        have hne1' : ob ≠ xb := fun h => hne1 h.symm
        have hne2' : rb ≠ xb := fun h => hne2 h.symm
        have hmb : m ≤ 24 := by rw [hm9, hM, List.length_map]; exact MLE.out
        have MS := Lib.hid (show (pre ++ [(x, (u : Int))]).map (·.2) = M ++ [(u : Int)] from by rw [hM]; simp)
        have PS := Lib.hid (show keysL q (pre ++ [(x, (u : Int))]) = P.set u x from by rw [hP]; exact keysL_snoc (x := (x, (u : Int))) F3.out hu0)
        clear hP hM hm9 hH
        generalize P[u]'(by rw [hkl]; exact hu) = pu at r0
        simp only at hc0 hc1
        have H1' := Lib.hid (HHH.out.put u x)
        obtain ⟨W2, hW2⟩ : ∃ W2, W2 = W.setCell ⟨rb, u, none⟩ (.int .i64 x) := ⟨_, rfl⟩
        rw [← hW2] at H1'
        have HW2 := Lib.hid hW2
        have z2 : W2.heap.size = W.heap.size := by rw [hW2, World.size_setCell]
        have OW := Lib.hid (show W2.ownsRow X.heap.size 2 1 (.slice A1 m c1) m (csI M) from by have h := H1'.out.o1; rw [← HM9.out] at h; have h2 : Owns 2 1 W2 X.heap.size (.slice A1 m c1) M.length (csI M) := h; rw [← HM9.out] at h2; exact h2)
        have T2 := Lib.hid (show Turn K W W2 from by rw [hW2]; exact Turn.set (p := ⟨rb, u, none⟩) (Turn.refl K W) (.inl ((HK.out _).2 (.inl (.inr (.inr (.inl rfl)))))) _)
        have r3 := (Turn.cell (S := fun i => i = rb) (by rw [hW2]; exact Turn.set (p := ⟨rb, u, none⟩) (Turn.refl (fun i => i = rb) _) (.inl rfl) _ : Turn (fun i => i = rb) W W2) (World.block_lt_of_cell? _ _ hr) (by show ¬ (w.heap.size + 1 = rb); omega) 0).trans hr
        clear hW2
        rw [HW2.out] at OW
        gi_wp2_with (refine wpListIn_append_any _ rfl (.tmp 46) (.tmp 49) 32 rfl X.heap.size 2 i0 _ 1 8 Try.underlying32 I0.out I1.out I2.out I3.out rfl (by decide) (.slice A1 m c1) m (csI M) rfl (World.ownsRow.alloc OW.out _) (W.heap.size + 1) (some ⟨W.heap.size, 0, none⟩) 1 1 [.int .i64 (u : Int)] rfl ?c0 (by simp [Value.oneCell']) ?c3 ?c4 ?c5 ?_)
        case c0 =>
          refine ⟨rfl, fun _ => ⟨_, rfl, by show W.heap.size < W.heap.size + 1; omega, fun j u hj => ?_⟩⟩
          match j, hj with
          | 0, hj => simp at hj; subst hj; simp [Addr.add, go_sem]
          | (j + 1), hj => simp at hj
        case c3 => unfold maxLen; omega
        case c4 => omega
        case c5 => first | omega | (simp; omega)
        intro v' w8 hown' hgrow hwh
        have BA : Bl W2 (W2.alloc (.cells #[.int .i64 (u : Int)] 2)) := Bl.alloc_ (Bl.refl _) _
        rw [← HW2.out] at hgrow
        have O5 := Lib.hid (OwnN.snoc (V := M) (x := (u : Int)) (n := m) HM9.out hown')
        have HA5 := Lib.hid (H1'.out.bl BA)
        rw [ownBlock_slice] at hgrow hwh
        obtain ⟨A', c', hv', -⟩ := OwnN.shape O5.out
        obtain ⟨l', hl'⟩ : ∃ l', l' = (M ++ [(u : Int)]).length := ⟨_, rfl⟩
        rw [← hl'] at hv'
        subst hv'
        rw [ownBlock_slice] at hwh
        have hwh2 : blockOf A' = blockOf A1 ∨ blockOf A' = some (W2.alloc (.cells #[.int .i64 (u : Int)] 2)).heap.size := by simpa [z2] using hwh
        have H8 := Lib.hid (HA5.out.snoc hl' hgrow O5.out hwh2)
        have TG := Lib.hid (show Turn (fun i => blockOf A1 = some i) (W2.alloc (.cells #[.int .i64 (u : Int)] 2)) w8 from Turn.of_grown hgrow (fun k e => e))
        have nob : ¬ blockOf A1 = some ob := fun e => (HA5.out.ne1 ob e).1 rfl
        have f5 := (TG.out.cells HA5.out.lo.2 nob 1).2.trans HA5.out.f1
        have d5 := (TG.out.cells HA5.out.lo.2 nob 1).1.trans HA5.out.n
        have nrd : ¬ blockOf A1 = some (w.heap.size + 1) := fun e => by have := (Owns.lt HA5.out.o1 _ (by rw [ownBlock_slice]; exact e)).1; omega
        have r8 := Lib.hid ((TG.out.cells (by simp; omega) nrd 0).1.trans (((bcell BA).1 _ _ (by omega)).trans r3))
        have WH := Lib.hid hwh2
        have s8 := TG.out.size
        clear hown' hgrow hwh hwh2 BA hl'
        gi_wp2_with fail
        refine ⟨fun i => i = w.heap.size + 1 ∨ i = ob ∨ i = rb ∨ blockOf A' = some i, ⟨?_, fun i hi => ?_⟩, A', c', fun i => Iff.rfl, ?_, ?_, KS⟩
        · refine Turn.set (p := ⟨ob, 1, none⟩) ((T2.out.bl (Bl.alloc_ (Bl.refl _) _)).trans TG.out (fun i _ e => (HK.out i).2 (.inl (.inr (.inr (.inr e)))))) (.inl ((HK.out _).2 (.inl (.inr (.inl rfl))))) _
        · rcases hi with h | h | h | h
          · exact .inl ((HK.out i).2 (.inl (.inl h)))
          · exact .inl ((HK.out i).2 (.inl (.inr (.inl h))))
          · exact .inl ((HK.out i).2 (.inl (.inr (.inr (.inl h)))))
          · rcases WH.out with e | e
            · exact .inl ((HK.out i).2 (.inl (.inr (.inr (.inr (by rw [← e]; exact h))))))
            · rw [e] at h
              injection h with h
              simp at h
              exact .inr (by omega)
        · rw [PS.out, MS.out]
          exact H8.out
        · exact (Turn.cell (S := fun i => i = ob) (Turn.set (p := ⟨ob, 1, none⟩) (Turn.refl (fun i => i = ob) w8) (.inl rfl) _) (by simp at s8; omega) (by omega) 0).trans r8.out
    case done =>
      rintro D pre K W hD hall ⟨A1, c1, hk, hH, hr, hkeys⟩ hT hKD hdef
      have NOB : ¬ ob = D := fun h => hKD ((hk _).2 (.inr (.inl h.symm)))
      have NRB : ¬ rb = D := fun h => hKD ((hk _).2 (.inr (.inr (.inl h.symm))))
      have NAB : ∀ g, blockOf A1 = some g → ¬ g = D := fun g e h => hKD ((hk _).2 (.inr (.inr (.inr (by rw [← h]; exact e)))))
      have HHH := Lib.hid hH
      have HT := Lib.hid hT
      have HD := Lib.hid hdef
      have T0 := Lib.hid (show T3At (w.heap.size + 1 + 1) (.slice none 0 0) (.slice none 0 0) (.int .i64 0) W from by
        obtain ⟨-, -, ⟨a0, a1, a2⟩, ⟨b0, b1, b2⟩, b3⟩ := BX.out _ BC3.out
        exact (T3At.mk (by omega) a0 a1 a2 b0 b1 b2 : T3At _ _ _ _ w3).turn hT (by omega))
      have EP := Lib.hid (show keysL q pre = halfD q L s r from by
        have h := dist_of_near (pre := pre) (Z := []) HO.out (by rw [List.append_nil]; exact hall) hkeys.out (by simp) hr0
        simpa using h)
      have EM := Lib.hid (show pre.map (·.2) = halfN q L s r from done_of_near (pre := pre) (Z := []) HO.out (by rw [List.append_nil]; exact hall) hkeys.out (by simp))
      clear hall hkeys hr
      have BF := Lib.hid (show Bl w W from Turn.to_bl (BW.out.trans_ BC3.out) hT (fun i hi => by omega))
      obtain ⟨Pq, hPq⟩ : ∃ P, P = keysL q pre := ⟨_, rfl⟩
      obtain ⟨Mq, hMq⟩ : ∃ M, M = pre.map (·.2) := ⟨_, rfl⟩
      rw [← hPq] at HHH EP
      rw [← hMq] at HHH EM
      have c0 := HHH.out.d
      have c1' := HHH.out.n
      have c2 := HHH.out.rad
      have t0 := T0.out.c0
      have t1 := T0.out.c1
      have t2 := T0.out.c2
      have u0 := T0.out.f0
      have u1 := T0.out.f1
      have u2 := T0.out.f2
      have hol := HHH.out.lo
      have hrl := HHH.out.rlt
      obtain ⟨pl, hpl⟩ : ∃ n, n = Pq.length := ⟨_, rfl⟩
      obtain ⟨ml, hml⟩ : ∃ n, n = Mq.length := ⟨_, rfl⟩
      rw [← hpl] at c0
      rw [← hml] at c1'
      have HPL := Lib.hid hpl
      have HML := Lib.hid hml
      have HSZ := Lib.hid (show w.heap.size + 3 ≤ w3.heap.size from (BX.out _ BC3.out).2.2.2.2)
      clear hPq hMq hpl hml hH hk hT hdef hs3 hb3 hin hH3 hr3
      gi_wp2_with fail
      have hsz3 := HSZ.out
      have hDl : D < W.heap.size := (Array.getElem?_eq_some_iff.1 HD.out).1
      have hts : Turn (fun i => i = w.heap.size + 1 + 1) W (((W.setCell ⟨w.heap.size + 1 + 1, 0, none⟩ (.slice (some ⟨rb, 0, none⟩) pl pl)).setCell ⟨w.heap.size + 1 + 1, 1, none⟩ (.slice A1 ml c1)).setCell ⟨w.heap.size + 1 + 1, 2, none⟩ (.int .i64 r)) := Turn.set (p := ⟨w.heap.size + 1 + 1, 2, none⟩) (Turn.set (p := ⟨w.heap.size + 1 + 1, 1, none⟩) (Turn.set (p := ⟨w.heap.size + 1 + 1, 0, none⟩) (Turn.refl (fun i => i = w.heap.size + 1 + 1) _) (.inl rfl) _) (.inl rfl) _) (.inl rfl) _
      have hD2 := (hts.block D hDl (by omega)).trans HD.out
      have hH9 := (HHH.out.turn hts (by omega) (by omega) (fun g hg => by have := (Owns.lt HHH.out.o1 g (by rw [ownBlock_slice]; exact hg)).1; omega)).turn (turn_put (fun i => i = D) _ (.deferred none) rfl) NOB NRB NAB
      have hT9 := (T0.out.set3 (.slice (some ⟨rb, 0, none⟩) pl pl) (.slice A1 ml c1) (.int .i64 r)).turn (turn_put (fun i => i = D) _ (.deferred none) rfl) (by omega)
      have x0 := hT9.c0
      have x1 := hT9.c1
      have x2 := hT9.c2
      refine ⟨by simp, .inl ⟨_, _, rfl, run_takeDeferred hD2, ?_⟩⟩
      refine ⟨.tuple #[.agg #[.slice (some ⟨rb, 0, none⟩) pl pl, .slice A1 ml c1, .int .i64 r], .bool true], by simp [results, Try.results25, go_sem, x0, x1, x2], ?_⟩
      have e1 := HPL.out
      have e2 := HML.out
      subst e1 e2
      refine HalfLaw.yes HB.out EP.out EM.out (hH9.o0.low (by omega)) (hH9.o1.low (by omega)) (fun g e h => ?_) ?_
      · obtain rfl : rb = g := by simpa [blockOf] using e
        exact (hH9.ne1 _ h).2 rfl
      · exact Turn.to_bl (Turn.to_bl BF.out hts (fun i hi => by rw [hi]; omega)) (turn_put (fun i => i = D) _ (.deferred none) rfl) (fun i hi => by rw [hi]; omega)
    case stop =>
      rintro D co pre' K W hD ⟨Z, hZ⟩ ⟨rfl, pre, x, A1, c1, rfl, hx, hk, hH, hkeys⟩ hT hKD hdef
      refine wpIn_exit ?_
      have NOB : ¬ ob = D := fun h => hKD ((hk _).2 (.inr (.inl h.symm)))
      have NRB : ¬ rb = D := fun h => hKD ((hk _).2 (.inr (.inr (.inl h.symm))))
      have NAB : ∀ g, blockOf A1 = some g → ¬ g = D := fun g e h => hKD ((hk _).2 (.inr (.inr (.inr (by rw [← h]; exact e)))))
      have HHH := Lib.hid hH
      have HT := Lib.hid hT
      have HD := Lib.hid hdef
      have T0 := Lib.hid (show T3At (w.heap.size + 1 + 1) (.slice none 0 0) (.slice none 0 0) (.int .i64 0) W from by
        obtain ⟨-, -, ⟨a0, a1, a2⟩, ⟨b0, b1, b2⟩, b3⟩ := BX.out _ BC3.out
        exact (T3At.mk (by omega) a0 a1 a2 b0 b1 b2 : T3At _ _ _ _ w3).turn hT (by omega))
      have hZ2 : AllNear q L s (pre ++ (x :: Z)) := by rw [List.append_assoc] at hZ; exact hZ
      have hzz : ∀ z ∈ x :: Z, r < z.1 := fun z hz => by
        rcases List.mem_cons.1 hz with rfl | hz
        · exact hx
        · have h1 := (List.pairwise_append.1 hZ2.sorted).2.1
          have h2 := lessI_key' ((List.pairwise_cons.1 h1).1 z hz)
          omega
      have EP := Lib.hid (show keysL q pre = halfD q L s r from by
        have h := dist_of_near HO.out hZ2 hkeys hzz hr0
        simpa using h)
      have EM := Lib.hid (show pre.map (·.2) = halfN q L s r from done_of_near HO.out hZ2 hkeys hzz)
      clear hZ hZ2 hzz hx hkeys
      have BF := Lib.hid (show Bl w W from Turn.to_bl (BW.out.trans_ BC3.out) hT (fun i hi => by omega))
      obtain ⟨Pq, hPq⟩ : ∃ P, P = keysL q pre := ⟨_, rfl⟩
      obtain ⟨Mq, hMq⟩ : ∃ M, M = pre.map (·.2) := ⟨_, rfl⟩
      rw [← hPq] at HHH EP
      rw [← hMq] at HHH EM
      have c0 := HHH.out.d
      have c1' := HHH.out.n
      have c2 := HHH.out.rad
      have t0 := T0.out.c0
      have t1 := T0.out.c1
      have t2 := T0.out.c2
      have u0 := T0.out.f0
      have u1 := T0.out.f1
      have u2 := T0.out.f2
      have hol := HHH.out.lo
      have hrl := HHH.out.rlt
      obtain ⟨pl, hpl⟩ : ∃ n, n = Pq.length := ⟨_, rfl⟩
      obtain ⟨ml, hml⟩ : ∃ n, n = Mq.length := ⟨_, rfl⟩
      rw [← hpl] at c0
      rw [← hml] at c1'
      have HPL := Lib.hid hpl
      have HML := Lib.hid hml
      have HSZ := Lib.hid (show w.heap.size + 3 ≤ w3.heap.size from (BX.out _ BC3.out).2.2.2.2)
      clear hPq hMq hpl hml hH hk hT hdef hs3 hb3 hin hH3 hr3
      gi_wp2_with fail
      have hsz3 := HSZ.out
      have hDl : D < W.heap.size := (Array.getElem?_eq_some_iff.1 HD.out).1
      have hts : Turn (fun i => i = w.heap.size + 1 + 1) W (((W.setCell ⟨w.heap.size + 1 + 1, 0, none⟩ (.slice (some ⟨rb, 0, none⟩) pl pl)).setCell ⟨w.heap.size + 1 + 1, 1, none⟩ (.slice A1 ml c1)).setCell ⟨w.heap.size + 1 + 1, 2, none⟩ (.int .i64 r)) := Turn.set (p := ⟨w.heap.size + 1 + 1, 2, none⟩) (Turn.set (p := ⟨w.heap.size + 1 + 1, 1, none⟩) (Turn.set (p := ⟨w.heap.size + 1 + 1, 0, none⟩) (Turn.refl (fun i => i = w.heap.size + 1 + 1) _) (.inl rfl) _) (.inl rfl) _) (.inl rfl) _
      have hD2 := (hts.block D hDl (by omega)).trans HD.out
      have hH9 := (HHH.out.turn hts (by omega) (by omega) (fun g hg => by have := (Owns.lt HHH.out.o1 g (by rw [ownBlock_slice]; exact hg)).1; omega)).turn (turn_put (fun i => i = D) _ (.deferred none) rfl) NOB NRB NAB
      have hT9 := (T0.out.set3 (.slice (some ⟨rb, 0, none⟩) pl pl) (.slice A1 ml c1) (.int .i64 r)).turn (turn_put (fun i => i = D) _ (.deferred none) rfl) (by omega)
      have x0 := hT9.c0
      have x1 := hT9.c1
      have x2 := hT9.c2
      refine ⟨by simp, .inl ⟨_, _, rfl, run_takeDeferred hD2, ?_⟩⟩
      refine ⟨.tuple #[.agg #[.slice (some ⟨rb, 0, none⟩) pl pl, .slice A1 ml c1, .int .i64 r], .bool true], by simp [results, Try.results25, go_sem, x0, x1, x2], ?_⟩
      have e1 := HPL.out
      have e2 := HML.out
      subst e1 e2
      refine HalfLaw.yes HB.out EP.out EM.out (hH9.o0.low (by omega)) (hH9.o1.low (by omega)) (fun g e h => ?_) ?_
      · obtain rfl : rb = g := by simpa [blockOf] using e
        exact (hH9.ne1 _ h).2 rfl
      · exact Turn.to_bl (Turn.to_bl BF.out hts (fun i hi => by rw [hi]; omega)) (turn_put (fun i => i = D) _ (.deferred none) rfl) (fun i hi => by rw [hi]; omega)

end Go.Proofs.Ytjmooakjdcepcaa

set_option linter.unusedSimpArgs false
set_option linter.unusedVariables false
namespace Go.Proofs.Ytjmooakjdcepcaa
open Go.RowKit Go.Shelf
attribute [local go_sem] Oper.semAt_some


set_option maxRecDepth 100000 in
set_option maxHeartbeats 4000000 in
theorem implHalfOf_any (N s r : Int) (A : Option Addr) (n c : Nat) (L : List Arc3) (hn : n = L.length) (hc : n ≤ c) (w : World) (hm : n ≤ 1048576) (H1 : ArcsAt w w.heap.size A L) :
    Calls Try.prog 25 #[.agg #[.int .i64 N, .slice A n c], .int .i64 s, .int .i64 r] w (HalfLaw N L s r w) := by
  have K1 := Lib.hid H1
  have HN := Lib.hid hn
  clear H1 hn
  have BX := Lib.hid (show ∀ wx, Bl (((w.alloc (.cells #[.int .i64 N, .slice A n c] 26)).alloc (.cells #[.int .i64 r] 2)).alloc (.cells #[.slice none 0 0, .slice none 0 0, .int .i64 0] 42)) wx → (wx.cell? ⟨w.heap.size, 0, none⟩ = some (.int .i64 N) ∧ wx.cell? ⟨w.heap.size, 1, none⟩ = some (.slice A n c)) ∧ wx.cell? ⟨w.heap.size + 1, 0, none⟩ = some (.int .i64 r) ∧ (wx.cell? ⟨w.heap.size + 1 + 1, 0, none⟩ = some (.slice none 0 0) ∧ wx.cell? ⟨w.heap.size + 1 + 1, 1, none⟩ = some (.slice none 0 0) ∧ wx.cell? ⟨w.heap.size + 1 + 1, 2, none⟩ = some (.int .i64 0)) ∧ (wx.frozen? ⟨w.heap.size + 1 + 1, 0, none⟩ = false ∧ wx.frozen? ⟨w.heap.size + 1 + 1, 1, none⟩ = false ∧ wx.frozen? ⟨w.heap.size + 1 + 1, 2, none⟩ = false) from fun wx hb => by
    obtain ⟨e1, e2⟩ := bcell hb
    refine ⟨⟨?_, ?_⟩, ?_, ⟨?_, ?_, ?_⟩, ⟨?_, ?_, ?_⟩⟩
    · rw [e1 _ _ (by simp; omega)]; simp [go_sem]
    · rw [e1 _ _ (by simp; omega)]; simp [go_sem]
    · rw [e1 _ _ (by simp)]; simp [go_sem]
    · rw [e1 _ _ (by simp)]; simp [go_sem]
    · rw [e1 _ _ (by simp)]; simp [go_sem]
    · rw [e1 _ _ (by simp)]; simp [go_sem]
    · rw [e2 _ _ (by simp)]; simp [go_sem]
    · rw [e2 _ _ (by simp)]; simp [go_sem]
    · rw [e2 _ _ (by simp)]; simp [go_sem])
  have BW := Lib.hid (show ∀ wx, Bl (((w.alloc (.cells #[.int .i64 N, .slice A n c] 26)).alloc (.cells #[.int .i64 r] 2)).alloc (.cells #[.slice none 0 0, .slice none 0 0, .int .i64 0] 42)) wx → Bl w wx from fun wx hb => (Bl.alloc_ (Bl.alloc_ (Bl.alloc_ (Bl.refl w) _) _) _).trans_ hb)
  cases hh : has1 N L s with
  | false =>
    have HH := Lib.hid hh
    have HB := Lib.hid (show halfB N L s r = false from by unfold halfB; rw [hh]; rfl)
    clear hh
    go_enter Try.func25, Try.ntmps25
    go_wp2_with fail
    refine (hasNodes_1 N s A n c L HN.out (w.heap.size + 3) 1 _ (by omega) (K1.out.bl (by repeat' (first | exact Bl.refl _ | with_reducible assumption | with_reducible refine Bl.drew_ ?_ | with_reducible refine Bl.drewN_ ?_ _ | with_reducible refine Bl.alloc_ ?_ _ | with_reducible refine Bl.trans_ ?_ (by assumption) | with_reducible refine Bl.trans_ ?_ (And.left (by assumption))))) (by simp) (by simp [go_sem])).mono ?_
    rintro e w1 ⟨rfl, hb1⟩
    rw [HH.out]
    have B1 := Lib.hid (show Bl (((w.alloc (.cells #[.int .i64 N, .slice A n c] 26)).alloc (.cells #[.int .i64 r] 2)).alloc (.cells #[.slice none 0 0, .slice none 0 0, .int .i64 0] 42)) w1 from Bl.trans_ (Bl.alloc_ (Bl.refl _) _) hb1)
    obtain ⟨-, -, ⟨a0, a1, a2⟩, b0, b1, b2⟩ := BX.out _ B1.out
    clear hb1
    go_wp2
    refine bodyPost_ret (v := .tuple #[.agg #[.slice none 0 0, .slice none 0 0, .int .i64 0], .bool false]) (by simp [results, Try.results25, go_sem, a0, a1, a2, b0, b1, b2]) rfl (HalfLaw.no HB.out ?_)
    exact Bl.set_ (Bl.set_ (Bl.set_ (BW.out _ B1.out) (Nat.le_succ_of_le (Nat.le_succ _)) _) (Nat.le_succ_of_le (Nat.le_succ _)) _) (Nat.le_succ_of_le (Nat.le_succ _)) _
  | true =>
    by_cases hr0 : 0 ≤ r
    · by_cases hr1 : r ≤ 24000
      · have hN1 := (okB_elim (has1_of hh).1).1
        obtain ⟨q, rfl⟩ : ∃ q : Nat, N = q := ⟨N.toNat, by omega⟩
        exact implHalf_yes q s r A n c L HN.out hc hh hr0 hr1 w hm K1.out
      · have HH := Lib.hid hh
        have HB := Lib.hid (show halfB N L s r = false from by unfold halfB; rw [decide_eq_false (by omega), Bool.and_false])
        have d0 : decide (r < 0) = false := by simpa using hr0
        have d1 : decide (24000 < r) = true := by simp; omega
        clear hh
        go_enter Try.func25, Try.ntmps25
        go_wp2_with fail
        refine (hasNodes_1 N s A n c L HN.out (w.heap.size + 3) 1 _ (by omega) (K1.out.bl (by repeat' (first | exact Bl.refl _ | with_reducible assumption | with_reducible refine Bl.drew_ ?_ | with_reducible refine Bl.drewN_ ?_ _ | with_reducible refine Bl.alloc_ ?_ _ | with_reducible refine Bl.trans_ ?_ (by assumption) | with_reducible refine Bl.trans_ ?_ (And.left (by assumption))))) (by simp) (by simp [go_sem])).mono ?_
        rintro e w1 ⟨rfl, hb1⟩
        rw [HH.out]
        have B1 := Lib.hid (show Bl (((w.alloc (.cells #[.int .i64 N, .slice A n c] 26)).alloc (.cells #[.int .i64 r] 2)).alloc (.cells #[.slice none 0 0, .slice none 0 0, .int .i64 0] 42)) w1 from Bl.trans_ (Bl.alloc_ (Bl.refl _) _) hb1)
        obtain ⟨-, a3, ⟨a0, a1, a2⟩, b0, b1, b2⟩ := BX.out _ B1.out
        clear hb1
        go_wp2
        refine bodyPost_ret (v := .tuple #[.agg #[.slice none 0 0, .slice none 0 0, .int .i64 0], .bool false]) (by simp [results, Try.results25, go_sem, a0, a1, a2, b0, b1, b2]) rfl (HalfLaw.no HB.out ?_)
        exact Bl.set_ (Bl.set_ (Bl.set_ (BW.out _ B1.out) (Nat.le_succ_of_le (Nat.le_succ _)) _) (Nat.le_succ_of_le (Nat.le_succ _)) _) (Nat.le_succ_of_le (Nat.le_succ _)) _
    · have HH := Lib.hid hh
      have HB := Lib.hid (show halfB N L s r = false from by unfold halfB; rw [decide_eq_false (by omega), Bool.and_false])
      have d0 : decide (r < 0) = true := by simp; omega
      clear hh
      go_enter Try.func25, Try.ntmps25
      go_wp2_with fail
      refine (hasNodes_1 N s A n c L HN.out (w.heap.size + 3) 1 _ (by omega) (K1.out.bl (by repeat' (first | exact Bl.refl _ | with_reducible assumption | with_reducible refine Bl.drew_ ?_ | with_reducible refine Bl.drewN_ ?_ _ | with_reducible refine Bl.alloc_ ?_ _ | with_reducible refine Bl.trans_ ?_ (by assumption) | with_reducible refine Bl.trans_ ?_ (And.left (by assumption))))) (by simp) (by simp [go_sem])).mono ?_
      rintro e w1 ⟨rfl, hb1⟩
      rw [HH.out]
      have B1 := Lib.hid (show Bl (((w.alloc (.cells #[.int .i64 N, .slice A n c] 26)).alloc (.cells #[.int .i64 r] 2)).alloc (.cells #[.slice none 0 0, .slice none 0 0, .int .i64 0] 42)) w1 from Bl.trans_ (Bl.alloc_ (Bl.refl _) _) hb1)
      obtain ⟨-, a3, ⟨a0, a1, a2⟩, b0, b1, b2⟩ := BX.out _ B1.out
      clear hb1
      go_wp2
      refine bodyPost_ret (v := .tuple #[.agg #[.slice none 0 0, .slice none 0 0, .int .i64 0], .bool false]) (by simp [results, Try.results25, go_sem, a0, a1, a2, b0, b1, b2]) rfl (HalfLaw.no HB.out ?_)
      exact Bl.set_ (Bl.set_ (Bl.set_ (BW.out _ B1.out) (Nat.le_succ_of_le (Nat.le_succ _)) _) (Nat.le_succ_of_le (Nat.le_succ _)) _) (Nat.le_succ_of_le (Nat.le_succ _)) _

end Go.Proofs.Ytjmooakjdcepcaa

set_option linter.unusedSimpArgs false
set_option linter.unusedVariables false
namespace Go.Proofs.Ytjmooakjdcepcaa
open Go.RowKit

set_option maxRecDepth 100000 in
set_option maxHeartbeats 4000000 in
theorem specHalfOf_any (N s r : Int) (A : Option Addr) (n c : Nat) (L : List Arc3) (hn : n = L.length) (hc : n ≤ c) (w : World) (hm : n ≤ 1048576) (H1 : ArcsAt w w.heap.size A L) :
    Calls Try.prog 26 #[.agg #[.int .i64 N, .slice A n c], .int .i64 s, .int .i64 r] w (HalfLaw N L s r w) := by
  have K1 := Lib.hid H1
  have HN := Lib.hid hn
  have BX := Lib.hid (show ∀ wx, Bl ((w.alloc (.cells #[.int .i64 N, .slice A n c] 26)).alloc (.cells #[.slice none 0 0, .slice none 0 0, .int .i64 0] 42)) wx → (wx.cell? ⟨w.heap.size, 0, none⟩ = some (.int .i64 N) ∧ wx.cell? ⟨w.heap.size, 1, none⟩ = some (.slice A n c)) ∧ T3At (w.heap.size + 1) (.slice none 0 0) (.slice none 0 0) (.int .i64 0) wx from fun wx hb => by
    obtain ⟨e1, e2⟩ := bcell hb
    have hs := hb.size
    refine ⟨⟨?_, ?_⟩, by simp at hs; omega, ?_, ?_, ?_, ?_, ?_, ?_⟩
    · rw [e1 _ _ (by simp; omega)]; simp [go_sem]
    · rw [e1 _ _ (by simp; omega)]; simp [go_sem]
    · rw [e1 _ _ (by simp)]; simp [go_sem]
    · rw [e1 _ _ (by simp)]; simp [go_sem]
    · rw [e1 _ _ (by simp)]; simp [go_sem]
    · rw [e2 _ _ (by simp)]; simp [go_sem]
    · rw [e2 _ _ (by simp)]; simp [go_sem]
    · rw [e2 _ _ (by simp)]; simp [go_sem])
  have BW := Lib.hid (show ∀ wx, Bl ((w.alloc (.cells #[.int .i64 N, .slice A n c] 26)).alloc (.cells #[.slice none 0 0, .slice none 0 0, .int .i64 0] 42)) wx → Bl w wx from fun wx hb => (Bl.alloc_ (Bl.alloc_ (Bl.refl w) _) _).trans_ hb)
  clear H1 hn
  cases ho : okB N L with
  | false =>
    have HO := Lib.hid ho
    have HB := Lib.hid (show halfB N L s r = false from by unfold halfB has1; rw [ho]; rfl)
    clear ho
    go_enter Try.func26, Try.ntmps26
    go_wp2_with fail
    refine (specOk_any N A n c L HN.out _ (by omega) (K1.out.bl (by repeat' (first | exact Bl.refl _ | with_reducible assumption | with_reducible refine Bl.drew_ ?_ | with_reducible refine Bl.drewN_ ?_ _ | with_reducible refine Bl.alloc_ ?_ _ | with_reducible refine Bl.trans_ ?_ (by assumption) | with_reducible refine Bl.trans_ ?_ (And.left (by assumption)))))).mono ?_
    rintro e w1 ⟨rfl, hb1⟩
    rw [HO.out]
    obtain ⟨-, t⟩ := BX.out _ hb1
    have B1 := Lib.hid (BW.out _ hb1)
    have a0 := t.c0
    have a1 := t.c1
    have a2 := t.c2
    have b0 := t.f0
    have b1 := t.f1
    have b2 := t.f2
    clear hb1 t
    go_wp2
    refine bodyPost_ret (v := .tuple #[.agg #[.slice none 0 0, .slice none 0 0, .int .i64 0], .bool false]) (by simp [results, Try.results26, go_sem, a0, a1, a2, b0, b1, b2]) rfl (HalfLaw.no HB.out ?_)
    exact Bl.set_ (Bl.set_ (Bl.set_ B1.out (Nat.le_succ _) _) (Nat.le_succ _) _) (Nat.le_succ _) _
  | true =>
    have HO := Lib.hid ho
    have HNB := Lib.hid (nodeB_ok (v := s) ho)
    by_cases hh : 0 ≤ s ∧ s < N
    · have h1 : decide (0 ≤ s ∧ s < N) = true := by simpa using hh
      have H1 := Lib.hid h1
      by_cases hr : 0 ≤ r ∧ r ≤ 24000
      · have HI := Lib.hid (show inB r 0 24000 = true from by unfold inB; simpa using hr)
        have HB := Lib.hid (show halfB N L s r = true from by unfold halfB has1; rw [ho, h1]; simpa using hr)
        obtain ⟨q, rfl⟩ : ∃ q : Nat, N = q := ⟨N.toNat, by omega⟩
        obtain ⟨hs0, hs1⟩ := hh
        clear ho h1
        go_enter Try.func26, Try.ntmps26
        go_wp2_with fail
        refine (specOk_any q A n c L HN.out _ (by omega) (K1.out.bl (by repeat' (first | exact Bl.refl _ | with_reducible assumption | with_reducible refine Bl.drew_ ?_ | with_reducible refine Bl.drewN_ ?_ _ | with_reducible refine Bl.alloc_ ?_ _ | with_reducible refine Bl.trans_ ?_ (by assumption) | with_reducible refine Bl.trans_ ?_ (And.left (by assumption)))))).mono ?_
        rintro e w1 ⟨rfl, hb1⟩
        rw [HO.out]
        obtain ⟨⟨q0, q1⟩, -⟩ := BX.out _ hb1
        go_wp2_with fail
        refine (l1Node_any q s _ _).mono ?_
        rintro e w2 ⟨rfl, hb2⟩
        rw [HNB.out, H1.out]
        have hb2 := hb1.trans_ hb2
        clear q0 q1
        obtain ⟨⟨q0, q1⟩, -⟩ := BX.out _ hb2
        go_wp2_with fail
        refine (l1In_any r 0 24000 _).mono ?_
        rintro e w4 ⟨rfl, rfl⟩
        rw [HI.out]
        have B2 := Lib.hid hb2
        clear hb2 hb1
        go_wp2_with fail
        refine (l4Half_any q s r A n c L HN.out HO.out hs0 hs1 hr.1 _ hm (K1.out.bl (BW.out _ B2.out))).mono ?_
        rintro e w5 ⟨A5, c5, A6, c6, rfl, h5, h6, hne, hb5⟩
        obtain ⟨-, t⟩ := BX.out _ (B2.out.trans_ hb5)
        have a0 := t.c0
        have a1 := t.c1
        have a2 := t.c2
        have b0 := t.f0
        have b1 := t.f1
        have b2 := t.f2
        have T := Lib.hid t
        have H5 := Lib.hid h5
        have H6 := Lib.hid h6
        have NE := Lib.hid hne
        have B5 := Lib.hid (BW.out _ (B2.out.trans_ hb5))
        have s2 := B2.out.size
        simp only [World.size_alloc] at s2
        obtain ⟨l5, hl5⟩ : ∃ l, l = (halfD q L s r).length := ⟨_, rfl⟩
        obtain ⟨l6, hl6⟩ : ∃ l, l = (halfN q L s r).length := ⟨_, rfl⟩
        rw [← hl5, ← hl6]
        have L5 := Lib.hid hl5
        have L6 := Lib.hid hl6
        clear t h5 h6 hne hb5 hl5 hl6 q0 q1
        go_wp2
        have hts : Turn (fun i => i = w.heap.size + 1) w5 (((w5.setCell ⟨w.heap.size + 1, 0, none⟩ (.slice A5 l5 c5)).setCell ⟨w.heap.size + 1, 1, none⟩ (.slice A6 l6 c6)).setCell ⟨w.heap.size + 1, 2, none⟩ (.int .i64 r)) := Turn.set (p := ⟨w.heap.size + 1, 2, none⟩) (Turn.set (p := ⟨w.heap.size + 1, 1, none⟩) (Turn.set (p := ⟨w.heap.size + 1, 0, none⟩) (Turn.refl (fun i => i = w.heap.size + 1) _) (.inl rfl) _) (.inl rfl) _) (.inl rfl) _
        have t9 := T.out.set3 (.slice A5 l5 c5) (.slice A6 l6 c6) (.int .i64 r)
        have x0 := t9.c0
        have x1 := t9.c1
        have x2 := t9.c2
        refine bodyPost_ret (v := .tuple #[.agg #[.slice A5 l5 c5, .slice A6 l6 c6, .int .i64 r], .bool true]) (by simp [results, Try.results26, go_sem, x0, x1, x2]) rfl ?_
        have e1 := L5.out
        have e2 := L6.out
        subst e1 e2
        refine HalfLaw.yes HB.out rfl rfl ((Owns.turn H5.out hts (fun g hg => ?_)).low (by omega)) ((Owns.turn H6.out hts (fun g hg => ?_)).low (by omega)) NE.out (Turn.to_bl B5.out hts (fun i hi => by rw [hi]; omega))
        · have := (Owns.lt H5.out g hg).1
          omega
        · have := (Owns.lt H6.out g hg).1
          omega
      · have HI := Lib.hid (show inB r 0 24000 = false from by unfold inB; simp; omega)
        have HB := Lib.hid (show halfB N L s r = false from by unfold halfB; rw [decide_eq_false hr, Bool.and_false])
        clear ho h1
        go_enter Try.func26, Try.ntmps26
        go_wp2_with fail
        refine (specOk_any N A n c L HN.out _ (by omega) (K1.out.bl (by repeat' (first | exact Bl.refl _ | with_reducible assumption | with_reducible refine Bl.drew_ ?_ | with_reducible refine Bl.drewN_ ?_ _ | with_reducible refine Bl.alloc_ ?_ _ | with_reducible refine Bl.trans_ ?_ (by assumption) | with_reducible refine Bl.trans_ ?_ (And.left (by assumption)))))).mono ?_
        rintro e w1 ⟨rfl, hb1⟩
        rw [HO.out]
        obtain ⟨⟨q0, q1⟩, -⟩ := BX.out _ hb1
        go_wp2_with fail
        refine (l1Node_any N s _ _).mono ?_
        rintro e w2 ⟨rfl, hb2⟩
        rw [HNB.out, H1.out]
        have hb2 := hb1.trans_ hb2
        clear q0 q1
        go_wp2_with fail
        refine (l1In_any r 0 24000 _).mono ?_
        rintro e w4 ⟨rfl, rfl⟩
        rw [HI.out]
        obtain ⟨-, t⟩ := BX.out _ hb2
        have B2 := Lib.hid (BW.out _ hb2)
        have a0 := t.c0
        have a1 := t.c1
        have a2 := t.c2
        have b0 := t.f0
        have b1 := t.f1
        have b2 := t.f2
        clear hb1 hb2 t
        go_wp2
        refine bodyPost_ret (v := .tuple #[.agg #[.slice none 0 0, .slice none 0 0, .int .i64 0], .bool false]) (by simp [results, Try.results26, go_sem, a0, a1, a2, b0, b1, b2]) rfl (HalfLaw.no HB.out ?_)
        exact Bl.set_ (Bl.set_ (Bl.set_ B2.out (Nat.le_succ _) _) (Nat.le_succ _) _) (Nat.le_succ _) _
    · have h1 : decide (0 ≤ s ∧ s < N) = false := by simpa using hh
      have H1 := Lib.hid h1
      have HB := Lib.hid (show halfB N L s r = false from by unfold halfB has1; rw [h1, Bool.and_false]; rfl)
      clear ho h1
      go_enter Try.func26, Try.ntmps26
      go_wp2_with fail
      refine (specOk_any N A n c L HN.out _ (by omega) (K1.out.bl (by repeat' (first | exact Bl.refl _ | with_reducible assumption | with_reducible refine Bl.drew_ ?_ | with_reducible refine Bl.drewN_ ?_ _ | with_reducible refine Bl.alloc_ ?_ _ | with_reducible refine Bl.trans_ ?_ (by assumption) | with_reducible refine Bl.trans_ ?_ (And.left (by assumption)))))).mono ?_
      rintro e w1 ⟨rfl, hb1⟩
      rw [HO.out]
      obtain ⟨⟨q0, q1⟩, -⟩ := BX.out _ hb1
      go_wp2_with fail
      refine (l1Node_any N s _ _).mono ?_
      rintro e w2 ⟨rfl, hb2⟩
      rw [HNB.out, H1.out]
      have hb2 := hb1.trans_ hb2
      clear q0 q1
      obtain ⟨-, t⟩ := BX.out _ hb2
      have B2 := Lib.hid (BW.out _ hb2)
      have a0 := t.c0
      have a1 := t.c1
      have a2 := t.c2
      have b0 := t.f0
      have b1 := t.f1
      have b2 := t.f2
      clear hb1 hb2 t
      go_wp2
      refine bodyPost_ret (v := .tuple #[.agg #[.slice none 0 0, .slice none 0 0, .int .i64 0], .bool false]) (by simp [results, Try.results26, go_sem, a0, a1, a2, b0, b1, b2]) rfl (HalfLaw.no HB.out ?_)
      exact Bl.set_ (Bl.set_ (Bl.set_ B2.out (Nat.le_succ _) _) (Nat.le_succ _) _) (Nat.le_succ _) _

-- (markHalf_any left out)

-- (heldHalf_any left out)

end Go.Proofs.Ytjmooakjdcepcaa
