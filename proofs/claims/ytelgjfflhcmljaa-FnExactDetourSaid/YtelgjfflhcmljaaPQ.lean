/-
  What is proved here: plain facts on weights, on the nearest way over an arc, and on the arcs of all nodes, one behind the other. No conditions beyond those that each theorem states.
-/
import Derived.Test.YtelgjfflhcmljaaPT
set_option linter.unusedSimpArgs false
set_option linter.unusedVariables false
namespace Go.Proofs.Ytelgjfflhcmljaa
open Go.RowKit

theorem wtL_mem {L : List Arc3} (hs : L.Pairwise AheadP) : ∀ {a : Arc3}, a ∈ L → wtL a.1 a.2.1 L = a.2.2 := by
  induction L with
  | nil => intro a ha; cases ha
  | cons b L ih =>
    intro a ha
    rw [List.pairwise_cons] at hs
    unfold wtL
    rcases List.mem_cons.1 ha with rfl | h
    · rw [if_pos (isEnds_iff.2 ⟨rfl, rfl⟩)]
    · rw [if_neg (fun he => ahead_ne (hs.1 a h) (isEnds_iff.1 he))]
      exact ih hs.2 h
theorem wtL_pos {u v : Int} : ∀ {L : List Arc3}, 0 < wtL u v L → (u, v, wtL u v L) ∈ L
  | [], h => by simp [wtL] at h
  | a :: l, h => by
    unfold wtL at h ⊢
    split
    · rename_i he
      obtain ⟨rfl, rfl⟩ := isEnds_iff.1 he
      exact List.mem_cons_self
    · rename_i he
      rw [if_neg he] at h
      exact List.mem_cons_of_mem _ (wtL_pos h)

/-- The least way over an arc from one of the first k nodes. -/
def leastSt (D : List Int) (L : List Arc3) (s v : Int) : Nat → Int
  | 0 => if v = s then 0 else -1
  | k + 1 => if 0 < wtL k v L ∧ 0 ≤ dAt D k ∧ (leastSt D L s v k < 0 ∨ dAt D k + wtL k v L < leastSt D L s v k) then dAt D k + wtL k v L else leastSt D L s v k
theorem leastSt_inv {N : Int} {L : List Arc3} {s v : Int} {D : List Int} (hD : IsDist N L s D) : ∀ k : Nat,
    -1 ≤ leastSt D L s v k ∧ (0 ≤ leastSt D L s v k → 0 ≤ dAt D v ∧ dAt D v ≤ leastSt D L s v k) ∧ (v = s → 0 ≤ leastSt D L s v k ∧ leastSt D L s v k ≤ 0) ∧
      ∀ u : Nat, u < k → 0 < wtL u v L → 0 ≤ dAt D u → 0 ≤ leastSt D L s v k ∧ leastSt D L s v k ≤ dAt D u + wtL u v L
  | 0 => by
    have hst := hD.start
    unfold leastSt
    split
    · rename_i e
      rw [e]
      exact ⟨by omega, fun _ => by omega, fun _ => by omega, fun u h => absurd h (by omega)⟩
    · rename_i e
      exact ⟨by omega, fun h => by omega, fun h => absurd h e, fun u h => absurd h (by omega)⟩
  | k + 1 => by
    obtain ⟨h1, h2, h3, h4⟩ := leastSt_inv (v := v) hD k
    have hst := hD.start
    unfold leastSt
    split
    · rename_i hc
      obtain ⟨c1, c2, c3⟩ := hc
      have ha := hD.arc _ (wtL_pos c1) (by simpa using c2)
      simp only at ha
      refine ⟨by omega, fun _ => ha, fun e => ?_, fun u hu p q => ?_⟩
      · have := h3 e
        rw [e] at ha
        omega
      · rcases Nat.lt_or_ge u k with h | h
        · have := h4 u h p q
          omega
        · obtain rfl : u = k := by omega
          omega
    · rename_i hc
      refine ⟨h1, h2, h3, fun u hu p q => ?_⟩
      rcases Nat.lt_or_ge u k with h | h
      · exact h4 u h p q
      · obtain rfl : u = k := by omega
        omega
theorem leastSt_all {N : Int} {L : List Arc3} {s v : Int} {D : List Int} (ho : okB N L = true) (hD : IsDist N L s D) (h0 : 0 ≤ v) (h1 : v < N) : leastSt D L s v N.toNat = dAt D v := by
  obtain ⟨a, b, c, d⟩ := leastSt_inv (v := v) hD N.toNat
  have hl := hD.low v
  by_cases hp : 0 ≤ dAt D v
  · rcases hD.back v h0 h1 hp with e | ⟨x, hx, e1, e2, e3⟩
    · subst e
      have h := c rfl
      have := b h.1
      have hst := hD.start
      omega
    · obtain ⟨a0, a1, a2, a3, a4, a5⟩ := arcsIn_of_ok ho x hx
      have hw := wtL_mem (okB_elim ho).2.2.2.2 hx
      rw [e1] at hw
      obtain ⟨u, hu⟩ : ∃ u : Nat, x.1 = u := ⟨x.1.toNat, by omega⟩
      rw [hu] at hw e2 e3
      have h := d u (by omega) (by omega) e2
      have := b h.1
      omega
  · have : ¬ 0 ≤ leastSt D L s v N.toNat := fun h => hp (b h).1
    omega

theorem triangle {N s t v : Int} {L : List Arc3} (h : has2 N L s t = true) (h0 : 0 ≤ v) (h1 : v < N) (ha : 0 ≤ distOfI N L s v) (hb : 0 ≤ distOfI N L v t) : 0 ≤ distOfI N L s t ∧ distOfI N L s t ≤ distOfI N L s v + distOfI N L v t := by
  obtain ⟨ho, hs, ht⟩ := has2_of h
  have e1 : distOfI N L s v = dAt (distL N L s) v := by
    unfold distOfI
    rw [if_pos (by unfold has2; rw [ho, Bool.true_and, decide_eq_true_eq]; omega)]
  have e2 : distOfI N L v t = dAt (distL N L v) t := by
    unfold distOfI
    rw [if_pos (by unfold has2; rw [ho, Bool.true_and, decide_eq_true_eq]; omega)]
  have e3 : distOfI N L s t = dAt (distL N L s) t := by unfold distOfI; rw [if_pos h]
  rw [e1] at ha ⊢
  rw [e2] at hb ⊢
  rw [e3]
  have e4 := distL_of_turned ho ⟨h0, h1⟩ ht
  rw [← e4] at hb ⊢
  have hD := distL_is (s := s) (arcsIn_of_ok ho) (okB_elim ho).2.1 hs.1 hs.2
  have hE := distL_is (s := t) (arcsIn_of_ok (revL_ok ho)) (okB_elim ho).2.1 ht.1 ht.2
  exact hD.tri ho hE _ v h0 h1 rfl hb ha
theorem distOfI_bounds {N s t : Int} {L : List Arc3} : -1 ≤ distOfI N L s t ∧ distOfI N L s t ≤ 23000 := by
  unfold distOfI
  split
  · rename_i h
    obtain ⟨ho, hs, ht⟩ := has2_of h
    exact distL_top ho hs.1 hs.2 t
  · omega

/-- The arcs of the first k nodes, one behind the other. -/
def catL (L : List Arc3) (k : Nat) : List Arc3 := L.filter fun a => decide (a.1 < (k : Int))
theorem catL_zero {L : List Arc3} (h : ∀ a ∈ L, 0 ≤ a.1) : catL L 0 = [] := by
  unfold catL
  rw [List.filter_eq_nil_iff]
  intro a ha
  have := h a ha
  simp
  omega
theorem catL_succ {L : List Arc3} (hs : L.Pairwise AheadP) (k : Nat) : catL L (k + 1) = catL L k ++ fromL k L := by
  induction L with
  | nil => rfl
  | cons a L ih =>
    rw [List.pairwise_cons] at hs
    have ih' := ih hs.2
    unfold catL fromL at ih' ⊢
    simp only [List.filter_cons]
    by_cases h1 : a.1 < (k : Int)
    · rw [if_pos (by simp; omega), if_pos (by simpa using h1), if_neg (by simp; omega), ih']
      rfl
    · by_cases h2 : a.1 = (k : Int)
      · have h3 : L.filter (fun a => decide (a.1 < (k : Int))) = [] := by
          rw [List.filter_eq_nil_iff]
          intro b hb hlt
          have := hs.1 b hb
          unfold AheadP at this
          simp only [aheadB, decide_eq_true_eq] at this hlt
          omega
        rw [h3, List.nil_append] at ih'
        rw [if_pos (by simp; omega), if_neg (by simpa using h1), if_pos (by simpa using h2), ih', h3]
        rfl
      · have h3 : L.filter (fun a => decide (a.1 < ((k + 1 : Nat) : Int))) = [] := by
          rw [List.filter_eq_nil_iff]
          intro b hb hlt
          have := hs.1 b hb
          unfold AheadP at this
          simp only [aheadB, decide_eq_true_eq] at this hlt
          omega
        rw [h3] at ih'
        rw [if_neg (by simp; omega), if_neg (by simpa using h1), if_neg (by simpa using h2), h3]
        exact ih'
theorem catL_all {N : Int} {L : List Arc3} (h : okB N L = true) : catL L N.toNat = L := by
  unfold catL
  rw [List.filter_eq_self]
  intro a ha
  have := arcsIn_of_ok h a ha
  simp
  omega
theorem catL_len (L : List Arc3) (k : Nat) : (catL L k).length ≤ L.length := List.length_filter_le _ _
theorem fromL_at {v : Int} {L : List Arc3} {k : Nat} (hs : L.Pairwise AheadP) (h : k < (fromL v L).length) : (fromL v L)[k].1 = v ∧ wtL v (fromL v L)[k].2.1 L = (fromL v L)[k].2.2 := by
  have hm : (fromL v L)[k] ∈ fromL v L := List.getElem_mem h
  generalize (fromL v L)[k] = a at hm
  unfold fromL at hm
  obtain ⟨h1, h2⟩ := List.mem_filter.1 hm
  have e : a.1 = v := by simpa using h2
  refine ⟨e, ?_⟩
  have := wtL_mem hs h1
  rwa [e] at this

/-- How many arcs come to a node. -/
def intoN (L : List Arc3) (v : Int) (k : Nat) : Nat := ((L.take k).filter fun a => a.2.1 == v).length
theorem intoN_all {L : List Arc3} (hs : L.Pairwise AheadP) (v : Int) : (fromL v (revL L)).length = intoN L v L.length := by
  unfold fromL intoN
  rw [List.take_length]
  have h := ((revL_sorted hs).2.filter fun a => a.1 == v).length_eq
  rw [h, List.filter_map, List.length_map]
  rfl

end Go.Proofs.Ytelgjfflhcmljaa
