/-
  What is proved here: plain facts on weights, on the nearest way over an arc, and on the arcs of all nodes, one behind the other; bounds of weights; plain facts on the first arc by way of which it is no farther, and on paths that are gone step by step; plain facts on the first of the shortest paths, and on nodes by way of which it is at most so far; spec.Reversed turns the arcs of a right graph and puts them in order, as the model does; how far all nodes are, as the model reckons it; DistFrom and DistOf of the model; the arcs that leave a node, as the code gathers them; the model's first of the shortest paths; What is stated here: of which functions and types of the program the library's search for the first one is made. No conditions; impl.nextNode tells the least node by way of which it is no farther; What is stated here: of which functions and types of the program the library's sort of structs is made. No conditions; slices.SortFunc over arcs of which no two have the same ends puts them in order; impl.Reversed turns the arcs of a right graph and sorts them; impl.PathOf tells the first of the shortest paths; the model's PathOf tells the first of the shortest paths; a graph and a path, perhaps with another node in it, that are drawn by a code; how long a path is, as the model and as the code reckon it; plain facts on pieces of the first of the shortest paths; plain facts on the pieces of any path, and on a path that is gone backwards in the turned graph; LengthOf of the model and of the code; the laws' small functions that hold lists and graphs against each other, and ask for nodes; the walk of the law FnLengthPieces: at every code that can be read it returns true and leaves what was there as it was. No conditions beyond those that each theorem states.
-/
import Derived.Test.YtdbjcojlcddhdaaPT
import Derived.Lib.SlBy
import Derived.Test.YtdbjcojlcddhdaaTW
import Derived.Test.YtdbjcojlcddhdaaX1
import Derived.Test.YtdbjcojlcddhdaaK1
import Derived.Deep.LoopGhost
import Derived.IntWalk
import Derived.Test.YtdbjcojlcddhdaaNF4
import Derived.Test.YtdbjcojlcddhdaaG1
import Derived.Shelf.SlicesQ.IndexFunc
import Derived.Shelf.SlGeneric
import Derived.Test.YtdbjcojlcddhdaaProg
import Derived.Shelf.SlLaysF0
import Derived.Test.YtdbjcojlcddhdaaPR
import Derived.Shelf.SlSortCmp.NoneTotal
import Derived.Test.YtdbjcojlcddhdaaDR
set_option linter.unusedSimpArgs false
set_option linter.unusedVariables false
namespace Go.Proofs.Ytdbjcojlcddhdaa
open Go.RowKit

theorem wtL_mem {L : List Arc3} (hs : L.Pairwise AheadP) : ∀ {a : Arc3}, a ∈ L → wtL a.1 a.2.1 L = a.2.2 := by
  induction L with
  | nil => intro a ha; cases ha
  | cons b L ih =>
    intro a ha
    rw [List.pairwise_cons] at hs
    unfold wtL
    rcases List.mem_cons.1 ha with rfl | h
    · rw [if_pos (isEnds_iff.2 ⟨rfl, rfl⟩)]
    · rw [if_neg (fun he => ahead_ne (hs.1 a h) (isEnds_iff.1 he))]
      exact ih hs.2 h
theorem wtL_pos {u v : Int} : ∀ {L : List Arc3}, 0 < wtL u v L → (u, v, wtL u v L) ∈ L
  | [], h => by simp [wtL] at h
  | a :: l, h => by
    unfold wtL at h ⊢
    split
    · rename_i he
      obtain ⟨rfl, rfl⟩ := isEnds_iff.1 he
      exact List.mem_cons_self
    · rename_i he
      rw [if_neg he] at h
      exact List.mem_cons_of_mem _ (wtL_pos h)

/-- The least way over an arc from one of the first k nodes. -/
def leastSt (D : List Int) (L : List Arc3) (s v : Int) : Nat → Int
  | 0 => if v = s then 0 else -1
  | k + 1 => if 0 < wtL k v L ∧ 0 ≤ dAt D k ∧ (leastSt D L s v k < 0 ∨ dAt D k + wtL k v L < leastSt D L s v k) then dAt D k + wtL k v L else leastSt D L s v k
theorem leastSt_inv {N : Int} {L : List Arc3} {s v : Int} {D : List Int} (hD : IsDist N L s D) : ∀ k : Nat,
    -1 ≤ leastSt D L s v k ∧ (0 ≤ leastSt D L s v k → 0 ≤ dAt D v ∧ dAt D v ≤ leastSt D L s v k) ∧ (v = s → 0 ≤ leastSt D L s v k ∧ leastSt D L s v k ≤ 0) ∧
      ∀ u : Nat, u < k → 0 < wtL u v L → 0 ≤ dAt D u → 0 ≤ leastSt D L s v k ∧ leastSt D L s v k ≤ dAt D u + wtL u v L
  | 0 => by
    have hst := hD.start
    unfold leastSt
    split
    · rename_i e
      rw [e]
      exact ⟨by omega, fun _ => by omega, fun _ => by omega, fun u h => absurd h (by omega)⟩
    · rename_i e
      exact ⟨by omega, fun h => by omega, fun h => absurd h e, fun u h => absurd h (by omega)⟩
  | k + 1 => by
    obtain ⟨h1, h2, h3, h4⟩ := leastSt_inv (v := v) hD k
    have hst := hD.start
    unfold leastSt
    split
    · rename_i hc
      obtain ⟨c1, c2, c3⟩ := hc
      have ha := hD.arc _ (wtL_pos c1) (by simpa using c2)
      simp only at ha
      refine ⟨by omega, fun _ => ha, fun e => ?_, fun u hu p q => ?_⟩
      · have := h3 e
        rw [e] at ha
        omega
      · rcases Nat.lt_or_ge u k with h | h
        · have := h4 u h p q
          omega
        · obtain rfl : u = k := by omega
          omega
    · rename_i hc
      refine ⟨h1, h2, h3, fun u hu p q => ?_⟩
      rcases Nat.lt_or_ge u k with h | h
      · exact h4 u h p q
      · obtain rfl : u = k := by omega
        omega
theorem leastSt_all {N : Int} {L : List Arc3} {s v : Int} {D : List Int} (ho : okB N L = true) (hD : IsDist N L s D) (h0 : 0 ≤ v) (h1 : v < N) : leastSt D L s v N.toNat = dAt D v := by
  obtain ⟨a, b, c, d⟩ := leastSt_inv (v := v) hD N.toNat
  have hl := hD.low v
  by_cases hp : 0 ≤ dAt D v
  · rcases hD.back v h0 h1 hp with e | ⟨x, hx, e1, e2, e3⟩
    · subst e
      have h := c rfl
      have := b h.1
      have hst := hD.start
      omega
    · obtain ⟨a0, a1, a2, a3, a4, a5⟩ := arcsIn_of_ok ho x hx
      have hw := wtL_mem (okB_elim ho).2.2.2.2 hx
      rw [e1] at hw
      obtain ⟨u, hu⟩ : ∃ u : Nat, x.1 = u := ⟨x.1.toNat, by omega⟩
      rw [hu] at hw e2 e3
      have h := d u (by omega) (by omega) e2
      have := b h.1
      omega
  · have : ¬ 0 ≤ leastSt D L s v N.toNat := fun h => hp (b h).1
    omega

theorem triangle {N s t v : Int} {L : List Arc3} (h : has2 N L s t = true) (h0 : 0 ≤ v) (h1 : v < N) (ha : 0 ≤ distOfI N L s v) (hb : 0 ≤ distOfI N L v t) : 0 ≤ distOfI N L s t ∧ distOfI N L s t ≤ distOfI N L s v + distOfI N L v t := by
  obtain ⟨ho, hs, ht⟩ := has2_of h
  have e1 : distOfI N L s v = dAt (distL N L s) v := by
    unfold distOfI
    rw [if_pos (by unfold has2; rw [ho, Bool.true_and, decide_eq_true_eq]; omega)]
  have e2 : distOfI N L v t = dAt (distL N L v) t := by
    unfold distOfI
    rw [if_pos (by unfold has2; rw [ho, Bool.true_and, decide_eq_true_eq]; omega)]
  have e3 : distOfI N L s t = dAt (distL N L s) t := by unfold distOfI; rw [if_pos h]
  rw [e1] at ha ⊢
  rw [e2] at hb ⊢
  rw [e3]
  have e4 := distL_of_turned ho ⟨h0, h1⟩ ht
  rw [← e4] at hb ⊢
  have hD := distL_is (s := s) (arcsIn_of_ok ho) (okB_elim ho).2.1 hs.1 hs.2
  have hE := distL_is (s := t) (arcsIn_of_ok (revL_ok ho)) (okB_elim ho).2.1 ht.1 ht.2
  exact hD.tri ho hE _ v h0 h1 rfl hb ha
theorem distOfI_bounds {N s t : Int} {L : List Arc3} : -1 ≤ distOfI N L s t ∧ distOfI N L s t ≤ 23000 := by
  unfold distOfI
  split
  · rename_i h
    obtain ⟨ho, hs, ht⟩ := has2_of h
    exact distL_top ho hs.1 hs.2 t
  · omega

/-- The arcs of the first k nodes, one behind the other. -/
def catL (L : List Arc3) (k : Nat) : List Arc3 := L.filter fun a => decide (a.1 < (k : Int))
theorem catL_zero {L : List Arc3} (h : ∀ a ∈ L, 0 ≤ a.1) : catL L 0 = [] := by
  unfold catL
  rw [List.filter_eq_nil_iff]
  intro a ha
  have := h a ha
  simp
  omega
theorem catL_succ {L : List Arc3} (hs : L.Pairwise AheadP) (k : Nat) : catL L (k + 1) = catL L k ++ fromL k L := by
  induction L with
  | nil => rfl
  | cons a L ih =>
    rw [List.pairwise_cons] at hs
    have ih' := ih hs.2
    unfold catL fromL at ih' ⊢
    simp only [List.filter_cons]
    by_cases h1 : a.1 < (k : Int)
    · rw [if_pos (by simp; omega), if_pos (by simpa using h1), if_neg (by simp; omega), ih']
      rfl
    · by_cases h2 : a.1 = (k : Int)
      · have h3 : L.filter (fun a => decide (a.1 < (k : Int))) = [] := by
          rw [List.filter_eq_nil_iff]
          intro b hb hlt
          have := hs.1 b hb
          unfold AheadP at this
          simp only [aheadB, decide_eq_true_eq] at this hlt
          omega
        rw [h3, List.nil_append] at ih'
        rw [if_pos (by simp; omega), if_neg (by simpa using h1), if_pos (by simpa using h2), ih', h3]
        rfl
      · have h3 : L.filter (fun a => decide (a.1 < ((k + 1 : Nat) : Int))) = [] := by
          rw [List.filter_eq_nil_iff]
          intro b hb hlt
          have := hs.1 b hb
          unfold AheadP at this
          simp only [aheadB, decide_eq_true_eq] at this hlt
          omega
        rw [h3] at ih'
        rw [if_neg (by simp; omega), if_neg (by simpa using h1), if_neg (by simpa using h2), h3]
        exact ih'
theorem catL_all {N : Int} {L : List Arc3} (h : okB N L = true) : catL L N.toNat = L := by
  unfold catL
  rw [List.filter_eq_self]
  intro a ha
  have := arcsIn_of_ok h a ha
  simp
  omega
theorem catL_len (L : List Arc3) (k : Nat) : (catL L k).length ≤ L.length := List.length_filter_le _ _
theorem fromL_at {v : Int} {L : List Arc3} {k : Nat} (hs : L.Pairwise AheadP) (h : k < (fromL v L).length) : (fromL v L)[k].1 = v ∧ wtL v (fromL v L)[k].2.1 L = (fromL v L)[k].2.2 := by
  have hm : (fromL v L)[k] ∈ fromL v L := List.getElem_mem h
  generalize (fromL v L)[k] = a at hm
  unfold fromL at hm
  obtain ⟨h1, h2⟩ := List.mem_filter.1 hm
  have e : a.1 = v := by simpa using h2
  refine ⟨e, ?_⟩
  have := wtL_mem hs h1
  rwa [e] at this

/-- How many arcs come to a node. -/
def intoN (L : List Arc3) (v : Int) (k : Nat) : Nat := ((L.take k).filter fun a => a.2.1 == v).length
theorem intoN_all {L : List Arc3} (hs : L.Pairwise AheadP) (v : Int) : (fromL v (revL L)).length = intoN L v L.length := by
  unfold fromL intoN
  rw [List.take_length]
  have h := ((revL_sorted hs).2.filter fun a => a.1 == v).length_eq
  rw [h, List.filter_map, List.length_map]
  rfl

end Go.Proofs.Ytdbjcojlcddhdaa

set_option linter.unusedSimpArgs false
set_option linter.unusedVariables false
namespace Go.Proofs.Ytdbjcojlcddhdaa
open Go.RowKit

theorem wtL_bounds {N u v : Int} {L : List Arc3} (ho : okB N L = true) : 0 ≤ wtL u v L ∧ wtL u v L ≤ 1000 := by
  have h := arcsIn_of_ok ho
  have key : ∀ (M : List Arc3), (∀ a ∈ M, 1 ≤ a.2.2 ∧ a.2.2 ≤ 1000) → 0 ≤ wtL u v M ∧ wtL u v M ≤ 1000 := by
    intro M
    induction M with
    | nil => intro _; simp [wtL]
    | cons a M ih =>
      intro hM
      unfold wtL
      split
      · have := hM a (by simp); omega
      · exact ih fun b hb => hM b (by simp [hb])
  exact key L fun a ha => by have := h a ha; omega

theorem dAt_at {D : List Int} {k : Nat} (hk : k < D.length) : dAt D (k : Int) = D[k] := by simp [dAt, hk]

end Go.Proofs.Ytdbjcojlcddhdaa

set_option linter.unusedSimpArgs false
set_option linter.unusedVariables false
namespace Go.Proofs.Ytdbjcojlcddhdaa
open Go.RowKit

/-- Arcs between nodes of n. -/
structure ArcN (N : Int) where
  a : Arc3
  h : 0 ≤ a.2.1 ∧ a.2.1 < N ∧ 1 ≤ a.2.2 ∧ a.2.2 ≤ 1000
def arcsN {N : Int} (M : List Arc3) (h : ∀ a ∈ M, 0 ≤ a.2.1 ∧ a.2.1 < N ∧ 1 ≤ a.2.2 ∧ a.2.2 ≤ 1000) : List (ArcN N) := M.pmap (fun a ha => ⟨a, ha⟩) h
theorem arcsN_len {N : Int} {M : List Arc3} (h : ∀ a ∈ M, 0 ≤ a.2.1 ∧ a.2.1 < N ∧ 1 ≤ a.2.2 ∧ a.2.2 ≤ 1000) : (arcsN M h).length = M.length := by unfold arcsN; rw [List.length_pmap]
theorem arcsN_at {N : Int} [Inhabited (ArcN N)] {M : List Arc3} (h : ∀ a ∈ M, 0 ≤ a.2.1 ∧ a.2.1 < N ∧ 1 ≤ a.2.2 ∧ a.2.2 ≤ 1000) {j : Nat} (hj : j < M.length) : ((arcsN M h)[j]!).1 = M[j] := by
  rw [getElem!_pos (arcsN M h) j (by rw [arcsN_len]; exact hj)]
  unfold arcsN
  rw [List.getElem_pmap]
/-- Where the first arc is that a search finds. -/
theorem first_at {M : List Arc3} {q : Arc3 → Bool} {a : Arc3} (h : M.find? q = some a) : ∃ k, ∃ (hk : k < M.length), M[k] = a ∧ q M[k] = true ∧ ∀ j (hj : j < k), q (M[j]'(by omega)) = false := by
  obtain ⟨h1, k, hk, e, h2⟩ := List.find?_eq_some_iff_getElem.1 h
  exact ⟨k, hk, e, by rw [e]; exact h1, fun j hj => by simpa using h2 j hj⟩
theorem idx_first {N : Int} [Inhabited (ArcN N)] {M : List Arc3} (h : ∀ a ∈ M, 0 ≤ a.2.1 ∧ a.2.1 < N ∧ 1 ≤ a.2.2 ∧ a.2.2 ≤ 1000) (q : Arc3 → Bool) {k : Nat} (hk : k < M.length) (hq : q M[k] = true) (hno : ∀ j (hj : j < k), q (M[j]'(by omega)) = false) :
    Lib.idxBy (fun _ (y : ArcN N) => q y.1) ((arcsN M h).take M.length) default = (k : Int) := by
  refine Lib.idxBy_hit _ _ M.length k default hk (by rw [arcsN_len]; exact Nat.le_refl _) ?_ (fun j hj => ?_)
  · show q ((arcsN M h)[k]!).1 = true
    rw [arcsN_at h hk]; exact hq
  · show q ((arcsN M h)[j]!).1 = false
    rw [arcsN_at h (by omega)]; exact hno j hj

/-- Where all of the first places are as far, the next arc is the same. -/
theorem nextB_take {E : List Int} {n : Nat} {v : Int} {a : Arc3} (h : n ≤ E.length) (hv : 0 ≤ v ∧ v < n) (ha : 0 ≤ a.2.1 ∧ a.2.1 < n) : nextB (E.take n) v a = nextB E v a := by
  have e : ∀ x : Int, 0 ≤ x → x < n → dAt (E.take n) x = dAt E x := fun x h0 h1 => by
    unfold dAt
    simp only [List.getD_eq_getElem?_getD]
    rw [List.getElem?_take, if_pos (by omega)]
  unfold nextB
  rw [e _ ha.1 ha.2, e _ hv.1 hv.2]

/-- k steps along a path, the node behind them being v, and what is still to come. -/
structure OnWay (L : List Arc3) (D : List Int) (s t : Int) (P : List Int) (v : Int) : Prop where
  all : P ++ stepsL L D t v = s :: stepsL L D t s
  last : ∃ Q, P = Q ++ [v]
  far : 0 ≤ dAt D v
theorem OnWay.start {L : List Arc3} {D : List Int} {s t : Int} (h : 0 ≤ dAt D s) : OnWay L D s t [s] s := ⟨rfl, ⟨[], rfl⟩, h⟩
theorem OnWay.next {L : List Arc3} {D : List Int} {s t v : Int} {P : List Int} (h : OnWay L D s t P v) (hv : v ≠ t) {a : Arc3} (hn : nextL L D v = some a) (h0 : 0 ≤ dAt D a.2.1) (hl : dAt D a.2.1 < dAt D v) : OnWay L D s t (P ++ [a.2.1]) a.2.1 := by
  refine ⟨?_, ⟨P, rfl⟩, h0⟩
  rw [← h.all, stepsL_next hv hn h0 hl, List.append_assoc]
  rfl
theorem OnWay.done {L : List Arc3} {D : List Int} {s t : Int} {P : List Int} (h : OnWay L D s t P t) : P = s :: stepsL L D t s := by
  have := h.all
  rwa [stepsL_end, List.append_nil] at this
theorem OnWay.len {L : List Arc3} {D : List Int} {s t v : Int} {P : List Int} (h : OnWay L D s t P v) (hd : dAt D s ≤ 23000) : P.length ≤ 23001 := by
  have h1 := congrArg List.length h.all
  have h2 := stepsL_len L D t _ s rfl
  simp only [List.length_append, List.length_cons] at h1
  omega

end Go.Proofs.Ytdbjcojlcddhdaa

set_option linter.unusedSimpArgs false
set_option linter.unusedVariables false
namespace Go.Proofs.Ytdbjcojlcddhdaa
open Go.RowKit

/-- The path from v down to t, by the next arcs. -/
inductive Way (N : Int) (L : List Arc3) (D : List Int) (t : Int) : Int → List Int → Prop
  | stop : Way N L D t t [t]
  | go {v : Int} {a : Arc3} {P : List Int} (hv : v ≠ t) (hr : 0 ≤ v ∧ v < N) (hn : nextL L D v = some a) (hL : a ∈ L) (h1 : a.1 = v) (h0 : 0 ≤ dAt D a.2.1) (hd : a.2.2 + dAt D a.2.1 = dAt D v) (hl : dAt D a.2.1 < dAt D v) (h : Way N L D t a.2.1 P) : Way N L D t v (v :: P)
theorem way_steps {N t : Int} {L : List Arc3} {D : List Int} (ho : okB N L = true) (h : IsDist N (revL L) t D) : ∀ (n : Nat) (v : Int), (dAt D v).toNat = n → 0 ≤ v → v < N → 0 ≤ dAt D v → Way N L D t v (v :: stepsL L D t v) := by
  intro n
  induction n using Nat.strongRecOn with
  | ind n ih =>
    intro v hn h0 h1 hd
    by_cases hv : v = t
    · subst hv
      rw [stepsL_end]
      exact .stop
    · obtain ⟨a, e, hL, ha, hp, hs, r0, r1, hl⟩ := nextL_some ho h h0 h1 hv hd
      rw [stepsL_next hv e hp hl]
      exact .go hv ⟨h0, h1⟩ e hL ha hp hs hl (ih _ (by omega) _ rfl r0 r1 hp)
theorem way_path {N s t : Int} {L : List Arc3} (hh : has2 N L s t = true) (hd : 0 ≤ dAt (distL N (revL L) t) s) : Way N L (distL N (revL L) t) t s (pathL N L s t) := by
  obtain ⟨ho, hs, ht⟩ := has2_of hh
  unfold pathL
  rw [if_pos (by rw [Bool.and_eq_true]; exact ⟨hh, by simpa using hd⟩)]
  exact way_steps ho (distL_is (arcsIn_of_ok (revL_ok ho)) (okB_elim ho).2.1 ht.1 ht.2) _ s rfl hs.1 hs.2 hd
section
variable {N t v : Int} {L : List Arc3} {D P : List Int}
theorem Way.pos (h : Way N L D t v P) : 0 < P.length := by cases h <;> simp
theorem Way.head (h : Way N L D t v P) (hp : 0 < P.length) : P[0] = v := by cases h <;> rfl
theorem Way.last (h : Way N L D t v P) : ∀ (hp : P.length - 1 < P.length), P[P.length - 1] = t := by
  induction h with
  | stop => intro _; rfl
  | go hv hr hn hL h1 h0 hd hl h ih =>
    intro hp
    have := h.pos
    have h2 := ih (by omega)
    simp only [List.length_cons]
    rw [List.getElem_cons]
    rw [dif_neg (by omega)]
    simpa using h2
theorem Way.nodes (h : Way N L D t v P) (ht : 0 ≤ t ∧ t < N) (hz : 0 ≤ dAt D t) : ∀ x ∈ P, (0 ≤ x ∧ x < N) ∧ 0 ≤ dAt D x ∧ dAt D x ≤ dAt D v := by
  induction h with
  | stop => intro x hx; simp at hx; subst hx; exact ⟨ht, hz, Int.le_refl _⟩
  | go hv hr hn hL h1 h0 hd hl h ih =>
    intro x hx
    rcases List.mem_cons.1 hx with rfl | hx
    · exact ⟨hr, by omega, Int.le_refl _⟩
    · obtain ⟨a, b, c⟩ := ih x hx
      exact ⟨a, b, by omega⟩
/-- Each step is the next arc. -/
theorem Way.step (h : Way N L D t v P) : ∀ i (hi : i + 1 < P.length), ∃ a, nextL L D (P[i]'(by omega)) = some a ∧ a ∈ L ∧ a.1 = P[i]'(by omega) ∧ a.2.1 = P[i + 1] ∧ a.2.2 + dAt D P[i + 1] = dAt D (P[i]'(by omega)) ∧ dAt D P[i + 1] < dAt D (P[i]'(by omega)) := by
  induction h with
  | stop => intro i hi; simp at hi
  | go hv hr hn hL h1 h0 hd hl h ih =>
    intro i hi
    rcases i with _ | i
    · have hp := h.pos
      have hh := h.head hp
      simp only [List.getElem_cons_zero, List.getElem_cons_succ]
      rw [hh]
      exact ⟨_, hn, hL, h1, rfl, hd, hl⟩
    · simpa using ih i (by simpa using hi)
/-- How far is left falls along the path. -/
theorem Way.falls (h : Way N L D t v P) : ∀ i j (hij : i < j) (hj : j < P.length), dAt D P[j] < dAt D (P[i]'(by omega)) := by
  intro i j hij
  induction j with
  | zero => omega
  | succ j ih =>
    intro hj
    obtain ⟨a, -, -, -, -, -, e⟩ := h.step j hj
    by_cases hh : i = j
    · subst hh; exact e
    · have := ih (by omega) (by omega)
      omega
theorem Way.nodup (h : Way N L D t v P) : ∀ i j (hij : i < j) (hj : j < P.length), P[i]'(by omega) ≠ P[j] := fun i j hij hj e => by
  have := h.falls i j hij hj
  rw [e] at this
  omega
end

/-- Nodes of the first path are on a shortest one. -/
theorem way_on {N s t : Int} {L : List Arc3} {D E : List Int} (ho : okB N L = true) (hD : IsDist N L s D) (hE : IsDist N (revL L) t E) {v : Int} {P : List Int} (h : Way N L E t v P) (hv : 0 ≤ dAt D v ∧ dAt D v + dAt E v = dAt D t) (hr : 0 ≤ v ∧ v < N) (ht : 0 ≤ t ∧ t < N) (hz : 0 ≤ dAt E t) :
    ∀ x ∈ P, (0 ≤ x ∧ x < N) ∧ 0 ≤ dAt D x ∧ 0 ≤ dAt E x ∧ dAt D x + dAt E x = dAt D t := by
  induction h with
  | stop =>
    intro x hx
    simp at hx
    subst hx
    exact ⟨ht, hv.1, hz, hv.2⟩
  | @go v a P hv' hr' hn hL h1 h0 hd hl h ih =>
    intro x hx
    obtain ⟨a0, a1, a2, a3, a4, a5⟩ := arcsIn_of_ok ho a hL
    rcases List.mem_cons.1 hx with rfl | hx
    · exact ⟨hr, hv.1, by omega, hv.2⟩
    · have hle := hD.arc a hL (by rw [h1]; exact hv.1)
      rw [h1] at hle
      have htri := IsDist.tri ho hD hE _ a.2.1 a2 a3 rfl h0 hle.1
      exact ih ⟨hle.1, by omega⟩ ⟨a2, a3⟩ x hx

/-- Which nodes are between two. -/
theorem distOfI_of {N s t : Int} {L : List Arc3} (ho : okB N L = true) (hs : 0 ≤ s ∧ s < N) (ht : 0 ≤ t ∧ t < N) : distOfI N L s t = dAt (distL N L s) t := by
  unfold distOfI
  rw [if_pos (by unfold has2; rw [ho, Bool.true_and, decide_eq_true_eq]; exact ⟨hs, ht⟩)]
theorem betL_mem {N s t m v : Int} {L : List Arc3} (hh : has2 N L s t = true) (hm : 0 ≤ m ∧ m ≤ 24000) (hv : 0 ≤ v ∧ v < N) :
    v ∈ betL N L s t m ↔ 0 ≤ distOfI N L s v ∧ 0 ≤ distOfI N L v t ∧ distOfI N L s v + distOfI N L v t ≤ m := by
  obtain ⟨ho, hs, ht⟩ := has2_of hh
  unfold betL
  rw [if_pos (by rw [Bool.and_eq_true]; exact ⟨hh, by simpa using hm⟩)]
  unfold withinL
  rw [mem_withinD, distOfI_of ho hs hv, distOfI_of ho hv ht, distL_of_turned ho hv ht]
  constructor
  · rintro ⟨-, h⟩; exact h
  · intro h; exact ⟨hv, h⟩
theorem onL_mem {N s t v : Int} {L : List Arc3} (hh : has2 N L s t = true) (hv : 0 ≤ v ∧ v < N) :
    v ∈ onL N L s t ↔ 0 ≤ distOfI N L s v ∧ 0 ≤ distOfI N L v t ∧ distOfI N L s v + distOfI N L v t = distOfI N L s t := by
  obtain ⟨ho, hs, ht⟩ := has2_of hh
  unfold onL
  rw [if_pos hh]
  unfold withinL
  have hD := distL_is (s := s) (arcsIn_of_ok ho) (okB_elim ho).2.1 hs.1 hs.2
  have hE := distL_is (s := t) (arcsIn_of_ok (revL_ok ho)) (okB_elim ho).2.1 ht.1 ht.2
  have hb := byB_on ho hD hE hv.1 hv.2
  rw [distOfI_of ho hs hv, distOfI_of ho hv ht, distOfI_of ho hs ht, ← distL_of_turned ho hv ht]
  have hm : v ∈ withinD N (distL N L s) (distL N (revL L) t) (dAt (distL N L s) t) ↔ byB (distL N L s) (distL N (revL L) t) (dAt (distL N L s) t) v = true := by
    unfold withinD
    rw [List.mem_filter, mem_nodesL]
    constructor
    · exact fun h => h.2
    · exact fun h => ⟨hv, h⟩
  rw [hm, hb, decide_eq_true_eq]
theorem betL_on {N s t : Int} {L : List Arc3} (hh : has2 N L s t = true) (hd : 0 ≤ distOfI N L s t) : betL N L s t (distOfI N L s t) = onL N L s t := by
  obtain ⟨ho, hs, ht⟩ := has2_of hh
  have hb := (distOfI_bounds (N := N) (s := s) (t := t) (L := L)).2
  unfold betL onL
  rw [if_pos (by rw [Bool.and_eq_true]; exact ⟨hh, by simp; omega⟩), if_pos hh, distOfI_of ho hs ht]
theorem betL_more {N s t m v : Int} {L : List Arc3} (hm : m < 24000) (h : v ∈ betL N L s t m) : v ∈ betL N L s t (m + 1) := by
  unfold betL at h ⊢
  split at h
  · rename_i hc
    rw [Bool.and_eq_true] at hc
    have h2 : 0 ≤ m ∧ m ≤ 24000 := by simpa using hc.2
    rw [if_pos (by rw [Bool.and_eq_true]; exact ⟨hc.1, by simp; omega⟩)]
    unfold withinL at h ⊢
    rw [mem_withinD] at h ⊢
    obtain ⟨a, b, c, d⟩ := h
    exact ⟨a, b, c, by omega⟩
  · simp at h
theorem betL_turned {N s t m : Int} {L : List Arc3} (ho : okB N L = true) : betL N (revL L) t s m = betL N L s t m := by
  have e : has2 N (revL L) t s = has2 N L s t := by
    unfold has2
    rw [ho, revL_ok ho]
    simp [and_comm]
  unfold betL
  rw [e]
  by_cases h : (has2 N L s t && decide (0 ≤ m ∧ m ≤ 24000)) = true
  · rw [if_pos h, if_pos h]
    rw [Bool.and_eq_true] at h
    obtain ⟨-, hs, ht⟩ := has2_of h.1
    unfold withinL withinD
    rw [revL_revL ho]
    congr 1
    funext v
    unfold byB
    rw [decide_eq_decide]
    constructor <;> (intro h; omega)
  · rw [if_neg h, if_neg h]
/-- The first path's nodes are on a shortest one. -/
theorem path_on {N s t x : Int} {L : List Arc3} (h : x ∈ pathL N L s t) : x ∈ onL N L s t := by
  unfold pathL at h
  split at h
  · rename_i hc
    rw [Bool.and_eq_true] at hc
    have hd : 0 ≤ dAt (distL N (revL L) t) s := by simpa using hc.2
    obtain ⟨ho, hs, ht⟩ := has2_of hc.1
    have hD := distL_is (s := s) (arcsIn_of_ok ho) (okB_elim ho).2.1 hs.1 hs.2
    have hE := distL_is (s := t) (arcsIn_of_ok (revL_ok ho)) (okB_elim ho).2.1 ht.1 ht.2
    have hw := way_path hc.1 hd
    have hx : x ∈ pathL N L s t := by
      unfold pathL
      rw [if_pos (by rw [Bool.and_eq_true]; exact hc)]
      exact h
    have h0 := hD.start
    have h1 := hE.start
    have hst := distL_of_turned ho hs ht
    obtain ⟨a, b, c, d⟩ := way_on ho hD hE hw ⟨by omega, by omega⟩ hs ht (by omega) x hx
    rw [onL_mem hc.1 a, distOfI_of ho hs a, distOfI_of ho a ht, distOfI_of ho hs ht, ← distL_of_turned ho a ht]
    exact ⟨b, c, d⟩
  · simp at h

end Go.Proofs.Ytdbjcojlcddhdaa

set_option linter.unusedSimpArgs false
set_option linter.unusedVariables false
namespace Go.Proofs.Ytdbjcojlcddhdaa
open Go.RowKit

set_option maxRecDepth 100000 in
set_option maxHeartbeats 4000000 in
theorem l1Reverse_any (N : Int) (A : Option Addr) (n c : Nat) (L : List Arc3) (hn : n = L.length) (w : World) (hm : n ≤ 1048576) (H1 : ArcsAt w w.heap.size A L) :
    Calls Try.prog 70 #[.agg #[.int .i64 N, .slice A n c]] w (GraphMade1 N (revL L) w) := by
  have K1 := Lib.hid H1
  have HN := Lib.hid hn
  clear H1 hn
  have T0 := Lib.hid (show TS w (.cells #[.int .i64 N, .slice A n c] 26) (w.heap.size + 1) (w.heap.size + 2) N (.slice none 0 0) [] (((w.alloc (.cells #[.int .i64 N, .slice A n c] 26)).alloc (.cells #[.int .i64 0, .slice none 0 0] 26)).alloc (.cells #[.int .i64 N, .slice none 0 0] 26)) from by
    refine ⟨?_, ?_, OwnA.nil_ _ _, (by repeat' (first | exact Bl.refl _ | with_reducible assumption | with_reducible refine Bl.drew_ ?_ | with_reducible refine Bl.drewN_ ?_ _ | with_reducible refine Bl.alloc_ ?_ _ | with_reducible refine Bl.trans_ ?_ (by assumption) | with_reducible refine Bl.trans_ ?_ (And.left (by assumption)))), by omega, by omega⟩
    · have := Two.new ((w.alloc (.cells #[.int .i64 N, .slice A n c] 26)).alloc (.cells #[.int .i64 0, .slice none 0 0] 26)) (.int .i64 N) (.slice none 0 0)
      simpa using this
    · have := Two.new (w.alloc (.cells #[.int .i64 N, .slice A n c] 26)) (.int .i64 0) (.slice none 0 0)
      have := this.bl (Bl.alloc_ (Bl.refl _) (.cells #[.int .i64 N, .slice none 0 0] 26))
      simpa using this)
  go_enter Try.func70, Try.ntmps70
  go_wp2_with fail
  go_loopw [4] (fun i wr => ∃ (k : Nat) (q : Value), k ≤ n ∧ i = .int .i64 k ∧ TS w (.cells #[.int .i64 N, .slice A n c] 26) (w.heap.size + 1) (w.heap.size + 2) N q (revK L k) wr) (fun i _ => n - (intOf i).toNat)
  case atStart => exact ⟨0, _, by omega, rfl, T0.out⟩
  case round =>
    obtain ⟨k, q, hk, rfl, hT⟩ := hrel
    obtain ⟨h00, h01⟩ := box2 hT.bl
    obtain ⟨c0, c1, f0, f1⟩ := hT.box.facts
    obtain ⟨AQ, cq, rfl, hAQ, -⟩ := hT.own.shape
    have T := Lib.hid hT
    have Q := Lib.hid hAQ
    have hbw : Bl w wr := (Bl.alloc_ (Bl.refl w) _).trans_ hT.bl
    have HB := Lib.hid hbw
    clear hT hAQ T0
    by_cases hlt : k < n
    · have hkl : k < L.length := by have := HN.out; omega
      obtain ⟨g1, o1, rfl, hg1, hc1⟩ := K1.out (by omega)
      obtain ⟨p1, p2, p3⟩ := hc1 k hkl
      clear hc1
      rw [← (bcell hbw).1 _ _ hg1] at p1 p2 p3
      have RK := Lib.hid (revK_succ hkl)
      have hlen := revK_len L k (by omega)
      generalize hx : L[k].1 = x at p1
      generalize hy : L[k].2.1 = y at p2
      generalize hz : L[k].2.2 = z at p3
      have HE := Lib.hid (show turnA L[k] = (y, x, z) from by unfold turnA; rw [hx, hy, hz])
      clear hx hy hz hbw
      obtain ⟨l, hl⟩ : ∃ l, l = (revK L k).length := ⟨_, rfl⟩
      rw [← hl] at hlen c1 T
      have HL := Lib.hid hl
      clear hl
      have u1 : (0 : Int) ≤ (k : Int) := by omega
      have u2 : (k : Int) < (n : Int) := by omega
      go_wp2_with fail
      have TD := Lib.hid (T.out.bl_ (show Bl wr wr.drew from (by repeat' (first | exact Bl.refl _ | with_reducible assumption | with_reducible refine Bl.drew_ ?_ | with_reducible refine Bl.drewN_ ?_ _ | with_reducible refine Bl.alloc_ ?_ _ | with_reducible refine Bl.trans_ ?_ (by assumption) | with_reducible refine Bl.trans_ ?_ (And.left (by assumption))))))
      have e0 := (TD.out.box.facts).1
      go_still_tail 21, (by kernel_rfl)
      change wpList _ _ _ _ _ wr.drew
      go_wp2_with fail
      refine (l1Put_any y x z AQ l cq (revK L k) HL.out _ (by omega) (Q.out.bl (by repeat' (first | exact Bl.refl _ | with_reducible assumption | with_reducible refine Bl.drew_ ?_ | with_reducible refine Bl.drewN_ ?_ _ | with_reducible refine Bl.alloc_ ?_ _ | with_reducible refine Bl.trans_ ?_ (by assumption) | with_reducible refine Bl.trans_ ?_ (And.left (by assumption)))))).mono ?_
      rintro e w9 ⟨v4, rfl, ho, hb⟩
      obtain ⟨AB, cb, rfl, -, -⟩ := ho.shape
      have hlen2 := putL_len (y, x, z) (revK L k)
      have U4 := Lib.hid (TD.out.bl_ hb)
      have O4 := Lib.hid (U4.out.put (q2 := _) (L2 := putL (y, x, z) (revK L k)) (ho.low (World.rowIs.lt TD.out.box)))
      obtain ⟨d0, d1, k0, k1⟩ := U4.out.box.facts
      clear ho c0 c1 f0 f1 e0
      go_wp2
      go_roundw
      case rel => exact ⟨k + 1, _, by omega, by go_num, by rw [RK.out, HE.out]; exact O4.out⟩
      case measure => simp [intOf]; omega
    · obtain rfl : k = n := by omega
      have RA := Lib.hid (show revK L k = revL L from by rw [HN.out]; exact revK_all L)
      obtain ⟨r0, r1, fr0, fr1⟩ := T.out.res.facts
      go_wp2
      refine bodyPost_ret (v := .agg #[.int .i64 N, .slice AQ (revK L k).length cq]) (by simp [results, Try.results70, go_sem, r0, r1, fr0, fr1]) rfl ?_
      have := T.out.fin (.int .i64 N) (.slice AQ (revK L k).length cq)
      rw [RA.out] at this ⊢
      exact ⟨_, rfl, this.1, this.2⟩

set_option maxRecDepth 100000 in
set_option maxHeartbeats 1000000 in
theorem specReversed_any (N : Int) (A : Option Addr) (n c : Nat) (L : List Arc3) (hn : n = L.length) (w : World) (hm : n ≤ 1048576) (H1 : ArcsAt w w.heap.size A L) :
    Calls Try.prog 26 #[.agg #[.int .i64 N, .slice A n c]] w (GraphMade1 (revN N L) (revG N L) w) := by
  have K1 := Lib.hid H1
  have HN := Lib.hid hn
  clear H1 hn
  cases ho : okB N L with
  | false =>
    have HO := Lib.hid ho
    clear ho
    go_enter Try.func26, Try.ntmps26
    go_wp2_with fail
    refine (specOk_any N A n c L HN.out _ (by omega) (K1.out.bl (by repeat' (first | exact Bl.refl _ | with_reducible assumption | with_reducible refine Bl.drew_ ?_ | with_reducible refine Bl.drewN_ ?_ _ | with_reducible refine Bl.alloc_ ?_ _ | with_reducible refine Bl.trans_ ?_ (by assumption) | with_reducible refine Bl.trans_ ?_ (And.left (by assumption)))))).mono ?_
    rintro e w1 ⟨rfl, hb1⟩
    rw [HO.out]
    obtain ⟨h00, h01, h10, h11, f10, f11, hsz⟩ := box22 hb1
    go_wp2
    refine bodyPost_ret (v := .agg #[.int .i64 0, .slice none 0 0]) (by simp [results, Try.results26, go_sem, h10, h11, f10, f11]) rfl ?_
    refine ⟨.slice none 0 0, by unfold revN; rw [HO.out]; rfl, by unfold revG; rw [HO.out, if_neg (by simp)]; exact OwnA.nil_ _ _, ?_⟩
    exact Bl.set_ (Bl.set_ ((Bl.alloc_ (Bl.alloc_ (Bl.refl w) _) _).trans_ hb1) (Nat.le_succ _) _) (Nat.le_succ _) _
  | true =>
    have HO := Lib.hid ho
    clear ho
    go_enter Try.func26, Try.ntmps26
    go_wp2_with fail
    refine (specOk_any N A n c L HN.out _ (by omega) (K1.out.bl (by repeat' (first | exact Bl.refl _ | with_reducible assumption | with_reducible refine Bl.drew_ ?_ | with_reducible refine Bl.drewN_ ?_ _ | with_reducible refine Bl.alloc_ ?_ _ | with_reducible refine Bl.trans_ ?_ (by assumption) | with_reducible refine Bl.trans_ ?_ (And.left (by assumption)))))).mono ?_
    rintro e w1 ⟨rfl, hb1⟩
    rw [HO.out]
    obtain ⟨h00, h01, h10, h11, f10, f11, hsz⟩ := box22 hb1
    go_wp2_with fail
    refine (l1Reverse_any N A n c L HN.out _ hm (K1.out.bl (by repeat' (first | exact Bl.refl _ | with_reducible assumption | with_reducible refine Bl.drew_ ?_ | with_reducible refine Bl.drewN_ ?_ _ | with_reducible refine Bl.alloc_ ?_ _ | with_reducible refine Bl.trans_ ?_ (by assumption) | with_reducible refine Bl.trans_ ?_ (And.left (by assumption)))))).mono ?_
    rintro e w2 ⟨v, rfl, hv, hb2⟩
    have HV := Lib.hid hv
    have hb2 := hb1.trans_ hb2
    obtain ⟨A2, c2, rfl, -, -⟩ := hv.shape
    clear hv h00 h01 h10 h11 f10 f11
    obtain ⟨h00, h01, h10, h11, f10, f11, hsz2⟩ := box22 hb2
    go_wp2
    refine bodyPost_ret (v := .agg #[.int .i64 N, .slice A2 (revL L).length c2]) (by simp [results, Try.results26, go_sem, h10, h11, f10, f11]) rfl ?_
    refine ⟨_, by unfold revN; rw [HO.out]; rfl, ?_, Bl.set_ (Bl.set_ ((Bl.alloc_ (Bl.alloc_ (Bl.refl w) _) _).trans_ hb2) (Nat.le_succ _) _) (Nat.le_succ _) _⟩
    unfold revG
    rw [HO.out, if_pos rfl]
    exact ((HV.out.set_ (by show w.heap.size + 1 < _; omega) _).set_ (by show w.heap.size + 1 < _; omega) _).low (by omega)

end Go.Proofs.Ytdbjcojlcddhdaa

set_option linter.unusedSimpArgs false
set_option linter.unusedVariables false
namespace Go.Proofs.Ytdbjcojlcddhdaa
open Go.RowKit

theorem OwnN.snoc {w : World} {B : Nat} {v : Value} {V : List Int} {x : Int} {n : Nat} (hn : n = V.length) (h : w.ownsRow B 2 1 v (n + 1) (csI V ++ [.int .i64 x])) : OwnN w B v (V ++ [x]) := by
  unfold OwnN Owns
  rw [List.length_append, ← hn]
  simpa [csI] using h
/-- What holds where a word is true, and where it is not. -/
def IfT (b : Bool) (P : Prop) : Prop := b = true → P
def IfF (b : Bool) (P : Prop) : Prop := b = false → P
/-- A list of numbers of one's own, in a block. -/
def RowN (w : World) (g c : Nat) (V : List Int) : Prop := OwnN w g (.slice (some ⟨g, 0, none⟩) V.length c) V
theorem RowN.cells {w : World} {g c : Nat} {V : List Int} (h : RowN w g c V) : (∀ o, w.frozen? ⟨g, o, none⟩ = false) ∧ (∀ k (hk : k < V.length), w.cell? ⟨g, k, none⟩ = some (.int .i64 V[k])) := by
  refine ⟨fun o => World.ownsRow.frozenAt h o, fun k hk => ?_⟩
  rw [World.ownsRow.cellAt h k (by omega), List.getElem?_eq_getElem (by rw [csI_len]; exact hk), csI_at]
theorem RowN.bl {w w' : World} {g c : Nat} {V : List Int} (h : RowN w g c V) (hb : Bl w w') : RowN w' g c V := OwnN.bl h hb
theorem RowN.set {w : World} {g c : Nat} {V : List Int} (h : RowN w g c V) (k : Nat) (x : Int) : RowN (w.setCell ⟨g, k, none⟩ (.int .i64 x)) g c (V.set k x) := by
  have h' := (Owns.stored h k (.int .i64 x)).1
  unfold RowN OwnN
  rw [List.length_set]
  have e : csI (V.set k x) = (csI V).set k (.int .i64 x) := by simp [csI, List.map_set]
  rw [e]
  exact h'

theorem OwnN.toRow {w : World} {B : Nat} {v : Value} {V : List Int} (h : OwnN w B v V) (h0 : 0 < V.length) : ∃ g c, v = .slice (some ⟨g, 0, none⟩) V.length c ∧ B ≤ g ∧ g < w.heap.size ∧ RowN w g c V := by
  obtain ⟨A, c, rfl, -, -, -, h3⟩ := Owns.shape h
  obtain ⟨g, rfl, hB, hg, -, -⟩ := h3 h0
  refine ⟨g, c, rfl, hB, hg, h.1, ?_⟩
  rcases h.2 with ⟨e, h1⟩ | ⟨g', cap, cur, e, hB', r⟩
  · simp at e
  · have e' := e
    injection e with e1 e2 e3
    injection e1 with e1
    injection e1 with e1
    exact .inr ⟨g', cap, cur, e', by omega, r⟩
theorem RowN.own {w : World} {g c B : Nat} {V : List Int} (h : RowN w g c V) (hB : B ≤ g) : OwnN w B (.slice (some ⟨g, 0, none⟩) V.length c) V := OwnN.low h hB
theorem RowN.lt {w : World} {g c : Nat} {V : List Int} (h : RowN w g c V) : g < w.heap.size := (Owns.lt_ h g rfl).2

set_option maxRecDepth 100000 in
set_option maxHeartbeats 4000000 in
theorem l3Dist_any (N s : Int) (A : Option Addr) (n c : Nat) (L : List Arc3) (hn : n = L.length) (ho : okB N L = true) (h0 : 0 ≤ s) (h1 : s < N) (w : World) (hm : n ≤ 1048576) (H1 : ArcsAt w w.heap.size A L) :
    Calls Try.prog 77 #[.agg #[.int .i64 N, .slice A n c], .int .i64 s] w (NumsMade (distL N L s) w) := by
  obtain ⟨i0, hi, hz0, hz1, hz2⟩ := info_parts infoInt
  have I0 := Lib.hid hi
  have I1 := Lib.hid hz0
  have I2 := Lib.hid hz1
  have I3 := Lib.hid hz2
  have K1 := Lib.hid H1
  have HN := Lib.hid hn
  have HO := Lib.hid ho
  have hN24 := (okB_elim ho).2.1
  have hL150 := (okB_elim ho).2.2.1
  obtain ⟨m, rfl⟩ : ∃ m : Nat, N = m := ⟨N.toNat, by omega⟩
  obtain ⟨q, rfl⟩ : ∃ q : Nat, s = q := ⟨s.toNat, by omega⟩
  have hm24 : m ≤ 24 := by omega
  have hqm : q < m := by omega
  clear H1 hn hi hz0 hz1 hz2 ho
  go_enter Try.func77, Try.ntmps77
  go_wp2_with fail
  go_loopw [5, 6] (fun v i wr => ∃ k : Nat, k ≤ m ∧ i = .int .i64 k ∧ OwnN wr (w.heap.size + 1) v (List.replicate k (-1)) ∧ Bl (w.alloc (.cells #[.int .i64 (m : Int), .slice A n c] 26)) wr) (fun _ i _ => m - (intOf i).toNat)
  case atStart =>
    refine ⟨0, by omega, rfl, ?_, (by repeat' (first | exact Bl.refl _ | with_reducible assumption | with_reducible refine Bl.drew_ ?_ | with_reducible refine Bl.drewN_ ?_ _ | with_reducible refine Bl.alloc_ ?_ _ | with_reducible refine Bl.trans_ ?_ (by assumption) | with_reducible refine Bl.trans_ ?_ (And.left (by assumption))))⟩
    have h := World.ownsRow_made (base := w.heap.size + 1) (e := 2) (size := 1) (w.alloc (.cells #[.int .i64 (m : Int), .slice A n c] 26)) #[] 0 (by simp) (by unfold maxLen; omega) rfl
    rw [World.size_alloc] at h
    exact h
  case round =>
    obtain ⟨k, hk, rfl, hown, hbl⟩ := hrel
    have hs := hbl.size
    simp only [World.size_alloc] at hs
    obtain ⟨q0, q1⟩ := box2 hbl
    have O := Lib.hid hown
    have HB := Lib.hid hbl
    clear hown hbl
    by_cases hlt : k < m
    · go_wp2_with (at_builtin; refine wpList_append_own _ rfl (.tmp 18) (.tmp 19) _ rfl (w.heap.size + 1) 2 i0 _ 1 8 Try.underlying38 I0.out I1.out I2.out I3.out rfl (by decide) _ (List.replicate k (-1)).length (csI (List.replicate k (-1))) rfl (World.ownsRow.alloc O.out _) ⟨wr.heap.size, 0, none⟩ 1 1 [.int .i64 (-1)] rfl rfl ?c0 (by simp [Value.oneCell']) ?c3 ?c4 ?c5 ?_)
      case c0 => 
        intro j u hj
        match j, hj with
        | 0, hj => simp at hj; subst hj; simp [Addr.add, go_sem]
        | (j + 1), hj => simp at hj
      case c3 => unfold maxLen; simp; omega
      case c4 => simp; omega
      case c5 => simp; omega
      intro v' w1 hown' hgrow _
      have O1 := Lib.hid (OwnN.snoc (V := List.replicate k (-1)) (x := -1) (n := k) (by simp) (by simpa using hown'))
      have hb1 : Bl (w.alloc (.cells #[.int .i64 (m : Int), .slice A n c] 26)) w1 := (HB.out.alloc_ _).grown_ hgrow (fun g hg => by have := (Owns.lt O.out g hg).1; simpa using this)
      have hb1' := Lib.hid hb1
      obtain ⟨q2, q3⟩ := box2 hb1
      clear hown' hgrow q0 q1 hb1
      go_wp2
      go_roundw
      case rel => exact ⟨k + 1, by omega, by go_num, by rw [List.replicate_succ']; exact O1.out, hb1'.out⟩
      case measure => simp [intOf]; omega
    · obtain rfl : k = m := by omega
      obtain ⟨g, c', rfl, hBg, hgl, hrow⟩ := O.out.toRow (by simp; omega)
      have hcl := hrow.cells
      have p0 := hcl.2 q (by simp; exact hqm)
      have p1 := hcl.1 q
      rw [List.getElem_replicate] at p0
      rw [List.length_replicate]
      have hq0 : (0 : Int) ≤ (q : Int) := by omega
      have hq1 : (q : Int) < (k : Int) := by omega
      have R0 := Lib.hid (show RowN (wr.setCell ⟨g, q, none⟩ (.int .i64 0)) g c' (startD k q) from by
        have := hrow.set q 0
        unfold startD
        simpa using this)
      have HB0 := Lib.hid (show Bl (w.alloc (.cells #[.int .i64 (k : Int), .slice A n c] 26)) (wr.setCell ⟨g, q, none⟩ (.int .i64 0)) from HB.out.set_ (by simp; omega) _)
      clear hcl hrow
      go_wp2_with fail
      clear p0 p1 q0 q1
      go_loopg [7] (sumF potF (startD k q) + 1) (fun t mo wr => ∃ (D : List Int) (b : Bool), mo = .bool b ∧ Hid (Rel k L q D) ∧ Hid (RowN wr g c' D) ∧ Hid (Bl (w.alloc (.cells #[.int .i64 (k : Int), .slice A n c] 26)) wr) ∧ IfT b (sumF potF D + 1 ≤ t) ∧ IfF b (IsDist k L q D))
      case atStart => exact ⟨startD k q, true, rfl, Lib.hid (Rel.start_ (by omega) (by omega)), R0, HB0, fun _ => Nat.le_refl _, fun h => nomatch h⟩
      case round =>
        obtain ⟨D, b, rfl, RE, RO, BB, po, di⟩ := hrel
        have PO := Lib.hid po
        have DI := Lib.hid di
        clear po di
        have hDl : D.length = k := by have := RE.out.len; simpa using this
        have HDL := Lib.hid hDl
        clear hDl
        cases b with
        | false =>
          go_wp2_with fail
          go_ret
          have hD := distL_of (arcsIn_of_ok HO.out) (by omega) (by omega) (by omega) (DI.out rfl)
          refine ⟨_, rfl, ?_, (Bl.alloc_ (Bl.refl w) _).trans_ BB.out⟩
          rw [← hD]
          have := RO.out.own (B := w.heap.size) (by omega)
          rw [HDL.out] at this
          exact this
        | true =>
          obtain ⟨q0, q1⟩ := box2 BB.out
          go_wp2_with fail
          clear q0 q1
          go_loopw [7, 8] (fun mo i wr => ∃ (j : Nat) (E : List Int) (b : Bool), j ≤ n ∧ i = .int .i64 j ∧ mo = .bool b ∧ Hid (Rel k L q E) ∧ Hid (RowN wr g c' E) ∧ Hid (Bl (w.alloc (.cells #[.int .i64 (k : Int), .slice A n c] 26)) wr) ∧
            IfT b (sumF potF E < sumF potF D) ∧ IfF b (E = D ∧ ∀ t (h : t < L.length), t < j → nearer D L[t] = false)) (fun _ i _ => n - (intOf i).toNat)
          case atStart => exact ⟨0, D, false, by omega, rfl, rfl, RE, RO, BB, (fun h => nomatch h), fun _ => ⟨rfl, fun t h h' => absurd h' (by omega)⟩⟩
          case round =>
            obtain ⟨j, E, b, hj, rfl, rfl, RE2, RO2, BB2, less, same⟩ := hrel
            have LESS := Lib.hid less
            have SAME := Lib.hid same
            clear less same
            obtain ⟨q0, q1⟩ := box2 BB2.out
            have hEl : E.length = k := by have := RE2.out.len; simpa using this
            have HEL := Lib.hid hEl
            clear hEl
            by_cases hlt : j < n
            · have hjl : j < L.length := by have := HN.out; omega
              have hbw : Bl w wr := (Bl.alloc_ (Bl.refl w) _).trans_ BB2.out
              obtain ⟨g1, o1, rfl, hg1, hc1⟩ := K1.out (by omega)
              obtain ⟨p1, p2, p3⟩ := hc1 j hjl
              rw [← (bcell hbw).1 _ _ hg1] at p1 p2 p3
              obtain ⟨a0, a1, a2, a3, a4, a5⟩ := arcsIn_of_ok HO.out L[j] (List.getElem_mem hjl)
              have AM := Lib.hid (show L[j] ∈ L from List.getElem_mem hjl)
              have hgl2 := RO2.out.lt
              have hg1l : g1 < wr.heap.size := Nat.lt_of_lt_of_le hg1 hbw.size
              clear hc1 hbw
              generalize hAA : L[j] = aa at *
              obtain ⟨x, y, z⟩ := aa
              simp only at a0 a1 a2 a3 a4 a5 p1 p2 p3
              obtain ⟨u, rfl⟩ : ∃ u : Nat, x = u := ⟨x.toNat, by omega⟩
              obtain ⟨v, rfl⟩ : ∃ v : Nat, y = v := ⟨y.toNat, by omega⟩
              have huk : u < k := by omega
              have hvk : v < k := by omega
              obtain ⟨hfz, hcl⟩ := RO2.out.cells
              have c1 := hcl u (by rw [HEL.out]; exact huk)
              have c2 := hcl v (by rw [HEL.out]; exact hvk)
              have f2 := hfz v
              clear hfz hcl
              have e1 : E[u]'(by rw [HEL.out]; exact huk) = dAt E (u : Int) := by simp [dAt, HEL.out, huk]
              have e2 : E[v]'(by rw [HEL.out]; exact hvk) = dAt E (v : Int) := by simp [dAt, HEL.out, hvk]
              rw [e1] at c1
              rw [e2] at c2
              have b1 := RE2.out.bound (by omega) (u : Int)
              have b2 := RE2.out.bound (by omega) (v : Int)
              have b3 := RE2.out.low (u : Int)
              have b4 := RE2.out.low (v : Int)
              have HA := Lib.hid hAA
              clear e1 e2 hAA
              have hstep : nearer E ((u : Int), (v : Int), z) = true → Rel k L q (E.set v (dAt E (u : Int) + z)) ∧ sumF potF (E.set v (dAt E (u : Int) + z)) < sumF potF E := fun h => by
                have := RE2.out.step (arcsIn_of_ok HO.out) (by omega) AM.out h
                simpa using this
              have HST := Lib.hid hstep
              clear hstep
              generalize hdu : dAt E (u : Int) = du at *
              generalize hdv : dAt E (v : Int) = dv at *
              have hnr : nearer E ((u : Int), (v : Int), z) = decide (0 ≤ du ∧ (dv < 0 ∨ du + z < dv)) := by
                unfold nearer
                simp only [hdu, hdv]
              have HNR := Lib.hid hnr
              have no : nearer E ((u : Int), (v : Int), z) = false → IfF b (E = D ∧ ∀ t (h : t < L.length), t < j + 1 → nearer D L[t] = false) := fun hn hb => by
                obtain ⟨e, h⟩ := SAME.out hb
                refine ⟨e, fun t ht htj => ?_⟩
                rcases Nat.lt_or_ge t j with h' | h'
                · exact h t ht h'
                · obtain rfl : t = j := by omega
                  rw [HA.out, ← e]
                  exact hn
              have NO := Lib.hid no
              clear hdu hdv hnr no AM HA
              have i1 : (0 : Int) ≤ (u : Int) := by omega
              have i2 : (u : Int) < (k : Int) := by omega
              have i3 : (0 : Int) ≤ (v : Int) := by omega
              have i4 : (v : Int) < (k : Int) := by omega
              by_cases hdn : du < 0
              · have hnf : nearer E ((u : Int), (v : Int), z) = false := by rw [HNR.out]; simp; omega
                have NF := Lib.hid (NO.out hnf)
                clear hnf
                go_wp2_with fail
                go_roundw
                case rel => exact ⟨j + 1, E, b, by omega, by go_num, rfl, RE2, Lib.hid (RO2.out.bl (by repeat' (first | exact Bl.refl _ | with_reducible assumption | with_reducible refine Bl.drew_ ?_ | with_reducible refine Bl.drewN_ ?_ _ | with_reducible refine Bl.alloc_ ?_ _ | with_reducible refine Bl.trans_ ?_ (by assumption) | with_reducible refine Bl.trans_ ?_ (And.left (by assumption))))), Lib.hid (BB2.out.trans_ (by repeat' (first | exact Bl.refl _ | with_reducible assumption | with_reducible refine Bl.drew_ ?_ | with_reducible refine Bl.drewN_ ?_ _ | with_reducible refine Bl.alloc_ ?_ _ | with_reducible refine Bl.trans_ ?_ (by assumption) | with_reducible refine Bl.trans_ ?_ (And.left (by assumption))))), LESS.out, NF.out⟩
                case measure => simp [intOf]; omega
              · by_cases hnv : dv < 0
                · have hyes : nearer E ((u : Int), (v : Int), z) = true := by rw [HNR.out]; simp; omega
                  obtain ⟨hre, hpo⟩ := HST.out hyes
                  have RE3 := Lib.hid hre
                  have LS3 := Lib.hid (show sumF potF (E.set v (du + z)) < sumF potF D from by
                    cases hb : b with
                    | true => exact Nat.lt_trans hpo (LESS.out hb)
                    | false => rw [← (SAME.out hb).1]; exact hpo)
                  have hw : IntKind.i64.wrap (du + z) = du + z := IntWalk.i64_in _ (by omega)
                  clear hyes hre hpo
                  go_wp2_with fail
                  go_quiet (fail)
                  clear hw
                  go_wp2_with fail
                  go_roundw
                  case rel => exact ⟨j + 1, E.set v (du + z), true, by omega, by go_num, rfl, RE3, Lib.hid (RowN.set (RO2.out.bl (by repeat' (first | exact Bl.refl _ | with_reducible assumption | with_reducible refine Bl.drew_ ?_ | with_reducible refine Bl.drewN_ ?_ _ | with_reducible refine Bl.alloc_ ?_ _ | with_reducible refine Bl.trans_ ?_ (by assumption) | with_reducible refine Bl.trans_ ?_ (And.left (by assumption))))) v _), Lib.hid (Bl.set_ (BB2.out.trans_ (by repeat' (first | exact Bl.refl _ | with_reducible assumption | with_reducible refine Bl.drew_ ?_ | with_reducible refine Bl.drewN_ ?_ _ | with_reducible refine Bl.alloc_ ?_ _ | with_reducible refine Bl.trans_ ?_ (by assumption) | with_reducible refine Bl.trans_ ?_ (And.left (by assumption))))) (by simp; omega) _), (fun _ => LS3.out), fun h => nomatch h⟩
                  case measure => simp [intOf]; omega
                · by_cases hln : du + z < dv
                  · have hyes : nearer E ((u : Int), (v : Int), z) = true := by rw [HNR.out]; simp; omega
                    obtain ⟨hre, hpo⟩ := HST.out hyes
                    have RE3 := Lib.hid hre
                    have LS3 := Lib.hid (show sumF potF (E.set v (du + z)) < sumF potF D from by
                      cases hb : b with
                      | true => exact Nat.lt_trans hpo (LESS.out hb)
                      | false => rw [← (SAME.out hb).1]; exact hpo)
                    have hw : IntKind.i64.wrap (du + z) = du + z := IntWalk.i64_in _ (by omega)
                    clear hyes hre hpo
                    go_wp2_with fail
                    go_quiet (fail)
                    clear hw
                    go_wp2_with fail
                    go_roundw
                    case rel => exact ⟨j + 1, E.set v (du + z), true, by omega, by go_num, rfl, RE3, Lib.hid (RowN.set (RO2.out.bl (by repeat' (first | exact Bl.refl _ | with_reducible assumption | with_reducible refine Bl.drew_ ?_ | with_reducible refine Bl.drewN_ ?_ _ | with_reducible refine Bl.alloc_ ?_ _ | with_reducible refine Bl.trans_ ?_ (by assumption) | with_reducible refine Bl.trans_ ?_ (And.left (by assumption))))) v _), Lib.hid (Bl.set_ (BB2.out.trans_ (by repeat' (first | exact Bl.refl _ | with_reducible assumption | with_reducible refine Bl.drew_ ?_ | with_reducible refine Bl.drewN_ ?_ _ | with_reducible refine Bl.alloc_ ?_ _ | with_reducible refine Bl.trans_ ?_ (by assumption) | with_reducible refine Bl.trans_ ?_ (And.left (by assumption))))) (by simp; omega) _), (fun _ => LS3.out), fun h => nomatch h⟩
                    case measure => simp [intOf]; omega
                  · have hnf : nearer E ((u : Int), (v : Int), z) = false := by rw [HNR.out]; simp; omega
                    have NF := Lib.hid (NO.out hnf)
                    have hw : IntKind.i64.wrap (du + z) = du + z := IntWalk.i64_in _ (by omega)
                    clear hnf
                    go_wp2_with fail
                    go_quiet (fail)
                    clear hw
                    go_wp2_with fail
                    go_roundw
                    case rel => exact ⟨j + 1, E, b, by omega, by go_num, rfl, RE2, Lib.hid (RO2.out.bl (by repeat' (first | exact Bl.refl _ | with_reducible assumption | with_reducible refine Bl.drew_ ?_ | with_reducible refine Bl.drewN_ ?_ _ | with_reducible refine Bl.alloc_ ?_ _ | with_reducible refine Bl.trans_ ?_ (by assumption) | with_reducible refine Bl.trans_ ?_ (And.left (by assumption))))), Lib.hid (BB2.out.trans_ (by repeat' (first | exact Bl.refl _ | with_reducible assumption | with_reducible refine Bl.drew_ ?_ | with_reducible refine Bl.drewN_ ?_ _ | with_reducible refine Bl.alloc_ ?_ _ | with_reducible refine Bl.trans_ ?_ (by assumption) | with_reducible refine Bl.trans_ ?_ (And.left (by assumption))))), LESS.out, NF.out⟩
                    case measure => simp [intOf]; omega
            · go_wp2_with fail
              go_roundg (if b = true then sumF potF E + 1 else 0)
              case rel =>
                refine ⟨E, b, rfl, RE2, RO2, BB2, fun h => by rw [h]; simp, fun h => ?_⟩
                obtain ⟨e, hx⟩ := SAME.out h
                refine RE2.out.done (arcsIn_of_ok HO.out) fun a ha => ?_
                obtain ⟨t, ht, rfl⟩ := List.mem_iff_getElem.1 ha
                rw [e]
                exact hx t ht (by have := HN.out; omega)
              case measure =>
                have := PO.out rfl
                cases hb : b with
                | true => have := LESS.out hb; simp; omega
                | false => simp; omega

end Go.Proofs.Ytdbjcojlcddhdaa

set_option linter.unusedSimpArgs false
set_option linter.unusedVariables false
namespace Go.Proofs.Ytdbjcojlcddhdaa
open Go.RowKit

theorem nodeB_ok {N v : Int} {L : List Arc3} (ho : okB N L = true) : nodeB N v = decide (0 ≤ v ∧ v < N) := by
  obtain ⟨h1, h2, -⟩ := okB_elim ho
  unfold nodeB inB
  have : wrap64 (N - 1) = N - 1 := by unfold wrap64; omega
  rw [this, Bool.eq_iff_iff]
  simp only [decide_eq_true_eq]
  omega
theorem distFromL_len (N : Int) (L : List Arc3) (s : Int) : (distFromL N L s).length ≤ 1048576 := by
  unfold distFromL
  split
  · obtain ⟨ho, h0, h1⟩ := has1_of ‹_›
    have := (okB_elim ho).2.1
    rw [distL_len ho h0 h1]
    omega
  · simp

set_option maxHeartbeats 1000000 in
theorem specDistFrom_any (N s : Int) (A : Option Addr) (n c : Nat) (L : List Arc3) (hn : n = L.length) (hc : n ≤ c) (w : World) (hm : n ≤ 1048576) (H1 : ArcsAt w w.heap.size A L) :
    Calls Try.prog 43 #[.agg #[.int .i64 N, .slice A n c], .int .i64 s] w (NumsMade (distFromL N L s) w) := by
  have K1 := Lib.hid H1
  have HN := Lib.hid hn
  clear H1 hn
  cases ho : okB N L with
  | false =>
    have HO := Lib.hid ho
    clear ho
    go_enter Try.func43, Try.ntmps43
    go_wp2_with fail
    refine (specOk_any N A n c L HN.out _ (by omega) (K1.out.bl (by repeat' (first | exact Bl.refl _ | with_reducible assumption | with_reducible refine Bl.drew_ ?_ | with_reducible refine Bl.drewN_ ?_ _ | with_reducible refine Bl.alloc_ ?_ _ | with_reducible refine Bl.trans_ ?_ (by assumption) | with_reducible refine Bl.trans_ ?_ (And.left (by assumption)))))).mono ?_
    rintro e w1 ⟨rfl, hb1⟩
    rw [HO.out]
    go_wp2
    go_ret
    refine ⟨_, rfl, ?_, (by repeat' (first | exact Bl.refl _ | with_reducible assumption | with_reducible refine Bl.drew_ ?_ | with_reducible refine Bl.drewN_ ?_ _ | with_reducible refine Bl.alloc_ ?_ _ | with_reducible refine Bl.trans_ ?_ (by assumption) | with_reducible refine Bl.trans_ ?_ (And.left (by assumption))))⟩
    unfold distFromL has1
    rw [HO.out, Bool.false_and, if_neg (by simp)]
    exact World.ownsRow_made (base := w.heap.size) (e := 2) (size := 1) w1 #[] 0 (by have := hb1.size; simp at this; omega) (by unfold maxLen; omega) rfl
  | true =>
    have HO := Lib.hid ho
    have HNB := Lib.hid (nodeB_ok (v := s) ho)
    clear ho
    by_cases hh : 0 ≤ s ∧ s < N
    · have h1 : decide (0 ≤ s ∧ s < N) = true := by simpa using hh
      have H1 := Lib.hid h1
      obtain ⟨hs0, hs1⟩ := hh
      clear h1
      go_enter Try.func43, Try.ntmps43
      go_wp2_with fail
      refine (specOk_any N A n c L HN.out _ (by omega) (K1.out.bl (by repeat' (first | exact Bl.refl _ | with_reducible assumption | with_reducible refine Bl.drew_ ?_ | with_reducible refine Bl.drewN_ ?_ _ | with_reducible refine Bl.alloc_ ?_ _ | with_reducible refine Bl.trans_ ?_ (by assumption) | with_reducible refine Bl.trans_ ?_ (And.left (by assumption)))))).mono ?_
      rintro e w1 ⟨rfl, hb1⟩
      rw [HO.out]
      obtain ⟨q0, q1⟩ := box2 hb1
      go_wp2_with fail
      refine (l1Node_any N s _ _).mono ?_
      rintro e w2 ⟨rfl, hb2⟩
      rw [HNB.out, H1.out]
      have hb12 := hb1.trans_ hb2
      clear q0 q1
      obtain ⟨q0, q1⟩ := box2 hb12
      have hbw : Bl w w2 := (Bl.alloc_ (Bl.refl w) _).trans_ hb12
      clear hb12
      go_wp2_with fail
      refine (l3Dist_any N s A n c L HN.out HO.out hs0 hs1 _ hm (K1.out.bl hbw)).mono ?_
      rintro e w3 ⟨v, rfl, hv, hb3⟩
      have V := Lib.hid (hv.low (B := w.heap.size) hbw.size)
      clear hv
      go_wp2
      go_ret
      refine ⟨v, rfl, ?_, hbw.trans_ hb3⟩
      unfold distFromL has1
      rw [HO.out, H1.out]
      exact V.out
    · have h1 : decide (0 ≤ s ∧ s < N) = false := by simpa using hh
      have H1 := Lib.hid h1
      clear h1 hh
      go_enter Try.func43, Try.ntmps43
      go_wp2_with fail
      refine (specOk_any N A n c L HN.out _ (by omega) (K1.out.bl (by repeat' (first | exact Bl.refl _ | with_reducible assumption | with_reducible refine Bl.drew_ ?_ | with_reducible refine Bl.drewN_ ?_ _ | with_reducible refine Bl.alloc_ ?_ _ | with_reducible refine Bl.trans_ ?_ (by assumption) | with_reducible refine Bl.trans_ ?_ (And.left (by assumption)))))).mono ?_
      rintro e w1 ⟨rfl, hb1⟩
      rw [HO.out]
      obtain ⟨q0, q1⟩ := box2 hb1
      go_wp2_with fail
      refine (l1Node_any N s _ _).mono ?_
      rintro e w2 ⟨rfl, hb2⟩
      rw [HNB.out, H1.out]
      have hb12 := hb1.trans_ hb2
      have hbw : Bl w w2 := (Bl.alloc_ (Bl.refl w) _).trans_ hb12
      clear hb12
      go_wp2
      go_ret
      refine ⟨_, rfl, ?_, hbw.alloc_ _⟩
      unfold distFromL has1
      rw [H1.out, Bool.and_false, if_neg (by simp)]
      exact World.ownsRow_made (base := w.heap.size) (e := 2) (size := 1) w2 #[] 0 hbw.size (by unfold maxLen; omega) rfl

set_option maxHeartbeats 1000000 in
theorem specDistOf_any (N s t : Int) (A : Option Addr) (n c : Nat) (L : List Arc3) (hn : n = L.length) (hc : n ≤ c) (w : World) (hm : n ≤ 1048576) (H1 : ArcsAt w w.heap.size A L) :
    Calls Try.prog 87 #[.agg #[.int .i64 N, .slice A n c], .int .i64 s, .int .i64 t] w fun e w' => e = .returned (.int .i64 (distOfI N L s t)) ∧ Bl w w' := by
  have K1 := Lib.hid H1
  have HN := Lib.hid hn
  clear H1 hn
  cases ho : okB N L with
  | false =>
    have HO := Lib.hid ho
    clear ho
    go_enter Try.func87, Try.ntmps87
    go_wp2_with fail
    refine (specOk_any N A n c L HN.out _ (by omega) (K1.out.bl (by repeat' (first | exact Bl.refl _ | with_reducible assumption | with_reducible refine Bl.drew_ ?_ | with_reducible refine Bl.drewN_ ?_ _ | with_reducible refine Bl.alloc_ ?_ _ | with_reducible refine Bl.trans_ ?_ (by assumption) | with_reducible refine Bl.trans_ ?_ (And.left (by assumption)))))).mono ?_
    rintro e w1 ⟨rfl, hb1⟩
    rw [HO.out]
    go_wp2
    go_ret
    refine ⟨ret_int ?_, (by repeat' (first | exact Bl.refl _ | with_reducible assumption | with_reducible refine Bl.drew_ ?_ | with_reducible refine Bl.drewN_ ?_ _ | with_reducible refine Bl.alloc_ ?_ _ | with_reducible refine Bl.trans_ ?_ (by assumption) | with_reducible refine Bl.trans_ ?_ (And.left (by assumption))))⟩
    unfold distOfI has2
    rw [HO.out, Bool.false_and, if_neg (by simp)]
  | true =>
    have HO := Lib.hid ho
    have HNB := Lib.hid (nodeB_ok (v := s) ho)
    have HNT := Lib.hid (nodeB_ok (v := t) ho)
    clear ho
    by_cases hh : 0 ≤ s ∧ s < N
    · have h1 : decide (0 ≤ s ∧ s < N) = true := by simpa using hh
      have H1 := Lib.hid h1
      obtain ⟨hs0, hs1⟩ := hh
      clear h1
      by_cases hk : 0 ≤ t ∧ t < N
      · have h2 : decide (0 ≤ t ∧ t < N) = true := by simpa using hk
        have H2 := Lib.hid h2
        obtain ⟨ht0, ht1⟩ := hk
        clear h2
        obtain ⟨u, rfl⟩ : ∃ u : Nat, t = u := ⟨t.toNat, by omega⟩
        go_enter Try.func87, Try.ntmps87
        go_wp2_with fail
        refine (specOk_any N A n c L HN.out _ (by omega) (K1.out.bl (by repeat' (first | exact Bl.refl _ | with_reducible assumption | with_reducible refine Bl.drew_ ?_ | with_reducible refine Bl.drewN_ ?_ _ | with_reducible refine Bl.alloc_ ?_ _ | with_reducible refine Bl.trans_ ?_ (by assumption) | with_reducible refine Bl.trans_ ?_ (And.left (by assumption)))))).mono ?_
        rintro e w1 ⟨rfl, hb1⟩
        rw [HO.out]
        obtain ⟨q0, q1⟩ := box2 hb1
        go_wp2_with fail
        refine (l1Node_any N s _ _).mono ?_
        rintro e w2 ⟨rfl, hb2⟩
        rw [HNB.out, H1.out]
        have hb2 := hb1.trans_ hb2
        clear q0 q1
        obtain ⟨q0, q1⟩ := box2 hb2
        go_wp2_with fail
        refine (l1Node_any N u _ _).mono ?_
        rintro e w3 ⟨rfl, hb3⟩
        rw [HNT.out, H2.out]
        have hb3 := hb2.trans_ hb3
        clear q0 q1
        obtain ⟨q0, q1⟩ := box2 hb3
        have hbw : Bl w w3 := (Bl.alloc_ (Bl.refl w) _).trans_ hb3
        clear hb1 hb2 hb3
        go_wp2_with fail
        refine (l3Dist_any N s A n c L HN.out HO.out hs0 hs1 _ hm (K1.out.bl hbw)).mono ?_
        rintro e w4 ⟨v, rfl, hv, hb4⟩
        have hl : (distL N L s).length = N.toNat := distL_len HO.out hs0 hs1
        obtain ⟨A5, c5, rfl, hc5, hi5, -, -⟩ := OwnN.shape hv
        obtain ⟨g5, o5, rfl, hg5, hcell⟩ := hi5.cell (by omega)
        have p := hcell u (by omega)
        have e1 : (distL N L s)[u]'(by omega) = distOfI N L s u := by
          unfold distOfI has2
          rw [HO.out, Bool.true_and, if_pos (by simp; omega)]
          unfold dAt
          simp [hl]
          rw [List.getElem?_eq_getElem (by omega)]
          rfl
        rw [e1] at p
        have i1 : (0 : Int) ≤ (u : Int) := by omega
        have i2 : (u : Int) < ((distL N L s).length : Int) := by omega
        clear hcell hv hi5 e1 hl q0 q1
        generalize (distL N L s).length = dl at *
        go_wp2
        go_ret
        exact ⟨ret_int rfl, hbw.trans_ hb4⟩
      · have h2 : decide (0 ≤ t ∧ t < N) = false := by simpa using hk
        have H2 := Lib.hid h2
        clear h2
        go_enter Try.func87, Try.ntmps87
        go_wp2_with fail
        refine (specOk_any N A n c L HN.out _ (by omega) (K1.out.bl (by repeat' (first | exact Bl.refl _ | with_reducible assumption | with_reducible refine Bl.drew_ ?_ | with_reducible refine Bl.drewN_ ?_ _ | with_reducible refine Bl.alloc_ ?_ _ | with_reducible refine Bl.trans_ ?_ (by assumption) | with_reducible refine Bl.trans_ ?_ (And.left (by assumption)))))).mono ?_
        rintro e w1 ⟨rfl, hb1⟩
        rw [HO.out]
        obtain ⟨q0, q1⟩ := box2 hb1
        go_wp2_with fail
        refine (l1Node_any N s _ _).mono ?_
        rintro e w2 ⟨rfl, hb2⟩
        rw [HNB.out, H1.out]
        have hb2 := hb1.trans_ hb2
        clear q0 q1
        obtain ⟨q0, q1⟩ := box2 hb2
        go_wp2_with fail
        refine (l1Node_any N t _ _).mono ?_
        rintro e w3 ⟨rfl, hb3⟩
        rw [HNT.out, H2.out]
        have hb3 := hb2.trans_ hb3
        have hbw : Bl w w3 := (Bl.alloc_ (Bl.refl w) _).trans_ hb3
        clear hb1 hb2 hb3 q0 q1
        go_wp2
        go_ret
        refine ⟨ret_int ?_, hbw⟩
        unfold distOfI has2
        rw [if_neg]
        intro h
        simp at h
        exact hk h.2.2
    · have h1 : decide (0 ≤ s ∧ s < N) = false := by simpa using hh
      have H1 := Lib.hid h1
      clear h1
      go_enter Try.func87, Try.ntmps87
      go_wp2_with fail
      refine (specOk_any N A n c L HN.out _ (by omega) (K1.out.bl (by repeat' (first | exact Bl.refl _ | with_reducible assumption | with_reducible refine Bl.drew_ ?_ | with_reducible refine Bl.drewN_ ?_ _ | with_reducible refine Bl.alloc_ ?_ _ | with_reducible refine Bl.trans_ ?_ (by assumption) | with_reducible refine Bl.trans_ ?_ (And.left (by assumption)))))).mono ?_
      rintro e w1 ⟨rfl, hb1⟩
      rw [HO.out]
      obtain ⟨q0, q1⟩ := box2 hb1
      go_wp2_with fail
      refine (l1Node_any N s _ _).mono ?_
      rintro e w2 ⟨rfl, hb2⟩
      rw [HNB.out, H1.out]
      have hb2 := hb1.trans_ hb2
      have hbw : Bl w w2 := (Bl.alloc_ (Bl.refl w) _).trans_ hb2
      clear hb1 hb2 q0 q1
      go_wp2
      go_ret
      refine ⟨ret_int ?_, hbw⟩
      unfold distOfI has2
      rw [if_neg]
      intro h
      simp at h
      exact hh h.2.1

end Go.Proofs.Ytdbjcojlcddhdaa

set_option linter.unusedSimpArgs false
set_option linter.unusedVariables false
namespace Go.Proofs.Ytdbjcojlcddhdaa
open Go.RowKit

theorem outsL_none {N v : Int} {L : List Arc3} (h : has1 N L v = false) : outsL N L v = [] := by
  unfold outsL
  split
  · rename_i ho
    unfold fromL
    rw [List.filter_eq_nil_iff]
    intro a ha hv
    have e : a.1 = v := by simpa using hv
    have := arcsIn_of_ok ho a ha
    unfold has1 at h
    rw [ho, Bool.true_and, decide_eq_false_iff_not] at h
    exact h (by omega)
  · rfl
theorem fromL_len' (v : Int) (L : List Arc3) : (fromL v L).length ≤ L.length := by
  unfold fromL
  exact List.length_filter_le _ _

set_option maxRecDepth 100000 in
set_option maxHeartbeats 1000000 in
theorem implOuts_any (N v : Int) (A : Option Addr) (n c : Nat) (L : List Arc3) (hn : n = L.length) (hc : n ≤ c) (w : World) (hm : n ≤ 1048576) (H1 : ArcsAt w w.heap.size A L) :
    Calls Try.prog 46 #[.agg #[.int .i64 N, .slice A n c], .int .i64 v] w (ListMade (outsL N L v) w) := by
  obtain ⟨i0, hi, hz0, hz1, hz2⟩ := info_parts infoArc
  have I0 := Lib.hid hi
  have I1 := Lib.hid hz0
  have I2 := Lib.hid hz1
  have I3 := Lib.hid hz2
  have K1 := Lib.hid H1
  have HN := Lib.hid hn
  clear H1 hn hi hz0 hz1 hz2
  cases hh : has1 N L v with
  | false =>
    have HH := Lib.hid hh
    clear hh
    go_enter Try.func46, Try.ntmps46
    go_wp2_with fail
    refine (hasNodes_1 N v A n c L HN.out (w.heap.size + 1) 1 _ (by omega) (K1.out.bl (by repeat' (first | exact Bl.refl _ | with_reducible assumption | with_reducible refine Bl.drew_ ?_ | with_reducible refine Bl.drewN_ ?_ _ | with_reducible refine Bl.alloc_ ?_ _ | with_reducible refine Bl.trans_ ?_ (by assumption) | with_reducible refine Bl.trans_ ?_ (And.left (by assumption))))) (by simp) (by simp [go_sem])).mono ?_
    rintro e w1 ⟨rfl, hb1⟩
    rw [HH.out]
    go_wp2
    go_ret
    exact ⟨_, rfl, by rw [outsL_none HH.out]; exact OwnA.nil_ _ _, (by repeat' (first | exact Bl.refl _ | with_reducible assumption | with_reducible refine Bl.drew_ ?_ | with_reducible refine Bl.drewN_ ?_ _ | with_reducible refine Bl.alloc_ ?_ _ | with_reducible refine Bl.trans_ ?_ (by assumption) | with_reducible refine Bl.trans_ ?_ (And.left (by assumption))))⟩
  | true =>
    have HH := Lib.hid hh
    obtain ⟨ho, hs0, hs1⟩ := has1_of hh
    have hN24 := (okB_elim ho).2.1
    have HO := Lib.hid ho
    have HS := Lib.hid (sorted_of_ok ho)
    have HP := Lib.hid (show ∀ a ∈ L, 0 ≤ a.2.1 from fun a ha => (arcsIn_of_ok ho a ha).2.2.1)
    have hfl := fromL_len' v L
    have HFL := Lib.hid hfl
    clear hh ho hfl
    go_enter Try.func46, Try.ntmps46
    go_wp2_with fail
    refine (hasNodes_1 N v A n c L HN.out (w.heap.size + 1) 1 _ (by omega) (K1.out.bl (by repeat' (first | exact Bl.refl _ | with_reducible assumption | with_reducible refine Bl.drew_ ?_ | with_reducible refine Bl.drewN_ ?_ _ | with_reducible refine Bl.alloc_ ?_ _ | with_reducible refine Bl.trans_ ?_ (by assumption) | with_reducible refine Bl.trans_ ?_ (And.left (by assumption))))) (by simp) (by simp [go_sem])).mono ?_
    rintro e w1 ⟨rfl, hb1⟩
    rw [HH.out]
    have hx := (bcell hb1).1
    have q0 : w1.cell? ⟨w.heap.size, 0, none⟩ = some (.int .i64 N) := (hx _ _ (by simp; omega)).trans (by simp [go_sem])
    have q1 : w1.cell? ⟨w.heap.size, 1, none⟩ = some (.slice A n c) := (hx _ _ (by simp; omega)).trans (by simp [go_sem])
    have hbw : Bl w w1 := (((Bl.refl w).alloc_ _).alloc_ _).trans_ hb1
    clear hx hb1
    go_wp2_with fail
    refine (arcsFrom_any N v A n c L HN.out _ hm hc HS.out HP.out (by omega) (by omega) (K1.out.bl hbw)).mono ?_
    rintro e w2 ⟨A', c', rfl, hc', ha', -, hb2⟩
    have HA := Lib.hid (ha'.more hb2.size)
    have HB := Lib.hid (hbw.trans_ hb2)
    have HO2 := Lib.hid (show outsL N L v = fromL v L from if_pos HO.out)
    clear ha' hb2 hbw q0 q1
    obtain ⟨l, hl⟩ : ∃ l, l = (fromL v L).length := ⟨_, rfl⟩
    have hl' : l ≤ n := by rw [hl]; have := HFL.out; have := HN.out; omega
    rw [← hl]
    have HL := Lib.hid hl
    clear hl
    go_wp2_with (at_builtin; refine wpList_append_any _ rfl _ _ _ rfl w.heap.size 51 i0 _ 3 24 Try.underlying24 I0.out I1.out I2.out I3.out rfl (by decide) (.slice none 0 0) 0 (cs3 ([] : List Arc3)) rfl (World.ownsRow_nil _ _ _ _) w2.heap.size A' l c' (cs3 (fromL v L)) rfl (reads_of HL.out HA.out) (cs3_one _) ?c3 ?c4 ?c5 ?_)
    case c3 => unfold maxLen; omega
    case c4 => omega
    case c5 => exact HB.out.size
    intro v3 w3 hown hgr _
    have O := Lib.hid (own_append (F := ([] : List Arc3)) (G := fromL v L) hown (by have := HL.out; simp; omega))
    have B3 : Bl w w3 := HB.out.grown_ hgr (fun g hg => by cases hg)
    clear hown hgr
    go_wp2
    go_ret
    exact ⟨v3, rfl, by rw [HO2.out]; exact O.out, B3⟩

end Go.Proofs.Ytdbjcojlcddhdaa

set_option linter.unusedSimpArgs false
set_option linter.unusedVariables false
namespace Go.Proofs.Ytdbjcojlcddhdaa
open Go.RowKit

theorem cell_new_drewNp (w : World) (n : Nat) (v : Value) (t : TypeId) : ((w.drewN n).alloc (.cells #[v] t)).cell? ⟨w.heap.size, 0, none⟩ = some v := by
  have h : ∀ wz : World, (wz.alloc (.cells #[v] t)).cell? ⟨wz.heap.size, 0, none⟩ = some v := fun wz => by simp [go_sem]
  exact h (w.drewN n)

set_option maxRecDepth 100000 in
set_option maxHeartbeats 4000000 in
theorem l3Path_any (N s t : Int) (A : Option Addr) (n c : Nat) (L : List Arc3) (hn : n = L.length) (hh : has2 N L s t = true) (w : World) (hm : n ≤ 1048576) (H1 : ArcsAt w w.heap.size A L) :
    Calls Try.prog 79 #[.agg #[.int .i64 N, .slice A n c], .int .i64 s, .int .i64 t] w (NumsMade (pathL N L s t) w) := by
  obtain ⟨i0, hi, hz0, hz1, hz2⟩ := info_parts infoInt
  have I0 := Lib.hid hi
  have I1 := Lib.hid hz0
  have I2 := Lib.hid hz1
  have I3 := Lib.hid hz2
  have K1 := Lib.hid H1
  have HN := Lib.hid hn
  have HH := Lib.hid hh
  obtain ⟨ho, ⟨hs0, hs1⟩, ht0, ht1⟩ := has2_of hh
  have hN24 := (okB_elim ho).2.1
  have HO := Lib.hid ho
  have HRO := Lib.hid (revL_ok ho)
  have HRL := Lib.hid (revL_len (okB_elim ho).2.2.2.2)
  have HE := Lib.hid (distL_is (s := t) (arcsIn_of_ok (revL_ok ho)) hN24 ht0 ht1)
  have HET := Lib.hid (fun v => distL_top (s := t) (revL_ok ho) ht0 ht1 v)
  have HEl := Lib.hid (show (distL N (revL L) t).length = N.toNat from distL_len (revL_ok ho) ht0 ht1)
  obtain ⟨u, rfl⟩ : ∃ u : Nat, s = u := ⟨s.toNat, by omega⟩
  obtain ⟨z, rfl⟩ : ∃ z : Nat, N = z := ⟨N.toNat, by omega⟩
  clear hh ho H1 hn hi hz0 hz1 hz2
  go_enter Try.func79, Try.ntmps79
  go_wp2_with fail
  refine (l1Reverse_any z A n c L HN.out _ hm (K1.out.bl (by repeat' (first | exact Bl.refl _ | with_reducible assumption | with_reducible refine Bl.drew_ ?_ | with_reducible refine Bl.drewN_ ?_ _ | with_reducible refine Bl.alloc_ ?_ _ | with_reducible refine Bl.trans_ ?_ (by assumption) | with_reducible refine Bl.trans_ ?_ (And.left (by assumption)))))).mono ?_
  rintro e w1 ⟨v5, rfl, hv5, hb1⟩
  obtain ⟨A5, c5, rfl, ha5, -⟩ := hv5.shape
  have J5 := Lib.hid ha5
  clear hv5 ha5
  go_wp2_with fail
  refine (l3Dist_any z t A5 (revL L).length c5 (revL L) rfl HRO.out ht0 ht1 _ (by rw [HRL.out]; have := HN.out; omega) J5.out).mono ?_
  rintro e w2 ⟨v6, rfl, hv6, hb2⟩
  obtain ⟨A6, c6, rfl, -, hi6, -, lo6⟩ := OwnN.shape hv6
  have J6 := Lib.hid hi6
  have BB := Lib.hid ((Bl.alloc_ (Bl.refl w) (.cells #[.int .i64 (z : Int), .slice A n c] 26)).trans_ (hb1.trans_ hb2))
  have BX := Lib.hid (show ∀ wx, Bl w2 wx → (wx.cell? ⟨w.heap.size, 0, none⟩ = some (.int .i64 (z : Int)) ∧ wx.cell? ⟨w.heap.size, 1, none⟩ = some (.slice A n c)) from fun wx hb => box2 (hb1.trans_ (hb2.trans_ hb)))
  clear hv6 hi6 lo6 hb1 hb2
  have hEl : (distL z (revL L) t).length = z := by rw [HEl.out]; simp
  have EQ := Lib.hid hEl
  rw [hEl]
  have hue : u < (distL (z : Int) (revL L) t).length := by rw [hEl]; omega
  obtain ⟨g6, o6, rfl, hg6, hc6⟩ := J6.out.cell (by omega)
  have q2 := hc6 u hue
  have HDU := Lib.hid (dAt_at hue)
  have CE := Lib.hid hc6
  generalize (distL (z : Int) (revL L) t)[u] = d at q2 HDU
  have u0 : (0 : Int) ≤ (u : Int) := by omega
  have u1 : (u : Int) < (z : Int) := hs1
  clear hc6 hue hEl
  by_cases hd : d < 0
  · have bd : decide (d < 0) = true := by simpa using hd
    have HP := Lib.hid (show pathL z L u t = [] from by
      unfold pathL
      rw [if_neg (by rw [HDU.out, Bool.and_eq_true]; intro h; have := of_decide_eq_true h.2; omega)])
    go_wp2
    go_ret
    exact ⟨_, rfl, by rw [HP.out]; exact OwnN.nil_ _ _, BB.out⟩
  · have bd : decide (d < 0) = false := by simpa using hd
    have HP := Lib.hid (show pathL z L u t = (u : Int) :: stepsL L (distL z (revL L) t) t u from by
      unfold pathL
      rw [if_pos (by rw [HDU.out, Bool.and_eq_true]; exact ⟨HH.out, by simp; omega⟩)])
    have ST := Lib.hid (OnWay.start (L := L) (D := distL z (revL L) t) (t := t) (s := (u : Int)) (by rw [HDU.out]; omega))
    have hdb := (HET.out u).2
    have NW := Lib.hid (fun (v : Int) h0 h1 hv hd => nextL_some (L := L) (v := v) HO.out HE.out h0 h1 hv hd)
    generalize hDD : distL (z : Int) (revL L) t = D at *
    have O0 := Lib.hid (show OwnN (w2.alloc (.cells #[.int .i64 (u : Int)] 2)) w2.heap.size (.slice (some ⟨w2.heap.size, 0, none⟩) 1 1) [(u : Int)] from
      ⟨rfl, .inr ⟨w2.heap.size, 1, #[.int .i64 (u : Int)], rfl, Nat.le_refl _, World.alloc_heap_new _ _, Nat.le_refl _, by unfold maxLen; omega, rfl, rfl⟩⟩)
    clear HE HDU hDD HRL HRO J5
    go_wp2_with fail
    clear q2
    go_loopw [8, 9] (fun pv vv wr => ∃ (P : List Int) (v : Int), (0 ≤ v ∧ v < (z : Int)) ∧ vv = .int .i64 v ∧ OwnN wr w2.heap.size pv P ∧ OnWay L D u t P v ∧ Bl w2 wr) (fun _ vv _ => (dAt D (intOf vv)).toNat)
    case atStart => exact ⟨[(u : Int)], u, ⟨by omega, u1⟩, rfl, O0.out, ST.out, Bl.alloc_ (Bl.refl w2) _⟩
    case round =>
      obtain ⟨P, v, ⟨hv0, hv1⟩, rfl, hO, hway, hbl⟩ := hrel
      have O := Lib.hid hO
      have WY := Lib.hid hway
      obtain ⟨q0, q1⟩ := BX.out _ hbl
      have hPl : P.length ≤ 23001 := hway.len hdb
      clear hO hway
      by_cases hvt : v = t
      · have bv : (v != t) = false := by simpa using hvt
        subst hvt
        go_wp2
        go_ret
        refine ⟨u8, rfl, ?_, BB.out.trans_ hbl⟩
        rw [HP.out, ← WY.out.done]
        exact O.out.low BB.out.size
      · have bv : (v != t) = true := by simpa using hvt
        obtain ⟨a, hnx, haL, ha1, hap, has, ha0, haN, hal⟩ := NW.out v hv0 hv1 hvt WY.out.far
        have WY2 := Lib.hid (WY.out.next hvt hnx hap hal)
        have LT := Lib.hid hal
        have NX := Lib.hid hnx
        clear hnx haL ha1 hap has hal
        go_wp2_with fail
        refine (l1Outs_any z v A n c L HN.out _ hm (K1.out.bl (BB.out.trans_ hbl))).mono ?_
        rintro e w4 ⟨v4, rfl, hv4, hb4⟩
        obtain ⟨A4, c4, rfl, ha4, -⟩ := hv4.shape
        have hR := NX.out
        unfold nextL at hR
        obtain ⟨kf, hkf, hfa, hq, hno⟩ := first_at hR
        have hin : ∀ b ∈ fromL v L, 0 ≤ b.2.1 ∧ b.2.1 < (z : Int) ∧ 1 ≤ b.2.2 ∧ b.2.2 ≤ 1000 := fun b hb => by
          have h := arcsIn_of_ok HO.out b (by unfold fromL at hb; exact (List.mem_filter.1 hb).1)
          exact ⟨h.2.2.1, h.2.2.2.1, h.2.2.2.2.1, h.2.2.2.2.2⟩
        have HIN := Lib.hid hin
        have HQ := Lib.hid hq
        have HNO := Lib.hid hno
        have HFA := Lib.hid hfa
        have V4 := Lib.hid ha4
        have B4 := Lib.hid (hbl.trans_ hb4)
        have O4 := Lib.hid (O.out.bl hb4)
        obtain ⟨R, hRl⟩ : ∃ R, R = (fromL v L).length := ⟨_, rfl⟩
        rw [← hRl]
        have HRR := Lib.hid hRl
        have hkR : kf < R := by rw [hRl]; exact hkf
        have hR48 : R ≤ 1048576 := by rw [hRl]; have := fromL_len' v L; have := HN.out; omega
        obtain ⟨vn, rfl⟩ : ∃ vn : Nat, v = vn := ⟨v.toNat, by omega⟩
        have hvl : vn < D.length := by rw [EQ.out]; omega
        have HDV := Lib.hid (dAt_at hvl)
        clear hv4 ha4 hb4 hR hfa hq hno hin hRl q0 q1 O hbl
        go_wp2_with fail
        go_loopw [9, 11] (fun vv i wx => ∃ k : Nat, k ≤ kf ∧ vv = .int .i64 (vn : Int) ∧ i = .int .i64 k ∧ Bl w4 wx) (fun _ i _ => kf + 1 - (intOf i).toNat)
        case atStart => exact ⟨0, by omega, rfl, rfl, Bl.refl _⟩
        case round =>
          obtain ⟨k, hk, rfl, rfl, hbl⟩ := hrel
          have hkl : k < (fromL (vn : Int) L).length := by rw [← HRR.out]; omega
          obtain ⟨g4, o4, rfl, hg4, hc4⟩ := (V4.out.bl hbl) (by omega)
          obtain ⟨p1, p2, p3⟩ := hc4 k hkl
          obtain ⟨b0, b1, b2, b3⟩ := HIN.out _ (List.getElem_mem hkl)
          have HNK := Lib.hid (fun (h : k < kf) => (show nextB D (vn : Int) ((fromL (vn : Int) L)[k]'hkl) = false from HNO.out k h))
          have HYK := Lib.hid (fun (h : k = kf) => (show (fromL (vn : Int) L)[k] = a from by subst h; exact HFA.out))
          generalize (fromL (vn : Int) L)[k] = b at *
          obtain ⟨x1, y1, z1⟩ := b
          simp only at p1 p2 p3 b0 b1 b2 b3
          obtain ⟨yn, rfl⟩ : ∃ yn : Nat, y1 = yn := ⟨y1.toNat, by omega⟩
          have hyl : yn < D.length := by rw [EQ.out]; omega
          have HDY := Lib.hid (dAt_at hyl)
          have r1 := CE.out yn hyl
          have r2 := CE.out vn hvl
          have hb24 := B4.out.trans_ hbl
          rw [← (bcell hb24).1 _ _ hg6] at r1 r2
          have hty := HET.out yn
          rw [HDY.out] at hty
          have NB := Lib.hid (show nextB D (vn : Int) (x1, (yn : Int), z1) = decide (0 ≤ D[yn] ∧ z1 + D[yn] = D[vn]) from by unfold nextB; simp only; rw [HDY.out, HDV.out])
          generalize D[yn] = dy at *
          generalize hdv : D[vn] = dv at *
          have a1 : IntKind.i64.wrap (z1 + dy) = z1 + dy := IntWalk.i64_in _ (by omega)
          have k0 : (0 : Int) ≤ (k : Int) := by omega
          have k1 : (k : Int) < (R : Int) := by omega
          have y0 : (0 : Int) ≤ (yn : Int) := by omega
          have y2 : (yn : Int) < (z : Int) := b1
          have v0 : (0 : Int) ≤ (vn : Int) := by omega
          have v1 : (vn : Int) < (z : Int) := hv1
          clear hc4 p1
          by_cases h1 : 0 ≤ dy
          · have c1 : decide (0 ≤ dy) = true := by simpa using h1
            by_cases h2 : z1 + dy = dv
            · have c2 : (z1 + dy == dv) = true := by simpa using h2
              have HK := Lib.hid (show k = kf from by
                by_cases e : k < kf
                · have := HNK.out e
                  rw [NB.out, decide_eq_false_iff_not] at this
                  exact absurd ⟨h1, h2⟩ this
                · omega)
              have HA := Lib.hid (HYK.out HK.out)
              have AY := Lib.hid (show a.2.1 = (yn : Int) from by rw [← HA.out])
              have O5 := Lib.hid (O4.out.bl hbl)
              have B5 := Lib.hid hb24
              clear h2 hbl hb24 NB HNK HYK
              go_wp2
              go_quiet (fail)
              go_wp2_with (at_builtin; refine wpList_append_any _ rfl (.tmp 71) (.tmp 73) _ rfl w2.heap.size 2 i0 _ 1 8 Try.underlying38 I0.out I1.out I2.out I3.out rfl (by decide) _ P.length (csI P) rfl (World.ownsRow.alloc (OwnN.bl O5.out (by first | exact Bl.refl _ | exact (Bl.refl _).drew_ | exact (Bl.refl _).drewN_ _)) _) (wr.heap.size + 1) (some ⟨wr.heap.size, 0, none⟩) 1 1 [.int .i64 (yn : Int)] rfl ?c0 (by simp [Value.oneCell']) ?c3 ?c4 ?c5 ?_)
              case c0 =>
                refine ⟨rfl, fun _ => ⟨_, rfl, by show wr.heap.size < wr.heap.size + 1; omega, fun x u hj => ?_⟩⟩
                match x, hj with
                | 0, hj => simp at hj; subst hj; (try simp [Addr.add, go_sem]); (try exact cell_new_drewNp _ _ _ _)
                | (x + 1), hj => simp at hj
              case c3 => unfold maxLen; omega
              case c4 => omega
              case c5 => have := B5.out.size; simp; omega
              intro v' w8 hown' hgrow hwh
              have O8 := Lib.hid (OwnN.snoc (V := P) (x := (yn : Int)) (n := P.length) rfl (by simpa using hown'))
              have B8 : Hid (Bl w2 w8) := by
                refine Lib.hid (Bl.grown_ (B5.out.trans_ ?_) hgrow (fun g hg => (Owns.lt O5.out g hg).1))
                first | exact (Bl.refl wr).alloc_ _ | exact ((Bl.refl wr).alloc_ _).drew_ | exact ((Bl.refl wr).alloc_ _).drewN_ _ | exact ((Bl.refl wr).drewN_ _).alloc_ _
              clear hown' hgrow hwh
              go_wp2
              go_roundw
              case rel => exact ⟨P ++ [(yn : Int)], yn, ⟨y0, y2⟩, rfl, O8.out, by rw [← AY.out]; exact WY2.out, B8.out⟩
              case measure =>
                have h1 := LT.out
                have h2 := WY2.out.far
                rw [AY.out] at h1 h2
                simp only [intOf]
                omega
            · have c2 : (z1 + dy == dv) = false := by simpa using h2
              have HK := Lib.hid (show k < kf from by
                by_cases e : k < kf
                · exact e
                · have e2 : k = kf := by omega
                  have h3 := HQ.out
                  have h4 := HFA.out
                  have h5 := HYK.out e2
                  rw [h4, ← h5, NB.out, decide_eq_true_eq] at h3
                  exact absurd h3.2 h2)
              have hkk := HK.out
              clear h2 NB HNK HYK
              go_wp2
              go_quiet (fail)
              go_wp2
              go_roundw
              case rel => exact ⟨k + 1, by omega, rfl, by go_num, (by repeat' (first | exact Bl.refl _ | with_reducible assumption | with_reducible refine Bl.drew_ ?_ | with_reducible refine Bl.drewN_ ?_ _ | with_reducible refine Bl.alloc_ ?_ _ | with_reducible refine Bl.trans_ ?_ (by assumption) | with_reducible refine Bl.trans_ ?_ (And.left (by assumption))))⟩
              case measure => simp [intOf]; omega
          · have c1 : decide (0 ≤ dy) = false := by simpa using h1
            have HK := Lib.hid (show k < kf from by
              by_cases e : k < kf
              · exact e
              · have e2 : k = kf := by omega
                have h3 := HQ.out
                have h4 := HFA.out
                have h5 := HYK.out e2
                rw [h4, ← h5, NB.out, decide_eq_true_eq] at h3
                exact absurd h3.1 h1)
            have hkk := HK.out
            clear NB HNK HYK
            go_wp2
            go_quiet (fail)
            go_wp2
            go_roundw
            case rel => exact ⟨k + 1, by omega, rfl, by go_num, (by repeat' (first | exact Bl.refl _ | with_reducible assumption | with_reducible refine Bl.drew_ ?_ | with_reducible refine Bl.drewN_ ?_ _ | with_reducible refine Bl.alloc_ ?_ _ | with_reducible refine Bl.trans_ ?_ (by assumption) | with_reducible refine Bl.trans_ ?_ (And.left (by assumption))))⟩
            case measure => simp [intOf]; omega

end Go.Proofs.Ytdbjcojlcddhdaa

namespace Go.Proofs.Ytdbjcojlcddhdaa
open Go.Shelf

def idxArcs_ren : Go.Shelf.Ren := ⟨fun | 6 => 100 | n => n, fun | 22 => 24 | 23 => 51 | 25 => 117 | 3 => 3 | 0 => 0 | 4 => 4 | n => n, fun | n => n⟩
theorem idxArcs : Go.Proofs.SlLaysH0.n6 Try.prog idxArcs_ren := {
  mixed := by kernel_rfl
  f6 := ⟨Try.f100.name, by decide, Try.func100.trans (congrArg some (by kernel_rfl))⟩
  t0 := Try.underlying0
  a0 := Try.isAgg0
  z0 := Try.sizeOf0
  v0 := Try.zeroValue0
  t3 := Try.underlying3
  a3 := Try.isAgg3
  z3 := Try.sizeOf3
  v3 := Try.zeroValue3
  t4 := Try.underlying4
  a4 := Try.isAgg4
  z4 := Try.sizeOf4
  v4 := Try.zeroValue4
  t22 := Try.underlying24
  a22 := Try.isAgg24
  z22 := Try.sizeOf24
  v22 := Try.zeroValue24
  t25 := Try.underlying117
  a25 := Try.isAgg117
  z25 := Try.sizeOf117
  v25 := Try.zeroValue117 }

end Go.Proofs.Ytdbjcojlcddhdaa

set_option linter.unusedSimpArgs false
set_option linter.unusedVariables false
namespace Go.Proofs.Ytdbjcojlcddhdaa
open Go.RowKit Go.Shelf

set_option maxHeartbeats 1000000 in
theorem next1_any (lb vb : Nat) (E : List Int) (N v x y z : Int) (W : World) (hl : NumsAt W lb E) (hv : W.cell? ⟨vb, 0, none⟩ = some (.int .i64 v)) (hN : N ≤ 24) (y0 : 0 ≤ y) (y1 : y < N) (z0 : 1 ≤ z) (z1 : z ≤ 1000) (v0 : 0 ≤ v) (v1 : v < N)
    (hE : ∀ k (h : k < E.length), (k : Int) < N → -1 ≤ E[k] ∧ E[k] ≤ 23000) :
    Calls Try.prog 101 #[.agg #[.int .i64 x, .int .i64 y, .int .i64 z], .pointer (some ⟨lb, 0, none⟩), .pointer (some ⟨vb, 0, none⟩)] W fun e w' => e = .returned (.bool (nextB E v (x, y, z))) ∧ Bl W w' := by
  obtain ⟨yn, rfl⟩ : ∃ yn : Nat, y = yn := ⟨y.toNat, by omega⟩
  obtain ⟨vn, rfl⟩ : ∃ vn : Nat, v = vn := ⟨v.toNat, by omega⟩
  have hlen := hl.len
  have hyl : yn < E.length := by omega
  have hvl : vn < E.length := by omega
  have q0 := hl.cell yn hyl
  have q1 := hl.cell vn hvl
  have hby := hE yn hyl y1
  have hbv := hE vn hvl v1
  have HB := Lib.hid (show nextB E (vn : Int) (x, (yn : Int), z) = decide (0 ≤ E[yn] ∧ z + E[yn] = E[vn]) from by
    unfold nextB
    rw [dAt_at hyl, dAt_at hvl])
  generalize E[yn] = d at *
  generalize E[vn] = e at *
  have hlb := hl.lt
  have hvb := World.block_lt_of_cell? _ _ hv
  simp only at hvb
  have u1 : (0 : Int) ≤ (yn : Int) := by omega
  have u2 : (yn : Int) < 24 := by omega
  have u3 : (0 : Int) ≤ (vn : Int) := by omega
  have u4 : (vn : Int) < 24 := by omega
  clear hl hE hlen hyl hvl
  by_cases h1 : 0 ≤ d
  · have b1 : decide (0 ≤ d) = true := by simpa using h1
    have a1 : IntKind.i64.wrap (z + d) = z + d := IntWalk.i64_in _ (by omega)
    by_cases h2 : z + d = e
    · have b2 : (z + d == e) = true := by simpa using h2
      have HC := Lib.hid (show decide (0 ≤ d ∧ z + d = e) = true from by simp only [decide_eq_true_eq]; exact ⟨h1, h2⟩)
      clear h2
      go_enter Try.func101, Try.ntmps101
      go_wp2
      go_quiet (fail)
      go_wp2
      go_ret
      exact ⟨ret_bool (by rw [HB.out, HC.out]), (by repeat' (first | exact Bl.refl _ | with_reducible assumption | with_reducible refine Bl.drew_ ?_ | with_reducible refine Bl.drewN_ ?_ _ | with_reducible refine Bl.alloc_ ?_ _ | with_reducible refine Bl.trans_ ?_ (by assumption) | with_reducible refine Bl.trans_ ?_ (And.left (by assumption))))⟩
    · have b2 : (z + d == e) = false := by simpa using h2
      have HC := Lib.hid (show decide (0 ≤ d ∧ z + d = e) = false from by simp only [decide_eq_false_iff_not]; exact fun h => h2 h.2)
      clear h2
      go_enter Try.func101, Try.ntmps101
      go_wp2
      go_quiet (fail)
      go_wp2
      go_ret
      exact ⟨ret_bool (by rw [HB.out, HC.out]), (by repeat' (first | exact Bl.refl _ | with_reducible assumption | with_reducible refine Bl.drew_ ?_ | with_reducible refine Bl.drewN_ ?_ _ | with_reducible refine Bl.alloc_ ?_ _ | with_reducible refine Bl.trans_ ?_ (by assumption) | with_reducible refine Bl.trans_ ?_ (And.left (by assumption))))⟩
  · have b1 : decide (0 ≤ d) = false := by simpa using h1
    have HC := Lib.hid (show decide (0 ≤ d ∧ z + d = e) = false from by simp only [decide_eq_false_iff_not]; exact fun h => h1 h.1)
    go_enter Try.func101, Try.ntmps101
    go_wp2
    go_quiet (fail)
    go_wp2
    go_ret
    exact ⟨ret_bool (by rw [HB.out, HC.out]), (by repeat' (first | exact Bl.refl _ | with_reducible assumption | with_reducible refine Bl.drew_ ?_ | with_reducible refine Bl.drewN_ ?_ _ | with_reducible refine Bl.alloc_ ?_ _ | with_reducible refine Bl.trans_ ?_ (by assumption) | with_reducible refine Bl.trans_ ?_ (And.left (by assumption))))⟩

def encN {N : Int} (y : ArcN N) : List Value := [.int .i64 y.a.1, .int .i64 y.a.2.1, .int .i64 y.a.2.2]
theorem box24 {w wx : World} {E : List Int} {t : TypeId} (hE : E.length = 24) (h : Bl (w.alloc (.cells (E.map (Value.int .i64)).toArray t)) wx) : NumsAt wx w.heap.size E := by
  refine NumsAt.bl (w := w.alloc (.cells (E.map (Value.int .i64)).toArray t)) ⟨by simp, hE, fun i hi => ?_, fun i hi => ?_⟩ h
  · simp [go_sem, hi]
  · simp [go_sem]

set_option maxRecDepth 100000 in
set_option maxHeartbeats 2000000 in
theorem nextNode_any (N v : Int) (A : Option Addr) (n c : Nat) (L : List Arc3) (hn : n = L.length) (hc : n ≤ c) (ho : okB N L = true) (E : List Int) (hE : E.length = 24)
    (hEb : ∀ k (h : k < E.length), (k : Int) < N → -1 ≤ E[k] ∧ E[k] ≤ 23000) (v0 : 0 ≤ v) (v1 : v < N) (a : Arc3) (hnext : nextL L (E.take N.toNat) v = some a) (w : World) (hm : n ≤ 1048576) (H1 : ArcsAt w w.heap.size A L) :
    Calls Try.prog 78 #[.agg #[.int .i64 N, .slice A n c], .agg (E.map (Value.int .i64)).toArray, .int .i64 v] w fun e w' => e = .returned (.int .i64 a.2.1) ∧ Bl w w' := by
  have K1 := Lib.hid H1
  have HN := Lib.hid hn
  have HO := Lib.hid ho
  have EL := Lib.hid hE
  have EB := Lib.hid hEb
  have NX := Lib.hid hnext
  have hN24 := (okB_elim ho).2.1
  have hN1 := (okB_elim ho).1
  clear H1 hn ho hE hEb hnext
  go_enter Try.func78, Try.ntmps78
  go_wp2_with fail
  refine (arcsFrom_any N v A n c L HN.out _ (by omega) hc (sorted_of_ok HO.out) (fun a ha => (arcsIn_of_ok HO.out a ha).2.2.1) (by omega) (by omega) (K1.out.bl (by repeat' (first | exact Bl.refl _ | with_reducible assumption | with_reducible refine Bl.drew_ ?_ | with_reducible refine Bl.drewN_ ?_ _ | with_reducible refine Bl.alloc_ ?_ _ | with_reducible refine Bl.trans_ ?_ (by assumption) | with_reducible refine Bl.trans_ ?_ (And.left (by assumption)))))).mono ?_
  rintro e w1 ⟨A', c1, rfl, hc1, hA1, hblk, hb1⟩
  have hR := NX.out
  unfold nextL at hR
  obtain ⟨k, hk, ha, hq, hno⟩ := first_at hR
  have hin : ∀ b ∈ fromL v L, 0 ≤ b.2.1 ∧ b.2.1 < N ∧ 1 ≤ b.2.2 ∧ b.2.2 ≤ 1000 := fun b hb => by
    have h := arcsIn_of_ok HO.out b (by unfold fromL at hb; exact (List.mem_filter.1 hb).1)
    exact ⟨h.2.2.1, h.2.2.2.1, h.2.2.2.2.1, h.2.2.2.2.2⟩
  have hnt : N.toNat ≤ E.length := by rw [EL.out]; omega
  have hsame : ∀ b ∈ fromL v L, nextB (E.take N.toNat) v b = nextB E v b := fun b hb => nextB_take hnt ⟨v0, by omega⟩ ⟨(hin b hb).1, by have := (hin b hb).2.1; omega⟩
  rw [hsame _ (List.getElem_mem hk)] at hq
  have hno' : ∀ j (hj : j < k), nextB E v ((fromL v L)[j]'(by omega)) = false := fun j hj => by rw [← hsame _ (List.getElem_mem (by omega))]; exact hno j hj
  haveI : Inhabited (ArcN N) := ⟨⟨(0, 0, 1), by show (0 : Int) ≤ 0; omega, by show (0 : Int) < N; omega, by show (1 : Int) ≤ 1; omega, by show (1 : Int) ≤ 1000; omega⟩⟩
  have hidx := idx_first hin (nextB E v) hk hq hno'
  obtain ⟨g, off, rfl, hg, hcell⟩ := hA1 (by omega)
  have hB := Lib.hid (show Bl w w1 from (((Bl.alloc_ (Bl.refl w) _).alloc_ _).alloc_ _).trans_ hb1)
  have hgl : g < w1.heap.size := Nat.lt_of_lt_of_le hg hb1.size
  have NA := Lib.hid (show ∀ W, Below w1.heap.size w1 W → NumsAt W (w.heap.size + 1) E ∧ W.cell? ⟨w.heap.size + 2, 0, none⟩ = some (.int .i64 v) from fun W hW => by
    have hbW : Bl w1 W := hW
    have h1 := box24 (w := w.alloc (.cells #[.int .i64 N, .slice A n c] 26)) (t := 83) EL.out ((Bl.alloc_ (Bl.refl _) (.cells #[.int .i64 v] 2)).trans_ (hb1.trans_ hbW))
    rw [World.size_alloc] at h1
    have h2 := box1 (w := (w.alloc (.cells #[.int .i64 N, .slice A n c] 26)).alloc (.cells (E.map (Value.int .i64)).toArray 83)) (hb1.trans_ hbW)
    rw [World.size_alloc, World.size_alloc] at h2
    exact ⟨h1, h2⟩)
  have hcon := AnyQ.slices_IndexFunc (P := Try.prog) (ρ := idxArcs_ren) { idxArcs with } 3 (fun w => by kernel_rfl) (fun w => by kernel_rfl) (encN (N := N)) (fun _ => rfl)
    (fun y => nextB E v y.a) 101 #[.pointer (some ⟨w.heap.size + 1, 0, none⟩), .pointer (some ⟨w.heap.size + 2, 0, none⟩)] (enters_of Try.func101 (by kernel_rfl) rfl) g off (fromL v L).length c1 (arcsN (fromL v L) hin) w1
    (fun W x hW => by
      obtain ⟨h1, h2⟩ := NA.out W hW
      obtain ⟨⟨x1, x2, x3⟩, hx1, hx2, hx3, hx4⟩ := x
      refine (next1_any (w.heap.size + 1) (w.heap.size + 2) E N v x1 x2 x3 W h1 h2 hN24 hx1 hx2 hx3 hx4 v0 v1 EB.out).mono ?_
      rintro e w' ⟨rfl, hb'⟩
      exact ⟨rfl, (show Bl w1 w' from (show Bl w1 W from hW).trans_ hb')⟩)
    (by rw [arcsN_len]; exact Nat.le_refl _) (by have := fromL_len' v L; have := HN.out; omega) hgl
    (fun j hj i u hu => by
      rw [arcsN_len] at hj
      obtain ⟨p1, p2, p3⟩ := hcell j hj
      have e := arcsN_at hin hj
      unfold encN at hu
      rw [e] at hu
      match i, hu with
      | 0, hu => simp at hu; rw [← hu]; exact p1
      | 1, hu => simp at hu; rw [← hu]; exact p2
      | 2, hu => simp at hu; rw [← hu]; exact p3
      | (i + 3), hu => simp at hu)
  change Calls Try.prog 100 _ _ _ at hcon
  rw [hidx] at hcon
  obtain ⟨p1, p2, p3⟩ := hcell k hk
  have HKL := Lib.hid hk
  obtain ⟨R, hRl⟩ : ∃ R, R = (fromL v L).length := ⟨_, rfl⟩
  rw [← hRl] at hcon hk ⊢
  rw [ha] at p2
  have HA := Lib.hid ha
  have hkc : (k : Int) < (R : Int) := by omega
  have hk0 : (0 : Int) ≤ (k : Int) := by omega
  have CON := Lib.hid hcon
  clear hcon hidx hcell hno hno' hsame hq hR hRl p1 p3 hin ha
  generalize a.2.1 = y at *
  go_wp2_with fail
  refine CON.out.mono ?_
  rintro e w2 ⟨rfl, hb2⟩
  have hb2 : Bl w1 w2 := hb2
  rw [← (bcell hb2).1 _ _ hgl] at p2
  go_wp2
  go_ret
  exact ⟨by first | rfl | kernel_rfl | simp [go_sem] | exact ret_val rfl, hB.out.trans_ hb2⟩

end Go.Proofs.Ytdbjcojlcddhdaa

namespace Go.Proofs.Ytdbjcojlcddhdaa
open Go.Shelf

def sortArcs_ren : Go.Shelf.Ren := ⟨fun | 6 => 69 | 15 => 97 | 14 => 96 | 28 => 119 | 29 => 120 | 20 => 111 | 21 => 112 | 22 => 113 | 23 => 114 | 24 => 115 | 25 => 116 | 26 => 117 | 27 => 118 | 46 => 124 | 47 => 125 | 48 => 126 | 49 => 127 | 50 => 128 | 57 => 130 | n => n, fun | 22 => 24 | 24 => 51 | 25 => 79 | 3 => 3 | 39 => 107 | 0 => 0 | 53 => 132 | 55 => 120 | 4 => 4 | 46 => 126 | 45 => 125 | 50 => 68 | 5 => 5 | 9 => 9 | 66 => 138 | 70 => 141 | 76 => 145 | 77 => 146 | n => n, fun | n => n⟩
theorem sortArcs : Go.Proofs.SlLaysF0.n6 Try.prog sortArcs_ren := {
  mixed := by kernel_rfl
  f6 := ⟨Try.f69.name, by decide, Try.func69.trans (congrArg some (by kernel_rfl))⟩
  f14 := ⟨Try.f96.name, by decide, Try.func96.trans (congrArg some (by kernel_rfl))⟩
  f15 := Try.func97.trans (congrArg some (by kernel_rfl))
  f20 := ⟨Try.f111.name, by decide, Try.func111.trans (congrArg some (by kernel_rfl))⟩
  f21 := ⟨Try.f112.name, by decide, Try.func112.trans (congrArg some (by kernel_rfl))⟩
  f22 := ⟨Try.f113.name, by decide, Try.func113.trans (congrArg some (by kernel_rfl))⟩
  f23 := ⟨Try.f114.name, by decide, Try.func114.trans (congrArg some (by kernel_rfl))⟩
  f24 := ⟨Try.f115.name, by decide, Try.func115.trans (congrArg some (by kernel_rfl))⟩
  f25 := ⟨Try.f116.name, by decide, Try.func116.trans (congrArg some (by kernel_rfl))⟩
  f26 := ⟨Try.f117.name, by decide, Try.func117.trans (congrArg some (by kernel_rfl))⟩
  f27 := ⟨Try.f118.name, by decide, Try.func118.trans (congrArg some (by kernel_rfl))⟩
  f28 := Try.func119.trans (congrArg some (by kernel_rfl))
  f29 := Try.func120.trans (congrArg some (by kernel_rfl))
  f46 := ⟨Try.f124.name, by decide, Try.func124.trans (congrArg some (by kernel_rfl))⟩
  f47 := Try.func125.trans (congrArg some (by kernel_rfl))
  f48 := Try.func126.trans (congrArg some (by kernel_rfl))
  f49 := ⟨Try.f127.name, by decide, Try.func127.trans (congrArg some (by kernel_rfl))⟩
  f50 := ⟨Try.f128.name, by decide, Try.func128.trans (congrArg some (by kernel_rfl))⟩
  f57 := ⟨Try.f130.name, by decide, Try.func130.trans (congrArg some (by kernel_rfl))⟩
  t0 := Try.underlying0
  a0 := Try.isAgg0
  z0 := Try.sizeOf0
  v0 := Try.zeroValue0
  t3 := Try.underlying3
  a3 := Try.isAgg3
  z3 := Try.sizeOf3
  v3 := Try.zeroValue3
  t4 := Try.underlying4
  a4 := Try.isAgg4
  z4 := Try.sizeOf4
  v4 := Try.zeroValue4
  t5 := Try.underlying5
  a5 := Try.isAgg5
  z5 := Try.sizeOf5
  v5 := Try.zeroValue5
  t9 := Try.underlying9
  a9 := Try.isAgg9
  z9 := Try.sizeOf9
  v9 := Try.zeroValue9
  t22 := Try.underlying24
  a22 := Try.isAgg24
  z22 := Try.sizeOf24
  v22 := Try.zeroValue24
  t25 := Try.underlying79
  a25 := Try.isAgg79
  z25 := Try.sizeOf79
  v25 := Try.zeroValue79
  t39 := Try.underlying107
  a39 := Try.isAgg107
  z39 := Try.sizeOf107
  v39 := Try.zeroValue107
  t45 := Try.underlying125
  a45 := Try.isAgg125
  z45 := Try.sizeOf125
  v45 := Try.zeroValue125
  t46 := Try.underlying126
  a46 := Try.isAgg126
  z46 := Try.sizeOf126
  v46 := Try.zeroValue126
  t50 := Try.underlying68
  a50 := Try.isAgg68
  z50 := Try.sizeOf68
  v50 := Try.zeroValue68
  t53 := Try.underlying132
  a53 := Try.isAgg132
  z53 := Try.sizeOf132
  v53 := Try.zeroValue132
  t55 := Try.underlying120
  a55 := Try.isAgg120
  z55 := Try.sizeOf120
  v55 := Try.zeroValue120
  t66 := Try.underlying138
  a66 := Try.isAgg138
  z66 := Try.sizeOf138
  v66 := Try.zeroValue138
  t70 := Try.underlying141
  a70 := Try.isAgg141
  z70 := Try.sizeOf141
  v70 := Try.zeroValue141
  t76 := Try.underlying145
  a76 := Try.isAgg145
  z76 := Try.sizeOf145
  v76 := Try.zeroValue145
  t77 := Try.underlying146
  a77 := Try.isAgg146
  z77 := Try.sizeOf146
  v77 := Try.zeroValue146 }

end Go.Proofs.Ytdbjcojlcddhdaa

set_option linter.unusedSimpArgs false
set_option linter.unusedVariables false
namespace Go.Proofs.Ytdbjcojlcddhdaa
open Go.RowKit Go.Sort

/-- Draws and new blocks alone. -/
def Gr (w w' : World) : Prop := ∃ q os, w' = Sort.grow (w.drewN q) os
theorem Gr.refl (w : World) : Gr w w := ⟨0, #[], (grow_empty w).symm⟩
theorem Gr.alloc_ {w w' : World} (h : Gr w w') (o : Obj) : Gr w (w'.alloc o) := by
  obtain ⟨q, os, rfl⟩ := h
  exact ⟨q, os ++ #[o], by rw [alloc_eq_grow, grow_grow]⟩
theorem Gr.drew_ {w w' : World} (h : Gr w w') : Gr w w'.drew := by
  obtain ⟨q, os, rfl⟩ := h
  exact ⟨q + 1, os, rfl⟩
theorem Gr.drewN_ {w w' : World} (h : Gr w w') (n : Nat) : Gr w (w'.drewN n) := by
  obtain ⟨q, os, rfl⟩ := h
  exact ⟨q + n, os, by simp [Sort.grow, World.drewN, Nat.add_assoc]⟩
theorem Gr.trans_ {a b c : World} (h : Gr a b) (k : Gr b c) : Gr a c := by
  obtain ⟨q', os', rfl⟩ := k
  obtain ⟨q, os, h⟩ := h.drewN_ q'
  exact ⟨q, os ++ os', by rw [h, grow_grow]⟩
theorem Gr.bl {w w' : World} (h : Gr w w') : Bl w w' := by
  obtain ⟨q, os, rfl⟩ := h
  exact ⟨rfl, rfl, rfl, by rw [size_grow]; exact Nat.le_add_right _ _, fun i hi => heap_grow_old _ os hi⟩

theorem two_boxes_g {w wx : World} {a b x c d y : Int} (h : Gr ((w.alloc (.cells #[.int .i64 a, .int .i64 b, .int .i64 x] 51)).alloc (.cells #[.int .i64 c, .int .i64 d, .int .i64 y] 51)) wx) :
    Gr ((w.alloc (.cells #[.int .i64 a, .int .i64 b, .int .i64 x] 51)).alloc (.cells #[.int .i64 c, .int .i64 d, .int .i64 y] 51)) wx ∧ wx.cell? ⟨w.heap.size, 0, none⟩ = some (.int .i64 a) ∧ wx.cell? ⟨w.heap.size, 1, none⟩ = some (.int .i64 b) ∧ wx.cell? ⟨w.heap.size + 1, 0, none⟩ = some (.int .i64 c) ∧ wx.cell? ⟨w.heap.size + 1, 1, none⟩ = some (.int .i64 d) :=
  ⟨h, (two_boxes h.bl).2⟩

set_option maxHeartbeats 1000000 in
theorem ends_gr (a b x c d y : Int) (w : World) :
    Calls Try.prog 67 #[.agg #[.int .i64 a, .int .i64 b, .int .i64 x], .agg #[.int .i64 c, .int .i64 d, .int .i64 y]] w fun e w' => e = .returned (.int .i64 (endsI a b c d)) ∧ Gr w w' := by
  go_enter Try.func67, Try.ntmps67
  go_wp2
  go_region_held3 (fun wx => Gr ((w.alloc (.cells #[.int .i64 a, .int .i64 b, .int .i64 x] 51)).alloc (.cells #[.int .i64 c, .int .i64 d, .int .i64 y] 51)) wx ∧ wx.cell? ⟨w.heap.size, 0, none⟩ = some (.int .i64 a) ∧ wx.cell? ⟨w.heap.size, 1, none⟩ = some (.int .i64 b) ∧ wx.cell? ⟨w.heap.size + 1, 0, none⟩ = some (.int .i64 c) ∧ wx.cell? ⟨w.heap.size + 1, 1, none⟩ = some (.int .i64 d)) (exact two_boxes_g (by repeat' (first | exact Gr.refl _ | with_reducible assumption | with_reducible refine Gr.drew_ ?_ | with_reducible refine Gr.drewN_ ?_ _ | with_reducible refine Gr.alloc_ ?_ _ | with_reducible refine Gr.trans_ ?_ (by assumption) | with_reducible refine Gr.trans_ ?_ (And.left (by assumption))))) (first | (go_at_call 95; refine (cmp_any _ _ _).mono ?_; rintro e w' ⟨rfl, rfl⟩) | (go_at_call 94; refine (or_any (cmpI a c) (cmpI b d) _ _ _ ?_ ?_).mono ?_; (· go_simp); (· go_simp); rintro e w' ⟨rfl, rfl⟩))
  go_wp2
  go_ret
  exact ⟨ret_int rfl, (by repeat' (first | exact Gr.refl _ | with_reducible assumption | with_reducible refine Gr.drew_ ?_ | with_reducible refine Gr.drewN_ ?_ _ | with_reducible refine Gr.alloc_ ?_ _ | with_reducible refine Gr.trans_ ?_ (by assumption) | with_reducible refine Gr.trans_ ?_ (And.left (by assumption))))⟩

/-- An arc's cells. -/
def enc3 (a : Arc3) : List Value := [.int .i64 a.1, .int .i64 a.2.1, .int .i64 a.2.2]
/-- The order of two arcs by their ends, as a number. -/
def endsC (x y : Arc3) : Int := endsI x.1 x.2.1 y.1 y.2.1
theorem ltOf_ends (x y : Arc3) : ltOf endsC x y = aheadB x.1 x.2.1 y.1 y.2.1 := ends_neg _ _ _ _
theorem swo_ends : SWO (ltOf endsC) where
  irrefl x := by rw [ltOf_ends]; exact ahead_irrefl _ _
  trans x y z h1 h2 := by rw [ltOf_ends] at *; exact ahead_trans h1 h2
  ntrans x y z h1 h2 := by
    rw [ltOf_ends] at *
    simp only [aheadB, decide_eq_false_iff_not] at *
    omega
theorem cmp_lays (blk off size : Nat) (w : World) : CmpLays Try.prog 67 #[] enc3 3 endsC blk off size w := fun _ _ _ _ x y => ends_gr _ _ _ _ _ _ _

theorem sorted_turned {L : List Arc3} {d d' : Array Arc3} (hs : L.Pairwise AheadP) (hd : d.toList = L.map turnA) (hp : PermIn 0 d.size d d') (hso : SortedIn (ltOf endsC) 0 d.size d') : d'.toList = revL L := by
  obtain ⟨hsz, -, hperm⟩ := hp
  have e1 : d'.extract 0 d.size = d' := by rw [← hsz]; exact Array.extract_size
  rw [e1, Array.extract_size, hd] at hperm
  obtain ⟨r1, r2⟩ := revL_sorted hs
  have hne : (L.map turnA).Pairwise (fun a b => ¬ (a.1 = b.1 ∧ a.2.1 = b.2.1)) := by
    rw [List.pairwise_map]
    exact hs.imp fun {a b} h => fun hc => ahead_ne h ⟨hc.2, hc.1⟩
  have hne' := hperm.symm.pairwise hne (fun {x y} h => fun hc => h ⟨hc.1.symm, hc.2.symm⟩)
  refine sorted_uniq ?_ r1 (hperm.trans r2.symm)
  rw [List.pairwise_iff_getElem] at hne' ⊢
  intro i j hi hj hij
  have hi' : i < d'.size := by simpa using hi
  have hj' : j < d'.size := by simpa using hj
  have h1 := hso i j (Nat.zero_le _) hij (by omega)
  rw [getElem!_pos d' j hj', getElem!_pos d' i hi', ltOf_ends] at h1
  have h2 := hne' i j hi hj hij
  exact ahead_total (by simpa using h1) (fun hc => h2 ⟨hc.1.symm, hc.2.symm⟩)

theorem flat_arcs (T : List Arc3) : flatK enc3 3 T.toArray = (cs3 T).toArray := by
  refine ext_get! (by simp [cs3_length]) fun t ht => ?_
  have ht' : t < T.toArray.size * 3 := by simpa using ht
  have htl : t < T.length * 3 := by simpa using ht'
  rw [get_flatK _ _ _ _ ht']
  have hk : t / 3 < T.length := by omega
  obtain ⟨a, b, c⟩ := cs3_at T (t / 3) hk
  have e : t = t / 3 * 3 + t % 3 := by omega
  have h3 : t % 3 = 0 ∨ t % 3 = 1 ∨ t % 3 = 2 := by omega
  have hg : T.toArray[t / 3]! = T[t / 3] := by rw [getElem!_pos T.toArray (t / 3) (by simpa using hk)]; simp
  have key : ∀ r, t % 3 = r → (cs3 T).toArray[t]! = ((cs3 T)[t / 3 * 3 + r]?).getD default := fun r hr => by
    rw [← hr, ← e]
    simp
  rw [hg]
  rcases h3 with h3 | h3 | h3
  · rw [key 0 h3, Nat.add_zero, a, h3]; rfl
  · rw [key 1 h3, b, h3]; rfl
  · rw [key 2 h3, c, h3]; rfl

theorem holds_arcs {w : World} {B g c : Nat} {T : List Arc3} (h : OwnA w B (.slice (some ⟨g, 0, none⟩) T.length c) T) : HoldsK enc3 3 w g 0 T.toArray := by
  unfold HoldsK
  rw [flat_arcs]
  intro j hj
  have hj' : j < (cs3 T).length := by simpa using hj
  have h' : w.ownsRow B 51 3 (.slice (some ⟨g, 0, none⟩) T.length c) T.length (cs3 T) := h
  refine ⟨?_, by rw [Nat.zero_add]; exact World.ownsRow.frozenAt h' j⟩
  rw [Nat.zero_add, World.ownsRow.cellAt h' j (by rw [cs3_length] at hj'; exact hj'), getElem!_pos _ j hj]
  simp [hj']

theorem sorted_own {w : World} {B g c : Nat} {T T' : List Arc3} (h : OwnA w B (.slice (some ⟨g, 0, none⟩) T.length c) T) (hl : T'.length = T.length) (m : Nat) (os : Array Obj) :
    OwnA (sortWorldK enc3 3 w g 0 m T'.toArray os) B (.slice (some ⟨g, 0, none⟩) T.length c) T' ∧ w.grownBy (sortWorldK enc3 3 w g 0 m T'.toArray os) (some g) := by
  have h' : w.ownsRow B 51 3 (.slice (some ⟨g, 0, none⟩) T.length c) T.length (cs3 T) := h
  have hother : w.grownBy (sortWorldK enc3 3 w g 0 m T'.toArray os) (some g) := by
    refine ⟨rfl, rfl, rfl, ?_, fun i hi hne => ?_⟩
    · unfold sortWorldK
      rw [size_grow, size_putRowK]
      exact Nat.le_add_right _ _
    · have hne' : g ≠ i := fun e => hne (by rw [e])
      have hsz : i < (putRowK enc3 3 (Sort.ahead w m) g 0 T'.toArray).heap.size := by rw [size_putRowK]; exact hi
      unfold sortWorldK
      rw [heap_grow_old _ _ hsz]
      simp [putRowK, putRow, mapBlock, Sort.ahead, Array.getElem?_modify, hne']
  refine ⟨⟨by rw [cs3_length], ?_⟩, hother⟩
  rcases h'.2 with ⟨e, h0⟩ | ⟨g', cap, cur, e, hB, hg, hnc, hcm, hcs, htake⟩
  · injection e with e1 e2 e3
    cases e1
  · injection e with e1 e2 e3
    injection e1 with e1
    injection e1 with e1
    subst e1
    have hlt : g < w.heap.size := (Array.getElem?_eq_some_iff.1 hg).1
    have hsz : g < (putRowK enc3 3 (Sort.ahead w m) g 0 T'.toArray).heap.size := by rw [size_putRowK]; exact hlt
    refine .inr ⟨g, cap, putCells id 0 (flatK enc3 3 T'.toArray) cur, by rw [hl, e3], hB, ?_, by rw [hl]; exact hnc, hcm, by simp [putCells, hcs], ?_⟩
    · unfold sortWorldK
      rw [heap_grow_old _ _ hsz]
      simp [putRowK, putRow, mapBlock, Sort.ahead, Array.getElem?_modify, hg, onCells]
    · rw [flat_arcs]
      refine List.ext_getElem (by simp [putCells, hcs, cs3_length]; omega) fun i h1 h2 => ?_
      have hi : i < (cs3 T').length := h2
      simp [putCells, hi]

set_option maxHeartbeats 1000000 in
/-- The sort of arcs that are turned. -/
theorem sort_arcs (L T : List Arc3) (hs : L.Pairwise AheadP) (hT : T = L.map turnA) (B : Nat) (v : Value) (w : World) (hm : T.length ≤ 1048576) (h : OwnA w B v T) :
    Calls Try.prog 69 #[v, .func (.func 67) #[] #[]] w fun e w' => e = .returned (.tuple #[]) ∧ OwnA w' B v (revL L) ∧ w.grownBy w' v.ownBlock := by
  have h' : w.ownsRow B 51 3 v T.length (cs3 T) := h
  have hrl : (revL L).length = T.length := by rw [revL_len hs, hT, List.length_map]
  rcases h'.2 with ⟨rfl, h0⟩ | ⟨g, cap, cur, rfl, hB, hg, hnc, hcm, hcs, htake⟩
  · have hcon := AnyF.slices_SortFunc_none { sortArcs with } none 0 (.func (.func 67) #[] #[]) w
    change Calls Try.prog 69 _ _ _ at hcon
    refine hcon.mono ?_
    rintro e w' ⟨rfl, rfl⟩
    have e0 : revL L = [] := List.eq_nil_of_length_eq_zero (by omega)
    exact ⟨rfl, by rw [e0]; exact OwnA.nil_ _ _, World.grownBy.refl _ _⟩
  · have eg : ∀ args w, (callFunc 67 args).run Try.prog w = .ok (.enter 67 args) w := enters_of Try.func67 (by kernel_rfl) rfl
    have hcon := AnyQ.slices_SortFunc sortArcs 3 Try.isAgg51 Try.sizeOf51 enc3 (fun _ => rfl) (fun x v hv => by simp [enc3] at hv; rcases hv with rfl | rfl | rfl <;> rfl) endsC swo_ends 67 #[] g 0 cap T.toArray w eg (cmp_lays g 0 _ w) (holds_arcs h) (Array.getElem?_eq_some_iff.1 hg).1 (by simp; omega)
    change Calls Try.prog 69 _ _ _ at hcon
    refine hcon.mono ?_
    rintro e w' ⟨rfl, d', n, os, hp, hso, rfl⟩
    have e' : d' = (revL L).toArray := by
      have := sorted_turned hs (d := T.toArray) (by simpa using hT) hp hso
      rw [← this]
    rw [e']
    obtain ⟨o1, o2⟩ := sorted_own h hrl n os
    exact ⟨rfl, o1, o2⟩

end Go.Proofs.Ytdbjcojlcddhdaa

set_option linter.unusedSimpArgs false
set_option linter.unusedVariables false
namespace Go.Proofs.Ytdbjcojlcddhdaa
open Go.RowKit

set_option maxRecDepth 100000 in
set_option maxHeartbeats 4000000 in
theorem implReversed_any (N : Int) (A : Option Addr) (n c : Nat) (L : List Arc3) (hn : n = L.length) (w : World) (hm : n ≤ 1048576) (H1 : ArcsAt w w.heap.size A L) :
    Calls Try.prog 25 #[.agg #[.int .i64 N, .slice A n c]] w (GraphMade1 (revN N L) (revG N L) w) := by
  obtain ⟨i0, hi, hz0, hz1, hz2⟩ := info_parts infoArc
  have I0 := Lib.hid hi
  have I1 := Lib.hid hz0
  have I2 := Lib.hid hz1
  have I3 := Lib.hid hz2
  have K1 := Lib.hid H1
  have HN := Lib.hid hn
  clear H1 hn hi hz0 hz1 hz2
  cases ho : okB N L with
  | false =>
    have HO := Lib.hid ho
    clear ho
    go_enter Try.func25, Try.ntmps25
    go_wp2_with fail
    refine (implOk_any N A n c L HN.out _ (by omega) (K1.out.bl (by repeat' (first | exact Bl.refl _ | with_reducible assumption | with_reducible refine Bl.drew_ ?_ | with_reducible refine Bl.drewN_ ?_ _ | with_reducible refine Bl.alloc_ ?_ _ | with_reducible refine Bl.trans_ ?_ (by assumption) | with_reducible refine Bl.trans_ ?_ (And.left (by assumption)))))).mono ?_
    rintro e w1 ⟨rfl, hb1⟩
    rw [HO.out]
    obtain ⟨h00, h01, h10, h11, f10, f11, hsz⟩ := box22 hb1
    go_wp2
    refine bodyPost_ret (v := .agg #[.int .i64 0, .slice none 0 0]) (by simp [results, Try.results25, go_sem, h10, h11, f10, f11]) rfl ?_
    refine ⟨.slice none 0 0, by unfold revN; rw [HO.out]; rfl, by unfold revG; rw [HO.out, if_neg (by simp)]; exact OwnA.nil_ _ _, ?_⟩
    exact Bl.set_ (Bl.set_ ((Bl.alloc_ (Bl.alloc_ (Bl.refl w) _) _).trans_ hb1) (Nat.le_succ _) _) (Nat.le_succ _) _
  | true =>
    have HO := Lib.hid ho
    have HP := Lib.hid (okB_elim ho).2.2.2.2
    clear ho
    go_enter Try.func25, Try.ntmps25
    go_wp2_with fail
    refine (implOk_any N A n c L HN.out _ (by omega) (K1.out.bl (by repeat' (first | exact Bl.refl _ | with_reducible assumption | with_reducible refine Bl.drew_ ?_ | with_reducible refine Bl.drewN_ ?_ _ | with_reducible refine Bl.alloc_ ?_ _ | with_reducible refine Bl.trans_ ?_ (by assumption) | with_reducible refine Bl.trans_ ?_ (And.left (by assumption)))))).mono ?_
    rintro e w1 ⟨rfl, hb1⟩
    rw [HO.out]
    obtain ⟨h00, h01, h10, h11, f10, f11, hsz⟩ := box22 hb1
    have T0 := Lib.hid (show TS w (.cells #[.int .i64 N, .slice A n c] 26) (w.heap.size + 1) w1.heap.size N (.slice none 0 0) [] (w1.alloc (.cells #[.int .i64 N, .slice none 0 0] 26)) from by
      refine ⟨Two.new _ _ _, ?_, OwnA.nil_ _ _, ?_, by omega, hsz⟩
      · have := Two.new (w.alloc (.cells #[.int .i64 N, .slice A n c] 26)) (.int .i64 0) (.slice none 0 0)
        have := (this.bl hb1).bl (Bl.alloc_ (Bl.refl _) (.cells #[.int .i64 N, .slice none 0 0] 26))
        simpa using this
      · exact ((Bl.alloc_ (Bl.refl _) _).trans_ hb1).alloc_ _)
    clear h10 h11 f10 f11
    have hs1 : w.heap.size + 1 < w1.heap.size := hsz
    clear hsz
    obtain ⟨y0, y1⟩ := box2 T0.out.bl
    go_wp2_with fail
    clear y0 y1
    go_loopw [16] (fun i wr => ∃ (k : Nat) (q : Value), k ≤ n ∧ i = .int .i64 k ∧ TS w (.cells #[.int .i64 N, .slice A n c] 26) (w.heap.size + 1) w1.heap.size N q (turnK L k) wr) (fun i _ => n - (intOf i).toNat)
    case atStart => exact ⟨0, _, by omega, rfl, T0.out⟩
    case round =>
      obtain ⟨k, q, hk, rfl, hT⟩ := hrel
      obtain ⟨c0, c1, f0, f1⟩ := hT.box.facts
      obtain ⟨AQ, cq, rfl, hAQ, -⟩ := hT.own.shape
      have T := Lib.hid hT
      have hbw : Bl w wr := (Bl.alloc_ (Bl.refl w) _).trans_ hT.bl
      have hlt' := World.rowIs.lt hT.box
      clear hT hAQ T0
      by_cases hlt : k < n
      · have hkl : k < L.length := by have := HN.out; omega
        obtain ⟨g1, o1, rfl, hg1, hc1⟩ := K1.out (by omega)
        obtain ⟨p1, p2, p3⟩ := hc1 k hkl
        clear hc1
        rw [← (bcell hbw).1 _ _ hg1] at p1 p2 p3
        have TK := Lib.hid (turnK_succ hkl)
        have hlen := turnK_len L k
        generalize hx : L[k].1 = x at p1
        generalize hy : L[k].2.1 = y at p2
        generalize hz : L[k].2.2 = z at p3
        have HE := Lib.hid (show turnA L[k] = (y, x, z) from by unfold turnA; rw [hx, hy, hz])
        clear hx hy hz hbw
        obtain ⟨l, hl⟩ : ∃ l, l = (turnK L k).length := ⟨_, rfl⟩
        rw [← hl] at hlen c1 T
        have HL := Lib.hid hl
        clear hl
        have u1 : (0 : Int) ≤ (k : Int) := by omega
        have u2 : (k : Int) < (n : Int) := by omega
        have T2 := Lib.hid (T.out.bl_ (show Bl wr ((wr.alloc (.cells #[.int .i64 x, .int .i64 y, .int .i64 z] 51)).alloc (.cells #[.int .i64 y, .int .i64 x, .int .i64 z] 51)) from (by repeat' (first | exact Bl.refl _ | with_reducible assumption | with_reducible refine Bl.drew_ ?_ | with_reducible refine Bl.drewN_ ?_ _ | with_reducible refine Bl.alloc_ ?_ _ | with_reducible refine Bl.trans_ ?_ (by assumption) | with_reducible refine Bl.trans_ ?_ (And.left (by assumption))))))
        go_wp2_with (at_builtin; refine wpList_append_own _ rfl (.tmp 21) (.tmp 29) _ rfl (w1.heap.size + 1) 51 i0 _ 3 24 Try.underlying24 I0.out I1.out I2.out I3.out rfl (by decide) _ l (cs3 (turnK L k)) rfl ?c0 ⟨wr.heap.size + 1, 0, none⟩ 1 1 [.int .i64 y, .int .i64 x, .int .i64 z] rfl rfl ?c1 (one3 _ _ _) ?c3 ?c4 ?c5 ?_)
        case c0 => have := T2.out.own; rw [HL.out] at this ⊢; exact this
        case c1 => have := new3 (wr.alloc (.cells #[.int .i64 x, .int .i64 y, .int .i64 z] 51)) (.int .i64 y) (.int .i64 x) (.int .i64 z) 51; simpa using this
        case c3 => unfold maxLen; omega
        case c4 => omega
        case c5 => simp; omega
        intro v2 w2 hown2 hg2 _
        have O2 := Lib.hid (show OwnA w2 (w1.heap.size + 1) v2 (turnK L (k + 1)) from by
          rw [TK.out, HE.out]
          exact own_snoc (a := (y, x, z)) (by rw [← HL.out]; exact hown2))
        have G2 := Lib.hid hg2
        clear hown2 hg2
        have U := Lib.hid (T2.out.app G2.out O2.out)
        obtain ⟨b0, -, -⟩ := T2.out.grown_ G2.out O2.out
        obtain ⟨A2, c2, rfl, -, -⟩ := O2.out.shape
        obtain ⟨d0, d1, k0, k1⟩ := b0.facts
        clear b0 c0 c1 f0 f1
        go_wp2
        go_roundw
        case rel => exact ⟨k + 1, _, by omega, by go_num, U.out⟩
        case measure => simp [intOf]; omega
      · obtain rfl : k = n := by omega
        have TA := Lib.hid (show turnK L k = L.map turnA from by rw [HN.out]; exact turnK_all L)
        have hlen := turnK_len L k
        go_wp2_with fail
        refine (sort_arcs L (turnK L k) HP.out TA.out (w1.heap.size + 1) _ _ (by omega) T.out.own).mono ?_
        rintro e w2 ⟨rfl, ho, hg⟩
        have U := Lib.hid (T.out.same hg ho)
        clear ho hg c0 c1 f0 f1
        obtain ⟨c0, c1, f0, f1⟩ := U.out.box.facts
        obtain ⟨r0, r1, fr0, fr1⟩ := U.out.res.facts
        go_wp2
        refine bodyPost_ret (v := .agg #[.int .i64 N, .slice AQ (turnK L k).length cq]) (by simp [results, Try.results25, go_sem, r0, r1, fr0, fr1]) rfl ?_
        have := U.out.fin (.int .i64 N) (.slice AQ (turnK L k).length cq)
        exact ⟨_, by unfold revN; rw [HO.out]; rfl, by unfold revG; rw [HO.out, if_pos rfl]; exact this.1, this.2⟩

end Go.Proofs.Ytdbjcojlcddhdaa

set_option linter.unusedSimpArgs false
set_option linter.unusedVariables false
namespace Go.Proofs.Ytdbjcojlcddhdaa
open Go.RowKit

/-- A path and a flag are left. -/
def PathMade (P : List Int) (w : World) (e : Ending) (w' : World) : Prop := ∃ v, e = .returned (.tuple #[v, .bool (decide (0 < P.length))]) ∧ OwnN w' w.heap.size v P ∧ Bl w w'
theorem pathL_none {N s t : Int} {L : List Arc3} (h : has2 N L s t = false) : pathL N L s t = [] := by
  unfold pathL
  rw [if_neg (by rw [h]; simp)]
theorem OwnA.capp {w : World} {B : Nat} {v : Value} {L : List Arc3} (h : OwnA w B v L) : ∀ A l c, v = .slice A l c → L.length ≤ c := fun A l c ev => by
  subst ev
  have h' : w.ownsRow B 51 3 (.slice A l c) L.length (cs3 L) := h
  rcases h'.2 with ⟨e, h0⟩ | ⟨g, cap, cur, e, hB, hg, hnc, -⟩
  · injection e with e1 e2 e3
    omega
  · injection e with e1 e2 e3
    omega

set_option maxRecDepth 100000 in
set_option maxHeartbeats 4000000 in
theorem implPathOf_any (N s t : Int) (A : Option Addr) (n c : Nat) (L : List Arc3) (hn : n = L.length) (hc : n ≤ c) (w : World) (hm : n ≤ 1048576) (H1 : ArcsAt w w.heap.size A L) :
    Calls Try.prog 39 #[.agg #[.int .i64 N, .slice A n c], .int .i64 s, .int .i64 t] w (PathMade (pathL N L s t) w) := by
  obtain ⟨i0, hi, hz0, hz1, hz2⟩ := info_parts infoInt
  have I0 := Lib.hid hi
  have I1 := Lib.hid hz0
  have I2 := Lib.hid hz1
  have I3 := Lib.hid hz2
  have K1 := Lib.hid H1
  have HN := Lib.hid hn
  clear H1 hn hi hz0 hz1 hz2
  cases hh : has2 N L s t with
  | false =>
    have HH := Lib.hid hh
    clear hh
    go_enter Try.func39, Try.ntmps39
    go_wp2_with fail
    refine (hasNodes_2 N s t A n c L HN.out (w.heap.size + 1) 2 _ (by omega) (K1.out.bl (by repeat' (first | exact Bl.refl _ | with_reducible assumption | with_reducible refine Bl.drew_ ?_ | with_reducible refine Bl.drewN_ ?_ _ | with_reducible refine Bl.alloc_ ?_ _ | with_reducible refine Bl.trans_ ?_ (by assumption) | with_reducible refine Bl.trans_ ?_ (And.left (by assumption))))) (by simp) (by simp [go_sem]) (by simp [go_sem])).mono ?_
    rintro e w1 ⟨rfl, hb1⟩
    rw [HH.out]
    go_wp2
    go_ret2
    exact ⟨_, by rw [pathL_none HH.out]; rfl, by rw [pathL_none HH.out]; exact OwnN.nil_ _ _, (by repeat' (first | exact Bl.refl _ | with_reducible assumption | with_reducible refine Bl.drew_ ?_ | with_reducible refine Bl.drewN_ ?_ _ | with_reducible refine Bl.alloc_ ?_ _ | with_reducible refine Bl.trans_ ?_ (by assumption) | with_reducible refine Bl.trans_ ?_ (And.left (by assumption))))⟩
  | true =>
    have HH := Lib.hid hh
    obtain ⟨ho, ⟨hs0, hs1⟩, ht0, ht1⟩ := has2_of hh
    have hN24 := (okB_elim ho).2.1
    have HO := Lib.hid ho
    have HRO := Lib.hid (revL_ok ho)
    have HRL := Lib.hid (revL_len (okB_elim ho).2.2.2.2)
    have HE := Lib.hid (distL_is (s := t) (arcsIn_of_ok (revL_ok ho)) hN24 ht0 ht1)
    have HET := Lib.hid (fun v => distL_top (s := t) (revL_ok ho) ht0 ht1 v)
    obtain ⟨u, rfl⟩ : ∃ u : Nat, s = u := ⟨s.toNat, by omega⟩
    clear hh ho
    go_enter Try.func39, Try.ntmps39
    go_wp2_with fail
    refine (hasNodes_2 N u t A n c L HN.out (w.heap.size + 1) 2 _ (by omega) (K1.out.bl (by repeat' (first | exact Bl.refl _ | with_reducible assumption | with_reducible refine Bl.drew_ ?_ | with_reducible refine Bl.drewN_ ?_ _ | with_reducible refine Bl.alloc_ ?_ _ | with_reducible refine Bl.trans_ ?_ (by assumption) | with_reducible refine Bl.trans_ ?_ (And.left (by assumption))))) (by simp) (by simp [go_sem]) (by simp [go_sem])).mono ?_
    rintro e w1 ⟨rfl, hb1⟩
    rw [HH.out]
    have hx := (bcell hb1).1
    have q0 : w1.cell? ⟨w.heap.size, 0, none⟩ = some (.int .i64 N) := (hx _ _ (by simp; omega)).trans (by simp [go_sem])
    have q1 : w1.cell? ⟨w.heap.size, 1, none⟩ = some (.slice A n c) := (hx _ _ (by simp; omega)).trans (by simp [go_sem])
    have hbw : Bl w w1 := (((Bl.refl w).alloc_ _).alloc_ _).trans_ hb1
    have hsw : w.heap.size < w1.heap.size := by have := hb1.size; simp at this; omega
    clear hx hb1
    go_wp2_with fail
    refine (implReversed_any N A n c L HN.out _ hm (K1.out.bl hbw)).mono ?_
    rintro e w2 ⟨v6, rfl, hv6, hb2⟩
    rw [show revN N L = N from if_pos HO.out]
    rw [show revG N L = revL L from if_pos HO.out] at hv6
    have hcap := OwnA.capp hv6
    obtain ⟨A6, c6, rfl, ha6, -⟩ := hv6.shape
    have V6 := Lib.hid ha6
    have HC6 := Lib.hid (hcap _ _ _ rfl)
    clear hv6 hcap ha6
    go_wp2_with fail
    refine (distances_any N t A6 (revL L).length c6 (revL L) rfl HC6.out HRO.out ht0 ht1 _ V6.out).mono ?_
    rintro e w3 ⟨E, rfl, hE, hEd, hb3⟩
    have EL := Lib.hid hE
    have ED := Lib.hid hEd
    have HB3 := Lib.hid (hbw.trans_ (hb2.trans_ hb3))
    have hb13 := hb2.trans_ hb3
    have r0 := ((bcell hb13).1 _ _ hsw).trans q0
    have r1 := ((bcell hb13).1 _ _ hsw).trans q1
    have hs3 := hb13.size
    have hsw3 : w.heap.size < w3.heap.size := by omega
    clear hE hEd q0 q1 hb2 hb3 hb13 hbw
    have NS := Lib.hid (NumsAt.stored EL.out (by simp) (there_new w3 83))
    have hbS := Bl.setCells_ w3.heap.size (Nat.le_refl _) (csI E) 0 _ ((Bl.refl w3).alloc_ (.cells #[.int .i64 0, .int .i64 0, .int .i64 0, .int .i64 0, .int .i64 0, .int .i64 0, .int .i64 0, .int .i64 0, .int .i64 0, .int .i64 0, .int .i64 0, .int .i64 0, .int .i64 0, .int .i64 0, .int .i64 0, .int .i64 0, .int .i64 0, .int .i64 0, .int .i64 0, .int .i64 0, .int .i64 0, .int .i64 0, .int .i64 0, .int .i64 0] 83))
    have HBS := Lib.hid hbS
    have hz := setCells_size w3.heap.size (csI E) 0 (w3.alloc (.cells #[.int .i64 0, .int .i64 0, .int .i64 0, .int .i64 0, .int .i64 0, .int .i64 0, .int .i64 0, .int .i64 0, .int .i64 0, .int .i64 0, .int .i64 0, .int .i64 0, .int .i64 0, .int .i64 0, .int .i64 0, .int .i64 0, .int .i64 0, .int .i64 0, .int .i64 0, .int .i64 0, .int .i64 0, .int .i64 0, .int .i64 0, .int .i64 0] 83))
    obtain ⟨W, hW⟩ : ∃ W, W = (w3.alloc (.cells #[.int .i64 0, .int .i64 0, .int .i64 0, .int .i64 0, .int .i64 0, .int .i64 0, .int .i64 0, .int .i64 0, .int .i64 0, .int .i64 0, .int .i64 0, .int .i64 0, .int .i64 0, .int .i64 0, .int .i64 0, .int .i64 0, .int .i64 0, .int .i64 0, .int .i64 0, .int .i64 0, .int .i64 0, .int .i64 0, .int .i64 0, .int .i64 0] 83)).setCells w3.heap.size 0 (csI E) := ⟨_, rfl⟩
    have NSW : NumsAt W w3.heap.size E := by rw [hW]; exact NS.out
    have BSW : Bl w3 W := by rw [hW]; exact HBS.out
    have szW : W.heap.size = w3.heap.size + 1 := by rw [hW, hz]; simp
    have e0 := ((bcell BSW).1 _ _ hsw3).trans r0
    have e1 := ((bcell BSW).1 _ _ hsw3).trans r1
    clear hz hbS HBS r0 r1
    have hEl := EL.out
    have hue : u < E.length := by rw [hEl]; omega
    have q2 := NSW.cell u hue
    have hDu : dAt (distL N (revL L) t) u = E[u] := by
      rw [← ED.out]
      unfold dAt
      simp only [List.getD_eq_getElem?_getD]
      rw [List.getElem?_take, if_pos (by omega)]
      simp [hue]
    have HDU := Lib.hid hDu
    generalize E[u] = d at q2 HDU
    clear hDu
    rw [hW] at q2
    have u0 : (0 : Int) ≤ (u : Int) := by omega
    have u1 : (u : Int) < 24 := by omega
    by_cases hd : d < 0
    · have bd : decide (d < 0) = true := by simpa using hd
      have HP := Lib.hid (show pathL N L u t = [] from by
        unfold pathL
        rw [if_neg (by rw [HDU.out, Bool.and_eq_true]; intro h; have := of_decide_eq_true h.2; omega)])
      go_wp2_with (refine wpList_store_mid rfl 83 (.tmp 8) (.tmp 20) rfl w3.heap.size 0 (csI E).toArray rfl rfl ?c1 ?c2 (csI_one _) ?_)
      case c1 => simpa [csI_len, EL.out] using there_new w3 _
      case c2 => simpa [csI_len, EL.out] using size24
      rw [← hW]
      go_ret2
      exact ⟨_, by rw [HP.out]; rfl, by rw [HP.out]; exact OwnN.nil_ _ _, HB3.out.trans_ BSW⟩
    · have bd : decide (d < 0) = false := by simpa using hd
      have HP := Lib.hid (show pathL N L u t = (u : Int) :: stepsL L (distL N (revL L) t) t u from by
        unfold pathL
        rw [if_pos (by rw [HDU.out, Bool.and_eq_true]; exact ⟨HH.out, by simp; omega⟩)])
      have ST := Lib.hid (OnWay.start (L := L) (D := distL N (revL L) t) (t := t) (s := (u : Int)) (by rw [HDU.out]; omega))
      have hdb := (HET.out u).2
      have NW := Lib.hid (fun (v : Int) h0 h1 hv hd => nextL_some (L := L) (v := v) HO.out HE.out h0 h1 hv hd)
      have EB := Lib.hid (show ∀ k (h : k < E.length), (k : Int) < N → -1 ≤ E[k] ∧ E[k] ≤ 23000 from fun k hk hkN => by
        have h1 := HET.out k
        rw [← ED.out] at h1
        have h2 : dAt (E.take N.toNat) (k : Int) = E[k] := by
          unfold dAt
          simp only [List.getD_eq_getElem?_getD]
          rw [List.getElem?_take, if_pos (by omega)]
          simp [hk]
        rw [h2] at h1
        exact h1)
      have NXT := Lib.hid (fun (v : Int) (a : Arc3) (h : nextL L (distL N (revL L) t) v = some a) => (show nextL L (E.take N.toNat) v = some a from by rw [ED.out]; exact h))
      have hu1 := hs1
      generalize hDD : distL N (revL L) t = D at *
      have AA := Lib.hid (K1.out.bl (HB3.out.trans_ BSW))
      have BB := Lib.hid (HB3.out.trans_ BSW)
      have O0 := Lib.hid (show OwnN (W.alloc (.cells #[.int .i64 (u : Int)] 2)) (w3.heap.size + 1) (.slice (some ⟨w3.heap.size + 1, 0, none⟩) 1 1) [(u : Int)] from by
        rw [← szW]
        exact ⟨rfl, .inr ⟨W.heap.size, 1, #[.int .i64 (u : Int)], rfl, Nat.le_refl _, World.alloc_heap_new _ _, Nat.le_refl _, by unfold maxLen; omega, rfl, rfl⟩⟩)
      have BX := Lib.hid (show ∀ wx, Bl W wx → (wx.cell? ⟨w.heap.size, 0, none⟩ = some (.int .i64 N) ∧ wx.cell? ⟨w.heap.size, 1, none⟩ = some (.slice A n c)) ∧ NumsAt wx w3.heap.size E from fun wx hb => ⟨⟨((bcell hb).1 _ _ (by omega)).trans e0, ((bcell hb).1 _ _ (by omega)).trans e1⟩, NSW.bl hb⟩)
      clear e0 e1 HE HET HDU BSW NSW hDD hue hEl
      go_wp2_with (refine wpList_store_mid rfl 83 (.tmp 8) (.tmp 20) rfl w3.heap.size 0 (csI E).toArray rfl rfl ?c1 ?c2 (csI_one _) ?_)
      case c1 => simpa [csI_len, EL.out] using there_new w3 _
      case c2 => simpa [csI_len, EL.out] using size24
      rw [← hW]
      clear q2 hW NS
      go_loopw [9, 10] (fun pv vv wr => ∃ (P : List Int) (v : Int), (0 ≤ v ∧ v < N) ∧ vv = .int .i64 v ∧ OwnN wr (w3.heap.size + 1) pv P ∧ OnWay L D u t P v ∧ Bl W wr) (fun _ vv _ => (dAt D (intOf vv)).toNat)
      case atStart => exact ⟨[(u : Int)], u, ⟨by omega, hu1⟩, rfl, O0.out, ST.out, Bl.alloc_ (Bl.refl W) _⟩
      case round =>
        obtain ⟨P, v, ⟨hv0, hv1⟩, rfl, hO, hway, hbl⟩ := hrel
        have O := Lib.hid hO
        have WY := Lib.hid hway
        obtain ⟨⟨q0, q1⟩, hNS⟩ := BX.out _ hbl
        have NS := Lib.hid hNS
        have hPl : P.length ≤ 23001 := hway.len hdb
        clear hO hway hNS
        by_cases hvt : v = t
        · have bv : (v != t) = false := by simpa using hvt
          subst hvt
          go_wp2
          go_ret2
          refine ⟨u9, ?_, ?_, BB.out.trans_ hbl⟩
          · rw [HP.out]; rfl
          · rw [HP.out, ← WY.out.done]; exact O.out.low (by have := BB.out.size; omega)
        · have bv : (v != t) = true := by simpa using hvt
          obtain ⟨a, hnx, haL, ha1, hap, has, ha0, haN, hal⟩ := NW.out v hv0 hv1 hvt WY.out.far
          have NX := Lib.hid hnx
          have WY2 := Lib.hid (WY.out.next hvt hnx hap hal)
          have LT := Lib.hid hal
          clear hnx haL ha1 hap has hal
          go_wp2_with (refine wpList_load_mid rfl 83 (.tmp 8) rfl w3.heap.size 0 rfl (csI E) _ NS.out.range Try.underlying83 rfl (by rw [csI_len, EL.out]; exact size24) ?_)
          refine (nextNode_any N v A n c L HN.out hc HO.out E EL.out EB.out hv0 hv1 a (NXT.out v a NX.out) _ hm (AA.out.bl hbl)).mono ?_
          rintro e w7 ⟨rfl, hb7⟩
          have O7 := Lib.hid (O.out.bl hb7)
          have B7 := Lib.hid (hbl.trans_ hb7)
          have hs7 := B7.out.size
          clear hb7 q0 q1 hbl
          generalize hya : a.2.1 = y at *
          have YA := Lib.hid hya
          clear hya
          go_wp2_with (at_builtin; refine wpList_append_any _ rfl (.tmp 35) (.tmp 37) _ rfl (w3.heap.size + 1) 2 i0 _ 1 8 Try.underlying38 I0.out I1.out I2.out I3.out rfl (by decide) _ P.length (csI P) rfl (World.ownsRow.alloc O7.out _) (w7.heap.size + 1) (some ⟨w7.heap.size, 0, none⟩) 1 1 [.int .i64 y] rfl ?c0 (by simp [Value.oneCell']) ?c3 ?c4 ?c5 ?_)
          case c0 =>
            refine ⟨rfl, fun _ => ⟨_, rfl, by show w7.heap.size < w7.heap.size + 1; omega, fun x u hj => ?_⟩⟩
            match x, hj with
            | 0, hj => simp at hj; subst hj; simp [Addr.add, go_sem]
            | (x + 1), hj => simp at hj
          case c3 => unfold maxLen; omega
          case c4 => omega
          case c5 => simp; omega
          intro v' w8 hown' hgrow hwh
          have O8 := Lib.hid (OwnN.snoc (V := P) (x := y) (n := P.length) rfl (by simpa using hown'))
          have B8 := Lib.hid (show Bl W w8 from (B7.out.alloc_ (.cells #[.int .i64 y] 2)).grown_ hgrow (fun g hg => by have := (Owns.lt O7.out g hg).1; omega))
          clear hown' hgrow hwh
          go_wp2
          go_roundw
          case rel => exact ⟨P ++ [y], y, ⟨ha0, haN⟩, rfl, O8.out, WY2.out, B8.out⟩
          case measure =>
            have h1 := LT.out
            have h2 := WY2.out.far
            simp only [intOf]
            omega

end Go.Proofs.Ytdbjcojlcddhdaa

set_option linter.unusedSimpArgs false
set_option linter.unusedVariables false
namespace Go.Proofs.Ytdbjcojlcddhdaa
open Go.RowKit

set_option maxRecDepth 100000 in
set_option maxHeartbeats 2000000 in
theorem specPathOf_any (N s t : Int) (A : Option Addr) (n c : Nat) (L : List Arc3) (hn : n = L.length) (w : World) (hm : n ≤ 1048576) (H1 : ArcsAt w w.heap.size A L) :
    Calls Try.prog 41 #[.agg #[.int .i64 N, .slice A n c], .int .i64 s, .int .i64 t] w (PathMade (pathL N L s t) w) := by
  have K1 := Lib.hid H1
  have HN := Lib.hid hn
  have BX := Lib.hid (show ∀ wx, Bl (w.alloc (.cells #[.int .i64 N, .slice A n c] 26)) wx → wx.cell? ⟨w.heap.size, 0, none⟩ = some (.int .i64 N) ∧ wx.cell? ⟨w.heap.size, 1, none⟩ = some (.slice A n c) from fun wx hb => box2 hb)
  have BW := Lib.hid (show ∀ wx, Bl (w.alloc (.cells #[.int .i64 N, .slice A n c] 26)) wx → Bl w wx from fun wx hb => (Bl.alloc_ (Bl.refl w) _).trans_ hb)
  clear H1 hn
  cases ho : okB N L with
  | false =>
    have HO := Lib.hid ho
    have HP := Lib.hid (pathL_none (N := N) (L := L) (s := s) (t := t) (by unfold has2; rw [ho]; rfl))
    clear ho
    go_enter Try.func41, Try.ntmps41
    go_wp2_with fail
    refine (specOk_any N A n c L HN.out _ (by omega) (K1.out.bl (by repeat' (first | exact Bl.refl _ | with_reducible assumption | with_reducible refine Bl.drew_ ?_ | with_reducible refine Bl.drewN_ ?_ _ | with_reducible refine Bl.alloc_ ?_ _ | with_reducible refine Bl.trans_ ?_ (by assumption) | with_reducible refine Bl.trans_ ?_ (And.left (by assumption)))))).mono ?_
    rintro e w1 ⟨rfl, hb1⟩
    rw [HO.out]
    go_wp2
    go_ret2
    exact ⟨_, by rw [HP.out]; rfl, by rw [HP.out]; exact OwnN.nil_ _ _, BW.out _ hb1⟩
  | true =>
    have HO := Lib.hid ho
    have HNS := Lib.hid (nodeB_ok (v := s) ho)
    have HNT := Lib.hid (nodeB_ok (v := t) ho)
    by_cases hs : 0 ≤ s ∧ s < N
    · have hsd : decide (0 ≤ s ∧ s < N) = true := by simpa using hs
      have HS := Lib.hid hsd
      by_cases ht : 0 ≤ t ∧ t < N
      · have htd : decide (0 ≤ t ∧ t < N) = true := by simpa using ht
        have HT := Lib.hid htd
        have HH := Lib.hid (show has2 N L s t = true from by unfold has2; rw [ho, Bool.true_and, decide_eq_true_eq]; exact ⟨hs, ht⟩)
        clear hsd htd ho
        go_enter Try.func41, Try.ntmps41
        go_wp2_with fail
        refine (specOk_any N A n c L HN.out _ (by omega) (K1.out.bl (by repeat' (first | exact Bl.refl _ | with_reducible assumption | with_reducible refine Bl.drew_ ?_ | with_reducible refine Bl.drewN_ ?_ _ | with_reducible refine Bl.alloc_ ?_ _ | with_reducible refine Bl.trans_ ?_ (by assumption) | with_reducible refine Bl.trans_ ?_ (And.left (by assumption)))))).mono ?_
        rintro e w1 ⟨rfl, hb1⟩
        rw [HO.out]
        obtain ⟨q0, q1⟩ := BX.out _ hb1
        go_wp2_with fail
        refine (l1Node_any N s _ _).mono ?_
        rintro e w2 ⟨rfl, hb2⟩
        rw [HNS.out, HS.out]
        have hb2 := hb1.trans_ hb2
        obtain ⟨q0, q1⟩ := BX.out _ hb2
        go_wp2_with fail
        refine (l1Node_any N t _ _).mono ?_
        rintro e w3 ⟨rfl, hb3⟩
        rw [HNT.out, HT.out]
        have hb3 := hb2.trans_ hb3
        obtain ⟨q0, q1⟩ := BX.out _ hb3
        go_wp2_with fail
        refine (l3Path_any N s t A n c L HN.out HH.out _ hm (K1.out.bl (BW.out _ hb3))).mono ?_
        rintro e w4 ⟨v, rfl, hv, hb4⟩
        obtain ⟨A4, c4, rfl, -⟩ := OwnN.shape hv
        have O4 := Lib.hid hv
        have hl := pathL_len N L s t
        generalize hP : pathL N L s t = P at *
        obtain ⟨k, hk⟩ : ∃ k, k = P.length := ⟨_, rfl⟩
        rw [← hk]
        have HK := Lib.hid hk
        have B4 := Lib.hid (hb3.trans_ hb4)
        have HB3 := Lib.hid hb3
        clear hv hk hb1 hb2 hb3 hb4 hP
        have O4' := Lib.hid (show OwnN w4 w3.heap.size (.slice A4 k c4) P from by rw [HK.out]; exact O4.out)
        have hs3 : w.heap.size ≤ w3.heap.size := by
          have h1 := (BW.out _ HB3.out).size
          exact h1
        go_wp2
        go_ret2
        refine ⟨.slice A4 k c4, ?_, O4'.out.low hs3, BW.out _ B4.out⟩
        rw [← HK.out]
        simp
      · have htd : decide (0 ≤ t ∧ t < N) = false := by simpa using ht
        have HT := Lib.hid htd
        have HP := Lib.hid (pathL_none (N := N) (L := L) (s := s) (t := t) (by unfold has2; rw [ho, Bool.true_and, decide_eq_false_iff_not]; exact fun h => ht h.2))
        clear hsd htd
        go_enter Try.func41, Try.ntmps41
        go_wp2_with fail
        refine (specOk_any N A n c L HN.out _ (by omega) (K1.out.bl (by repeat' (first | exact Bl.refl _ | with_reducible assumption | with_reducible refine Bl.drew_ ?_ | with_reducible refine Bl.drewN_ ?_ _ | with_reducible refine Bl.alloc_ ?_ _ | with_reducible refine Bl.trans_ ?_ (by assumption) | with_reducible refine Bl.trans_ ?_ (And.left (by assumption)))))).mono ?_
        rintro e w1 ⟨rfl, hb1⟩
        rw [HO.out]
        obtain ⟨q0, q1⟩ := BX.out _ hb1
        go_wp2_with fail
        refine (l1Node_any N s _ _).mono ?_
        rintro e w2 ⟨rfl, hb2⟩
        rw [HNS.out, HS.out]
        have hb2 := hb1.trans_ hb2
        obtain ⟨q0, q1⟩ := BX.out _ hb2
        go_wp2_with fail
        refine (l1Node_any N t _ _).mono ?_
        rintro e w3 ⟨rfl, hb3⟩
        rw [HNT.out, HT.out]
        have hb3 := hb2.trans_ hb3
        go_wp2
        go_ret2
        exact ⟨_, by rw [HP.out]; rfl, by rw [HP.out]; exact OwnN.nil_ _ _, BW.out _ hb3⟩
    · have hsd : decide (0 ≤ s ∧ s < N) = false := by simpa using hs
      have HS := Lib.hid hsd
      have HP := Lib.hid (pathL_none (N := N) (L := L) (s := s) (t := t) (by unfold has2; rw [ho, Bool.true_and, decide_eq_false_iff_not]; exact fun h => hs h.1))
      clear hsd
      go_enter Try.func41, Try.ntmps41
      go_wp2_with fail
      refine (specOk_any N A n c L HN.out _ (by omega) (K1.out.bl (by repeat' (first | exact Bl.refl _ | with_reducible assumption | with_reducible refine Bl.drew_ ?_ | with_reducible refine Bl.drewN_ ?_ _ | with_reducible refine Bl.alloc_ ?_ _ | with_reducible refine Bl.trans_ ?_ (by assumption) | with_reducible refine Bl.trans_ ?_ (And.left (by assumption)))))).mono ?_
      rintro e w1 ⟨rfl, hb1⟩
      rw [HO.out]
      obtain ⟨q0, q1⟩ := BX.out _ hb1
      go_wp2_with fail
      refine (l1Node_any N s _ _).mono ?_
      rintro e w2 ⟨rfl, hb2⟩
      rw [HNS.out, HS.out]
      have hb2 := hb1.trans_ hb2
      go_wp2
      go_ret2
      exact ⟨_, by rw [HP.out]; rfl, by rw [HP.out]; exact OwnN.nil_ _ _, BW.out _ hb2⟩

end Go.Proofs.Ytdbjcojlcddhdaa

set_option linter.unusedSimpArgs false
set_option linter.unusedVariables false
namespace Go.Proofs.Ytdbjcojlcddhdaa
open Go.RowKit

def DrawnGP (w : World) (e : Ending) (w' : World) : Prop :=
  ∃ N A' l c' L v P, e = .returned (.tuple #[.agg #[.int .i64 N, .slice A' l c'], v]) ∧ Drawn w.heap.size w' N A' l c' L ∧ OwnN w' w.heap.size v P ∧ P.length ≤ 1048576 ∧ Bl w w'
theorem OwnN.put {w : World} {B g n c : Nat} {P : List Int} (h : OwnN w B (.slice (some ⟨g, 0, none⟩) n c) P) (hn : n = P.length) (d : Nat) (x : Int) : OwnN (w.setCell ⟨g, d, none⟩ (.int .i64 x)) B (.slice (some ⟨g, 0, none⟩) n c) (P.set d x) := by
  subst hn
  have h1 := (Owns.stored (show Owns 2 1 w B (.slice (some ⟨g, 0, none⟩) P.length c) P.length (csI P) from h) d (.int .i64 x)).1
  unfold OwnN
  rw [List.length_set]
  have e : csI (P.set d x) = (csI P).set d (.int .i64 x) := by unfold csI; rw [List.map_set]
  rw [e]
  exact h1

set_option maxRecDepth 100000 in
set_option maxHeartbeats 2000000 in
theorem drawLengthOf_any (A : Option Addr) (n c : Nat) (w : World) (hn : n ≤ 1099511627776) (H : BytesAt w A n) :
    Calls Try.prog 30 #[.slice A n c] w (DrawnGP w) := by
  have K := Lib.hid H
  clear H
  go_enter Try.func30, Try.ntmps30
  go_wp2_with fail
  refine (open_any A n c _ (K.out.bl (by repeat' (first | exact Bl.refl _ | with_reducible assumption | with_reducible refine Bl.drew_ ?_ | with_reducible refine Bl.drewN_ ?_ _ | with_reducible refine Bl.alloc_ ?_ _ | with_reducible refine Bl.trans_ ?_ (by assumption) | with_reducible refine Bl.trans_ ?_ (And.left (by assumption)))))).mono ?_
  rintro e w1 ⟨rfl, hr, hb, hlt⟩
  have R1 := Lib.hid (show RdAny w1 (w.heap.size + 1) A n c from by rw [World.size_alloc] at hr; exact hr)
  have B1 := Lib.hid hb
  have s1 := hb.size
  simp only [World.size_alloc] at s1 hlt
  have HK1 := Lib.hid (K.out.bl ((Bl.alloc_ (Bl.refl w) _).trans_ hb))
  clear hr hb
  go_wp2_with fail
  refine (drawDistOf_any A n c _ hn HK1.out).mono ?_
  rintro e w2 ⟨N, A', l, c', L, s, t, rfl, hd, hs, ht, hb2⟩
  have D2 := Lib.hid hd
  have C2 := Lib.hid hb2
  obtain ⟨ha, hlc⟩ := hd.arcs
  have HL := Lib.hid hd.1
  have hl200 := hd.2.1
  have HA := Lib.hid (ha.bl (Bl.alloc_ (Bl.refl w2) (.cells #[.int .i64 N, .slice A' l c'] 26)))
  have s2 := hb2.size
  have R2 := Lib.hid (R1.out.bl hb2)
  clear hd hb2 hs ht ha
  have B2 := Lib.hid (show Bl (w.alloc (.cells #[.int .i64 0, .slice none 0 0] 26)) w2 from B1.out.trans_ C2.out)
  have R3 := Lib.hid (R2.out.bl (Bl.alloc_ (Bl.refl w2) (.cells #[.int .i64 N, .slice A' l c'] 26)))
  have RES := Lib.hid (show Two (w2.alloc (.cells #[.int .i64 N, .slice A' l c'] 26)) w.heap.size (.int .i64 0) (.slice none 0 0) from ((Two.new w _ _).bl B2.out).bl (Bl.alloc_ (Bl.refl _) _))
  have nb : w2.heap.size ≠ w.heap.size := by omega
  have nb' : w.heap.size ≠ w2.heap.size := by omega
  go_wp2_with fail
  refine (specPathOf_any N s t A' l c' L HL.out _ (by omega) HA.out).mono ?_
  rintro e w3 ⟨v3, rfl, hv3, hb3⟩
  have hpl := pathL_len N L s t
  obtain ⟨P, hP⟩ : ∃ P, P = pathL N L s t := ⟨_, rfl⟩
  rw [← hP] at hv3 hpl ⊢
  have O3 := Lib.hid hv3
  obtain ⟨A3, c3, rfl, -, -, -, lo3⟩ := OwnN.shape hv3
  obtain ⟨k, hk⟩ : ∃ k, k = P.length := ⟨_, rfl⟩
  rw [← hk] at hpl O3 ⊢
  have HK := Lib.hid hk
  have LO3 := Lib.hid lo3
  have R4 := Lib.hid (R3.out.bl hb3)
  have G4 := Lib.hid (bl_grown hb3 (some (w.heap.size + 1)))
  have hs3 := hb3.size
  simp only [World.size_alloc] at hs3
  clear hv3 hk hP hb3 lo3
  have HSH := Lib.hid (show ∀ wx, (w2.alloc (.cells #[.int .i64 N, .slice A' l c'] 26)).grownBy wx (some (w.heap.size + 1)) → wx.cell? ⟨w2.heap.size, 0, none⟩ = some (.int .i64 N) ∧ wx.cell? ⟨w2.heap.size, 1, none⟩ = some (.slice A' l c') from fun wx h =>
    ⟨h.cell (by simp [go_sem]) (by simp; omega), h.cell (by simp [go_sem]) (by simp; omega)⟩)
  have DG := Lib.hid (show ∀ wx, (w2.alloc (.cells #[.int .i64 N, .slice A' l c'] 26)).grownBy wx (some (w.heap.size + 1)) → Drawn w1.heap.size wx N A' l c' L from fun wx hG => (D2.out.bl (Bl.alloc_ (Bl.refl w2) (.cells #[.int .i64 N, .slice A' l c'] 26))).far hG (by omega))
  have BG := Lib.hid (show ∀ wx, (w2.alloc (.cells #[.int .i64 N, .slice A' l c'] 26)).grownBy wx (some (w.heap.size + 1)) → Bl w wx from fun wx hG => (((Bl.alloc_ (Bl.refl w) _).trans_ B2.out).alloc_ (.cells #[.int .i64 N, .slice A' l c'] 26)).grown_ hG (fun g e => by injection e with e; omega))
  have OG := Lib.hid (show ∀ wx, w3.grownBy wx (some (w.heap.size + 1)) → OwnN wx (w2.heap.size + 1) (.slice A3 k c3) P from fun wx hG => by
    have h := Owns.grown_ O3.out hG (fun g hg e => by
      injection e with e
      have := (Owns.lt O3.out g hg).1
      simp only [World.size_alloc] at this
      omega)
    have h2 : OwnN wx (w2.alloc (.cells #[.int .i64 N, .slice A' l c'] 26)).heap.size (.slice A3 k c3) P := h
    rw [World.size_alloc] at h2
    exact h2)
  -- what is left, where the reader alone has turned
  have FIN := Lib.hid (show ∀ (w9 : World), w3.grownBy w9 (some (w.heap.size + 1)) → DrawnGP w (.returned (.tuple #[.agg #[.int .i64 N, .slice A' l c'], .slice A3 k c3])) ((w9.setCell ⟨w.heap.size, 0, none⟩ (.int .i64 N)).setCell ⟨w.heap.size, 1, none⟩ (.slice A' l c')) from fun w9 hG => by
    have hGG := grown_trans G4.out hG
    have D3 := DG.out _ hGG
    have O9 := OG.out _ hG
    have hne : ∀ g, (Value.slice A3 k c3).ownBlock = some g → g ≠ w.heap.size := fun g hg e => by have := (Owns.lt O9 g hg).1; omega
    exact ⟨N, A', l, c', L, _, P, rfl, ⟨D3.1, D3.2.1, D3.2.2.1, ((D3.2.2.2.set_ (by show w.heap.size < w1.heap.size; omega) _).set_ (by show w.heap.size < w1.heap.size; omega) _).low (by omega)⟩,
      OwnN.low (Owns.setOther (Owns.setOther O9 (p := ⟨w.heap.size, 0, none⟩) hne _) (p := ⟨w.heap.size, 1, none⟩) hne _) (by omega), by rw [← HK.out]; exact hpl, ((BG.out _ hGG).set_ (Nat.le_refl _) _).set_ (Nat.le_refl _) _⟩)
  go_wp2_with fail
  refine (once_any 3 (w.heap.size + 1) A n c _ hn (by omega) (by omega) R4.out).mono ?_
  rintro e w4 ⟨b, rfl, hr, hg⟩
  have R5 := Lib.hid hr
  have G5 := Lib.hid hg
  obtain ⟨y0, y1⟩ := HSH.out _ (grown_trans G4.out hg)
  have T5 := Lib.hid ((RES.out).grown_ (grown_trans G4.out hg) (by simp))
  clear hr hg
  cases b with
  | false =>
    obtain ⟨r0, r1, fr0, fr1⟩ := Two.facts T5.out
    go_wp2
    refine bodyPost_ret (v := .tuple #[.agg #[.int .i64 N, .slice A' l c'], .slice A3 k c3]) (by simp [results, Try.results30, go_sem, r0, r1, fr0, fr1]) rfl ?_
    exact FIN.out _ G5.out
  | true =>
    by_cases hk0 : 0 < k
    · have bk : decide ((0 : Int) < (k : Int)) = true := by simpa using hk0
      go_wp2_with fail
      refine (below_any k (w.heap.size + 1) A n c _ hn (by omega) R5.out).mono ?_
      rintro e w5 ⟨d, ⟨hd0, hd1⟩, rfl, hr, hg⟩
      have R6 := Lib.hid hr
      have G6 := Lib.hid (grown_trans G5.out hg)
      have hdk : d < (k : Int) := by omega
      obtain ⟨dn, rfl⟩ : ∃ dn : Nat, d = dn := ⟨d.toNat, by omega⟩
      clear hr hg hd1 y0 y1
      go_wp2_with fail
      refine (off_any 0 9 (w.heap.size + 1) A n c _ hn (by omega) (by omega) (by omega) (by omega) R6.out).mono ?_
      rintro e w6 ⟨x, hx, rfl, hr, hg⟩
      have G7 := Lib.hid (grown_trans G6.out hg)
      obtain ⟨y0, y1⟩ := HSH.out _ (grown_trans G4.out G7.out)
      have O7 := Lib.hid (OG.out _ G7.out)
      obtain ⟨AA, cc, e7, -, -, -, hh7⟩ := Owns.shape (show Owns 2 1 w6 (w2.heap.size + 1) (.slice A3 k c3) P.length (csI P) from O7.out)
      injection e7 with e71 e72 e73
      subst e71
      subst e73
      clear e72
      obtain ⟨g3, rfl, hBg, hgl, hfz, hcell⟩ := hh7 (by rw [← HK.out]; exact hk0)
      have hq := hcell dn (by rw [csI_len, ← HK.out]; omega)
      have hf := hfz dn
      have T7 := Lib.hid ((RES.out).grown_ (grown_trans G4.out G7.out) (by simp))
      have T8 := Lib.hid (show Two (w6.setCell ⟨g3, dn, none⟩ (.int .i64 x)) w.heap.size (.int .i64 0) (.slice none 0 0) from World.rowIs.setOther T7.out (by show w.heap.size ≠ g3; omega) _)
      obtain ⟨r0, r1, fr0, fr1⟩ := Two.facts T8.out
      obtain ⟨r0', r1', fr0', fr1'⟩ := Two.facts T7.out
      have n1 : g3 ≠ w2.heap.size := by omega
      have n2 : w2.heap.size ≠ g3 := by omega
      have n3 : g3 ≠ w.heap.size := by omega
      have n4 : w.heap.size ≠ g3 := by omega
      have d0 : (0 : Int) ≤ (dn : Int) := by omega
      have d1 : (dn : Int) < (k : Int) := hdk
      generalize (csI P)[dn]'(by rw [csI_len, ← HK.out]; omega) = old at hq
      clear hcell hfz hr hg
      go_wp2
      refine bodyPost_ret (v := .tuple #[.agg #[.int .i64 N, .slice A' l c'], .slice (some ⟨g3, 0, none⟩) k c3]) (by simp [results, Try.results30, go_sem, r0, r1, fr0, fr1, r0', r1', fr0', fr1', n3, n4]) rfl ?_
      have hGG := grown_trans G4.out G7.out
      have D3 := DG.out _ hGG
      have OA : OwnA (w6.setCell ⟨g3, dn, none⟩ (.int .i64 x)) w1.heap.size (.slice A' l c') L := Owns.setOther D3.2.2.2 (fun g hg e => by
        have h1 := (Owns.lt D2.out.2.2.2 g hg).2
        have h2 : g = g3 := e
        omega) _
      have OP := OwnN.put O7.out HK.out dn x
      have hne : ∀ g, (Value.slice (some ⟨g3, 0, none⟩) k c3).ownBlock = some g → g ≠ w.heap.size := fun g hg e => by
        have h2 : g3 = g := by simpa [Value.ownBlock] using hg
        omega
      refine ⟨N, A', l, c', L, .slice (some ⟨g3, 0, none⟩) k c3, P.set dn x, rfl, ⟨D3.1, D3.2.1, D3.2.2.1, ((OA.set_ (by show w.heap.size < w1.heap.size; omega) _).set_ (by show w.heap.size < w1.heap.size; omega) _).low (by omega)⟩, ?_, ?_, ?_⟩
      · exact OwnN.low (Owns.setOther (Owns.setOther OP (p := ⟨w.heap.size, 0, none⟩) hne _) (p := ⟨w.heap.size, 1, none⟩) hne _) (by omega)
      · rw [List.length_set, ← HK.out]; exact hpl
      · exact ((((BG.out _ hGG).set_ (p := ⟨g3, dn, none⟩) (by show w.heap.size ≤ g3; omega) _).set_ (Nat.le_refl _) _).set_ (Nat.le_refl _) _)
    · have bk : decide ((0 : Int) < (k : Int)) = false := by simpa using hk0
      obtain ⟨r0, r1, fr0, fr1⟩ := Two.facts T5.out
      go_wp2
      refine bodyPost_ret (v := .tuple #[.agg #[.int .i64 N, .slice A' l c'], .slice A3 k c3]) (by simp [results, Try.results30, go_sem, r0, r1, fr0, fr1]) rfl ?_
      exact FIN.out _ G5.out

end Go.Proofs.Ytdbjcojlcddhdaa

set_option linter.unusedSimpArgs false
set_option linter.unusedVariables false
namespace Go.Proofs.Ytdbjcojlcddhdaa
open Go.RowKit

theorem sumW_bounds {N : Int} {L : List Arc3} (P : List Int) (ho : okB N L = true) : ∀ k : Nat, 0 ≤ sumW L P k ∧ sumW L P k ≤ 1000 * k
  | 0 => by simp [sumW]
  | k + 1 => by
    have h1 := sumW_bounds P ho k
    have h2 : 0 ≤ stepW L P k ∧ stepW L P k ≤ 1000 := wtL_bounds ho
    unfold sumW
    omega
theorem pathB_ok {N : Int} {L : List Arc3} {P : List Int} (ho : okB N L = false) : pathB N L P = false := by unfold pathB; rw [ho, Bool.false_and]
theorem pathB_long {N : Int} {L : List Arc3} {P : List Int} (h : 1000 < P.length) : pathB N L P = false := by
  unfold pathB
  rw [decide_eq_false (by omega), Bool.and_false]
theorem pathB_empty {N : Int} {L : List Arc3} {P : List Int} (h : P.length = 0) : pathB N L P = false := by
  unfold pathB
  rw [decide_eq_false (by omega), Bool.and_false]
theorem pathB_step {N : Int} {L : List Arc3} {P : List Int} {j : Nat} (h : j + 1 < P.length) (h0 : stepW L P j = 0) : pathB N L P = false := by
  unfold pathB
  rw [decide_eq_false (fun hc => hc.2.2.2 j (by omega) h0), Bool.and_false]
theorem pathB_first {N : Int} {L : List Arc3} {P : List Int} (h : ¬ (0 ≤ P.getD 0 0 ∧ P.getD 0 0 < N)) : pathB N L P = false := by
  unfold pathB
  rw [decide_eq_false (fun hc => h hc.2.2.1), Bool.and_false]
theorem pathB_yes {N : Int} {L : List Arc3} {P : List Int} (ho : okB N L = true) (h0 : 0 < P.length) (h1 : P.length ≤ 1000) (h2 : 0 ≤ P.getD 0 0 ∧ P.getD 0 0 < N) (h3 : ∀ j, j < P.length - 1 → stepW L P j ≠ 0) : pathB N L P = true := by
  unfold pathB
  rw [ho, Bool.true_and, decide_eq_true_eq]
  exact ⟨h0, h1, h2, h3⟩
theorem lenI_no {N : Int} {L : List Arc3} {P : List Int} (h : pathB N L P = false) : lenI N L P = 0 := by unfold lenI; rw [h]; rfl
theorem lenI_yes {N : Int} {L : List Arc3} {P : List Int} (h : pathB N L P = true) : lenI N L P = sumW L P (P.length - 1) := by unfold lenI; rw [if_pos h]
theorem getD_at {P : List Int} {k : Nat} (h : k < P.length) : P.getD k 0 = P[k] := by
  rw [List.getD_eq_getElem?_getD, List.getElem?_eq_getElem h]
  rfl

/-- What is left where a path is measured. -/
def LenLeft (N : Int) (L : List Arc3) (P : List Int) (w : World) (e : Ending) (w' : World) : Prop := e = .returned (.tuple #[.int .i64 (lenI N L P), .bool (pathB N L P)]) ∧ Bl w w'
theorem LenLeft.no {N : Int} {L : List Arc3} {P : List Int} {w w' : World} (h : pathB N L P = false) (hb : Bl w w') : LenLeft N L P w (.returned (.tuple #[.int .i64 0, .bool false])) w' :=
  ⟨by rw [lenI_no h, h], hb⟩

/-- The sum of the steps, and whether all of them are there, and there is a first one that is a node. -/
def len3B (N : Int) (L : List Arc3) (P : List Int) : Bool := decide ((∀ j, j < P.length - 1 → stepW L P j ≠ 0) ∧ 0 < P.length ∧ (0 ≤ P.getD 0 0 ∧ P.getD 0 0 < N))
def len3I (L : List Arc3) (P : List Int) : Int := if (∀ j, j < P.length - 1 → stepW L P j ≠ 0) then sumW L P (P.length - 1) else 0

set_option maxRecDepth 100000 in
set_option maxHeartbeats 4000000 in
theorem l3Length_any (N : Int) (A : Option Addr) (n c : Nat) (L : List Arc3) (hn : n = L.length) (ho : okB N L = true) (A2 : Option Addr) (k c2 : Nat) (P : List Int) (hk : k = P.length) (w : World) (hm : n ≤ 1048576) (hkm : k ≤ 1000) (H1 : ArcsAt w w.heap.size A L) (H2 : IntsAt w w.heap.size A2 P) :
    Calls Try.prog 75 #[.agg #[.int .i64 N, .slice A n c], .slice A2 k c2] w fun e w' => e = .returned (.tuple #[.int .i64 (len3I L P), .bool (len3B N L P)]) ∧ Bl w w' := by
  have K1 := Lib.hid H1
  have K2 := Lib.hid H2
  have HN := Lib.hid hn
  have HK := Lib.hid hk
  have HO := Lib.hid ho
  have HNB := Lib.hid (fun v => nodeB_ok (v := v) ho)
  clear H1 H2 hn hk ho
  go_enter Try.func75, Try.ntmps75
  go_wp2_with fail
  go_loopw [6, 7] (fun s i wr => ∃ j : Nat, (j + 1 ≤ k ∨ j = 0) ∧ i = .int .i64 ((j : Int) + 1) ∧ s = .int .i64 (sumW L P j) ∧ Bl (w.alloc (.cells #[.int .i64 N, .slice A n c] 26)) wr ∧ Hid (∀ t, t < j → stepW L P t ≠ 0)) (fun _ i _ => k - (intOf i).toNat)
  case atStart => exact ⟨0, .inr rfl, by simp, rfl, (by repeat' (first | exact Bl.refl _ | with_reducible assumption | with_reducible refine Bl.drew_ ?_ | with_reducible refine Bl.drewN_ ?_ _ | with_reducible refine Bl.alloc_ ?_ _ | with_reducible refine Bl.trans_ ?_ (by assumption) | with_reducible refine Bl.trans_ ?_ (And.left (by assumption)))), Lib.hid fun t h => absurd h (by omega)⟩
  case round =>
    obtain ⟨j, hj, rfl, rfl, hbl, NO⟩ := hrel
    have hbw : Bl w wr := (Bl.alloc_ (Bl.refl w) _).trans_ hbl
    have hsb := Lib.hid (sumW_bounds P HO.out j)
    have HSS := Lib.hid (show sumW L P (j + 1) = sumW L P j + stepW L P j from rfl)
    generalize hS : sumW L P j = S at hsb HSS
    have HS := Lib.hid hS
    clear hS
    by_cases hlt : j + 1 < k
    · have hkl : j + 1 < P.length := by have := HK.out; omega
      obtain ⟨g2, o2, rfl, hg2, hc2⟩ := K2.out.cell (by omega)
      have p1 := hc2 j (by omega)
      have p2 := hc2 (j + 1) hkl
      clear hc2
      have HW := Lib.hid (stepW_at (L := L) hkl)
      generalize P[j] = u at p1 HW
      generalize P[j + 1] = v at p2 HW
      have HSH := Lib.hid (show ∀ wx, Bl wr wx → Bl wr wx ∧ wx.cell? ⟨w.heap.size, 0, none⟩ = some (.int .i64 N) ∧ wx.cell? ⟨w.heap.size, 1, none⟩ = some (.slice A n c) ∧ wx.cell? ⟨g2, o2 + j, none⟩ = some (.int .i64 u) ∧ wx.cell? ⟨g2, o2 + (j + 1), none⟩ = some (.int .i64 v) from fun wx hb => by
        obtain ⟨b0, b1⟩ := box2 (hbl.trans_ hb)
        have hc := (bcell (hbw.trans_ hb)).1
        exact ⟨hb, b0, b1, (hc _ _ hg2).trans p1, (hc _ _ hg2).trans p2⟩)
      clear p1 p2
      have hwb := Lib.hid (wtL_bounds (u := u) (v := v) HO.out)
      generalize hx : wtL u v L = x at HW hwb
      have HX := Lib.hid hx
      clear hx
      have w1 : IntKind.i64.wrap (j : Int) = (j : Int) := IntWalk.i64_in _ (by omega)
      have i0 : (0 : Int) ≤ (j : Int) := by omega
      have i1 : (j : Int) < (k : Int) := by omega
      have i2 : (0 : Int) ≤ (j : Int) + 1 := by omega
      have i3 : (j : Int) + 1 < (k : Int) := by omega
      have i4 : ((j : Int) + 1).toNat = j + 1 := by omega
      by_cases h0 : x = 0
      · have b0 : (x == 0) = true := by simp [h0]
        go_wp2_with fail
        refine wp_region_held_drew (S := fun wx => Bl wr wx ∧ wx.cell? ⟨w.heap.size, 0, none⟩ = some (.int .i64 N) ∧ wx.cell? ⟨w.heap.size, 1, none⟩ = some (.slice A n c) ∧ wx.cell? ⟨g2, o2 + j, none⟩ = some (.int .i64 u) ∧ wx.cell? ⟨g2, o2 + (j + 1), none⟩ = some (.int .i64 v)) (by kernel_rfl) ?_ (fun hHeld => ?_)
        · (exact HSH.out _ (by repeat' (first | exact Bl.refl _ | with_reducible assumption | with_reducible refine Bl.drew_ ?_ | with_reducible refine Bl.drewN_ ?_ _ | with_reducible refine Bl.alloc_ ?_ _ | with_reducible refine Bl.trans_ ?_ (by assumption) | with_reducible refine Bl.trans_ ?_ (And.left (by assumption)))))
        refine wpAnyH_take (i := 0) (v := ?_) rfl (by kernel_rfl) (by kernel_rfl) (by kernel_rfl) (fun _ _ _ h => h) (Or.inl ⟨by kernel_rfl, ?_⟩) (by assumption) ?_
        rotate_left
        · (intro wx hSw; (try dsimp only at hSw); go_simp; try (with_reducible rfl))
        try simp only [Act.put, List.getElem_toArray, List.getElem_cons_succ, List.getElem_cons_zero, List.setIfInBounds_toArray, List.set_cons_zero, List.set_cons_succ]
        refine wpAnyH_take (i := 1) (v := ?_) rfl (by kernel_rfl) (by kernel_rfl) (by kernel_rfl) (fun _ _ _ h => h) (Or.inl ⟨by kernel_rfl, ?_⟩) (by assumption) ?_
        rotate_left
        · (intro wx hSw; (try dsimp only at hSw); go_simp; try (with_reducible rfl))
        try simp only [Act.put, List.getElem_toArray, List.getElem_cons_succ, List.getElem_cons_zero, List.setIfInBounds_toArray, List.set_cons_zero, List.set_cons_succ]
        refine wpAnyH_take (i := 2) (v := ?_) rfl (by kernel_rfl) (by kernel_rfl) (by kernel_rfl) (fun _ _ _ h => h) (Or.inl ⟨by kernel_rfl, ?_⟩) (by assumption) ?_
        rotate_left
        · (intro wx hSw; (try dsimp only at hSw); go_simp; try (with_reducible rfl))
        try simp only [Act.put, List.getElem_toArray, List.getElem_cons_succ, List.getElem_cons_zero, List.setIfInBounds_toArray, List.set_cons_zero, List.set_cons_succ]
        refine wpAnyH_take (i := 3) (v := ?_) rfl (by kernel_rfl) (by kernel_rfl) (by kernel_rfl) (fun _ _ _ h => h) (Or.inl ⟨by kernel_rfl, ?_⟩) (by assumption) ?_
        rotate_left
        · (intro wx hSw; (try dsimp only at hSw); go_simp; try (with_reducible rfl))
        try simp only [Act.put, List.getElem_toArray, List.getElem_cons_succ, List.getElem_cons_zero, List.setIfInBounds_toArray, List.set_cons_zero, List.set_cons_succ]
        refine wpAnyH_take (i := 4) (v := ?_) rfl (by kernel_rfl) (by kernel_rfl) (by kernel_rfl) (fun _ _ _ h => h) (Or.inl ⟨by kernel_rfl, ?_⟩) (by assumption) ?_
        rotate_left
        · (intro wx hSw; (try dsimp only at hSw); go_simp; try (with_reducible rfl))
        try simp only [Act.put, List.getElem_toArray, List.getElem_cons_succ, List.getElem_cons_zero, List.setIfInBounds_toArray, List.set_cons_zero, List.set_cons_succ]
        refine wpAnyH_take (i := 5) (v := ?_) rfl (by kernel_rfl) (by kernel_rfl) (by kernel_rfl) (fun _ _ _ h => h) (Or.inl ⟨by kernel_rfl, ?_⟩) (by assumption) ?_
        rotate_left
        · (intro wx hSw; (try dsimp only at hSw); go_simp; try (with_reducible rfl))
        try simp only [Act.put, List.getElem_toArray, List.getElem_cons_succ, List.getElem_cons_zero, List.setIfInBounds_toArray, List.set_cons_zero, List.set_cons_succ]
        refine wpAnyH_take (i := 6) (v := ?_) rfl (by kernel_rfl) (by kernel_rfl) (by kernel_rfl) (fun _ _ _ h => h) (Or.inl ⟨by kernel_rfl, ?_⟩) (by assumption) ?_
        rotate_left
        · (intro wx hSw; (try dsimp only at hSw); go_simp; try (with_reducible rfl))
        try simp only [Act.put, List.getElem_toArray, List.getElem_cons_succ, List.getElem_cons_zero, List.setIfInBounds_toArray, List.set_cons_zero, List.set_cons_succ]
        refine wpAnyH_take (i := 7) (v := ?_) rfl (by kernel_rfl) (by kernel_rfl) (by kernel_rfl) (fun _ _ _ h => h) (Or.inl ⟨by kernel_rfl, ?_⟩) (by assumption) ?_
        rotate_left
        · (intro wx hSw; (try dsimp only at hSw); go_simp; try (with_reducible rfl))
        try simp only [Act.put, List.getElem_toArray, List.getElem_cons_succ, List.getElem_cons_zero, List.setIfInBounds_toArray, List.set_cons_zero, List.set_cons_succ]
        refine wpAnyH_take (i := 8) (v := ?_) rfl (by kernel_rfl) (by kernel_rfl) (by kernel_rfl) (fun _ _ _ h => h) (Or.inl ⟨by kernel_rfl, ?_⟩) (by assumption) ?_
        rotate_left
        · (intro wx hSw; (try dsimp only at hSw); go_simp; try (with_reducible rfl))
        try simp only [Act.put, List.getElem_toArray, List.getElem_cons_succ, List.getElem_cons_zero, List.setIfInBounds_toArray, List.set_cons_zero, List.set_cons_succ]
        refine wpAnyH_take (i := 9) (v := ?_) rfl (by kernel_rfl) (by kernel_rfl) (by kernel_rfl) (fun _ _ _ h => h) (Or.inl ⟨by kernel_rfl, ?_⟩) (by assumption) ?_
        rotate_left
        · (intro wx hSw; (try dsimp only at hSw); go_simp; try (with_reducible rfl))
        try simp only [Act.put, List.getElem_toArray, List.getElem_cons_succ, List.getElem_cons_zero, List.setIfInBounds_toArray, List.set_cons_zero, List.set_cons_succ]
        refine wpAnyH_ready (rs := [10]) (by kernel_rfl) (by simp) ?_
        refine AllReadyH.cons rfl (fun K hK => ?_) AllReadyH.nil
        go_simp
        (go_at_call 65; refine (l1Weight_any N u v A n c L HN.out _ (by omega) (K1.out.bl (hbw.trans_ (by repeat' (first | exact Bl.refl _ | with_reducible assumption | with_reducible refine Bl.drew_ ?_ | with_reducible refine Bl.drewN_ ?_ _ | with_reducible refine Bl.alloc_ ?_ _ | with_reducible refine Bl.trans_ ?_ (by assumption) | with_reducible refine Bl.trans_ ?_ (And.left (by assumption))))))).mono ?_; rintro e w3 ⟨rfl, hb3⟩; rw [HX.out])
        try (go_wp2_with fail)
        refine hK.out _ _ ?_ (fun hHeld => ?_)
        · (exact HSH.out _ (by repeat' (first | exact Bl.refl _ | with_reducible assumption | with_reducible refine Bl.drew_ ?_ | with_reducible refine Bl.drewN_ ?_ _ | with_reducible refine Bl.alloc_ ?_ _ | with_reducible refine Bl.trans_ ?_ (by assumption) | with_reducible refine Bl.trans_ ?_ (And.left (by assumption)))))
        clear hK K
        try simp only [Act.put, List.getElem_toArray, List.getElem_cons_succ, List.getElem_cons_zero, List.setIfInBounds_toArray, List.set_cons_zero, List.set_cons_succ]
        refine wpAnyH_take (i := 11) (v := ?_) rfl (by kernel_rfl) (by kernel_rfl) (by kernel_rfl) (fun _ _ _ h => h) (Or.inl ⟨by kernel_rfl, ?_⟩) (by assumption) ?_
        rotate_left
        · (intro wx hSw; (try dsimp only at hSw); go_simp; try (with_reducible rfl))
        try simp only [Act.put, List.getElem_toArray, List.getElem_cons_succ, List.getElem_cons_zero, List.setIfInBounds_toArray, List.set_cons_zero, List.set_cons_succ]
        refine wpAnyH_done (by kernel_rfl) ?_ _
        go_wp2
        go_ret2
        have hz : stepW L P j = 0 := by rw [HW.out]; exact h0
        have e1 : len3I L P = 0 := by unfold len3I; rw [if_neg (fun h => h j (by have := HK.out; omega) hz)]
        have e2 : len3B N L P = false := by unfold len3B; rw [decide_eq_false (fun h => h.1 j (by have := HK.out; omega) hz)]
        exact ⟨by rw [e1, e2]; rfl, hbw.trans_ (by repeat' (first | exact Bl.refl _ | with_reducible assumption | with_reducible refine Bl.drew_ ?_ | with_reducible refine Bl.drewN_ ?_ _ | with_reducible refine Bl.alloc_ ?_ _ | with_reducible refine Bl.trans_ ?_ (by assumption) | with_reducible refine Bl.trans_ ?_ (And.left (by assumption))))⟩
      · have b0 : (x == 0) = false := by simp [h0]
        have hxs := hsb.out
        have hxw := hwb.out
        have a1 : IntKind.i64.wrap (S + x) = S + x := IntWalk.i64_in _ (by omega)
        clear hxs hxw
        go_wp2_with fail
        refine wp_region_held_drew (S := fun wx => Bl wr wx ∧ wx.cell? ⟨w.heap.size, 0, none⟩ = some (.int .i64 N) ∧ wx.cell? ⟨w.heap.size, 1, none⟩ = some (.slice A n c) ∧ wx.cell? ⟨g2, o2 + j, none⟩ = some (.int .i64 u) ∧ wx.cell? ⟨g2, o2 + (j + 1), none⟩ = some (.int .i64 v)) (by kernel_rfl) ?_ (fun hHeld => ?_)
        · (exact HSH.out _ (by repeat' (first | exact Bl.refl _ | with_reducible assumption | with_reducible refine Bl.drew_ ?_ | with_reducible refine Bl.drewN_ ?_ _ | with_reducible refine Bl.alloc_ ?_ _ | with_reducible refine Bl.trans_ ?_ (by assumption) | with_reducible refine Bl.trans_ ?_ (And.left (by assumption)))))
        refine wpAnyH_take (i := 0) (v := ?_) rfl (by kernel_rfl) (by kernel_rfl) (by kernel_rfl) (fun _ _ _ h => h) (Or.inl ⟨by kernel_rfl, ?_⟩) (by assumption) ?_
        rotate_left
        · (intro wx hSw; (try dsimp only at hSw); go_simp; try (with_reducible rfl))
        try simp only [Act.put, List.getElem_toArray, List.getElem_cons_succ, List.getElem_cons_zero, List.setIfInBounds_toArray, List.set_cons_zero, List.set_cons_succ]
        refine wpAnyH_take (i := 1) (v := ?_) rfl (by kernel_rfl) (by kernel_rfl) (by kernel_rfl) (fun _ _ _ h => h) (Or.inl ⟨by kernel_rfl, ?_⟩) (by assumption) ?_
        rotate_left
        · (intro wx hSw; (try dsimp only at hSw); go_simp; try (with_reducible rfl))
        try simp only [Act.put, List.getElem_toArray, List.getElem_cons_succ, List.getElem_cons_zero, List.setIfInBounds_toArray, List.set_cons_zero, List.set_cons_succ]
        refine wpAnyH_take (i := 2) (v := ?_) rfl (by kernel_rfl) (by kernel_rfl) (by kernel_rfl) (fun _ _ _ h => h) (Or.inl ⟨by kernel_rfl, ?_⟩) (by assumption) ?_
        rotate_left
        · (intro wx hSw; (try dsimp only at hSw); go_simp; try (with_reducible rfl))
        try simp only [Act.put, List.getElem_toArray, List.getElem_cons_succ, List.getElem_cons_zero, List.setIfInBounds_toArray, List.set_cons_zero, List.set_cons_succ]
        refine wpAnyH_take (i := 3) (v := ?_) rfl (by kernel_rfl) (by kernel_rfl) (by kernel_rfl) (fun _ _ _ h => h) (Or.inl ⟨by kernel_rfl, ?_⟩) (by assumption) ?_
        rotate_left
        · (intro wx hSw; (try dsimp only at hSw); go_simp; try (with_reducible rfl))
        try simp only [Act.put, List.getElem_toArray, List.getElem_cons_succ, List.getElem_cons_zero, List.setIfInBounds_toArray, List.set_cons_zero, List.set_cons_succ]
        refine wpAnyH_take (i := 4) (v := ?_) rfl (by kernel_rfl) (by kernel_rfl) (by kernel_rfl) (fun _ _ _ h => h) (Or.inl ⟨by kernel_rfl, ?_⟩) (by assumption) ?_
        rotate_left
        · (intro wx hSw; (try dsimp only at hSw); go_simp; try (with_reducible rfl))
        try simp only [Act.put, List.getElem_toArray, List.getElem_cons_succ, List.getElem_cons_zero, List.setIfInBounds_toArray, List.set_cons_zero, List.set_cons_succ]
        refine wpAnyH_take (i := 5) (v := ?_) rfl (by kernel_rfl) (by kernel_rfl) (by kernel_rfl) (fun _ _ _ h => h) (Or.inl ⟨by kernel_rfl, ?_⟩) (by assumption) ?_
        rotate_left
        · (intro wx hSw; (try dsimp only at hSw); go_simp; try (with_reducible rfl))
        try simp only [Act.put, List.getElem_toArray, List.getElem_cons_succ, List.getElem_cons_zero, List.setIfInBounds_toArray, List.set_cons_zero, List.set_cons_succ]
        refine wpAnyH_take (i := 6) (v := ?_) rfl (by kernel_rfl) (by kernel_rfl) (by kernel_rfl) (fun _ _ _ h => h) (Or.inl ⟨by kernel_rfl, ?_⟩) (by assumption) ?_
        rotate_left
        · (intro wx hSw; (try dsimp only at hSw); go_simp; try (with_reducible rfl))
        try simp only [Act.put, List.getElem_toArray, List.getElem_cons_succ, List.getElem_cons_zero, List.setIfInBounds_toArray, List.set_cons_zero, List.set_cons_succ]
        refine wpAnyH_take (i := 7) (v := ?_) rfl (by kernel_rfl) (by kernel_rfl) (by kernel_rfl) (fun _ _ _ h => h) (Or.inl ⟨by kernel_rfl, ?_⟩) (by assumption) ?_
        rotate_left
        · (intro wx hSw; (try dsimp only at hSw); go_simp; try (with_reducible rfl))
        try simp only [Act.put, List.getElem_toArray, List.getElem_cons_succ, List.getElem_cons_zero, List.setIfInBounds_toArray, List.set_cons_zero, List.set_cons_succ]
        refine wpAnyH_take (i := 8) (v := ?_) rfl (by kernel_rfl) (by kernel_rfl) (by kernel_rfl) (fun _ _ _ h => h) (Or.inl ⟨by kernel_rfl, ?_⟩) (by assumption) ?_
        rotate_left
        · (intro wx hSw; (try dsimp only at hSw); go_simp; try (with_reducible rfl))
        try simp only [Act.put, List.getElem_toArray, List.getElem_cons_succ, List.getElem_cons_zero, List.setIfInBounds_toArray, List.set_cons_zero, List.set_cons_succ]
        refine wpAnyH_take (i := 9) (v := ?_) rfl (by kernel_rfl) (by kernel_rfl) (by kernel_rfl) (fun _ _ _ h => h) (Or.inl ⟨by kernel_rfl, ?_⟩) (by assumption) ?_
        rotate_left
        · (intro wx hSw; (try dsimp only at hSw); go_simp; try (with_reducible rfl))
        try simp only [Act.put, List.getElem_toArray, List.getElem_cons_succ, List.getElem_cons_zero, List.setIfInBounds_toArray, List.set_cons_zero, List.set_cons_succ]
        refine wpAnyH_ready (rs := [10]) (by kernel_rfl) (by simp) ?_
        refine AllReadyH.cons rfl (fun K hK => ?_) AllReadyH.nil
        go_simp
        (go_at_call 65; refine (l1Weight_any N u v A n c L HN.out _ (by omega) (K1.out.bl (hbw.trans_ (by repeat' (first | exact Bl.refl _ | with_reducible assumption | with_reducible refine Bl.drew_ ?_ | with_reducible refine Bl.drewN_ ?_ _ | with_reducible refine Bl.alloc_ ?_ _ | with_reducible refine Bl.trans_ ?_ (by assumption) | with_reducible refine Bl.trans_ ?_ (And.left (by assumption))))))).mono ?_; rintro e w3 ⟨rfl, hb3⟩; rw [HX.out])
        try (go_wp2_with fail)
        refine hK.out _ _ ?_ (fun hHeld => ?_)
        · (exact HSH.out _ (by repeat' (first | exact Bl.refl _ | with_reducible assumption | with_reducible refine Bl.drew_ ?_ | with_reducible refine Bl.drewN_ ?_ _ | with_reducible refine Bl.alloc_ ?_ _ | with_reducible refine Bl.trans_ ?_ (by assumption) | with_reducible refine Bl.trans_ ?_ (And.left (by assumption)))))
        clear hK K
        try simp only [Act.put, List.getElem_toArray, List.getElem_cons_succ, List.getElem_cons_zero, List.setIfInBounds_toArray, List.set_cons_zero, List.set_cons_succ]
        refine wpAnyH_take (i := 11) (v := ?_) rfl (by kernel_rfl) (by kernel_rfl) (by kernel_rfl) (fun _ _ _ h => h) (Or.inl ⟨by kernel_rfl, ?_⟩) (by assumption) ?_
        rotate_left
        · (intro wx hSw; (try dsimp only at hSw); go_simp; try (with_reducible rfl))
        try simp only [Act.put, List.getElem_toArray, List.getElem_cons_succ, List.getElem_cons_zero, List.setIfInBounds_toArray, List.set_cons_zero, List.set_cons_succ]
        refine wpAnyH_done (by kernel_rfl) ?_ _
        go_wp2
        go_roundw
        case rel =>
          refine ⟨j + 1, .inl (by omega), by go_num, by rw [HSS.out, HW.out], hbl.trans_ (by repeat' (first | exact Bl.refl _ | with_reducible assumption | with_reducible refine Bl.drew_ ?_ | with_reducible refine Bl.drewN_ ?_ _ | with_reducible refine Bl.alloc_ ?_ _ | with_reducible refine Bl.trans_ ?_ (by assumption) | with_reducible refine Bl.trans_ ?_ (And.left (by assumption)))), Lib.hid fun t ht => ?_⟩
          rcases Nat.lt_or_ge t j with h | h
          · exact NO.out t h
          · obtain rfl : t = j := by omega
            rw [HW.out]
            exact h0
        case measure => simp [intOf]; omega
    · by_cases h0 : 0 < k
      · have hjk : j + 1 = k := by omega
        have hkl : 0 < P.length := by have := HK.out; omega
        obtain ⟨g2, o2, rfl, hg2, hc2⟩ := K2.out.cell (by omega)
        have p1 := hc2 0 hkl
        clear hc2
        have HG := Lib.hid (getD_at hkl)
        generalize P[0] = u at p1 HG
        have HSH := Lib.hid (show ∀ wx, Bl wr wx → Bl wr wx ∧ wx.cell? ⟨w.heap.size, 0, none⟩ = some (.int .i64 N) ∧ wx.cell? ⟨w.heap.size, 1, none⟩ = some (.slice A n c) ∧ wx.cell? ⟨g2, o2, none⟩ = some (.int .i64 u) from fun wx hb => by
          obtain ⟨b0, b1⟩ := box2 (hbl.trans_ hb)
          have hc := (bcell (hbw.trans_ hb)).1
          exact ⟨hb, b0, b1, (hc _ _ hg2).trans p1⟩)
        clear p1
        have i1 : (0 : Int) < (k : Int) := by omega
        go_wp2_with fail
        refine wp_region_held_drew (S := fun wx => Bl wr wx ∧ wx.cell? ⟨w.heap.size, 0, none⟩ = some (.int .i64 N) ∧ wx.cell? ⟨w.heap.size, 1, none⟩ = some (.slice A n c) ∧ wx.cell? ⟨g2, o2, none⟩ = some (.int .i64 u)) (by kernel_rfl) ?_ (fun hHeld => ?_)
        · (exact HSH.out _ (by repeat' (first | exact Bl.refl _ | with_reducible assumption | with_reducible refine Bl.drew_ ?_ | with_reducible refine Bl.drewN_ ?_ _ | with_reducible refine Bl.alloc_ ?_ _ | with_reducible refine Bl.trans_ ?_ (by assumption) | with_reducible refine Bl.trans_ ?_ (And.left (by assumption)))))
        refine wpAnyH_take (i := 0) (v := ?_) rfl (by kernel_rfl) (by kernel_rfl) (by kernel_rfl) (fun _ _ _ h => h) (Or.inl ⟨by kernel_rfl, ?_⟩) (by assumption) ?_
        rotate_left
        · (intro wx hSw; (try dsimp only at hSw); go_simp; try (with_reducible rfl))
        try simp only [Act.put, List.getElem_toArray, List.getElem_cons_succ, List.getElem_cons_zero, List.setIfInBounds_toArray, List.set_cons_zero, List.set_cons_succ]
        refine wpAnyH_take (i := 1) (v := ?_) rfl (by kernel_rfl) (by kernel_rfl) (by kernel_rfl) (fun _ _ _ h => h) (Or.inl ⟨by kernel_rfl, ?_⟩) (by assumption) ?_
        rotate_left
        · (intro wx hSw; (try dsimp only at hSw); go_simp; try (with_reducible rfl))
        try simp only [Act.put, List.getElem_toArray, List.getElem_cons_succ, List.getElem_cons_zero, List.setIfInBounds_toArray, List.set_cons_zero, List.set_cons_succ]
        refine wpAnyH_ready (rs := [2]) (by kernel_rfl) (by simp) ?_
        refine AllReadyH.cons rfl (fun K hK => ?_) AllReadyH.nil
        go_simp
        refine hK.out _ _ ?_ (fun hHeld => ?_)
        · (exact HSH.out _ (by repeat' (first | exact Bl.refl _ | with_reducible assumption | with_reducible refine Bl.drew_ ?_ | with_reducible refine Bl.drewN_ ?_ _ | with_reducible refine Bl.alloc_ ?_ _ | with_reducible refine Bl.trans_ ?_ (by assumption) | with_reducible refine Bl.trans_ ?_ (And.left (by assumption)))))
        clear hK K
        try simp only [Act.put, List.getElem_toArray, List.getElem_cons_succ, List.getElem_cons_zero, List.setIfInBounds_toArray, List.set_cons_zero, List.set_cons_succ]
        refine wpAnyH_take (i := 3) (v := ?_) rfl (by kernel_rfl) (by kernel_rfl) (by kernel_rfl) (fun _ _ _ h => h) (Or.inl ⟨by kernel_rfl, ?_⟩) (by assumption) ?_
        rotate_left
        · (intro wx hSw; (try dsimp only at hSw); go_simp; try (with_reducible rfl))
        try simp only [Act.put, List.getElem_toArray, List.getElem_cons_succ, List.getElem_cons_zero, List.setIfInBounds_toArray, List.set_cons_zero, List.set_cons_succ]
        refine wpAnyH_take (i := 4) (v := ?_) rfl (by kernel_rfl) (by kernel_rfl) (by kernel_rfl) (fun _ _ _ h => h) (Or.inl ⟨by kernel_rfl, ?_⟩) (by assumption) ?_
        rotate_left
        · (intro wx hSw; (try dsimp only at hSw); go_simp; try (with_reducible rfl))
        try simp only [Act.put, List.getElem_toArray, List.getElem_cons_succ, List.getElem_cons_zero, List.setIfInBounds_toArray, List.set_cons_zero, List.set_cons_succ]
        refine wpAnyH_take (i := 5) (v := ?_) rfl (by kernel_rfl) (by kernel_rfl) (by kernel_rfl) (fun _ _ _ h => h) (Or.inl ⟨by kernel_rfl, ?_⟩) (by assumption) ?_
        rotate_left
        · (intro wx hSw; (try dsimp only at hSw); go_simp; try (with_reducible rfl))
        try simp only [Act.put, List.getElem_toArray, List.getElem_cons_succ, List.getElem_cons_zero, List.setIfInBounds_toArray, List.set_cons_zero, List.set_cons_succ]
        refine wpAnyH_take (i := 6) (v := ?_) rfl (by kernel_rfl) (by kernel_rfl) (by kernel_rfl) (fun _ _ _ h => h) (Or.inl ⟨by kernel_rfl, ?_⟩) (by assumption) ?_
        rotate_left
        · (intro wx hSw; (try dsimp only at hSw); go_simp; try (with_reducible rfl))
        try simp only [Act.put, List.getElem_toArray, List.getElem_cons_succ, List.getElem_cons_zero, List.setIfInBounds_toArray, List.set_cons_zero, List.set_cons_succ]
        refine wpAnyH_take (i := 7) (v := ?_) rfl (by kernel_rfl) (by kernel_rfl) (by kernel_rfl) (fun _ _ _ h => h) (Or.inl ⟨by kernel_rfl, ?_⟩) (by assumption) ?_
        rotate_left
        · (intro wx hSw; (try dsimp only at hSw); go_simp; try (with_reducible rfl))
        try simp only [Act.put, List.getElem_toArray, List.getElem_cons_succ, List.getElem_cons_zero, List.setIfInBounds_toArray, List.set_cons_zero, List.set_cons_succ]
        refine wpAnyH_take (i := 8) (v := ?_) rfl (by kernel_rfl) (by kernel_rfl) (by kernel_rfl) (fun _ _ _ h => h) (Or.inl ⟨by kernel_rfl, ?_⟩) (by assumption) ?_
        rotate_left
        · (intro wx hSw; (try dsimp only at hSw); go_simp; try (with_reducible rfl))
        try simp only [Act.put, List.getElem_toArray, List.getElem_cons_succ, List.getElem_cons_zero, List.setIfInBounds_toArray, List.set_cons_zero, List.set_cons_succ]
        refine wpAnyH_ready (rs := [9]) (by kernel_rfl) (by simp) ?_
        refine AllReadyH.cons rfl (fun K hK => ?_) AllReadyH.nil
        go_simp
        (go_at_call 56; refine (l1Node_any N u _ _).mono ?_; rintro e w3 ⟨rfl, hb3⟩; rw [HNB.out])
        try (go_wp2_with fail)
        refine hK.out _ _ ?_ (fun hHeld => ?_)
        · (exact HSH.out _ (by repeat' (first | exact Bl.refl _ | with_reducible assumption | with_reducible refine Bl.drew_ ?_ | with_reducible refine Bl.drewN_ ?_ _ | with_reducible refine Bl.alloc_ ?_ _ | with_reducible refine Bl.trans_ ?_ (by assumption) | with_reducible refine Bl.trans_ ?_ (And.left (by assumption)))))
        clear hK K
        try simp only [Act.put, List.getElem_toArray, List.getElem_cons_succ, List.getElem_cons_zero, List.setIfInBounds_toArray, List.set_cons_zero, List.set_cons_succ]
        refine wpAnyH_take (i := 10) (v := ?_) rfl (by kernel_rfl) (by kernel_rfl) (by kernel_rfl) (fun _ _ _ h => h) (Or.inl ⟨by kernel_rfl, ?_⟩) (by assumption) ?_
        rotate_left
        · (intro wx hSw; (try dsimp only at hSw); go_simp; try (with_reducible rfl))
        try simp only [Act.put, List.getElem_toArray, List.getElem_cons_succ, List.getElem_cons_zero, List.setIfInBounds_toArray, List.set_cons_zero, List.set_cons_succ]
        refine wpAnyH_take (i := 11) (v := ?_) rfl (by kernel_rfl) (by kernel_rfl) (by kernel_rfl) (fun _ _ _ h => h) (Or.inl ⟨by kernel_rfl, ?_⟩) (by assumption) ?_
        rotate_left
        · (intro wx hSw; (try dsimp only at hSw); go_simp; try (with_reducible rfl))
        try simp only [Act.put, List.getElem_toArray, List.getElem_cons_succ, List.getElem_cons_zero, List.setIfInBounds_toArray, List.set_cons_zero, List.set_cons_succ]
        refine wpAnyH_take (i := 12) (v := ?_) rfl (by kernel_rfl) (by kernel_rfl) (by kernel_rfl) (fun _ _ _ h => h) (Or.inl ⟨by kernel_rfl, ?_⟩) (by assumption) ?_
        rotate_left
        · (intro wx hSw; (try dsimp only at hSw); go_simp; try (with_reducible rfl))
        try simp only [Act.put, List.getElem_toArray, List.getElem_cons_succ, List.getElem_cons_zero, List.setIfInBounds_toArray, List.set_cons_zero, List.set_cons_succ]
        refine wpAnyH_done (by kernel_rfl) ?_ _
        go_wp2
        go_ret2
        have hall : ∀ t, t < P.length - 1 → stepW L P t ≠ 0 := fun t ht => NO.out t (by have := HK.out; omega)
        have e1 : len3I L P = S := by unfold len3I; rw [if_pos hall, show P.length - 1 = j from by have := HK.out; omega, HS.out]
        have e2 : len3B N L P = (decide (0 ≤ u) && decide (u < N)) := by
          unfold len3B
          rw [HG.out, Bool.eq_iff_iff]
          simp only [decide_eq_true_eq, Bool.and_eq_true]
          exact ⟨fun h => h.2.2, fun h => ⟨hall, hkl, h⟩⟩
        exact ⟨by rw [e1, e2]; rfl, hbw.trans_ (by repeat' (first | exact Bl.refl _ | with_reducible assumption | with_reducible refine Bl.drew_ ?_ | with_reducible refine Bl.drewN_ ?_ _ | with_reducible refine Bl.alloc_ ?_ _ | with_reducible refine Bl.trans_ ?_ (by assumption) | with_reducible refine Bl.trans_ ?_ (And.left (by assumption))))⟩
      · obtain rfl : k = 0 := by omega
        obtain rfl : j = 0 := by omega
        have hz : S = 0 := by rw [← HS.out]; rfl
        have HZ := Lib.hid hz
        clear hz
        have i1 : decide ((0 : Int) < ((0 : Nat) : Int)) = false := by simp
        go_wp2_with fail
        refine wp_region_held_drew (S := fun wx => Bl wr wx) (by kernel_rfl) ?_ (fun hHeld => ?_)
        · (exact (by repeat' (first | exact Bl.refl _ | with_reducible assumption | with_reducible refine Bl.drew_ ?_ | with_reducible refine Bl.drewN_ ?_ _ | with_reducible refine Bl.alloc_ ?_ _ | with_reducible refine Bl.trans_ ?_ (by assumption) | with_reducible refine Bl.trans_ ?_ (And.left (by assumption)))))
        refine wpAnyH_take (i := 0) (v := ?_) rfl (by kernel_rfl) (by kernel_rfl) (by kernel_rfl) (fun _ _ _ h => h) (Or.inl ⟨by kernel_rfl, ?_⟩) (by assumption) ?_
        rotate_left
        · (intro wx hSw; (try dsimp only at hSw); go_simp; try (with_reducible rfl))
        try simp only [Act.put, List.getElem_toArray, List.getElem_cons_succ, List.getElem_cons_zero, List.setIfInBounds_toArray, List.set_cons_zero, List.set_cons_succ]
        refine wpAnyH_take (i := 1) (v := ?_) rfl (by kernel_rfl) (by kernel_rfl) (by kernel_rfl) (fun _ _ _ h => h) (Or.inl ⟨by kernel_rfl, ?_⟩) (by assumption) ?_
        rotate_left
        · (intro wx hSw; (try dsimp only at hSw); go_simp; try (with_reducible rfl))
        try simp only [Act.put, List.getElem_toArray, List.getElem_cons_succ, List.getElem_cons_zero, List.setIfInBounds_toArray, List.set_cons_zero, List.set_cons_succ]
        refine wpAnyH_ready (rs := [2]) (by kernel_rfl) (by simp) ?_
        refine AllReadyH.cons rfl (fun K hK => ?_) AllReadyH.nil
        go_simp
        refine hK.out _ _ ?_ (fun hHeld => ?_)
        · (exact (by repeat' (first | exact Bl.refl _ | with_reducible assumption | with_reducible refine Bl.drew_ ?_ | with_reducible refine Bl.drewN_ ?_ _ | with_reducible refine Bl.alloc_ ?_ _ | with_reducible refine Bl.trans_ ?_ (by assumption) | with_reducible refine Bl.trans_ ?_ (And.left (by assumption)))))
        clear hK K
        try simp only [Act.put, List.getElem_toArray, List.getElem_cons_succ, List.getElem_cons_zero, List.setIfInBounds_toArray, List.set_cons_zero, List.set_cons_succ]
        refine wpAnyH_take (i := 3) (v := ?_) rfl (by kernel_rfl) (by kernel_rfl) (by kernel_rfl) (fun _ _ _ h => h) (Or.inl ⟨by kernel_rfl, ?_⟩) (by assumption) ?_
        rotate_left
        · (intro wx hSw; (try dsimp only at hSw); go_simp; try (with_reducible rfl))
        try simp only [Act.put, List.getElem_toArray, List.getElem_cons_succ, List.getElem_cons_zero, List.setIfInBounds_toArray, List.set_cons_zero, List.set_cons_succ]
        refine wpAnyH_take (i := 4) (v := ?_) rfl (by kernel_rfl) (by kernel_rfl) (by kernel_rfl) (fun _ _ _ h => h) (Or.inl ⟨by kernel_rfl, ?_⟩) (by assumption) ?_
        rotate_left
        · (intro wx hSw; (try dsimp only at hSw); go_simp; try (with_reducible rfl))
        try simp only [Act.put, List.getElem_toArray, List.getElem_cons_succ, List.getElem_cons_zero, List.setIfInBounds_toArray, List.set_cons_zero, List.set_cons_succ]
        refine wpAnyH_take (i := 5) (v := undef) rfl (by kernel_rfl) (by kernel_rfl) (by kernel_rfl) (fun _ _ _ h => h) (Or.inr ⟨by kernel_rfl, rfl⟩) (by assumption) ?_
        try simp only [Act.put, List.getElem_toArray, List.getElem_cons_succ, List.getElem_cons_zero, List.setIfInBounds_toArray, List.set_cons_zero, List.set_cons_succ]
        refine wpAnyH_take (i := 6) (v := undef) rfl (by kernel_rfl) (by kernel_rfl) (by kernel_rfl) (fun _ _ _ h => h) (Or.inr ⟨by kernel_rfl, rfl⟩) (by assumption) ?_
        try simp only [Act.put, List.getElem_toArray, List.getElem_cons_succ, List.getElem_cons_zero, List.setIfInBounds_toArray, List.set_cons_zero, List.set_cons_succ]
        refine wpAnyH_take (i := 7) (v := undef) rfl (by kernel_rfl) (by kernel_rfl) (by kernel_rfl) (fun _ _ _ h => h) (Or.inr ⟨by kernel_rfl, rfl⟩) (by assumption) ?_
        try simp only [Act.put, List.getElem_toArray, List.getElem_cons_succ, List.getElem_cons_zero, List.setIfInBounds_toArray, List.set_cons_zero, List.set_cons_succ]
        refine wpAnyH_take (i := 8) (v := undef) rfl (by kernel_rfl) (by kernel_rfl) (by kernel_rfl) (fun _ _ _ h => h) (Or.inr ⟨by kernel_rfl, rfl⟩) (by assumption) ?_
        try simp only [Act.put, List.getElem_toArray, List.getElem_cons_succ, List.getElem_cons_zero, List.setIfInBounds_toArray, List.set_cons_zero, List.set_cons_succ]
        refine wpAnyH_ready (rs := [9]) (by kernel_rfl) (by simp) ?_
        refine AllReadyH.cons rfl (fun K hK => ?_) AllReadyH.nil
        go_simp
        refine hK.out _ _ ?_ (fun hHeld => ?_)
        · (exact (by repeat' (first | exact Bl.refl _ | with_reducible assumption | with_reducible refine Bl.drew_ ?_ | with_reducible refine Bl.drewN_ ?_ _ | with_reducible refine Bl.alloc_ ?_ _ | with_reducible refine Bl.trans_ ?_ (by assumption) | with_reducible refine Bl.trans_ ?_ (And.left (by assumption)))))
        clear hK K
        try simp only [Act.put, List.getElem_toArray, List.getElem_cons_succ, List.getElem_cons_zero, List.setIfInBounds_toArray, List.set_cons_zero, List.set_cons_succ]
        refine wpAnyH_take (i := 10) (v := ?_) rfl (by kernel_rfl) (by kernel_rfl) (by kernel_rfl) (fun _ _ _ h => h) (Or.inl ⟨by kernel_rfl, ?_⟩) (by assumption) ?_
        rotate_left
        · (intro wx hSw; (try dsimp only at hSw); go_simp; try (with_reducible rfl))
        try simp only [Act.put, List.getElem_toArray, List.getElem_cons_succ, List.getElem_cons_zero, List.setIfInBounds_toArray, List.set_cons_zero, List.set_cons_succ]
        refine wpAnyH_take (i := 11) (v := ?_) rfl (by kernel_rfl) (by kernel_rfl) (by kernel_rfl) (fun _ _ _ h => h) (Or.inl ⟨by kernel_rfl, ?_⟩) (by assumption) ?_
        rotate_left
        · (intro wx hSw; (try dsimp only at hSw); go_simp; try (with_reducible rfl))
        try simp only [Act.put, List.getElem_toArray, List.getElem_cons_succ, List.getElem_cons_zero, List.setIfInBounds_toArray, List.set_cons_zero, List.set_cons_succ]
        refine wpAnyH_take (i := 12) (v := ?_) rfl (by kernel_rfl) (by kernel_rfl) (by kernel_rfl) (fun _ _ _ h => h) (Or.inl ⟨by kernel_rfl, ?_⟩) (by assumption) ?_
        rotate_left
        · (intro wx hSw; (try dsimp only at hSw); go_simp; try (with_reducible rfl))
        try simp only [Act.put, List.getElem_toArray, List.getElem_cons_succ, List.getElem_cons_zero, List.setIfInBounds_toArray, List.set_cons_zero, List.set_cons_succ]
        refine wpAnyH_done (by kernel_rfl) ?_ _
        go_wp2
        go_ret2
        have hl := HK.out
        have e1 : len3I L P = S := by unfold len3I; rw [if_pos (fun t ht => absurd ht (by omega)), show P.length - 1 = 0 from by omega, HZ.out]; rfl
        have e2 : len3B N L P = false := by unfold len3B; rw [decide_eq_false (fun h => by have := h.2.1; omega)]
        exact ⟨by rw [e1, e2]; rfl, hbw.trans_ (by repeat' (first | exact Bl.refl _ | with_reducible assumption | with_reducible refine Bl.drew_ ?_ | with_reducible refine Bl.drewN_ ?_ _ | with_reducible refine Bl.alloc_ ?_ _ | with_reducible refine Bl.trans_ ?_ (by assumption) | with_reducible refine Bl.trans_ ?_ (And.left (by assumption))))⟩

end Go.Proofs.Ytdbjcojlcddhdaa

set_option linter.unusedSimpArgs false
set_option linter.unusedVariables false
namespace Go.Proofs.Ytdbjcojlcddhdaa
open Go.RowKit

/-- A piece of a list: from place i to place k. -/
def pieceL (P : List Int) (i k : Nat) : List Int := (P.drop i).take (k + 1 - i)
theorem pieceL_len {P : List Int} {i k : Nat} (hi : i ≤ k) (hk : k < P.length) : (pieceL P i k).length = k + 1 - i := by
  unfold pieceL
  rw [List.length_take, List.length_drop]
  omega
theorem pieceL_at {P : List Int} {i k j : Nat} (hi : i ≤ k) (hk : k < P.length) (hj : j < k + 1 - i) : (pieceL P i k).getD j 0 = P[i + j]'(by omega) := by
  unfold pieceL
  rw [List.getD_eq_getElem?_getD, List.getElem?_take, if_pos hj, List.getElem?_drop, List.getElem?_eq_getElem (by omega)]
  rfl
theorem Way.short {N t v : Int} {L : List Arc3} {D P : List Int} (h : Way N L D t v P) (hN : N ≤ 24) (ht : 0 ≤ t ∧ t < N) (hz : 0 ≤ dAt D t) : P.length ≤ 24 := by
  have hn := h.nodes ht hz
  have h1 : (P.map Int.toNat).Nodup := by
    rw [List.Nodup, List.pairwise_map, List.pairwise_iff_getElem]
    intro i j hi hj hij
    have := h.nodup i j hij hj
    have a := (hn _ (List.getElem_mem hi)).1
    have b := (hn _ (List.getElem_mem hj)).1
    omega
  have h2 := nodup_len 24 _ h1 fun n hm => by
    obtain ⟨x, hx, rfl⟩ := List.mem_map.1 hm
    have := (hn x hx).1
    omega
  simpa using h2
section
variable {N s t : Int} {L : List Arc3} {E : List Int} {P : List Int}
/-- Along the path the weights are what falls. -/
theorem Way.weight (ho : okB N L = true) {v : Int} (h : Way N L E t v P) (i : Nat) (hi : i + 1 < P.length) : wtL (P[i]'(by omega)) P[i + 1] L = dAt E (P[i]'(by omega)) - dAt E P[i + 1] ∧ 0 < wtL (P[i]'(by omega)) P[i + 1] L := by
  obtain ⟨a, -, haL, h1, h2, h3, h4⟩ := h.step i hi
  have hw := wtL_mem (okB_elim ho).2.2.2.2 haL
  rw [h1, h2] at hw
  rw [hw]
  omega
theorem Way.sum (ho : okB N L = true) {v : Int} (h : Way N L E t v P) (i k : Nat) (hi : i ≤ k) (hk : k < P.length) : ∀ m : Nat, ∀ (hm : m ≤ k - i), sumW L (pieceL P i k) m = dAt E (P[i]'(by omega)) - dAt E (P[i + m]'(by omega))
  | 0, _ => by simp [sumW]
  | m + 1, hm => by
    have ih := h.sum ho i k hi hk m (by omega)
    have e : stepW L (pieceL P i k) m = wtL (P[i + m]'(by omega)) (P[i + m + 1]'(by omega)) L := by
      unfold stepW
      rw [pieceL_at hi hk (by omega), pieceL_at hi hk (by omega)]
      rfl
    have hw := (h.weight ho (i + m) (by omega)).1
    show sumW L (pieceL P i k) m + stepW L (pieceL P i k) m = _
    rw [ih, e, hw]
    have e2 : P[i + m + 1]'(by omega) = P[i + (m + 1)]'(by omega) := rfl
    rw [e2]
    omega
/-- From a node of the path to a later one it is as far as falls between them. -/
theorem Way.between (ho : okB N L = true) (ht : 0 ≤ t ∧ t < N) (hE : IsDist N (revL L) t E) {v : Int} (h : Way N L E t v P) (i k : Nat) (hi : i ≤ k) (hk : k < P.length) :
    distOfI N L (P[i]'(by omega)) P[k] = dAt E (P[i]'(by omega)) - dAt E P[k] := by
  have hz : 0 ≤ dAt E t := by rw [hE.start]; omega
  obtain ⟨hx, hx1, -⟩ := h.nodes ht hz _ (List.getElem_mem (show i < P.length by omega))
  obtain ⟨hy, hy1, -⟩ := h.nodes ht hz _ (List.getElem_mem hk)
  have hD := distL_is (s := P[i]'(by omega)) (arcsIn_of_ok ho) (okB_elim ho).2.1 hx.1 hx.2
  have up : ∀ m : Nat, ∀ (hm : i + m < P.length), 0 ≤ dAt (distL N L (P[i]'(by omega))) P[i + m] ∧ dAt (distL N L (P[i]'(by omega))) P[i + m] ≤ dAt E (P[i]'(by omega)) - dAt E P[i + m] := by
    intro m
    induction m with
    | zero =>
      intro hm
      have := hD.start
      simp only [Nat.add_zero]
      omega
    | succ m ih =>
      intro hm
      obtain ⟨h1, h2⟩ := ih (by omega)
      obtain ⟨a, -, haL, e1, e2, e3, e4⟩ := h.step (i + m) hm
      have := hD.arc a haL (by rw [e1]; exact h1)
      rw [e1, e2] at this
      have e5 : P[i + m + 1]'(by omega) = P[i + (m + 1)]'(by omega) := rfl
      rw [e5] at this e3
      omega
  obtain ⟨u1, u2⟩ := up (k - i) (by omega)
  have ek : P[i + (k - i)]'(by omega) = P[k] := by congr 1; omega
  rw [ek] at u1 u2
  have low := IsDist.tri ho hD hE _ P[k] hy.1 hy.2 rfl hy1 u1
  have tur := IsDist.turned ho hx ht hD hE
  rw [distOfI_of ho hx hy]
  omega
end

/-- A piece of the first path is a path, as long as it is far. -/
theorem piece_path {N s t : Int} {L : List Arc3} (hl : 0 < (pathL N L s t).length) (i k : Nat) (hi : i ≤ k) (hk : k < (pathL N L s t).length) :
    pathB N L (pieceL (pathL N L s t) i k) = true ∧ lenI N L (pieceL (pathL N L s t) i k) = distOfI N L ((pathL N L s t)[i]'(by omega)) (pathL N L s t)[k] := by
  have hcc : has2 N L s t = true ∧ 0 ≤ dAt (distL N (revL L) t) s := by
    unfold pathL at hl
    split at hl
    · rename_i hc
      rw [Bool.and_eq_true] at hc
      exact ⟨hc.1, by simpa using hc.2⟩
    · simp at hl
  obtain ⟨hh, hd⟩ := hcc
  obtain ⟨ho, hs, ht⟩ := has2_of hh
  have hE := distL_is (s := t) (arcsIn_of_ok (revL_ok ho)) (okB_elim ho).2.1 ht.1 ht.2
  have hw := way_path hh hd
  have hz : 0 ≤ dAt (distL N (revL L) t) t := by rw [hE.start]; omega
  have hsh := hw.short (okB_elim ho).2.1 ht hz
  have hplen := pieceL_len hi hk
  have hb : pathB N L (pieceL (pathL N L s t) i k) = true := by
    refine pathB_yes ho (by omega) (by omega) ?_ (fun j hj => ?_)
    · rw [pieceL_at hi hk (by omega)]
      exact (hw.nodes ht hz _ (List.getElem_mem _)).1
    · rw [hplen] at hj
      have := (hw.weight ho (i + j) (by omega)).2
      unfold stepW
      rw [pieceL_at hi hk (by omega), pieceL_at hi hk (by omega)]
      have e : (pathL N L s t)[i + (j + 1)]'(by omega) = (pathL N L s t)[i + j + 1]'(by omega) := rfl
      rw [e]
      omega
  refine ⟨hb, ?_⟩
  rw [lenI_yes hb, hplen, hw.sum ho i k hi hk (k + 1 - i - 1) (by omega), hw.between ho ht hE i k hi hk]
  congr 2
  congr 1
  omega

end Go.Proofs.Ytdbjcojlcddhdaa

set_option linter.unusedSimpArgs false
set_option linter.unusedVariables false
namespace Go.Proofs.Ytdbjcojlcddhdaa
open Go.RowKit

/-- Where there is a weight there is an arc. -/
theorem wtL_ne {u v : Int} : ∀ {L : List Arc3}, wtL u v L ≠ 0 → ∃ a ∈ L, a.1 = u ∧ a.2.1 = v
  | [], h => absurd rfl h
  | a :: l, h => by
    unfold wtL at h
    split at h
    · rename_i he
      have : a.1 = u ∧ a.2.1 = v := by simpa [isEnds] using he
      exact ⟨a, List.mem_cons_self .., this⟩
    · obtain ⟨b, hb, e⟩ := wtL_ne h
      exact ⟨b, List.mem_cons_of_mem _ hb, e⟩
theorem wtL_back {N u v : Int} {L : List Arc3} (ho : okB N L = true) (h : wtL u v L ≠ 0) : wtL v u (revL L) = wtL u v L := by
  obtain ⟨a, ha, h1, h2⟩ := wtL_ne h
  have hs := (okB_elim ho).2.2.2.2
  have e1 := wtL_mem hs ha
  have e2 := wtL_mem (revL_sorted hs).1 ((revL_mem hs (b := turnA a)).2 (by show turnA (turnA a) ∈ L; exact ha))
  rw [h1, h2] at e1
  have e3 : wtL v u (revL L) = a.2.2 := by
    have : wtL a.2.1 a.1 (revL L) = a.2.2 := e2
    rw [h1, h2] at this
    exact this
  rw [e1, e3]
theorem pathB_elim {N : Int} {L : List Arc3} {P : List Int} (h : pathB N L P = true) : okB N L = true ∧ 0 < P.length ∧ P.length ≤ 1000 ∧ (0 ≤ P.getD 0 0 ∧ P.getD 0 0 < N) ∧ ∀ j, j < P.length - 1 → stepW L P j ≠ 0 := by
  unfold pathB at h
  rw [Bool.and_eq_true, decide_eq_true_eq] at h
  exact h
theorem pathB_nodes {N : Int} {L : List Arc3} {P : List Int} (h : pathB N L P = true) (j : Nat) (hj : j < P.length) : 0 ≤ P.getD j 0 ∧ P.getD j 0 < N := by
  obtain ⟨ho, h0, h1, h2, h3⟩ := pathB_elim h
  cases j with
  | zero => exact h2
  | succ j =>
    obtain ⟨a, ha, e1, e2⟩ := wtL_ne (h3 j (by omega))
    have := arcsIn_of_ok ho a ha
    rw [e2] at this
    omega
theorem pieceL_step {L : List Arc3} {P : List Int} {i k m : Nat} (hi : i ≤ k) (hk : k < P.length) (hm : m < k - i) : stepW L (pieceL P i k) m = stepW L P (i + m) := by
  unfold stepW
  rw [pieceL_at hi hk (by omega), pieceL_at hi hk (by omega)]
  rw [getD_at (show i + m < P.length by omega), getD_at (show i + m + 1 < P.length by omega)]
  rfl
theorem pieceL_sum {L : List Arc3} {P : List Int} {i k : Nat} (hi : i ≤ k) (hk : k < P.length) : ∀ m : Nat, m ≤ k - i → sumW L (pieceL P i k) m = sumW L P (i + m) - sumW L P i
  | 0, _ => by show (0 : Int) = _; rw [Nat.add_zero]; omega
  | m + 1, hm => by
    have ih := pieceL_sum (L := L) hi hk m (by omega)
    have e := pieceL_step (L := L) hi hk (show m < k - i by omega)
    show sumW L (pieceL P i k) m + stepW L (pieceL P i k) m = _
    have e2 : sumW L P (i + (m + 1)) = sumW L P (i + m) + stepW L P (i + m) := rfl
    rw [ih, e, e2]
    omega
/-- A piece of a path is a path; its length. -/
theorem piece_any {N : Int} {L : List Arc3} {P : List Int} (h : pathB N L P = true) (i k : Nat) (hi : i ≤ k) (hk : k < P.length) :
    pathB N L (pieceL P i k) = true ∧ lenI N L (pieceL P i k) = sumW L P k - sumW L P i := by
  obtain ⟨ho, h0, h1, h2, h3⟩ := pathB_elim h
  have hl := pieceL_len hi hk
  have hp : pathB N L (pieceL P i k) = true := by
    refine pathB_yes ho (by omega) (by omega) ?_ fun j hj => ?_
    · rw [pieceL_at hi hk (by omega)]
      have := pathB_nodes h i (by omega)
      rw [getD_at (show i < P.length by omega)] at this
      exact this
    · rw [pieceL_step hi hk (by omega)]
      exact h3 _ (by omega)
  refine ⟨hp, ?_⟩
  rw [lenI_yes hp, hl, pieceL_sum hi hk _ (by omega)]
  rw [show i + (k + 1 - i - 1) = k from by omega]
theorem pieces_add {N : Int} {L : List Arc3} {P : List Int} (h : pathB N L P = true) (i : Nat) (hi : i < P.length) :
    pathB N L (pieceL P 0 i) = true ∧ pathB N L (pieceL P i (P.length - 1)) = true ∧ lenI N L (pieceL P 0 i) + lenI N L (pieceL P i (P.length - 1)) = lenI N L P := by
  obtain ⟨a1, a2⟩ := piece_any h 0 i (by omega) hi
  obtain ⟨b1, b2⟩ := piece_any h i (P.length - 1) (by omega) (by omega)
  refine ⟨a1, b1, ?_⟩
  rw [a2, b2, lenI_yes h]
  have : sumW L P 0 = 0 := rfl
  omega
theorem rev_step {L : List Arc3} {P : List Int} {N : Int} (h : pathB N L P = true) {m : Nat} (hm : m < P.length - 1) : stepW (revL L) P.reverse m = stepW L P (P.length - 2 - m) := by
  obtain ⟨ho, h0, h1, h2, h3⟩ := pathB_elim h
  have h4 := h3 (P.length - 2 - m) (by omega)
  have e := wtL_back ho h4
  have g1 : P.reverse.getD m 0 = P.getD (P.length - 2 - m + 1) 0 := by
    rw [getD_at (by rw [List.length_reverse]; omega), getD_at (by omega), List.getElem_reverse]
    congr 1
    omega
  have g2 : P.reverse.getD (m + 1) 0 = P.getD (P.length - 2 - m) 0 := by
    rw [getD_at (by rw [List.length_reverse]; omega), getD_at (by omega), List.getElem_reverse]
    congr 1
    omega
  unfold stepW
  rw [g1, g2]
  exact e
theorem rev_sum {L : List Arc3} {P : List Int} {N : Int} (h : pathB N L P = true) : ∀ m : Nat, m ≤ P.length - 1 → sumW (revL L) P.reverse m = sumW L P (P.length - 1) - sumW L P (P.length - 1 - m)
  | 0, _ => by show (0 : Int) = _; rw [Nat.sub_zero]; omega
  | m + 1, hm => by
    have ih := rev_sum h m (by omega)
    show sumW (revL L) P.reverse m + stepW (revL L) P.reverse m = _
    rw [ih, rev_step h (by omega)]
    have e2 : sumW L P (P.length - 2 - m + 1) = sumW L P (P.length - 2 - m) + stepW L P (P.length - 2 - m) := rfl
    rw [show P.length - 2 - m + 1 = P.length - 1 - m from by omega] at e2
    rw [show P.length - 1 - (m + 1) = P.length - 2 - m from by omega]
    omega
/-- Gone backwards in the turned graph a path is a path, as long as it was. -/
theorem path_back {N : Int} {L : List Arc3} {P : List Int} (h : pathB N L P = true) : pathB N (revL L) P.reverse = true ∧ lenI N (revL L) P.reverse = lenI N L P := by
  obtain ⟨ho, h0, h1, h2, h3⟩ := pathB_elim h
  have hp : pathB N (revL L) P.reverse = true := by
    refine pathB_yes (revL_ok ho) (by rw [List.length_reverse]; exact h0) (by rw [List.length_reverse]; exact h1) ?_ fun j hj => ?_
    · rw [getD_at (by rw [List.length_reverse]; exact h0), List.getElem_reverse]
      have := pathB_nodes h (P.length - 1) (by omega)
      rw [getD_at (by omega)] at this
      simpa using this
    · rw [List.length_reverse] at hj
      rw [rev_step h hj]
      exact h3 _ (by omega)
  refine ⟨hp, ?_⟩
  rw [lenI_yes hp, lenI_yes h, List.length_reverse, rev_sum h _ (Nat.le_refl _), Nat.sub_self]
  have : sumW L P 0 = 0 := rfl
  omega

end Go.Proofs.Ytdbjcojlcddhdaa

set_option linter.unusedSimpArgs false
set_option linter.unusedVariables false
namespace Go.Proofs.Ytdbjcojlcddhdaa
open Go.RowKit

theorem len3B_eq {N : Int} {L : List Arc3} {P : List Int} (ho : okB N L = true) (h : P.length ≤ 1000) : len3B N L P = pathB N L P := by
  unfold len3B pathB
  rw [ho, Bool.true_and, Bool.eq_iff_iff]
  simp only [decide_eq_true_eq]
  exact ⟨fun ⟨a, b, c⟩ => ⟨b, h, c, a⟩, fun ⟨a, b, c, d⟩ => ⟨d, a, c⟩⟩
theorem len3I_eq {N : Int} {L : List Arc3} {P : List Int} (h : pathB N L P = true) : len3I L P = lenI N L P := by
  rw [lenI_yes h]
  unfold pathB at h
  rw [Bool.and_eq_true, decide_eq_true_eq] at h
  unfold len3I
  rw [if_pos h.2.2.2.2]

set_option maxRecDepth 100000 in
set_option maxHeartbeats 2000000 in
theorem specLengthOf_any (N : Int) (A : Option Addr) (n c : Nat) (L : List Arc3) (hn : n = L.length) (A2 : Option Addr) (k c2 : Nat) (P : List Int) (hk : k = P.length) (w : World) (hm : n ≤ 1048576) (hkm : k ≤ 1048576) (H1 : ArcsAt w w.heap.size A L) (H2 : IntsAt w w.heap.size A2 P) :
    Calls Try.prog 32 #[.agg #[.int .i64 N, .slice A n c], .slice A2 k c2] w (LenLeft N L P w) := by
  have K1 := Lib.hid H1
  have K2 := Lib.hid H2
  have HN := Lib.hid hn
  have HK := Lib.hid hk
  clear H1 H2 hn hk
  cases ho : okB N L with
  | false =>
    have HO := Lib.hid ho
    clear ho
    go_enter Try.func32, Try.ntmps32
    go_wp2_with fail
    refine (specOk_any N A n c L HN.out _ (by omega) (K1.out.bl (by repeat' (first | exact Bl.refl _ | with_reducible assumption | with_reducible refine Bl.drew_ ?_ | with_reducible refine Bl.drewN_ ?_ _ | with_reducible refine Bl.alloc_ ?_ _ | with_reducible refine Bl.trans_ ?_ (by assumption) | with_reducible refine Bl.trans_ ?_ (And.left (by assumption)))))).mono ?_
    rintro e w1 ⟨rfl, hb1⟩
    rw [HO.out]
    go_wp2
    go_ret2
    exact LenLeft.no (pathB_ok HO.out) ((Bl.alloc_ (Bl.refl w) _).trans_ hb1)
  | true =>
    have HO := Lib.hid ho
    clear ho
    by_cases h1 : 1000 < k
    · have h1' : (1000 : Int) < (k : Int) := by omega
      go_enter Try.func32, Try.ntmps32
      go_wp2_with fail
      refine (specOk_any N A n c L HN.out _ (by omega) (K1.out.bl (by repeat' (first | exact Bl.refl _ | with_reducible assumption | with_reducible refine Bl.drew_ ?_ | with_reducible refine Bl.drewN_ ?_ _ | with_reducible refine Bl.alloc_ ?_ _ | with_reducible refine Bl.trans_ ?_ (by assumption) | with_reducible refine Bl.trans_ ?_ (And.left (by assumption)))))).mono ?_
      rintro e w1 ⟨rfl, hb1⟩
      rw [HO.out]
      go_wp2
      go_ret2
      exact LenLeft.no (pathB_long (by have := HK.out; omega)) ((Bl.alloc_ (Bl.refl w) _).trans_ hb1)
    · have h1' : decide ((1000 : Int) < (k : Int)) = false := by simp; omega
      go_enter Try.func32, Try.ntmps32
      go_wp2_with fail
      refine (specOk_any N A n c L HN.out _ (by omega) (K1.out.bl (by repeat' (first | exact Bl.refl _ | with_reducible assumption | with_reducible refine Bl.drew_ ?_ | with_reducible refine Bl.drewN_ ?_ _ | with_reducible refine Bl.alloc_ ?_ _ | with_reducible refine Bl.trans_ ?_ (by assumption) | with_reducible refine Bl.trans_ ?_ (And.left (by assumption)))))).mono ?_
      rintro e w1 ⟨rfl, hb1⟩
      rw [HO.out]
      obtain ⟨q0, q1⟩ := box2 hb1
      have hbw : Bl w w1 := (Bl.alloc_ (Bl.refl w) _).trans_ hb1
      go_wp2_with fail
      refine (l3Length_any N A n c L HN.out HO.out A2 k c2 P HK.out _ hm (by omega) (K1.out.bl hbw) (K2.out.bl hbw)).mono ?_
      rintro e w2 ⟨rfl, hb2⟩
      rw [len3B_eq HO.out (by have := HK.out; omega)]
      cases hp : pathB N L P with
      | false =>
        have HP := Lib.hid hp
        clear hp
        go_wp2
        go_ret2
        exact LenLeft.no HP.out (hbw.trans_ hb2)
      | true =>
        have HP := Lib.hid hp
        clear hp
        rw [len3I_eq HP.out]
        go_wp2
        go_ret2
        exact ⟨by rw [HP.out]; rfl, hbw.trans_ hb2⟩

set_option maxRecDepth 100000 in
set_option maxHeartbeats 4000000 in
theorem implLengthOf_any (N : Int) (A : Option Addr) (n c : Nat) (L : List Arc3) (hn : n = L.length) (A2 : Option Addr) (k c2 : Nat) (P : List Int) (hk : k = P.length) (w : World) (hm : n ≤ 1048576) (hkm : k ≤ 1048576) (hkc : k ≤ c2) (H1 : ArcsAt w w.heap.size A L) (H2 : IntsAt w w.heap.size A2 P) :
    Calls Try.prog 31 #[.agg #[.int .i64 N, .slice A n c], .slice A2 k c2] w (LenLeft N L P w) := by
  have K1 := Lib.hid H1
  have K2 := Lib.hid H2
  have HN := Lib.hid hn
  have HK := Lib.hid hk
  clear H1 H2 hn hk
  by_cases h0 : k = 0
  · subst h0
    have b0 : decide ((1000 : Int) < ((0 : Nat) : Int)) = false := by simp
    go_enter Try.func31, Try.ntmps31
    go_wp2_with fail
    refine wp_region_held_drew (S := fun wx => Bl (w.alloc (.cells #[.int .i64 N, .slice A n c] 26)) wx) (by kernel_rfl) ?_ (fun hHeld => ?_)
    · (exact (by repeat' (first | exact Bl.refl _ | with_reducible assumption | with_reducible refine Bl.drew_ ?_ | with_reducible refine Bl.drewN_ ?_ _ | with_reducible refine Bl.alloc_ ?_ _ | with_reducible refine Bl.trans_ ?_ (by assumption) | with_reducible refine Bl.trans_ ?_ (And.left (by assumption)))))
    refine wpAnyH_take (i := 0) (v := ?_) rfl (by kernel_rfl) (by kernel_rfl) (by kernel_rfl) (fun _ _ _ h => h) (Or.inl ⟨by kernel_rfl, ?_⟩) (by assumption) ?_
    rotate_left
    · (intro wx hSw; (try dsimp only at hSw); go_simp; try (with_reducible rfl))
    try simp only [Act.put, List.getElem_toArray, List.getElem_cons_succ, List.getElem_cons_zero, List.setIfInBounds_toArray, List.set_cons_zero, List.set_cons_succ]
    refine wpAnyH_ready (rs := [1]) (by kernel_rfl) (by simp) ?_
    refine AllReadyH.cons rfl (fun K hK => ?_) AllReadyH.nil
    go_simp
    refine hK.out _ _ ?_ (fun hHeld => ?_)
    · (exact (by repeat' (first | exact Bl.refl _ | with_reducible assumption | with_reducible refine Bl.drew_ ?_ | with_reducible refine Bl.drewN_ ?_ _ | with_reducible refine Bl.alloc_ ?_ _ | with_reducible refine Bl.trans_ ?_ (by assumption) | with_reducible refine Bl.trans_ ?_ (And.left (by assumption)))))
    clear hK K
    try simp only [Act.put, List.getElem_toArray, List.getElem_cons_succ, List.getElem_cons_zero, List.setIfInBounds_toArray, List.set_cons_zero, List.set_cons_succ]
    refine wpAnyH_take (i := 2) (v := ?_) rfl (by kernel_rfl) (by kernel_rfl) (by kernel_rfl) (fun _ _ _ h => h) (Or.inl ⟨by kernel_rfl, ?_⟩) (by assumption) ?_
    rotate_left
    · (intro wx hSw; (try dsimp only at hSw); go_simp; try (with_reducible rfl))
    try simp only [Act.put, List.getElem_toArray, List.getElem_cons_succ, List.getElem_cons_zero, List.setIfInBounds_toArray, List.set_cons_zero, List.set_cons_succ]
    refine wpAnyH_take (i := 3) (v := ?_) rfl (by kernel_rfl) (by kernel_rfl) (by kernel_rfl) (fun _ _ _ h => h) (Or.inl ⟨by kernel_rfl, ?_⟩) (by assumption) ?_
    rotate_left
    · (intro wx hSw; (try dsimp only at hSw); go_simp; try (with_reducible rfl))
    try simp only [Act.put, List.getElem_toArray, List.getElem_cons_succ, List.getElem_cons_zero, List.setIfInBounds_toArray, List.set_cons_zero, List.set_cons_succ]
    refine wpAnyH_take (i := 4) (v := undef) rfl (by kernel_rfl) (by kernel_rfl) (by kernel_rfl) (fun _ _ _ h => h) (Or.inr ⟨by kernel_rfl, rfl⟩) (by assumption) ?_
    try simp only [Act.put, List.getElem_toArray, List.getElem_cons_succ, List.getElem_cons_zero, List.setIfInBounds_toArray, List.set_cons_zero, List.set_cons_succ]
    refine wpAnyH_ready (rs := [5]) (by kernel_rfl) (by simp) ?_
    refine AllReadyH.cons rfl (fun K hK => ?_) AllReadyH.nil
    go_simp
    refine hK.out _ _ ?_ (fun hHeld => ?_)
    · (exact (by repeat' (first | exact Bl.refl _ | with_reducible assumption | with_reducible refine Bl.drew_ ?_ | with_reducible refine Bl.drewN_ ?_ _ | with_reducible refine Bl.alloc_ ?_ _ | with_reducible refine Bl.trans_ ?_ (by assumption) | with_reducible refine Bl.trans_ ?_ (And.left (by assumption)))))
    clear hK K
    try simp only [Act.put, List.getElem_toArray, List.getElem_cons_succ, List.getElem_cons_zero, List.setIfInBounds_toArray, List.set_cons_zero, List.set_cons_succ]
    refine wpAnyH_take (i := 6) (v := undef) rfl (by kernel_rfl) (by kernel_rfl) (by kernel_rfl) (fun _ _ _ h => h) (Or.inr ⟨by kernel_rfl, rfl⟩) (by assumption) ?_
    try simp only [Act.put, List.getElem_toArray, List.getElem_cons_succ, List.getElem_cons_zero, List.setIfInBounds_toArray, List.set_cons_zero, List.set_cons_succ]
    refine wpAnyH_take (i := 7) (v := ?_) rfl (by kernel_rfl) (by kernel_rfl) (by kernel_rfl) (fun _ _ _ h => h) (Or.inl ⟨by kernel_rfl, ?_⟩) (by assumption) ?_
    rotate_left
    · (intro wx hSw; (try dsimp only at hSw); go_simp; try (with_reducible rfl))
    try simp only [Act.put, List.getElem_toArray, List.getElem_cons_succ, List.getElem_cons_zero, List.setIfInBounds_toArray, List.set_cons_zero, List.set_cons_succ]
    refine wpAnyH_take (i := 8) (v := ?_) rfl (by kernel_rfl) (by kernel_rfl) (by kernel_rfl) (fun _ _ _ h => h) (Or.inl ⟨by kernel_rfl, ?_⟩) (by assumption) ?_
    rotate_left
    · (intro wx hSw; (try dsimp only at hSw); go_simp; try (with_reducible rfl))
    try simp only [Act.put, List.getElem_toArray, List.getElem_cons_succ, List.getElem_cons_zero, List.setIfInBounds_toArray, List.set_cons_zero, List.set_cons_succ]
    refine wpAnyH_take (i := 9) (v := undef) rfl (by kernel_rfl) (by kernel_rfl) (by kernel_rfl) (fun _ _ _ h => h) (Or.inr ⟨by kernel_rfl, rfl⟩) (by assumption) ?_
    try simp only [Act.put, List.getElem_toArray, List.getElem_cons_succ, List.getElem_cons_zero, List.setIfInBounds_toArray, List.set_cons_zero, List.set_cons_succ]
    refine wpAnyH_take (i := 10) (v := undef) rfl (by kernel_rfl) (by kernel_rfl) (by kernel_rfl) (fun _ _ _ h => h) (Or.inr ⟨by kernel_rfl, rfl⟩) (by assumption) ?_
    try simp only [Act.put, List.getElem_toArray, List.getElem_cons_succ, List.getElem_cons_zero, List.setIfInBounds_toArray, List.set_cons_zero, List.set_cons_succ]
    refine wpAnyH_take (i := 11) (v := undef) rfl (by kernel_rfl) (by kernel_rfl) (by kernel_rfl) (fun _ _ _ h => h) (Or.inr ⟨by kernel_rfl, rfl⟩) (by assumption) ?_
    try simp only [Act.put, List.getElem_toArray, List.getElem_cons_succ, List.getElem_cons_zero, List.setIfInBounds_toArray, List.set_cons_zero, List.set_cons_succ]
    refine wpAnyH_take (i := 12) (v := undef) rfl (by kernel_rfl) (by kernel_rfl) (by kernel_rfl) (fun _ _ _ h => h) (Or.inr ⟨by kernel_rfl, rfl⟩) (by assumption) ?_
    try simp only [Act.put, List.getElem_toArray, List.getElem_cons_succ, List.getElem_cons_zero, List.setIfInBounds_toArray, List.set_cons_zero, List.set_cons_succ]
    refine wpAnyH_take (i := 13) (v := undef) rfl (by kernel_rfl) (by kernel_rfl) (by kernel_rfl) (fun _ _ _ h => h) (Or.inr ⟨by kernel_rfl, rfl⟩) (by assumption) ?_
    try simp only [Act.put, List.getElem_toArray, List.getElem_cons_succ, List.getElem_cons_zero, List.setIfInBounds_toArray, List.set_cons_zero, List.set_cons_succ]
    refine wpAnyH_ready (rs := [14]) (by kernel_rfl) (by simp) ?_
    refine AllReadyH.cons rfl (fun K hK => ?_) AllReadyH.nil
    go_simp
    refine hK.out _ _ ?_ (fun hHeld => ?_)
    · (exact (by repeat' (first | exact Bl.refl _ | with_reducible assumption | with_reducible refine Bl.drew_ ?_ | with_reducible refine Bl.drewN_ ?_ _ | with_reducible refine Bl.alloc_ ?_ _ | with_reducible refine Bl.trans_ ?_ (by assumption) | with_reducible refine Bl.trans_ ?_ (And.left (by assumption)))))
    clear hK K
    try simp only [Act.put, List.getElem_toArray, List.getElem_cons_succ, List.getElem_cons_zero, List.setIfInBounds_toArray, List.set_cons_zero, List.set_cons_succ]
    refine wpAnyH_take (i := 15) (v := undef) rfl (by kernel_rfl) (by kernel_rfl) (by kernel_rfl) (fun _ _ _ h => h) (Or.inr ⟨by kernel_rfl, rfl⟩) (by assumption) ?_
    try simp only [Act.put, List.getElem_toArray, List.getElem_cons_succ, List.getElem_cons_zero, List.setIfInBounds_toArray, List.set_cons_zero, List.set_cons_succ]
    refine wpAnyH_take (i := 16) (v := ?_) rfl (by kernel_rfl) (by kernel_rfl) (by kernel_rfl) (fun _ _ _ h => h) (Or.inl ⟨by kernel_rfl, ?_⟩) (by assumption) ?_
    rotate_left
    · (intro wx hSw; (try dsimp only at hSw); go_simp; try (with_reducible rfl))
    try simp only [Act.put, List.getElem_toArray, List.getElem_cons_succ, List.getElem_cons_zero, List.setIfInBounds_toArray, List.set_cons_zero, List.set_cons_succ]
    refine wpAnyH_done (by kernel_rfl) ?_ _
    go_wp2
    go_ret2
    exact LenLeft.no (pathB_empty (by have := HK.out; omega)) ((Bl.alloc_ (Bl.refl w) _).trans_ (by repeat' (first | exact Bl.refl _ | with_reducible assumption | with_reducible refine Bl.drew_ ?_ | with_reducible refine Bl.drewN_ ?_ _ | with_reducible refine Bl.alloc_ ?_ _ | with_reducible refine Bl.trans_ ?_ (by assumption) | with_reducible refine Bl.trans_ ?_ (And.left (by assumption)))))
  · have b0 : ((k : Int) == 0) = false := by simp; omega
    by_cases h1 : 1000 < k
    · have b1 : decide ((1000 : Int) < (k : Int)) = true := by simp; omega
      go_enter Try.func31, Try.ntmps31
      go_wp2_with fail
      refine wp_region_held_drew (S := fun wx => Bl (w.alloc (.cells #[.int .i64 N, .slice A n c] 26)) wx) (by kernel_rfl) ?_ (fun hHeld => ?_)
      · (exact (by repeat' (first | exact Bl.refl _ | with_reducible assumption | with_reducible refine Bl.drew_ ?_ | with_reducible refine Bl.drewN_ ?_ _ | with_reducible refine Bl.alloc_ ?_ _ | with_reducible refine Bl.trans_ ?_ (by assumption) | with_reducible refine Bl.trans_ ?_ (And.left (by assumption)))))
      refine wpAnyH_take (i := 0) (v := ?_) rfl (by kernel_rfl) (by kernel_rfl) (by kernel_rfl) (fun _ _ _ h => h) (Or.inl ⟨by kernel_rfl, ?_⟩) (by assumption) ?_
      rotate_left
      · (intro wx hSw; (try dsimp only at hSw); go_simp; try (with_reducible rfl))
      try simp only [Act.put, List.getElem_toArray, List.getElem_cons_succ, List.getElem_cons_zero, List.setIfInBounds_toArray, List.set_cons_zero, List.set_cons_succ]
      refine wpAnyH_ready (rs := [1]) (by kernel_rfl) (by simp) ?_
      refine AllReadyH.cons rfl (fun K hK => ?_) AllReadyH.nil
      go_simp
      refine hK.out _ _ ?_ (fun hHeld => ?_)
      · (exact (by repeat' (first | exact Bl.refl _ | with_reducible assumption | with_reducible refine Bl.drew_ ?_ | with_reducible refine Bl.drewN_ ?_ _ | with_reducible refine Bl.alloc_ ?_ _ | with_reducible refine Bl.trans_ ?_ (by assumption) | with_reducible refine Bl.trans_ ?_ (And.left (by assumption)))))
      clear hK K
      try simp only [Act.put, List.getElem_toArray, List.getElem_cons_succ, List.getElem_cons_zero, List.setIfInBounds_toArray, List.set_cons_zero, List.set_cons_succ]
      refine wpAnyH_take (i := 2) (v := ?_) rfl (by kernel_rfl) (by kernel_rfl) (by kernel_rfl) (fun _ _ _ h => h) (Or.inl ⟨by kernel_rfl, ?_⟩) (by assumption) ?_
      rotate_left
      · (intro wx hSw; (try dsimp only at hSw); go_simp; try (with_reducible rfl))
      try simp only [Act.put, List.getElem_toArray, List.getElem_cons_succ, List.getElem_cons_zero, List.setIfInBounds_toArray, List.set_cons_zero, List.set_cons_succ]
      refine wpAnyH_take (i := 3) (v := ?_) rfl (by kernel_rfl) (by kernel_rfl) (by kernel_rfl) (fun _ _ _ h => h) (Or.inl ⟨by kernel_rfl, ?_⟩) (by assumption) ?_
      rotate_left
      · (intro wx hSw; (try dsimp only at hSw); go_simp; try (with_reducible rfl))
      try simp only [Act.put, List.getElem_toArray, List.getElem_cons_succ, List.getElem_cons_zero, List.setIfInBounds_toArray, List.set_cons_zero, List.set_cons_succ]
      refine wpAnyH_take (i := 4) (v := ?_) rfl (by kernel_rfl) (by kernel_rfl) (by kernel_rfl) (fun _ _ _ h => h) (Or.inl ⟨by kernel_rfl, ?_⟩) (by assumption) ?_
      rotate_left
      · (intro wx hSw; (try dsimp only at hSw); go_simp; try (with_reducible rfl))
      try simp only [Act.put, List.getElem_toArray, List.getElem_cons_succ, List.getElem_cons_zero, List.setIfInBounds_toArray, List.set_cons_zero, List.set_cons_succ]
      refine wpAnyH_ready (rs := [5]) (by kernel_rfl) (by simp) ?_
      refine AllReadyH.cons rfl (fun K hK => ?_) AllReadyH.nil
      go_simp
      refine hK.out _ _ ?_ (fun hHeld => ?_)
      · (exact (by repeat' (first | exact Bl.refl _ | with_reducible assumption | with_reducible refine Bl.drew_ ?_ | with_reducible refine Bl.drewN_ ?_ _ | with_reducible refine Bl.alloc_ ?_ _ | with_reducible refine Bl.trans_ ?_ (by assumption) | with_reducible refine Bl.trans_ ?_ (And.left (by assumption)))))
      clear hK K
      try simp only [Act.put, List.getElem_toArray, List.getElem_cons_succ, List.getElem_cons_zero, List.setIfInBounds_toArray, List.set_cons_zero, List.set_cons_succ]
      refine wpAnyH_take (i := 6) (v := ?_) rfl (by kernel_rfl) (by kernel_rfl) (by kernel_rfl) (fun _ _ _ h => h) (Or.inl ⟨by kernel_rfl, ?_⟩) (by assumption) ?_
      rotate_left
      · (intro wx hSw; (try dsimp only at hSw); go_simp; try (with_reducible rfl))
      try simp only [Act.put, List.getElem_toArray, List.getElem_cons_succ, List.getElem_cons_zero, List.setIfInBounds_toArray, List.set_cons_zero, List.set_cons_succ]
      refine wpAnyH_take (i := 7) (v := ?_) rfl (by kernel_rfl) (by kernel_rfl) (by kernel_rfl) (fun _ _ _ h => h) (Or.inl ⟨by kernel_rfl, ?_⟩) (by assumption) ?_
      rotate_left
      · (intro wx hSw; (try dsimp only at hSw); go_simp; try (with_reducible rfl))
      try simp only [Act.put, List.getElem_toArray, List.getElem_cons_succ, List.getElem_cons_zero, List.setIfInBounds_toArray, List.set_cons_zero, List.set_cons_succ]
      refine wpAnyH_take (i := 8) (v := ?_) rfl (by kernel_rfl) (by kernel_rfl) (by kernel_rfl) (fun _ _ _ h => h) (Or.inl ⟨by kernel_rfl, ?_⟩) (by assumption) ?_
      rotate_left
      · (intro wx hSw; (try dsimp only at hSw); go_simp; try (with_reducible rfl))
      try simp only [Act.put, List.getElem_toArray, List.getElem_cons_succ, List.getElem_cons_zero, List.setIfInBounds_toArray, List.set_cons_zero, List.set_cons_succ]
      refine wpAnyH_take (i := 9) (v := undef) rfl (by kernel_rfl) (by kernel_rfl) (by kernel_rfl) (fun _ _ _ h => h) (Or.inr ⟨by kernel_rfl, rfl⟩) (by assumption) ?_
      try simp only [Act.put, List.getElem_toArray, List.getElem_cons_succ, List.getElem_cons_zero, List.setIfInBounds_toArray, List.set_cons_zero, List.set_cons_succ]
      refine wpAnyH_take (i := 10) (v := undef) rfl (by kernel_rfl) (by kernel_rfl) (by kernel_rfl) (fun _ _ _ h => h) (Or.inr ⟨by kernel_rfl, rfl⟩) (by assumption) ?_
      try simp only [Act.put, List.getElem_toArray, List.getElem_cons_succ, List.getElem_cons_zero, List.setIfInBounds_toArray, List.set_cons_zero, List.set_cons_succ]
      refine wpAnyH_take (i := 11) (v := undef) rfl (by kernel_rfl) (by kernel_rfl) (by kernel_rfl) (fun _ _ _ h => h) (Or.inr ⟨by kernel_rfl, rfl⟩) (by assumption) ?_
      try simp only [Act.put, List.getElem_toArray, List.getElem_cons_succ, List.getElem_cons_zero, List.setIfInBounds_toArray, List.set_cons_zero, List.set_cons_succ]
      refine wpAnyH_take (i := 12) (v := undef) rfl (by kernel_rfl) (by kernel_rfl) (by kernel_rfl) (fun _ _ _ h => h) (Or.inr ⟨by kernel_rfl, rfl⟩) (by assumption) ?_
      try simp only [Act.put, List.getElem_toArray, List.getElem_cons_succ, List.getElem_cons_zero, List.setIfInBounds_toArray, List.set_cons_zero, List.set_cons_succ]
      refine wpAnyH_take (i := 13) (v := undef) rfl (by kernel_rfl) (by kernel_rfl) (by kernel_rfl) (fun _ _ _ h => h) (Or.inr ⟨by kernel_rfl, rfl⟩) (by assumption) ?_
      try simp only [Act.put, List.getElem_toArray, List.getElem_cons_succ, List.getElem_cons_zero, List.setIfInBounds_toArray, List.set_cons_zero, List.set_cons_succ]
      refine wpAnyH_ready (rs := [14]) (by kernel_rfl) (by simp) ?_
      refine AllReadyH.cons rfl (fun K hK => ?_) AllReadyH.nil
      go_simp
      refine hK.out _ _ ?_ (fun hHeld => ?_)
      · (exact (by repeat' (first | exact Bl.refl _ | with_reducible assumption | with_reducible refine Bl.drew_ ?_ | with_reducible refine Bl.drewN_ ?_ _ | with_reducible refine Bl.alloc_ ?_ _ | with_reducible refine Bl.trans_ ?_ (by assumption) | with_reducible refine Bl.trans_ ?_ (And.left (by assumption)))))
      clear hK K
      try simp only [Act.put, List.getElem_toArray, List.getElem_cons_succ, List.getElem_cons_zero, List.setIfInBounds_toArray, List.set_cons_zero, List.set_cons_succ]
      refine wpAnyH_take (i := 15) (v := undef) rfl (by kernel_rfl) (by kernel_rfl) (by kernel_rfl) (fun _ _ _ h => h) (Or.inr ⟨by kernel_rfl, rfl⟩) (by assumption) ?_
      try simp only [Act.put, List.getElem_toArray, List.getElem_cons_succ, List.getElem_cons_zero, List.setIfInBounds_toArray, List.set_cons_zero, List.set_cons_succ]
      refine wpAnyH_take (i := 16) (v := ?_) rfl (by kernel_rfl) (by kernel_rfl) (by kernel_rfl) (fun _ _ _ h => h) (Or.inl ⟨by kernel_rfl, ?_⟩) (by assumption) ?_
      rotate_left
      · (intro wx hSw; (try dsimp only at hSw); go_simp; try (with_reducible rfl))
      try simp only [Act.put, List.getElem_toArray, List.getElem_cons_succ, List.getElem_cons_zero, List.setIfInBounds_toArray, List.set_cons_zero, List.set_cons_succ]
      refine wpAnyH_done (by kernel_rfl) ?_ _
      go_wp2
      go_ret2
      exact LenLeft.no (pathB_long (by have := HK.out; omega)) ((Bl.alloc_ (Bl.refl w) _).trans_ (by repeat' (first | exact Bl.refl _ | with_reducible assumption | with_reducible refine Bl.drew_ ?_ | with_reducible refine Bl.drewN_ ?_ _ | with_reducible refine Bl.alloc_ ?_ _ | with_reducible refine Bl.trans_ ?_ (by assumption) | with_reducible refine Bl.trans_ ?_ (And.left (by assumption)))))
    · have b1 : decide ((1000 : Int) < (k : Int)) = false := by simp; omega
      have hkl : 0 < P.length := by have := HK.out; omega
      obtain ⟨g2, o2, rfl, hg2, hc2⟩ := K2.out.cell (by omega)
      have p1 := hc2 0 hkl
      have HC := Lib.hid hc2
      clear hc2
      have HG := Lib.hid (getD_at hkl)
      generalize P[0] = u at p1 HG
      have HSH := Lib.hid (show ∀ wx, Bl (w.alloc (.cells #[.int .i64 N, .slice A n c] 26)) wx → Bl (w.alloc (.cells #[.int .i64 N, .slice A n c] 26)) wx ∧ wx.cell? ⟨w.heap.size, 0, none⟩ = some (.int .i64 N) ∧ wx.cell? ⟨w.heap.size, 1, none⟩ = some (.slice A n c) ∧ wx.cell? ⟨g2, o2, none⟩ = some (.int .i64 u) from fun wx hb => by
        obtain ⟨b0, b1⟩ := box2 hb
        have hc := (bcell ((Bl.alloc_ (Bl.refl w) _).trans_ hb)).1
        exact ⟨hb, b0, b1, (hc _ _ hg2).trans p1⟩)
      clear p1
      have i1 : (0 : Int) < (k : Int) := by omega
      have i1n : 0 < k := by omega
      have i2 : (1 : Int) ≤ (k : Int) := by omega
      have i3 : (k : Int) ≤ (c2 : Int) := by omega
      cases hh : has1 N L u with
      | false =>
        have HH := Lib.hid hh
        clear hh
        go_enter Try.func31, Try.ntmps31
        go_wp2_with fail
        refine wp_region_held_drew (S := fun wx => Bl (w.alloc (.cells #[.int .i64 N, .slice A n c] 26)) wx ∧ wx.cell? ⟨w.heap.size, 0, none⟩ = some (.int .i64 N) ∧ wx.cell? ⟨w.heap.size, 1, none⟩ = some (.slice A n c) ∧ wx.cell? ⟨g2, o2, none⟩ = some (.int .i64 u)) (by kernel_rfl) ?_ (fun hHeld => ?_)
        · (exact HSH.out _ (by repeat' (first | exact Bl.refl _ | with_reducible assumption | with_reducible refine Bl.drew_ ?_ | with_reducible refine Bl.drewN_ ?_ _ | with_reducible refine Bl.alloc_ ?_ _ | with_reducible refine Bl.trans_ ?_ (by assumption) | with_reducible refine Bl.trans_ ?_ (And.left (by assumption)))))
        refine wpAnyH_take (i := 0) (v := ?_) rfl (by kernel_rfl) (by kernel_rfl) (by kernel_rfl) (fun _ _ _ h => h) (Or.inl ⟨by kernel_rfl, ?_⟩) (by assumption) ?_
        rotate_left
        · (intro wx hSw; (try dsimp only at hSw); go_simp; try (with_reducible rfl))
        try simp only [Act.put, List.getElem_toArray, List.getElem_cons_succ, List.getElem_cons_zero, List.setIfInBounds_toArray, List.set_cons_zero, List.set_cons_succ]
        refine wpAnyH_ready (rs := [1]) (by kernel_rfl) (by simp) ?_
        refine AllReadyH.cons rfl (fun K hK => ?_) AllReadyH.nil
        go_simp
        refine hK.out _ _ ?_ (fun hHeld => ?_)
        · (exact HSH.out _ (by repeat' (first | exact Bl.refl _ | with_reducible assumption | with_reducible refine Bl.drew_ ?_ | with_reducible refine Bl.drewN_ ?_ _ | with_reducible refine Bl.alloc_ ?_ _ | with_reducible refine Bl.trans_ ?_ (by assumption) | with_reducible refine Bl.trans_ ?_ (And.left (by assumption)))))
        clear hK K
        try simp only [Act.put, List.getElem_toArray, List.getElem_cons_succ, List.getElem_cons_zero, List.setIfInBounds_toArray, List.set_cons_zero, List.set_cons_succ]
        refine wpAnyH_take (i := 2) (v := ?_) rfl (by kernel_rfl) (by kernel_rfl) (by kernel_rfl) (fun _ _ _ h => h) (Or.inl ⟨by kernel_rfl, ?_⟩) (by assumption) ?_
        rotate_left
        · (intro wx hSw; (try dsimp only at hSw); go_simp; try (with_reducible rfl))
        try simp only [Act.put, List.getElem_toArray, List.getElem_cons_succ, List.getElem_cons_zero, List.setIfInBounds_toArray, List.set_cons_zero, List.set_cons_succ]
        refine wpAnyH_take (i := 3) (v := ?_) rfl (by kernel_rfl) (by kernel_rfl) (by kernel_rfl) (fun _ _ _ h => h) (Or.inl ⟨by kernel_rfl, ?_⟩) (by assumption) ?_
        rotate_left
        · (intro wx hSw; (try dsimp only at hSw); go_simp; try (with_reducible rfl))
        try simp only [Act.put, List.getElem_toArray, List.getElem_cons_succ, List.getElem_cons_zero, List.setIfInBounds_toArray, List.set_cons_zero, List.set_cons_succ]
        refine wpAnyH_take (i := 4) (v := ?_) rfl (by kernel_rfl) (by kernel_rfl) (by kernel_rfl) (fun _ _ _ h => h) (Or.inl ⟨by kernel_rfl, ?_⟩) (by assumption) ?_
        rotate_left
        · (intro wx hSw; (try dsimp only at hSw); go_simp; try (with_reducible rfl))
        try simp only [Act.put, List.getElem_toArray, List.getElem_cons_succ, List.getElem_cons_zero, List.setIfInBounds_toArray, List.set_cons_zero, List.set_cons_succ]
        refine wpAnyH_ready (rs := [5]) (by kernel_rfl) (by simp) ?_
        refine AllReadyH.cons rfl (fun K hK => ?_) AllReadyH.nil
        go_simp
        refine hK.out _ _ ?_ (fun hHeld => ?_)
        · (exact HSH.out _ (by repeat' (first | exact Bl.refl _ | with_reducible assumption | with_reducible refine Bl.drew_ ?_ | with_reducible refine Bl.drewN_ ?_ _ | with_reducible refine Bl.alloc_ ?_ _ | with_reducible refine Bl.trans_ ?_ (by assumption) | with_reducible refine Bl.trans_ ?_ (And.left (by assumption)))))
        clear hK K
        try simp only [Act.put, List.getElem_toArray, List.getElem_cons_succ, List.getElem_cons_zero, List.setIfInBounds_toArray, List.set_cons_zero, List.set_cons_succ]
        refine wpAnyH_take (i := 6) (v := ?_) rfl (by kernel_rfl) (by kernel_rfl) (by kernel_rfl) (fun _ _ _ h => h) (Or.inl ⟨by kernel_rfl, ?_⟩) (by assumption) ?_
        rotate_left
        · (intro wx hSw; (try dsimp only at hSw); go_simp; try (with_reducible rfl))
        try simp only [Act.put, List.getElem_toArray, List.getElem_cons_succ, List.getElem_cons_zero, List.setIfInBounds_toArray, List.set_cons_zero, List.set_cons_succ]
        refine wpAnyH_take (i := 7) (v := ?_) rfl (by kernel_rfl) (by kernel_rfl) (by kernel_rfl) (fun _ _ _ h => h) (Or.inl ⟨by kernel_rfl, ?_⟩) (by assumption) ?_
        rotate_left
        · (intro wx hSw; (try dsimp only at hSw); go_simp; try (with_reducible rfl))
        try simp only [Act.put, List.getElem_toArray, List.getElem_cons_succ, List.getElem_cons_zero, List.setIfInBounds_toArray, List.set_cons_zero, List.set_cons_succ]
        refine wpAnyH_take (i := 8) (v := ?_) rfl (by kernel_rfl) (by kernel_rfl) (by kernel_rfl) (fun _ _ _ h => h) (Or.inl ⟨by kernel_rfl, ?_⟩) (by assumption) ?_
        rotate_left
        · (intro wx hSw; (try dsimp only at hSw); go_simp; try (with_reducible rfl))
        try simp only [Act.put, List.getElem_toArray, List.getElem_cons_succ, List.getElem_cons_zero, List.setIfInBounds_toArray, List.set_cons_zero, List.set_cons_succ]
        refine wpAnyH_take (i := 9) (v := ?_) rfl (by kernel_rfl) (by kernel_rfl) (by kernel_rfl) (fun _ _ _ h => h) (Or.inl ⟨by kernel_rfl, ?_⟩) (by assumption) ?_
        rotate_left
        · (intro wx hSw; (try dsimp only at hSw); go_simp; try (with_reducible rfl))
        try simp only [Act.put, List.getElem_toArray, List.getElem_cons_succ, List.getElem_cons_zero, List.setIfInBounds_toArray, List.set_cons_zero, List.set_cons_succ]
        refine wpAnyH_take (i := 10) (v := ?_) rfl (by kernel_rfl) (by kernel_rfl) (by kernel_rfl) (fun _ _ _ h => h) (Or.inl ⟨by kernel_rfl, ?_⟩) (by assumption) ?_
        rotate_left
        · (intro wx hSw; (try dsimp only at hSw); go_simp; try (with_reducible rfl))
        try simp only [Act.put, List.getElem_toArray, List.getElem_cons_succ, List.getElem_cons_zero, List.setIfInBounds_toArray, List.set_cons_zero, List.set_cons_succ]
        refine wpAnyH_take (i := 11) (v := ?_) rfl (by kernel_rfl) (by kernel_rfl) (by kernel_rfl) (fun _ _ _ h => h) (Or.inl ⟨by kernel_rfl, ?_⟩) (by assumption) ?_
        rotate_left
        · (intro wx hSw; (try dsimp only at hSw); go_simp; try (with_reducible rfl))
        try simp only [Act.put, List.getElem_toArray, List.getElem_cons_succ, List.getElem_cons_zero, List.setIfInBounds_toArray, List.set_cons_zero, List.set_cons_succ]
        refine wpAnyH_take (i := 12) (v := ?_) rfl (by kernel_rfl) (by kernel_rfl) (by kernel_rfl) (fun _ _ _ h => h) (Or.inl ⟨by kernel_rfl, ?_⟩) (by assumption) ?_
        rotate_left
        · (intro wx hSw; (try dsimp only at hSw); go_simp; try (with_reducible rfl))
        try simp only [Act.put, List.getElem_toArray, List.getElem_cons_succ, List.getElem_cons_zero, List.setIfInBounds_toArray, List.set_cons_zero, List.set_cons_succ]
        refine wpAnyH_ready (rs := [13]) (by kernel_rfl) (by simp) ?_
        refine AllReadyH.cons rfl (fun K hK => ?_) AllReadyH.nil
        go_simp
        refine hK.out _ _ ?_ (fun hHeld => ?_)
        · (exact HSH.out _ (by repeat' (first | exact Bl.refl _ | with_reducible assumption | with_reducible refine Bl.drew_ ?_ | with_reducible refine Bl.drewN_ ?_ _ | with_reducible refine Bl.alloc_ ?_ _ | with_reducible refine Bl.trans_ ?_ (by assumption) | with_reducible refine Bl.trans_ ?_ (And.left (by assumption)))))
        clear hK K
        try simp only [Act.put, List.getElem_toArray, List.getElem_cons_succ, List.getElem_cons_zero, List.setIfInBounds_toArray, List.set_cons_zero, List.set_cons_succ]
        refine wpAnyH_ready (rs := [14]) (by kernel_rfl) (by simp) ?_
        refine AllReadyH.cons rfl (fun K hK => ?_) AllReadyH.nil
        go_simp
        (go_at_call 72; refine (hasNodes_1 N u A n c L HN.out _ 1 _ (by omega) (K1.out.bl ((Bl.alloc_ (Bl.refl w) _).trans_ (by repeat' (first | exact Bl.refl _ | with_reducible assumption | with_reducible refine Bl.drew_ ?_ | with_reducible refine Bl.drewN_ ?_ _ | with_reducible refine Bl.alloc_ ?_ _ | with_reducible refine Bl.trans_ ?_ (by assumption) | with_reducible refine Bl.trans_ ?_ (And.left (by assumption)))))) (by simp) (by simp [go_sem])).mono ?_; rintro e w3 ⟨rfl, hb3⟩; rw [HH.out])
        try (go_wp2_with fail)
        refine hK.out _ _ ?_ (fun hHeld => ?_)
        · (exact HSH.out _ (by repeat' (first | exact Bl.refl _ | with_reducible assumption | with_reducible refine Bl.drew_ ?_ | with_reducible refine Bl.drewN_ ?_ _ | with_reducible refine Bl.alloc_ ?_ _ | with_reducible refine Bl.trans_ ?_ (by assumption) | with_reducible refine Bl.trans_ ?_ (And.left (by assumption)))))
        clear hK K
        try simp only [Act.put, List.getElem_toArray, List.getElem_cons_succ, List.getElem_cons_zero, List.setIfInBounds_toArray, List.set_cons_zero, List.set_cons_succ]
        refine wpAnyH_take (i := 15) (v := ?_) rfl (by kernel_rfl) (by kernel_rfl) (by kernel_rfl) (fun _ _ _ h => h) (Or.inl ⟨by kernel_rfl, ?_⟩) (by assumption) ?_
        rotate_left
        · (intro wx hSw; (try dsimp only at hSw); go_simp; try (with_reducible rfl))
        try simp only [Act.put, List.getElem_toArray, List.getElem_cons_succ, List.getElem_cons_zero, List.setIfInBounds_toArray, List.set_cons_zero, List.set_cons_succ]
        refine wpAnyH_take (i := 16) (v := ?_) rfl (by kernel_rfl) (by kernel_rfl) (by kernel_rfl) (fun _ _ _ h => h) (Or.inl ⟨by kernel_rfl, ?_⟩) (by assumption) ?_
        rotate_left
        · (intro wx hSw; (try dsimp only at hSw); go_simp; try (with_reducible rfl))
        try simp only [Act.put, List.getElem_toArray, List.getElem_cons_succ, List.getElem_cons_zero, List.setIfInBounds_toArray, List.set_cons_zero, List.set_cons_succ]
        refine wpAnyH_done (by kernel_rfl) ?_ _
        go_wp2
        go_ret2
        have hp : pathB N L P = false := by
          have h := HH.out
          unfold has1 at h
          cases ho : okB N L with
          | false => exact pathB_ok ho
          | true =>
            rw [ho, Bool.true_and, decide_eq_false_iff_not] at h
            exact pathB_first (by rw [HG.out]; exact h)
        exact LenLeft.no hp ((Bl.alloc_ (Bl.refl w) _).trans_ (by repeat' (first | exact Bl.refl _ | with_reducible assumption | with_reducible refine Bl.drew_ ?_ | with_reducible refine Bl.drewN_ ?_ _ | with_reducible refine Bl.alloc_ ?_ _ | with_reducible refine Bl.trans_ ?_ (by assumption) | with_reducible refine Bl.trans_ ?_ (And.left (by assumption)))))
      | true =>
        have HH := Lib.hid hh
        obtain ⟨ho, hs0, hs1⟩ := has1_of hh
        have HO := Lib.hid ho
        have HS := Lib.hid (sorted_of_ok ho)
        clear hh ho
        go_enter Try.func31, Try.ntmps31
        go_wp2_with fail
        refine wp_region_held_drew (S := fun wx => Bl (w.alloc (.cells #[.int .i64 N, .slice A n c] 26)) wx ∧ wx.cell? ⟨w.heap.size, 0, none⟩ = some (.int .i64 N) ∧ wx.cell? ⟨w.heap.size, 1, none⟩ = some (.slice A n c) ∧ wx.cell? ⟨g2, o2, none⟩ = some (.int .i64 u)) (by kernel_rfl) ?_ (fun hHeld => ?_)
        · (exact HSH.out _ (by repeat' (first | exact Bl.refl _ | with_reducible assumption | with_reducible refine Bl.drew_ ?_ | with_reducible refine Bl.drewN_ ?_ _ | with_reducible refine Bl.alloc_ ?_ _ | with_reducible refine Bl.trans_ ?_ (by assumption) | with_reducible refine Bl.trans_ ?_ (And.left (by assumption)))))
        refine wpAnyH_take (i := 0) (v := ?_) rfl (by kernel_rfl) (by kernel_rfl) (by kernel_rfl) (fun _ _ _ h => h) (Or.inl ⟨by kernel_rfl, ?_⟩) (by assumption) ?_
        rotate_left
        · (intro wx hSw; (try dsimp only at hSw); go_simp; try (with_reducible rfl))
        try simp only [Act.put, List.getElem_toArray, List.getElem_cons_succ, List.getElem_cons_zero, List.setIfInBounds_toArray, List.set_cons_zero, List.set_cons_succ]
        refine wpAnyH_ready (rs := [1]) (by kernel_rfl) (by simp) ?_
        refine AllReadyH.cons rfl (fun K hK => ?_) AllReadyH.nil
        go_simp
        refine hK.out _ _ ?_ (fun hHeld => ?_)
        · (exact HSH.out _ (by repeat' (first | exact Bl.refl _ | with_reducible assumption | with_reducible refine Bl.drew_ ?_ | with_reducible refine Bl.drewN_ ?_ _ | with_reducible refine Bl.alloc_ ?_ _ | with_reducible refine Bl.trans_ ?_ (by assumption) | with_reducible refine Bl.trans_ ?_ (And.left (by assumption)))))
        clear hK K
        try simp only [Act.put, List.getElem_toArray, List.getElem_cons_succ, List.getElem_cons_zero, List.setIfInBounds_toArray, List.set_cons_zero, List.set_cons_succ]
        refine wpAnyH_take (i := 2) (v := ?_) rfl (by kernel_rfl) (by kernel_rfl) (by kernel_rfl) (fun _ _ _ h => h) (Or.inl ⟨by kernel_rfl, ?_⟩) (by assumption) ?_
        rotate_left
        · (intro wx hSw; (try dsimp only at hSw); go_simp; try (with_reducible rfl))
        try simp only [Act.put, List.getElem_toArray, List.getElem_cons_succ, List.getElem_cons_zero, List.setIfInBounds_toArray, List.set_cons_zero, List.set_cons_succ]
        refine wpAnyH_take (i := 3) (v := ?_) rfl (by kernel_rfl) (by kernel_rfl) (by kernel_rfl) (fun _ _ _ h => h) (Or.inl ⟨by kernel_rfl, ?_⟩) (by assumption) ?_
        rotate_left
        · (intro wx hSw; (try dsimp only at hSw); go_simp; try (with_reducible rfl))
        try simp only [Act.put, List.getElem_toArray, List.getElem_cons_succ, List.getElem_cons_zero, List.setIfInBounds_toArray, List.set_cons_zero, List.set_cons_succ]
        refine wpAnyH_take (i := 4) (v := ?_) rfl (by kernel_rfl) (by kernel_rfl) (by kernel_rfl) (fun _ _ _ h => h) (Or.inl ⟨by kernel_rfl, ?_⟩) (by assumption) ?_
        rotate_left
        · (intro wx hSw; (try dsimp only at hSw); go_simp; try (with_reducible rfl))
        try simp only [Act.put, List.getElem_toArray, List.getElem_cons_succ, List.getElem_cons_zero, List.setIfInBounds_toArray, List.set_cons_zero, List.set_cons_succ]
        refine wpAnyH_ready (rs := [5]) (by kernel_rfl) (by simp) ?_
        refine AllReadyH.cons rfl (fun K hK => ?_) AllReadyH.nil
        go_simp
        refine hK.out _ _ ?_ (fun hHeld => ?_)
        · (exact HSH.out _ (by repeat' (first | exact Bl.refl _ | with_reducible assumption | with_reducible refine Bl.drew_ ?_ | with_reducible refine Bl.drewN_ ?_ _ | with_reducible refine Bl.alloc_ ?_ _ | with_reducible refine Bl.trans_ ?_ (by assumption) | with_reducible refine Bl.trans_ ?_ (And.left (by assumption)))))
        clear hK K
        try simp only [Act.put, List.getElem_toArray, List.getElem_cons_succ, List.getElem_cons_zero, List.setIfInBounds_toArray, List.set_cons_zero, List.set_cons_succ]
        refine wpAnyH_take (i := 6) (v := ?_) rfl (by kernel_rfl) (by kernel_rfl) (by kernel_rfl) (fun _ _ _ h => h) (Or.inl ⟨by kernel_rfl, ?_⟩) (by assumption) ?_
        rotate_left
        · (intro wx hSw; (try dsimp only at hSw); go_simp; try (with_reducible rfl))
        try simp only [Act.put, List.getElem_toArray, List.getElem_cons_succ, List.getElem_cons_zero, List.setIfInBounds_toArray, List.set_cons_zero, List.set_cons_succ]
        refine wpAnyH_take (i := 7) (v := ?_) rfl (by kernel_rfl) (by kernel_rfl) (by kernel_rfl) (fun _ _ _ h => h) (Or.inl ⟨by kernel_rfl, ?_⟩) (by assumption) ?_
        rotate_left
        · (intro wx hSw; (try dsimp only at hSw); go_simp; try (with_reducible rfl))
        try simp only [Act.put, List.getElem_toArray, List.getElem_cons_succ, List.getElem_cons_zero, List.setIfInBounds_toArray, List.set_cons_zero, List.set_cons_succ]
        refine wpAnyH_take (i := 8) (v := ?_) rfl (by kernel_rfl) (by kernel_rfl) (by kernel_rfl) (fun _ _ _ h => h) (Or.inl ⟨by kernel_rfl, ?_⟩) (by assumption) ?_
        rotate_left
        · (intro wx hSw; (try dsimp only at hSw); go_simp; try (with_reducible rfl))
        try simp only [Act.put, List.getElem_toArray, List.getElem_cons_succ, List.getElem_cons_zero, List.setIfInBounds_toArray, List.set_cons_zero, List.set_cons_succ]
        refine wpAnyH_take (i := 9) (v := ?_) rfl (by kernel_rfl) (by kernel_rfl) (by kernel_rfl) (fun _ _ _ h => h) (Or.inl ⟨by kernel_rfl, ?_⟩) (by assumption) ?_
        rotate_left
        · (intro wx hSw; (try dsimp only at hSw); go_simp; try (with_reducible rfl))
        try simp only [Act.put, List.getElem_toArray, List.getElem_cons_succ, List.getElem_cons_zero, List.setIfInBounds_toArray, List.set_cons_zero, List.set_cons_succ]
        refine wpAnyH_take (i := 10) (v := ?_) rfl (by kernel_rfl) (by kernel_rfl) (by kernel_rfl) (fun _ _ _ h => h) (Or.inl ⟨by kernel_rfl, ?_⟩) (by assumption) ?_
        rotate_left
        · (intro wx hSw; (try dsimp only at hSw); go_simp; try (with_reducible rfl))
        try simp only [Act.put, List.getElem_toArray, List.getElem_cons_succ, List.getElem_cons_zero, List.setIfInBounds_toArray, List.set_cons_zero, List.set_cons_succ]
        refine wpAnyH_take (i := 11) (v := ?_) rfl (by kernel_rfl) (by kernel_rfl) (by kernel_rfl) (fun _ _ _ h => h) (Or.inl ⟨by kernel_rfl, ?_⟩) (by assumption) ?_
        rotate_left
        · (intro wx hSw; (try dsimp only at hSw); go_simp; try (with_reducible rfl))
        try simp only [Act.put, List.getElem_toArray, List.getElem_cons_succ, List.getElem_cons_zero, List.setIfInBounds_toArray, List.set_cons_zero, List.set_cons_succ]
        refine wpAnyH_take (i := 12) (v := ?_) rfl (by kernel_rfl) (by kernel_rfl) (by kernel_rfl) (fun _ _ _ h => h) (Or.inl ⟨by kernel_rfl, ?_⟩) (by assumption) ?_
        rotate_left
        · (intro wx hSw; (try dsimp only at hSw); go_simp; try (with_reducible rfl))
        try simp only [Act.put, List.getElem_toArray, List.getElem_cons_succ, List.getElem_cons_zero, List.setIfInBounds_toArray, List.set_cons_zero, List.set_cons_succ]
        refine wpAnyH_ready (rs := [13]) (by kernel_rfl) (by simp) ?_
        refine AllReadyH.cons rfl (fun K hK => ?_) AllReadyH.nil
        go_simp
        refine hK.out _ _ ?_ (fun hHeld => ?_)
        · (exact HSH.out _ (by repeat' (first | exact Bl.refl _ | with_reducible assumption | with_reducible refine Bl.drew_ ?_ | with_reducible refine Bl.drewN_ ?_ _ | with_reducible refine Bl.alloc_ ?_ _ | with_reducible refine Bl.trans_ ?_ (by assumption) | with_reducible refine Bl.trans_ ?_ (And.left (by assumption)))))
        clear hK K
        try simp only [Act.put, List.getElem_toArray, List.getElem_cons_succ, List.getElem_cons_zero, List.setIfInBounds_toArray, List.set_cons_zero, List.set_cons_succ]
        refine wpAnyH_ready (rs := [14]) (by kernel_rfl) (by simp) ?_
        refine AllReadyH.cons rfl (fun K hK => ?_) AllReadyH.nil
        go_simp
        (go_at_call 72; refine (hasNodes_1 N u A n c L HN.out _ 1 _ (by omega) (K1.out.bl ((Bl.alloc_ (Bl.refl w) _).trans_ (by repeat' (first | exact Bl.refl _ | with_reducible assumption | with_reducible refine Bl.drew_ ?_ | with_reducible refine Bl.drewN_ ?_ _ | with_reducible refine Bl.alloc_ ?_ _ | with_reducible refine Bl.trans_ ?_ (by assumption) | with_reducible refine Bl.trans_ ?_ (And.left (by assumption)))))) (by simp) (by simp [go_sem])).mono ?_; rintro e w3 ⟨rfl, hb3⟩; rw [HH.out])
        try (go_wp2_with fail)
        refine hK.out _ _ ?_ (fun hHeld => ?_)
        · (exact HSH.out _ (by repeat' (first | exact Bl.refl _ | with_reducible assumption | with_reducible refine Bl.drew_ ?_ | with_reducible refine Bl.drewN_ ?_ _ | with_reducible refine Bl.alloc_ ?_ _ | with_reducible refine Bl.trans_ ?_ (by assumption) | with_reducible refine Bl.trans_ ?_ (And.left (by assumption)))))
        clear hK K
        try simp only [Act.put, List.getElem_toArray, List.getElem_cons_succ, List.getElem_cons_zero, List.setIfInBounds_toArray, List.set_cons_zero, List.set_cons_succ]
        refine wpAnyH_take (i := 15) (v := ?_) rfl (by kernel_rfl) (by kernel_rfl) (by kernel_rfl) (fun _ _ _ h => h) (Or.inl ⟨by kernel_rfl, ?_⟩) (by assumption) ?_
        rotate_left
        · (intro wx hSw; (try dsimp only at hSw); go_simp; try (with_reducible rfl))
        try simp only [Act.put, List.getElem_toArray, List.getElem_cons_succ, List.getElem_cons_zero, List.setIfInBounds_toArray, List.set_cons_zero, List.set_cons_succ]
        refine wpAnyH_take (i := 16) (v := ?_) rfl (by kernel_rfl) (by kernel_rfl) (by kernel_rfl) (fun _ _ _ h => h) (Or.inl ⟨by kernel_rfl, ?_⟩) (by assumption) ?_
        rotate_left
        · (intro wx hSw; (try dsimp only at hSw); go_simp; try (with_reducible rfl))
        try simp only [Act.put, List.getElem_toArray, List.getElem_cons_succ, List.getElem_cons_zero, List.setIfInBounds_toArray, List.set_cons_zero, List.set_cons_succ]
        refine wpAnyH_done (by kernel_rfl) ?_ _
        have hbx := Lib.hid (show Bl (w.alloc (.cells #[.int .i64 N, .slice A n c] 26)) _ from hHeld.1)
        have HF := Lib.hid (show 0 ≤ P.getD 0 0 ∧ P.getD 0 0 < N from by rw [HG.out]; exact ⟨hs0, hs1⟩)
        clear hHeld hb3
        go_wp2_with fail
        · obtain rfl : k = 1 := by omega
          refine wp_loop_rounds 1 ?_
          rw [rounds_succ]
          go_wp2
          go_ret2
          have hl := HK.out
          have hp : pathB N L P = true := pathB_yes HO.out hkl (by omega) HF.out (fun j hj => absurd hj (by omega))
          refine ⟨?_, (Bl.alloc_ (Bl.refl w) _).trans_ hbx.out⟩
          rw [lenI_yes hp, hp, show P.length - 1 = 0 from by omega]
          rfl
        · rename_i hc21
          go_loopw [6, 30] (fun s i wr => ∃ j : Nat, j ≤ k - 1 ∧ i = .int .i64 j ∧ s = .int .i64 (sumW L P j) ∧ Bl (w.alloc (.cells #[.int .i64 N, .slice A n c] 26)) wr ∧ Hid (∀ t, t < j → stepW L P t ≠ 0)) (fun _ i _ => k - (intOf i).toNat)
          case atStart => exact ⟨0, by omega, rfl, rfl, hbx.out, Lib.hid fun t h => absurd h (by omega)⟩
          case round =>
            obtain ⟨j, hj, rfl, rfl, hbl, NO⟩ := hrel
            have hbw : Bl w wr := (Bl.alloc_ (Bl.refl w) _).trans_ hbl
            have hsb := Lib.hid (sumW_bounds P HO.out j)
            have HSS := Lib.hid (show sumW L P (j + 1) = sumW L P j + stepW L P j from rfl)
            generalize hS : sumW L P j = S at hsb HSS
            have HSJ := Lib.hid hS
            clear hS
            by_cases hlt : j < k - 1
            · have hkl2 : j + 1 < P.length := by have := HK.out; omega
              have p1 := HC.out j (by omega)
              have p2 := HC.out (j + 1) hkl2
              have HW := Lib.hid (stepW_at (L := L) hkl2)
              generalize P[j] = x1 at p1 HW
              generalize P[j + 1] = x2 at p2 HW
              rw [show o2 + (j + 1) = o2 + 1 + j from by omega] at p2
              have HSW := Lib.hid (show ∀ wx, Bl wr wx → Bl wr wx ∧ wx.cell? ⟨w.heap.size, 0, none⟩ = some (.int .i64 N) ∧ wx.cell? ⟨w.heap.size, 1, none⟩ = some (.slice A n c) ∧ wx.cell? ⟨g2, o2 + j, none⟩ = some (.int .i64 x1) from fun wx hb => by
                obtain ⟨b0, b1⟩ := box2 (hbl.trans_ hb)
                have hc := (bcell (hbw.trans_ hb)).1
                exact ⟨hb, b0, b1, (hc _ _ hg2).trans p1⟩)
              rw [← (bcell hbw).1 _ _ hg2] at p2
              clear p1
              have hwb := Lib.hid (wtL_bounds (u := x1) (v := x2) HO.out)
              generalize hx : wtL x1 x2 L = x at HW hwb
              have HX := Lib.hid hx
              clear hx
              have j0 : (0 : Int) ≤ (j : Int) := by omega
              have j1 : (j : Int) < (k : Int) := by omega
              have j2 : j < k := by omega
              have j3 : (j : Int) < ((k - 1 : Nat) : Int) := by omega
              by_cases h0 : x = 0
              · have b2 : (x == 0) = true := by simp [h0]
                go_wp2_with fail
                refine wp_region_held_drew (S := fun wx => Bl wr wx ∧ wx.cell? ⟨w.heap.size, 0, none⟩ = some (.int .i64 N) ∧ wx.cell? ⟨w.heap.size, 1, none⟩ = some (.slice A n c) ∧ wx.cell? ⟨g2, o2 + j, none⟩ = some (.int .i64 x1)) (by kernel_rfl) ?_ (fun hHeld => ?_)
                · (exact HSW.out _ (by repeat' (first | exact Bl.refl _ | with_reducible assumption | with_reducible refine Bl.drew_ ?_ | with_reducible refine Bl.drewN_ ?_ _ | with_reducible refine Bl.alloc_ ?_ _ | with_reducible refine Bl.trans_ ?_ (by assumption) | with_reducible refine Bl.trans_ ?_ (And.left (by assumption)))))
                refine wpAnyH_take (i := 0) (v := ?_) rfl (by kernel_rfl) (by kernel_rfl) (by kernel_rfl) (fun _ _ _ h => h) (Or.inl ⟨by kernel_rfl, ?_⟩) (by assumption) ?_
                rotate_left
                · (intro wx hSw; (try dsimp only at hSw); go_simp; try (with_reducible rfl))
                try simp only [Act.put, List.getElem_toArray, List.getElem_cons_succ, List.getElem_cons_zero, List.setIfInBounds_toArray, List.set_cons_zero, List.set_cons_succ]
                refine wpAnyH_take (i := 1) (v := ?_) rfl (by kernel_rfl) (by kernel_rfl) (by kernel_rfl) (fun _ _ _ h => h) (Or.inl ⟨by kernel_rfl, ?_⟩) (by assumption) ?_
                rotate_left
                · (intro wx hSw; (try dsimp only at hSw); go_simp; try (with_reducible rfl))
                try simp only [Act.put, List.getElem_toArray, List.getElem_cons_succ, List.getElem_cons_zero, List.setIfInBounds_toArray, List.set_cons_zero, List.set_cons_succ]
                refine wpAnyH_take (i := 2) (v := ?_) rfl (by kernel_rfl) (by kernel_rfl) (by kernel_rfl) (fun _ _ _ h => h) (Or.inl ⟨by kernel_rfl, ?_⟩) (by assumption) ?_
                rotate_left
                · (intro wx hSw; (try dsimp only at hSw); go_simp; try (with_reducible rfl))
                try simp only [Act.put, List.getElem_toArray, List.getElem_cons_succ, List.getElem_cons_zero, List.setIfInBounds_toArray, List.set_cons_zero, List.set_cons_succ]
                refine wpAnyH_take (i := 3) (v := ?_) rfl (by kernel_rfl) (by kernel_rfl) (by kernel_rfl) (fun _ _ _ h => h) (Or.inl ⟨by kernel_rfl, ?_⟩) (by assumption) ?_
                rotate_left
                · (intro wx hSw; (try dsimp only at hSw); go_simp; try (with_reducible rfl))
                try simp only [Act.put, List.getElem_toArray, List.getElem_cons_succ, List.getElem_cons_zero, List.setIfInBounds_toArray, List.set_cons_zero, List.set_cons_succ]
                refine wpAnyH_take (i := 4) (v := ?_) rfl (by kernel_rfl) (by kernel_rfl) (by kernel_rfl) (fun _ _ _ h => h) (Or.inl ⟨by kernel_rfl, ?_⟩) (by assumption) ?_
                rotate_left
                · (intro wx hSw; (try dsimp only at hSw); go_simp; try (with_reducible rfl))
                try simp only [Act.put, List.getElem_toArray, List.getElem_cons_succ, List.getElem_cons_zero, List.setIfInBounds_toArray, List.set_cons_zero, List.set_cons_succ]
                refine wpAnyH_take (i := 5) (v := ?_) rfl (by kernel_rfl) (by kernel_rfl) (by kernel_rfl) (fun _ _ _ h => h) (Or.inl ⟨by kernel_rfl, ?_⟩) (by assumption) ?_
                rotate_left
                · (intro wx hSw; (try dsimp only at hSw); go_simp; try (with_reducible rfl))
                try simp only [Act.put, List.getElem_toArray, List.getElem_cons_succ, List.getElem_cons_zero, List.setIfInBounds_toArray, List.set_cons_zero, List.set_cons_succ]
                refine wpAnyH_ready (rs := [6]) (by kernel_rfl) (by simp) ?_
                refine AllReadyH.cons rfl (fun K hK => ?_) AllReadyH.nil
                go_simp
                (go_at_call 64; refine (arcWeight_any N x1 x2 A n c L HN.out _ hm HS.out (K1.out.bl (hbw.trans_ (by repeat' (first | exact Bl.refl _ | with_reducible assumption | with_reducible refine Bl.drew_ ?_ | with_reducible refine Bl.drewN_ ?_ _ | with_reducible refine Bl.alloc_ ?_ _ | with_reducible refine Bl.trans_ ?_ (by assumption) | with_reducible refine Bl.trans_ ?_ (And.left (by assumption))))))).mono ?_; rintro e w4 ⟨rfl, hb4⟩; rw [HX.out])
                try (go_wp2_with fail)
                refine hK.out _ _ ?_ (fun hHeld => ?_)
                · (exact HSW.out _ (by repeat' (first | exact Bl.refl _ | with_reducible assumption | with_reducible refine Bl.drew_ ?_ | with_reducible refine Bl.drewN_ ?_ _ | with_reducible refine Bl.alloc_ ?_ _ | with_reducible refine Bl.trans_ ?_ (by assumption) | with_reducible refine Bl.trans_ ?_ (And.left (by assumption)))))
                clear hK K
                try simp only [Act.put, List.getElem_toArray, List.getElem_cons_succ, List.getElem_cons_zero, List.setIfInBounds_toArray, List.set_cons_zero, List.set_cons_succ]
                refine wpAnyH_take (i := 7) (v := ?_) rfl (by kernel_rfl) (by kernel_rfl) (by kernel_rfl) (fun _ _ _ h => h) (Or.inl ⟨by kernel_rfl, ?_⟩) (by assumption) ?_
                rotate_left
                · (intro wx hSw; (try dsimp only at hSw); go_simp; try (with_reducible rfl))
                try simp only [Act.put, List.getElem_toArray, List.getElem_cons_succ, List.getElem_cons_zero, List.setIfInBounds_toArray, List.set_cons_zero, List.set_cons_succ]
                refine wpAnyH_done (by kernel_rfl) ?_ _
                go_wp2
                go_ret2
                exact LenLeft.no (pathB_step hkl2 (by rw [HW.out]; exact h0)) (hbw.trans_ (by repeat' (first | exact Bl.refl _ | with_reducible assumption | with_reducible refine Bl.drew_ ?_ | with_reducible refine Bl.drewN_ ?_ _ | with_reducible refine Bl.alloc_ ?_ _ | with_reducible refine Bl.trans_ ?_ (by assumption) | with_reducible refine Bl.trans_ ?_ (And.left (by assumption)))))
              · have b2 : (x == 0) = false := by simp [h0]
                have hxs := hsb.out
                have hxw := hwb.out
                have a1 : IntKind.i64.wrap (S + x) = S + x := IntWalk.i64_in _ (by omega)
                clear hxs hxw
                go_wp2_with fail
                refine wp_region_held_drew (S := fun wx => Bl wr wx ∧ wx.cell? ⟨w.heap.size, 0, none⟩ = some (.int .i64 N) ∧ wx.cell? ⟨w.heap.size, 1, none⟩ = some (.slice A n c) ∧ wx.cell? ⟨g2, o2 + j, none⟩ = some (.int .i64 x1)) (by kernel_rfl) ?_ (fun hHeld => ?_)
                · (exact HSW.out _ (by repeat' (first | exact Bl.refl _ | with_reducible assumption | with_reducible refine Bl.drew_ ?_ | with_reducible refine Bl.drewN_ ?_ _ | with_reducible refine Bl.alloc_ ?_ _ | with_reducible refine Bl.trans_ ?_ (by assumption) | with_reducible refine Bl.trans_ ?_ (And.left (by assumption)))))
                refine wpAnyH_take (i := 0) (v := ?_) rfl (by kernel_rfl) (by kernel_rfl) (by kernel_rfl) (fun _ _ _ h => h) (Or.inl ⟨by kernel_rfl, ?_⟩) (by assumption) ?_
                rotate_left
                · (intro wx hSw; (try dsimp only at hSw); go_simp; try (with_reducible rfl))
                try simp only [Act.put, List.getElem_toArray, List.getElem_cons_succ, List.getElem_cons_zero, List.setIfInBounds_toArray, List.set_cons_zero, List.set_cons_succ]
                refine wpAnyH_take (i := 1) (v := ?_) rfl (by kernel_rfl) (by kernel_rfl) (by kernel_rfl) (fun _ _ _ h => h) (Or.inl ⟨by kernel_rfl, ?_⟩) (by assumption) ?_
                rotate_left
                · (intro wx hSw; (try dsimp only at hSw); go_simp; try (with_reducible rfl))
                try simp only [Act.put, List.getElem_toArray, List.getElem_cons_succ, List.getElem_cons_zero, List.setIfInBounds_toArray, List.set_cons_zero, List.set_cons_succ]
                refine wpAnyH_take (i := 2) (v := ?_) rfl (by kernel_rfl) (by kernel_rfl) (by kernel_rfl) (fun _ _ _ h => h) (Or.inl ⟨by kernel_rfl, ?_⟩) (by assumption) ?_
                rotate_left
                · (intro wx hSw; (try dsimp only at hSw); go_simp; try (with_reducible rfl))
                try simp only [Act.put, List.getElem_toArray, List.getElem_cons_succ, List.getElem_cons_zero, List.setIfInBounds_toArray, List.set_cons_zero, List.set_cons_succ]
                refine wpAnyH_take (i := 3) (v := ?_) rfl (by kernel_rfl) (by kernel_rfl) (by kernel_rfl) (fun _ _ _ h => h) (Or.inl ⟨by kernel_rfl, ?_⟩) (by assumption) ?_
                rotate_left
                · (intro wx hSw; (try dsimp only at hSw); go_simp; try (with_reducible rfl))
                try simp only [Act.put, List.getElem_toArray, List.getElem_cons_succ, List.getElem_cons_zero, List.setIfInBounds_toArray, List.set_cons_zero, List.set_cons_succ]
                refine wpAnyH_take (i := 4) (v := ?_) rfl (by kernel_rfl) (by kernel_rfl) (by kernel_rfl) (fun _ _ _ h => h) (Or.inl ⟨by kernel_rfl, ?_⟩) (by assumption) ?_
                rotate_left
                · (intro wx hSw; (try dsimp only at hSw); go_simp; try (with_reducible rfl))
                try simp only [Act.put, List.getElem_toArray, List.getElem_cons_succ, List.getElem_cons_zero, List.setIfInBounds_toArray, List.set_cons_zero, List.set_cons_succ]
                refine wpAnyH_take (i := 5) (v := ?_) rfl (by kernel_rfl) (by kernel_rfl) (by kernel_rfl) (fun _ _ _ h => h) (Or.inl ⟨by kernel_rfl, ?_⟩) (by assumption) ?_
                rotate_left
                · (intro wx hSw; (try dsimp only at hSw); go_simp; try (with_reducible rfl))
                try simp only [Act.put, List.getElem_toArray, List.getElem_cons_succ, List.getElem_cons_zero, List.setIfInBounds_toArray, List.set_cons_zero, List.set_cons_succ]
                refine wpAnyH_ready (rs := [6]) (by kernel_rfl) (by simp) ?_
                refine AllReadyH.cons rfl (fun K hK => ?_) AllReadyH.nil
                go_simp
                (go_at_call 64; refine (arcWeight_any N x1 x2 A n c L HN.out _ hm HS.out (K1.out.bl (hbw.trans_ (by repeat' (first | exact Bl.refl _ | with_reducible assumption | with_reducible refine Bl.drew_ ?_ | with_reducible refine Bl.drewN_ ?_ _ | with_reducible refine Bl.alloc_ ?_ _ | with_reducible refine Bl.trans_ ?_ (by assumption) | with_reducible refine Bl.trans_ ?_ (And.left (by assumption))))))).mono ?_; rintro e w4 ⟨rfl, hb4⟩; rw [HX.out])
                try (go_wp2_with fail)
                refine hK.out _ _ ?_ (fun hHeld => ?_)
                · (exact HSW.out _ (by repeat' (first | exact Bl.refl _ | with_reducible assumption | with_reducible refine Bl.drew_ ?_ | with_reducible refine Bl.drewN_ ?_ _ | with_reducible refine Bl.alloc_ ?_ _ | with_reducible refine Bl.trans_ ?_ (by assumption) | with_reducible refine Bl.trans_ ?_ (And.left (by assumption)))))
                clear hK K
                try simp only [Act.put, List.getElem_toArray, List.getElem_cons_succ, List.getElem_cons_zero, List.setIfInBounds_toArray, List.set_cons_zero, List.set_cons_succ]
                refine wpAnyH_take (i := 7) (v := ?_) rfl (by kernel_rfl) (by kernel_rfl) (by kernel_rfl) (fun _ _ _ h => h) (Or.inl ⟨by kernel_rfl, ?_⟩) (by assumption) ?_
                rotate_left
                · (intro wx hSw; (try dsimp only at hSw); go_simp; try (with_reducible rfl))
                try simp only [Act.put, List.getElem_toArray, List.getElem_cons_succ, List.getElem_cons_zero, List.setIfInBounds_toArray, List.set_cons_zero, List.set_cons_succ]
                refine wpAnyH_done (by kernel_rfl) ?_ _
                go_wp2
                go_roundw
                case rel =>
                  refine ⟨j + 1, by omega, by go_num, by rw [HSS.out, HW.out], hbl.trans_ (by repeat' (first | exact Bl.refl _ | with_reducible assumption | with_reducible refine Bl.drew_ ?_ | with_reducible refine Bl.drewN_ ?_ _ | with_reducible refine Bl.alloc_ ?_ _ | with_reducible refine Bl.trans_ ?_ (by assumption) | with_reducible refine Bl.trans_ ?_ (And.left (by assumption)))), Lib.hid fun t ht => ?_⟩
                  rcases Nat.lt_or_ge t j with h | h
                  · exact NO.out t h
                  · obtain rfl : t = j := by omega
                    rw [HW.out]
                    exact h0
                case measure => simp [intOf]; omega
            · obtain rfl : j = k - 1 := by omega
              go_wp2
              go_ret2
              have hl := HK.out
              have hp : pathB N L P = true := pathB_yes HO.out hkl (by omega) HF.out (fun j hj => NO.out j (by omega))
              refine ⟨?_, hbw⟩
              rw [lenI_yes hp, hp, show P.length - 1 = k - 1 from by omega, HSJ.out]
              rfl

end Go.Proofs.Ytdbjcojlcddhdaa

set_option linter.unusedSimpArgs false
set_option linter.unusedVariables false
namespace Go.Proofs.Ytdbjcojlcddhdaa
open Go.RowKit

set_option maxHeartbeats 400000 in
theorem sameInts_yes (A1 A2 : Option Addr) (c1 c2 : Nat) (V : List Int) (n : Nat) (hn : n = V.length) (w : World) (hm : n ≤ 9223372036854775807) (H1 : IntsAt w w.heap.size A1 V) (H2 : IntsAt w w.heap.size A2 V) :
    Calls Try.prog 35 #[.slice A1 n c1, .slice A2 n c2] w fun e w' => e = .returned (.bool true) ∧ Bl w w' := by
  have K1 := Lib.hid H1
  have K2 := Lib.hid H2
  have HN := Lib.hid hn
  have hnn : ((n : Int) != (n : Int)) = false := by simp
  clear H1 H2 hn
  go_enter Try.func35, Try.ntmps35
  go_wp2
  go_loopw [5] (fun i wr => ∃ k : Nat, k ≤ n ∧ i = .int .i64 k ∧ Bl w wr) (fun i _ => n - (intOf i).toNat)
  case atStart => exact ⟨0, by omega, rfl, Bl.refl w⟩
  case round =>
    obtain ⟨k, hk, rfl, hbl⟩ := hrel
    by_cases hlt : k < n
    · have hkl : k < V.length := by have := HN.out; omega
      obtain ⟨g1, o1, rfl, hg1, hc1⟩ := K1.out.cell (by omega)
      obtain ⟨g2, o2, rfl, hg2, hc2⟩ := K2.out.cell (by omega)
      have p1 := hc1 k hkl
      have p2 := hc2 k hkl
      clear hc1 hc2
      rw [← (bcell hbl).1 _ _ hg1] at p1
      rw [← (bcell hbl).1 _ _ hg2] at p2
      generalize V[k] = x at p1 p2
      have hxx : (x != x) = false := by simp
      have i1 : (0 : Int) ≤ (k : Int) := by omega
      have i2 : (k : Int) < (n : Int) := by omega
      go_wp2
      go_quiet (fail)
      go_wp2
      go_roundw
      case rel => exact ⟨k + 1, by omega, by go_num, (by repeat' (first | exact Bl.refl _ | with_reducible assumption | with_reducible refine Bl.drew_ ?_ | with_reducible refine Bl.drewN_ ?_ _ | with_reducible refine Bl.alloc_ ?_ _ | with_reducible refine Bl.trans_ ?_ (by assumption) | with_reducible refine Bl.trans_ ?_ (And.left (by assumption))))⟩
      case measure => simp [intOf]; omega
    · go_wp2
      go_ret
      exact ⟨rfl, hbl⟩

set_option maxHeartbeats 400000 in
theorem sameArcs_yes (A1 A2 : Option Addr) (c1 c2 : Nat) (L : List Arc3) (n : Nat) (hn : n = L.length) (w : World) (hm : n ≤ 9223372036854775807) (H1 : ArcsAt w w.heap.size A1 L) (H2 : ArcsAt w w.heap.size A2 L) :
    Calls Try.prog 63 #[.slice A1 n c1, .slice A2 n c2] w fun e w' => e = .returned (.bool true) ∧ Bl w w' := by
  have K1 := Lib.hid H1
  have K2 := Lib.hid H2
  have HN := Lib.hid hn
  have hnn : ((n : Int) != (n : Int)) = false := by simp
  clear H1 H2 hn
  go_enter Try.func63, Try.ntmps63
  go_wp2
  go_loopw [5] (fun i wr => ∃ k : Nat, k ≤ n ∧ i = .int .i64 k ∧ Bl w wr) (fun i _ => n - (intOf i).toNat)
  case atStart => exact ⟨0, by omega, rfl, Bl.refl w⟩
  case round =>
    obtain ⟨k, hk, rfl, hbl⟩ := hrel
    by_cases hlt : k < n
    · have hkl : k < L.length := by have := HN.out; omega
      obtain ⟨g1, o1, rfl, hg1, hc1⟩ := K1.out (by omega)
      obtain ⟨g2, o2, rfl, hg2, hc2⟩ := K2.out (by omega)
      obtain ⟨p1, p2, p3⟩ := hc1 k hkl
      obtain ⟨q1, q2, q3⟩ := hc2 k hkl
      clear hc1 hc2
      rw [← (bcell hbl).1 _ _ hg1] at p1 p2 p3
      rw [← (bcell hbl).1 _ _ hg2] at q1 q2 q3
      generalize L[k].1 = x at p1 q1
      generalize L[k].2.1 = y at p2 q2
      generalize L[k].2.2 = z at p3 q3
      have e1 : (x == x) = true := by simp
      have e2 : (y == y) = true := by simp
      have e3 : (z == z) = true := by simp
      have i1 : (0 : Int) ≤ (k : Int) := by omega
      have i2 : (k : Int) < (n : Int) := by omega
      go_wp2
      go_quiet (fail)
      go_wp2
      go_roundw
      case rel => exact ⟨k + 1, by omega, by go_num, (by repeat' (first | exact Bl.refl _ | with_reducible assumption | with_reducible refine Bl.drew_ ?_ | with_reducible refine Bl.drewN_ ?_ _ | with_reducible refine Bl.alloc_ ?_ _ | with_reducible refine Bl.trans_ ?_ (by assumption) | with_reducible refine Bl.trans_ ?_ (And.left (by assumption))))⟩
      case measure => simp [intOf]; omega
    · go_wp2
      go_ret
      exact ⟨rfl, hbl⟩

set_option maxHeartbeats 400000 in
theorem sameGraph_yes (N : Int) (A1 A2 : Option Addr) (c1 c2 : Nat) (L : List Arc3) (n : Nat) (hn : n = L.length) (w : World) (hm : n ≤ 9223372036854775807) (H1 : ArcsAt w w.heap.size A1 L) (H2 : ArcsAt w w.heap.size A2 L) :
    Calls Try.prog 20 #[.agg #[.int .i64 N, .slice A1 n c1], .agg #[.int .i64 N, .slice A2 n c2]] w fun e w' => e = .returned (.bool true) ∧ Bl w w' := by
  have K1 := Lib.hid H1
  have K2 := Lib.hid H2
  have HN := Lib.hid hn
  have hnn : (N == N) = true := by simp
  clear H1 H2 hn
  go_enter Try.func20, Try.ntmps20
  go_wp2_with fail
  refine (sameArcs_yes A1 A2 c1 c2 L n HN.out _ hm (K1.out.bl (by repeat' (first | exact Bl.refl _ | with_reducible assumption | with_reducible refine Bl.drew_ ?_ | with_reducible refine Bl.drewN_ ?_ _ | with_reducible refine Bl.alloc_ ?_ _ | with_reducible refine Bl.trans_ ?_ (by assumption) | with_reducible refine Bl.trans_ ?_ (And.left (by assumption))))) (K2.out.bl (by repeat' (first | exact Bl.refl _ | with_reducible assumption | with_reducible refine Bl.drew_ ?_ | with_reducible refine Bl.drewN_ ?_ _ | with_reducible refine Bl.alloc_ ?_ _ | with_reducible refine Bl.trans_ ?_ (by assumption) | with_reducible refine Bl.trans_ ?_ (And.left (by assumption)))))).mono ?_
  rintro e w1 ⟨rfl, hb1⟩
  go_wp2
  go_ret
  exact ⟨rfl, (Bl.alloc_ (Bl.alloc_ (Bl.refl w) _) _).trans_ hb1⟩

set_option maxHeartbeats 400000 in
theorem nodeLaw_any (N v : Int) (A : Option Addr) (n c : Nat) (L : List Arc3) (hn : n = L.length) (w : World) (hm : n ≤ 9223372036854775807) (H1 : ArcsAt w w.heap.size A L) :
    Calls Try.prog 37 #[.agg #[.int .i64 N, .slice A n c], .int .i64 v] w fun e w' => e = .returned (.bool (has1 N L v)) ∧ Bl w w' := by
  have K1 := Lib.hid H1
  have HN := Lib.hid hn
  clear H1 hn
  cases ho : okB N L with
  | false =>
    have HO := Lib.hid ho
    clear ho
    go_enter Try.func37, Try.ntmps37
    go_wp2_with fail
    refine (specOk_any N A n c L HN.out _ hm (K1.out.bl (by repeat' (first | exact Bl.refl _ | with_reducible assumption | with_reducible refine Bl.drew_ ?_ | with_reducible refine Bl.drewN_ ?_ _ | with_reducible refine Bl.alloc_ ?_ _ | with_reducible refine Bl.trans_ ?_ (by assumption) | with_reducible refine Bl.trans_ ?_ (And.left (by assumption)))))).mono ?_
    rintro e w1 ⟨rfl, hb1⟩
    rw [HO.out]
    go_wp2
    go_ret
    exact ⟨ret_bool (by unfold has1; rw [HO.out]; rfl), (Bl.alloc_ (Bl.refl w) _).trans_ hb1⟩
  | true =>
    have HO := Lib.hid ho
    clear ho
    by_cases h0 : 0 ≤ v
    · have b0 : decide (0 ≤ v) = true := by simpa using h0
      by_cases h1 : v < N
      · have b1 : decide (v < N) = true := by simpa using h1
        go_enter Try.func37, Try.ntmps37
        go_wp2_with fail
        refine (specOk_any N A n c L HN.out _ hm (K1.out.bl (by repeat' (first | exact Bl.refl _ | with_reducible assumption | with_reducible refine Bl.drew_ ?_ | with_reducible refine Bl.drewN_ ?_ _ | with_reducible refine Bl.alloc_ ?_ _ | with_reducible refine Bl.trans_ ?_ (by assumption) | with_reducible refine Bl.trans_ ?_ (And.left (by assumption)))))).mono ?_
        rintro e w1 ⟨rfl, hb1⟩
        rw [HO.out]
        obtain ⟨q0, q1⟩ := box2 hb1
        go_wp2
        go_ret
        exact ⟨ret_bool (by unfold has1; rw [HO.out, Bool.true_and]; symm; simp; omega), (Bl.alloc_ (Bl.refl w) _).trans_ hb1⟩
      · have b1 : decide (v < N) = false := by simpa using h1
        go_enter Try.func37, Try.ntmps37
        go_wp2_with fail
        refine (specOk_any N A n c L HN.out _ hm (K1.out.bl (by repeat' (first | exact Bl.refl _ | with_reducible assumption | with_reducible refine Bl.drew_ ?_ | with_reducible refine Bl.drewN_ ?_ _ | with_reducible refine Bl.alloc_ ?_ _ | with_reducible refine Bl.trans_ ?_ (by assumption) | with_reducible refine Bl.trans_ ?_ (And.left (by assumption)))))).mono ?_
        rintro e w1 ⟨rfl, hb1⟩
        rw [HO.out]
        obtain ⟨q0, q1⟩ := box2 hb1
        go_wp2
        go_ret
        exact ⟨ret_bool (by unfold has1; rw [HO.out, Bool.true_and]; symm; simp; omega), (Bl.alloc_ (Bl.refl w) _).trans_ hb1⟩
    · have b0 : decide (0 ≤ v) = false := by simpa using h0
      go_enter Try.func37, Try.ntmps37
      go_wp2_with fail
      refine (specOk_any N A n c L HN.out _ hm (K1.out.bl (by repeat' (first | exact Bl.refl _ | with_reducible assumption | with_reducible refine Bl.drew_ ?_ | with_reducible refine Bl.drewN_ ?_ _ | with_reducible refine Bl.alloc_ ?_ _ | with_reducible refine Bl.trans_ ?_ (by assumption) | with_reducible refine Bl.trans_ ?_ (And.left (by assumption)))))).mono ?_
      rintro e w1 ⟨rfl, hb1⟩
      rw [HO.out]
      obtain ⟨q0, q1⟩ := box2 hb1
      go_wp2
      go_ret
      exact ⟨ret_bool (by unfold has1; rw [HO.out, Bool.true_and]; symm; simp; omega), (Bl.alloc_ (Bl.refl w) _).trans_ hb1⟩

end Go.Proofs.Ytdbjcojlcddhdaa

set_option linter.unusedSimpArgs false
set_option linter.unusedVariables false
namespace Go.Proofs.Ytdbjcojlcddhdaa
open Go.RowKit

set_option maxRecDepth 100000 in
set_option maxHeartbeats 8000000 in
theorem lawLengthPieces_any (A : Option Addr) (n c : Nat) (w : World) (H : BytesAt w A n) :
    Calls Try.prog 6 #[.slice A n c] w fun e w' => e = .returned (.bool true) ∧ Bl w w' := by
  obtain ⟨i0, hi, hz0, hz1, hz2⟩ := info_parts infoInt
  have I0 := Lib.hid hi
  have I1 := Lib.hid hz0
  have I2 := Lib.hid hz1
  have I3 := Lib.hid hz2
  have K := Lib.hid H
  clear H hi hz0 hz1 hz2
  by_cases hbig : (1048576 : Int) < (n : Int)
  · have hb : decide ((1048576 : Int) < (n : Int)) = true := by simpa using hbig
    clear hbig
    go_enter Try.func6, Try.ntmps6
    go_wp2_with (go_at_call 15; refine (big_any _ _ _ _).mono ?_; rintro e w' ⟨rfl, rfl⟩)
    go_ret
    exact ⟨rfl, (by repeat' (first | exact Bl.refl _ | with_reducible assumption | with_reducible refine Bl.drew_ ?_ | with_reducible refine Bl.drewN_ ?_ _ | with_reducible refine Bl.alloc_ ?_ _ | with_reducible refine Bl.trans_ ?_ (by assumption) | with_reducible refine Bl.trans_ ?_ (And.left (by assumption))))⟩
  · have hb : decide ((1048576 : Int) < (n : Int)) = false := by simpa using hbig
    have hn : n ≤ 1099511627776 := by omega
    clear hbig
    go_enter Try.func6, Try.ntmps6
    go_wp2_with fail
    refine (big_any _ _ _ _).mono ?_
    rintro e w1 ⟨rfl, rfl⟩
    go_wp2_with fail
    refine (drawLengthOf_any A n c _ hn K.out).mono ?_
    rintro e w1 ⟨N, A', l, c', L, v2, P, rfl, hd, hv2, hp4, hb1⟩
    obtain ⟨ha, hlc⟩ := hd.arcs
    have HL := Lib.hid hd.1
    have hl200 := hd.2.1
    obtain ⟨A2, c2, rfl, hcap2, hi2, -, -⟩ := OwnN.shape hv2
    obtain ⟨k, hk⟩ : ∃ k, k = P.length := ⟨_, rfl⟩
    rw [← hk] at hp4 hcap2 ⊢
    have HK := Lib.hid hk
    have HA := Lib.hid (ha.bl (Bl.alloc_ (Bl.refl w1) (.cells #[.int .i64 N, .slice A' l c'] 26)))
    have J1 := Lib.hid (IntsAt.bl hi2 (Bl.alloc_ (Bl.refl w1) (.cells #[.int .i64 N, .slice A' l c'] 26)))
    have B1 := Lib.hid (hb1.alloc_ (.cells #[.int .i64 N, .slice A' l c'] 26))
    have HC2 := Lib.hid hcap2
    clear hd ha hb1 hv2 hi2 hk hcap2
    go_wp2_with fail
    refine (implLengthOf_any N A' l c' L HL.out A2 k c2 P HK.out _ (by omega) hp4 HC2.out HA.out J1.out).mono ?_
    rintro e w2 ⟨rfl, hb2⟩
    obtain ⟨q0, q1⟩ := box2 hb2
    go_wp2_with fail
    refine (specLengthOf_any N A' l c' L HL.out A2 k c2 P HK.out _ (by omega) hp4 (HA.out.bl hb2) (J1.out.bl hb2)).mono ?_
    rintro e w3 ⟨rfl, hb3⟩
    have P3 := Lib.hid (hb2.trans_ hb3)
    have J3 := Lib.hid (J1.out.bl P3.out)
    have e1 : (lenI N L P != lenI N L P) = false := by simp
    have e2 : (pathB N L P != pathB N L P) = false := by simp
    have e3 : (lenI N L P == lenI N L P) = true := by simp
    have e4 : (pathB N L P == pathB N L P) = true := by simp
    clear hb2 hb3 q0 q1
    cases hf : pathB N L P with
    | false =>
      rw [hf] at e2 e4
      clear hf
      generalize lenI N L P = le at *
      go_wp2
      go_ret
      exact ⟨rfl, B1.out.trans_ P3.out⟩
    | true =>
      rw [hf] at e2 e4
      have HO := Lib.hid (pathB_elim hf).1
      have hk0 : 0 < k := by rw [HK.out]; exact (pathB_elim hf).2.1
      have hk1000 : k ≤ 1000 := by rw [HK.out]; exact (pathB_elim hf).2.2.1
      have HRL := Lib.hid (revL_len (okB_elim HO.out).2.2.2.2)
      have BK := Lib.hid (path_back hf)
      have PCS := Lib.hid (fun i hi => pieces_add hf i hi)
      have hle : 0 ≤ lenI N L P ∧ lenI N L P ≤ 1000000 := by
        rw [lenI_yes hf]
        have := sumW_bounds (L := L) P HO.out (P.length - 1)
        have := HK.out
        omega
      generalize lenI N L P = le at *
      have kw : IntKind.i64.wrap ((k : Int) - 1) = (k : Int) - 1 := IntWalk.i64_in _ (by omega)
      clear hf
      have O5 := Lib.hid (show OwnN (w3.alloc (.cells #[] 2)) (w3.heap.size) (.slice (some ⟨w3.heap.size, 0, none⟩) 0 0) (P.drop k).reverse from by
        rw [List.drop_eq_nil_of_le (by have := HK.out; omega)]
        exact World.ownsRow_made (base := w3.heap.size) (e := 2) (size := 1) w3 #[] 0 (Nat.le_refl _) (by unfold maxLen; omega) rfl)
      go_wp2_with fail
      go_loopw [9, 10] (fun q iv wr => ∃ (j : Nat) (x : Int), j ≤ k ∧ iv = .int .i64 x ∧ x = (j : Int) - 1 ∧ OwnN wr w3.heap.size q (P.drop j).reverse ∧ Bl w3 wr) (fun _ iv _ => (intOf iv + 1).toNat)
      case atStart => exact ⟨k, (k : Int) - 1, by omega, rfl, rfl, O5.out, (by repeat' (first | exact Bl.refl _ | with_reducible assumption | with_reducible refine Bl.drew_ ?_ | with_reducible refine Bl.drewN_ ?_ _ | with_reducible refine Bl.alloc_ ?_ _ | with_reducible refine Bl.trans_ ?_ (by assumption) | with_reducible refine Bl.trans_ ?_ (And.left (by assumption))))⟩
      case round =>
        obtain ⟨j, x, hj, rfl, hx, hO, hbl⟩ := hrel
        have O := Lib.hid hO
        have hsz := hbl.size
        clear hO O5
        rcases j with _ | j
        · obtain rfl : x = -1 := by omega
          have O2 := O.out
          rw [List.drop_zero] at O2
          obtain ⟨A9, c9, rfl, hcap9, hi9, -, -⟩ := OwnN.shape O2
          have e9 : P.reverse.length = k := by rw [List.length_reverse, HK.out]
          rw [e9] at hcap9 ⊢
          have HR := Lib.hid e9
          have I9 := Lib.hid hi9
          have HC9 := Lib.hid hcap9
          clear O2 hi9 hcap9 e9 O hx
          go_wp2_with fail
          go_loopw [11] (fun iv wx => ∃ i : Nat, i ≤ k ∧ iv = .int .i64 i ∧ Bl wr wx) (fun iv _ => k - (intOf iv).toNat)
          case atStart => exact ⟨0, by omega, rfl, Bl.refl _⟩
          case round =>
            obtain ⟨i, hi, rfl, hbl2⟩ := hrel
            by_cases hlt : i < k
            · have hgb := P3.out.trans_ (hbl.trans_ hbl2)
              have hil : i < P.length := by have := HK.out; omega
              obtain ⟨g2, o2, rfl, hg2, hc2⟩ := (J3.out.bl (hbl.trans_ hbl2)).cell (by omega)
              obtain ⟨f1, f2, f3⟩ := PCS.out i hil
              rw [← HK.out] at f2 f3
              have PC1 := Lib.hid (pieceL_len (Nat.zero_le i) hil)
              have PC2 := Lib.hid (show (pieceL P i (k - 1)).length = k - i from by rw [pieceL_len (by omega) (by have := HK.out; omega)]; omega)
              have IPA := Lib.hid (show ∀ (a b : Nat), a ≤ b → b < P.length → ∀ w5, Bl wr w5 → IntsAt w5 w5.heap.size (some ⟨g2, o2 + a, none⟩) (pieceL P a b) from fun a b hab hbk w5 hy h0 => by
                refine ⟨g2, o2 + a, rfl, Nat.lt_of_lt_of_le hg2 hy.size, fun j hj => ?_⟩
                rw [csI_len] at hj
                rw [pieceL_len hab hbk] at hj
                have h1 := hc2 (a + j) (by omega)
                rw [← (bcell hy).1 _ _ hg2, show o2 + (a + j) = o2 + a + j from by omega] at h1
                rw [csI_at, h1]
                have h2 := pieceL_at hab hbk hj
                rw [List.getD_eq_getElem?_getD, List.getElem?_eq_getElem (by rw [pieceL_len hab hbk]; exact hj)] at h2
                rw [show (pieceL P a b)[j]'(by rw [pieceL_len hab hbk]; exact hj) = P[a + j]'(by omega) from h2])
              have IP1 := Lib.hid (show ∀ w5, Bl wr w5 → IntsAt w5 w5.heap.size (some ⟨g2, o2, none⟩) (pieceL P 0 i) from fun w5 hy => by simpa using IPA.out 0 i (by omega) hil w5 hy)
              have IP2 := Lib.hid (show ∀ w5, Bl wr w5 → IntsAt w5 w5.heap.size (some ⟨g2, o2 + i, none⟩) (pieceL P i (k - 1)) from fun w5 hy => IPA.out i (k - 1) (by omega) (by have := HK.out; omega) w5 hy)
              have F1 := Lib.hid f1
              have F2 := Lib.hid f2
              clear hc2 f1 f2 IPA
              generalize ha1 : lenI N L (pieceL P 0 i) = a1 at *
              generalize ha2 : lenI N L (pieceL P i (k - 1)) = a2 at *
              have G1 := Lib.hid ha1
              have G2 := Lib.hid ha2
              have sw : IntKind.i64.wrap (a1 + a2) = le := by rw [f3]; exact IntWalk.i64_in _ (by omega)
              have F3 := Lib.hid f3
              have lw : IntKind.i64.wrap le = le := IntWalk.i64_in _ (by omega)
              clear ha1 ha2 f3
              have HSH := Lib.hid (show ∀ w5, Bl wr w5 → w5.cell? ⟨w1.heap.size, 0, none⟩ = some (.int .i64 N) ∧ w5.cell? ⟨w1.heap.size, 1, none⟩ = some (.slice A' l c') from fun w5 hy => box2 (hgb.trans_ hy))
              have m0 : (0 : Int) ≤ (i : Int) := by omega
              have m1 : (i : Int) < (k : Int) := by omega
              have m8 : (i : Int) ≤ (k : Int) := by omega
              have m2 : (0 : Int) ≤ (i : Int) + 1 := by omega
              have m3 : (i : Int) + 1 ≤ (c2 : Int) := by have := HC2.out; omega
              have iw : IntKind.i64.wrap ((i : Int) + 1) = (i : Int) + 1 := IntWalk.i64_in _ (by omega)
              have m6 : ¬ (c2 = i) := by have := HC2.out; omega
              have m7 : ¬ (c2 - i = 0) := by have := HC2.out; omega
              have m9 : ¬ (c2 = 0) := by have := HC2.out; omega
              go_wp2_with fail
              refine wp_region_held_drew (S := fun wx => wx.cell? ⟨w1.heap.size, 0, none⟩ = some (.int .i64 N) ∧ wx.cell? ⟨w1.heap.size, 1, none⟩ = some (.slice A' l c')) (by kernel_rfl) ?_ (fun hHeld => ?_)
              · (exact HSH.out _ (by repeat' (first | exact Bl.refl _ | with_reducible assumption | with_reducible refine Bl.drew_ ?_ | with_reducible refine Bl.drewN_ ?_ _ | with_reducible refine Bl.alloc_ ?_ _ | with_reducible refine Bl.trans_ ?_ (by assumption) | with_reducible refine Bl.trans_ ?_ (And.left (by assumption)))))
              refine wpAnyH_take (i := 0) (v := ?_) rfl (by kernel_rfl) (by kernel_rfl) (by kernel_rfl) (fun _ _ _ h => h) (Or.inl ⟨by kernel_rfl, ?_⟩) (by assumption) ?_
              rotate_left
              · (intro wx hSw; (try dsimp only at hSw); go_simp; try (with_reducible rfl))
              try simp only [Act.put, List.getElem_toArray, List.getElem_cons_succ, List.getElem_cons_zero, List.setIfInBounds_toArray, List.set_cons_zero, List.set_cons_succ]
              refine wpAnyH_take (i := 1) (v := ?_) rfl (by kernel_rfl) (by kernel_rfl) (by kernel_rfl) (fun _ _ _ h => h) (Or.inl ⟨by kernel_rfl, ?_⟩) (by assumption) ?_
              rotate_left
              · (intro wx hSw; (try dsimp only at hSw); go_simp; try (with_reducible rfl))
              try simp only [Act.put, List.getElem_toArray, List.getElem_cons_succ, List.getElem_cons_zero, List.setIfInBounds_toArray, List.set_cons_zero, List.set_cons_succ]
              refine wpAnyH_take (i := 2) (v := ?_) rfl (by kernel_rfl) (by kernel_rfl) (by kernel_rfl) (fun _ _ _ h => h) (Or.inl ⟨by kernel_rfl, ?_⟩) (by assumption) ?_
              rotate_left
              · (intro wx hSw; (try dsimp only at hSw); go_simp; try (with_reducible rfl))
              try simp only [Act.put, List.getElem_toArray, List.getElem_cons_succ, List.getElem_cons_zero, List.setIfInBounds_toArray, List.set_cons_zero, List.set_cons_succ]
              refine wpAnyH_take (i := 3) (v := ?_) rfl (by kernel_rfl) (by kernel_rfl) (by kernel_rfl) (fun _ _ _ h => h) (Or.inl ⟨by kernel_rfl, ?_⟩) (by assumption) ?_
              rotate_left
              · (intro wx hSw; (try dsimp only at hSw); go_simp; try (with_reducible rfl))
              try simp only [Act.put, List.getElem_toArray, List.getElem_cons_succ, List.getElem_cons_zero, List.setIfInBounds_toArray, List.set_cons_zero, List.set_cons_succ]
              refine wpAnyH_take (i := 4) (v := ?_) rfl (by kernel_rfl) (by kernel_rfl) (by kernel_rfl) (fun _ _ _ h => h) (Or.inl ⟨by kernel_rfl, ?_⟩) (by assumption) ?_
              rotate_left
              · (intro wx hSw; (try dsimp only at hSw); go_simp; try (with_reducible rfl))
              try simp only [Act.put, List.getElem_toArray, List.getElem_cons_succ, List.getElem_cons_zero, List.setIfInBounds_toArray, List.set_cons_zero, List.set_cons_succ]
              refine wpAnyH_ready (rs := [5]) (by kernel_rfl) (by simp) ?_
              refine AllReadyH.cons rfl (fun K hK => ?_) AllReadyH.nil
              go_simp
              (go_at_call 31; refine (implLengthOf_any N A' l c' L HL.out (some ⟨g2, o2, none⟩) (i + 1) c2 (pieceL P 0 i) PC1.out.symm _ (by omega) (by omega) (by have := HC2.out; omega) (HA.out.bl (hgb.trans_ (by repeat' (first | exact Bl.refl _ | with_reducible assumption | with_reducible refine Bl.drew_ ?_ | with_reducible refine Bl.drewN_ ?_ _ | with_reducible refine Bl.alloc_ ?_ _ | with_reducible refine Bl.trans_ ?_ (by assumption) | with_reducible refine Bl.trans_ ?_ (And.left (by assumption)))))) (IP1.out _ (by repeat' (first | exact Bl.refl _ | with_reducible assumption | with_reducible refine Bl.drew_ ?_ | with_reducible refine Bl.drewN_ ?_ _ | with_reducible refine Bl.alloc_ ?_ _ | with_reducible refine Bl.trans_ ?_ (by assumption) | with_reducible refine Bl.trans_ ?_ (And.left (by assumption)))))).mono ?_; rintro e w5 ⟨rfl, hb5⟩; rw [F1.out, G1.out])
              try (go_wp2_with fail)
              refine hK.out _ _ ?_ (fun hHeld => ?_)
              · (exact HSH.out _ (by repeat' (first | exact Bl.refl _ | with_reducible assumption | with_reducible refine Bl.drew_ ?_ | with_reducible refine Bl.drewN_ ?_ _ | with_reducible refine Bl.alloc_ ?_ _ | with_reducible refine Bl.trans_ ?_ (by assumption) | with_reducible refine Bl.trans_ ?_ (And.left (by assumption)))))
              clear hK K
              try simp only [Act.put, List.getElem_toArray, List.getElem_cons_succ, List.getElem_cons_zero, List.setIfInBounds_toArray, List.set_cons_zero, List.set_cons_succ]
              refine wpAnyH_take (i := 6) (v := ?_) rfl (by kernel_rfl) (by kernel_rfl) (by kernel_rfl) (fun _ _ _ h => h) (Or.inl ⟨by kernel_rfl, ?_⟩) (by assumption) ?_
              rotate_left
              · (intro wx hSw; (try dsimp only at hSw); go_simp; try (with_reducible rfl))
              try simp only [Act.put, List.getElem_toArray, List.getElem_cons_succ, List.getElem_cons_zero, List.setIfInBounds_toArray, List.set_cons_zero, List.set_cons_succ]
              refine wpAnyH_take (i := 7) (v := ?_) rfl (by kernel_rfl) (by kernel_rfl) (by kernel_rfl) (fun _ _ _ h => h) (Or.inl ⟨by kernel_rfl, ?_⟩) (by assumption) ?_
              rotate_left
              · (intro wx hSw; (try dsimp only at hSw); go_simp; try (with_reducible rfl))
              try simp only [Act.put, List.getElem_toArray, List.getElem_cons_succ, List.getElem_cons_zero, List.setIfInBounds_toArray, List.set_cons_zero, List.set_cons_succ]
              refine wpAnyH_take (i := 8) (v := ?_) rfl (by kernel_rfl) (by kernel_rfl) (by kernel_rfl) (fun _ _ _ h => h) (Or.inl ⟨by kernel_rfl, ?_⟩) (by assumption) ?_
              rotate_left
              · (intro wx hSw; (try dsimp only at hSw); go_simp; try (with_reducible rfl))
              try simp only [Act.put, List.getElem_toArray, List.getElem_cons_succ, List.getElem_cons_zero, List.setIfInBounds_toArray, List.set_cons_zero, List.set_cons_succ]
              refine wpAnyH_take (i := 9) (v := ?_) rfl (by kernel_rfl) (by kernel_rfl) (by kernel_rfl) (fun _ _ _ h => h) (Or.inl ⟨by kernel_rfl, ?_⟩) (by assumption) ?_
              rotate_left
              · (intro wx hSw; (try dsimp only at hSw); go_simp; try (with_reducible rfl))
              try simp only [Act.put, List.getElem_toArray, List.getElem_cons_succ, List.getElem_cons_zero, List.setIfInBounds_toArray, List.set_cons_zero, List.set_cons_succ]
              refine wpAnyH_take (i := 10) (v := ?_) rfl (by kernel_rfl) (by kernel_rfl) (by kernel_rfl) (fun _ _ _ h => h) (Or.inl ⟨by kernel_rfl, ?_⟩) (by assumption) ?_
              rotate_left
              · (intro wx hSw; (try dsimp only at hSw); go_simp; try (with_reducible rfl))
              try simp only [Act.put, List.getElem_toArray, List.getElem_cons_succ, List.getElem_cons_zero, List.setIfInBounds_toArray, List.set_cons_zero, List.set_cons_succ]
              refine wpAnyH_done (by kernel_rfl) ?_ _
              clear hHeld
              have B5 := Lib.hid (show Bl wr w5 from (by repeat' (first | exact Bl.refl _ | with_reducible assumption | with_reducible refine Bl.drew_ ?_ | with_reducible refine Bl.drewN_ ?_ _ | with_reducible refine Bl.alloc_ ?_ _ | with_reducible refine Bl.trans_ ?_ (by assumption) | with_reducible refine Bl.trans_ ?_ (And.left (by assumption)))))
              clear hb5
              go_wp2_with fail
              refine wp_region_held_drew (S := fun wx => wx.cell? ⟨w1.heap.size, 0, none⟩ = some (.int .i64 N) ∧ wx.cell? ⟨w1.heap.size, 1, none⟩ = some (.slice A' l c')) (by kernel_rfl) ?_ (fun hHeld => ?_)
              · (exact HSH.out _ (B5.out.trans_ (by repeat' (first | exact Bl.refl _ | with_reducible assumption | with_reducible refine Bl.drew_ ?_ | with_reducible refine Bl.drewN_ ?_ _ | with_reducible refine Bl.alloc_ ?_ _ | with_reducible refine Bl.trans_ ?_ (by assumption) | with_reducible refine Bl.trans_ ?_ (And.left (by assumption))))))
              refine wpAnyH_take (i := 0) (v := ?_) rfl (by kernel_rfl) (by kernel_rfl) (by kernel_rfl) (fun _ _ _ h => h) (Or.inl ⟨by kernel_rfl, ?_⟩) (by assumption) ?_
              rotate_left
              · (intro wx hSw; (try dsimp only at hSw); go_simp; try (with_reducible rfl))
              try simp only [Act.put, List.getElem_toArray, List.getElem_cons_succ, List.getElem_cons_zero, List.setIfInBounds_toArray, List.set_cons_zero, List.set_cons_succ]
              refine wpAnyH_take (i := 1) (v := ?_) rfl (by kernel_rfl) (by kernel_rfl) (by kernel_rfl) (fun _ _ _ h => h) (Or.inl ⟨by kernel_rfl, ?_⟩) (by assumption) ?_
              rotate_left
              · (intro wx hSw; (try dsimp only at hSw); go_simp; try (with_reducible rfl))
              try simp only [Act.put, List.getElem_toArray, List.getElem_cons_succ, List.getElem_cons_zero, List.setIfInBounds_toArray, List.set_cons_zero, List.set_cons_succ]
              refine wpAnyH_take (i := 2) (v := ?_) rfl (by kernel_rfl) (by kernel_rfl) (by kernel_rfl) (fun _ _ _ h => h) (Or.inl ⟨by kernel_rfl, ?_⟩) (by assumption) ?_
              rotate_left
              · (intro wx hSw; (try dsimp only at hSw); go_simp; try (with_reducible rfl))
              try simp only [Act.put, List.getElem_toArray, List.getElem_cons_succ, List.getElem_cons_zero, List.setIfInBounds_toArray, List.set_cons_zero, List.set_cons_succ]
              refine wpAnyH_take (i := 3) (v := ?_) rfl (by kernel_rfl) (by kernel_rfl) (by kernel_rfl) (fun _ _ _ h => h) (Or.inl ⟨by kernel_rfl, ?_⟩) (by assumption) ?_
              rotate_left
              · (intro wx hSw; (try dsimp only at hSw); go_simp; try (with_reducible rfl))
              try simp only [Act.put, List.getElem_toArray, List.getElem_cons_succ, List.getElem_cons_zero, List.setIfInBounds_toArray, List.set_cons_zero, List.set_cons_succ]
              refine wpAnyH_ready (rs := [4]) (by kernel_rfl) (by simp) ?_
              refine AllReadyH.cons rfl (fun K hK => ?_) AllReadyH.nil
              go_simp
              (go_at_call 31; refine (implLengthOf_any N A' l c' L HL.out (some ⟨g2, o2 + i, none⟩) (k - i) (c2 - i) (pieceL P i (k - 1)) PC2.out.symm _ (by omega) (by omega) (by have := HC2.out; omega) (HA.out.bl (hgb.trans_ (B5.out.trans_ (by repeat' (first | exact Bl.refl _ | with_reducible assumption | with_reducible refine Bl.drew_ ?_ | with_reducible refine Bl.drewN_ ?_ _ | with_reducible refine Bl.alloc_ ?_ _ | with_reducible refine Bl.trans_ ?_ (by assumption) | with_reducible refine Bl.trans_ ?_ (And.left (by assumption))))))) (IP2.out _ (B5.out.trans_ (by repeat' (first | exact Bl.refl _ | with_reducible assumption | with_reducible refine Bl.drew_ ?_ | with_reducible refine Bl.drewN_ ?_ _ | with_reducible refine Bl.alloc_ ?_ _ | with_reducible refine Bl.trans_ ?_ (by assumption) | with_reducible refine Bl.trans_ ?_ (And.left (by assumption))))))).mono ?_; rintro e w6 ⟨rfl, hb6⟩; rw [F2.out, G2.out])
              try (go_wp2_with fail)
              refine hK.out _ _ ?_ (fun hHeld => ?_)
              · (exact HSH.out _ (B5.out.trans_ (by repeat' (first | exact Bl.refl _ | with_reducible assumption | with_reducible refine Bl.drew_ ?_ | with_reducible refine Bl.drewN_ ?_ _ | with_reducible refine Bl.alloc_ ?_ _ | with_reducible refine Bl.trans_ ?_ (by assumption) | with_reducible refine Bl.trans_ ?_ (And.left (by assumption))))))
              clear hK K
              try simp only [Act.put, List.getElem_toArray, List.getElem_cons_succ, List.getElem_cons_zero, List.setIfInBounds_toArray, List.set_cons_zero, List.set_cons_succ]
              refine wpAnyH_take (i := 5) (v := ?_) rfl (by kernel_rfl) (by kernel_rfl) (by kernel_rfl) (fun _ _ _ h => h) (Or.inl ⟨by kernel_rfl, ?_⟩) (by assumption) ?_
              rotate_left
              · (intro wx hSw; (try dsimp only at hSw); go_simp; try (with_reducible rfl))
              try simp only [Act.put, List.getElem_toArray, List.getElem_cons_succ, List.getElem_cons_zero, List.setIfInBounds_toArray, List.set_cons_zero, List.set_cons_succ]
              refine wpAnyH_take (i := 6) (v := ?_) rfl (by kernel_rfl) (by kernel_rfl) (by kernel_rfl) (fun _ _ _ h => h) (Or.inl ⟨by kernel_rfl, ?_⟩) (by assumption) ?_
              rotate_left
              · (intro wx hSw; (try dsimp only at hSw); go_simp; try (with_reducible rfl))
              try simp only [Act.put, List.getElem_toArray, List.getElem_cons_succ, List.getElem_cons_zero, List.setIfInBounds_toArray, List.set_cons_zero, List.set_cons_succ]
              refine wpAnyH_take (i := 7) (v := ?_) rfl (by kernel_rfl) (by kernel_rfl) (by kernel_rfl) (fun _ _ _ h => h) (Or.inl ⟨by kernel_rfl, ?_⟩) (by assumption) ?_
              rotate_left
              · (intro wx hSw; (try dsimp only at hSw); go_simp; try (with_reducible rfl))
              try simp only [Act.put, List.getElem_toArray, List.getElem_cons_succ, List.getElem_cons_zero, List.setIfInBounds_toArray, List.set_cons_zero, List.set_cons_succ]
              refine wpAnyH_take (i := 8) (v := ?_) rfl (by kernel_rfl) (by kernel_rfl) (by kernel_rfl) (fun _ _ _ h => h) (Or.inl ⟨by kernel_rfl, ?_⟩) (by assumption) ?_
              rotate_left
              · (intro wx hSw; (try dsimp only at hSw); go_simp; try (with_reducible rfl))
              try simp only [Act.put, List.getElem_toArray, List.getElem_cons_succ, List.getElem_cons_zero, List.setIfInBounds_toArray, List.set_cons_zero, List.set_cons_succ]
              refine wpAnyH_take (i := 9) (v := ?_) rfl (by kernel_rfl) (by kernel_rfl) (by kernel_rfl) (fun _ _ _ h => h) (Or.inl ⟨by kernel_rfl, ?_⟩) (by assumption) ?_
              rotate_left
              · (intro wx hSw; (try dsimp only at hSw); go_simp; try (with_reducible rfl))
              try simp only [Act.put, List.getElem_toArray, List.getElem_cons_succ, List.getElem_cons_zero, List.setIfInBounds_toArray, List.set_cons_zero, List.set_cons_succ]
              refine wpAnyH_done (by kernel_rfl) ?_ _
              have Q9 := Lib.hid (hbl2.trans_ (B5.out.trans_ (show Bl w5 w6 from (by repeat' (first | exact Bl.refl _ | with_reducible assumption | with_reducible refine Bl.drew_ ?_ | with_reducible refine Bl.drewN_ ?_ _ | with_reducible refine Bl.alloc_ ?_ _ | with_reducible refine Bl.trans_ ?_ (by assumption) | with_reducible refine Bl.trans_ ?_ (And.left (by assumption)))))))
              clear hHeld hb6
              go_wp2
              go_roundw
              case rel => exact ⟨i + 1, by omega, by go_num, Q9.out⟩
              case measure => simp [intOf]; omega
            · obtain rfl : i = k := by omega
              have hgb := P3.out.trans_ (hbl.trans_ hbl2)
              have HG := Lib.hid hgb
              obtain ⟨q0, q1⟩ := box2 hgb
              clear hgb
              go_wp2_with fail
              refine (implReversed_any N A' l c' L HL.out _ (by omega) (HA.out.bl HG.out)).mono ?_
              rintro e w8 ⟨v6, rfl, hv6, hb8⟩
              rw [show revN N L = N from if_pos HO.out]
              rw [show revG N L = revL L from if_pos HO.out] at hv6
              obtain ⟨A6, c6, rfl, ha6, -⟩ := hv6.shape
              have V6 := Lib.hid ha6
              have B8 := Lib.hid hb8
              clear hv6 ha6 hb8
              go_wp2_with fail
              refine (implLengthOf_any N A6 (revL L).length c6 (revL L) rfl A9 i c9 P.reverse HR.out.symm _ (by have := HRL.out; have := HL.out; omega) hp4 HC9.out V6.out (I9.out.bl (hbl2.trans_ B8.out))).mono ?_
              rintro e w9 ⟨rfl, hb9⟩
              rw [BK.out.1, BK.out.2]
              go_wp2
              go_ret
              exact ⟨rfl, B1.out.trans_ (HG.out.trans_ (B8.out.trans_ hb9))⟩
        · obtain rfl : x = (j : Int) := by omega
          have hjl : j < P.length := by have := HK.out; omega
          obtain ⟨g2, o2, rfl, hg2, hc2⟩ := (J3.out.bl hbl).cell (by omega)
          have p1 := hc2 j hjl
          have DR := Lib.hid (show (P.drop j).reverse = (P.drop (j + 1)).reverse ++ [P[j]'hjl] from by rw [List.drop_eq_getElem_cons hjl, List.reverse_cons])
          generalize P[j]'hjl = y at p1 DR
          obtain ⟨R, hR⟩ : ∃ R, R = (P.drop (j + 1)).reverse := ⟨_, rfl⟩
          have O2 := O.out
          rw [← hR] at O2
          have hRl : R.length ≤ 1000 := by rw [hR, List.length_reverse, List.length_drop]; have := HK.out; omega
          have RR := Lib.hid hR
          have O7 := Lib.hid O2
          have hs7 := hsz
          have m0 : (0 : Int) ≤ (j : Int) := by omega
          have m1 : (j : Int) < (k : Int) := by omega
          have iw : IntKind.i64.wrap ((j : Int) - 1) = (j : Int) - 1 := IntWalk.i64_in _ (by omega)
          clear O2 hR O hc2 hx
          go_wp2_with (at_builtin; refine wpList_append_any _ rfl (.tmp 65) (.tmp 70) _ rfl w3.heap.size 2 i0 _ 1 8 Try.underlying38 I0.out I1.out I2.out I3.out rfl (by decide) _ R.length (csI R) rfl (World.ownsRow.alloc O7.out _) (wr.heap.size + 1) (some ⟨wr.heap.size, 0, none⟩) 1 1 [.int .i64 y] rfl ?c0 (by simp [Value.oneCell']) ?c3 ?c4 ?c5 ?_)
          case c0 =>
            refine ⟨rfl, fun _ => ⟨_, rfl, by show wr.heap.size < wr.heap.size + 1; omega, fun x u hj => ?_⟩⟩
            match x, hj with
            | 0, hj => simp at hj; subst hj; simp [Addr.add, go_sem]
            | (x + 1), hj => simp at hj
          case c3 => unfold maxLen; omega
          case c4 => omega
          case c5 => simp; omega
          intro v' w8 hown' hgrow hwh
          have O8 := Lib.hid (OwnN.snoc (V := R) (x := y) (n := R.length) rfl (by simpa using hown'))
          have B8 := Lib.hid (show Bl w3 w8 from (hbl.alloc_ (.cells #[.int .i64 y] 2)).grown_ hgrow (fun g hg => by have := (Owns.lt O7.out g hg).1; omega))
          clear hown' hgrow hwh
          go_wp2
          go_roundw
          case rel => exact ⟨j, (j : Int) - 1, by omega, by go_num, rfl, by rw [DR.out, ← RR.out]; exact O8.out, B8.out⟩
          case measure => simp only [intOf]; omega

end Go.Proofs.Ytdbjcojlcddhdaa
