/-
  What is proved here: plain facts on the first arc by way of which it is no farther, and on paths that are gone step by step; plain facts on the first of the shortest paths, and on nodes by way of which it is at most so far; two cells in a block of their own; a graph that is put together arc by arc; spec.Reversed turns the arcs of a right graph and puts them in order, as the model does; how far all nodes are, as the model reckons it; DistFrom and DistOf of the model; the arcs that leave a node, as the code gathers them; the model's first of the shortest paths; What is stated here: of which functions and types of the program the library's search for the first one is made. No conditions; impl.nextNode tells the least node by way of which it is no farther; What is stated here: of which functions and types of the program the library's sort of structs is made. No conditions; slices.SortFunc over arcs of which no two have the same ends puts them in order; impl.Reversed turns the arcs of a right graph and sorts them; impl.PathOf tells the first of the shortest paths; the model's PathOf tells the first of the shortest paths; arcs that are marked hold the marks, and nothing else has turned; the walk of the exact law on Outs: at every graph and node that can be read it returns true and leaves what was there as it was; the walk of the exact law on PathOf: at every graph and all numbers that can be read it returns true and leaves what was there as it was. No conditions beyond those that each theorem states.
-/
import Derived.Test.YtnacjmifnnfliaaPQ
import Derived.Test.YtnacjmifnnfliaaPB
import Derived.Lib.SlBy
import Derived.Test.YtnacjmifnnfliaaG3
import Derived.Test.YtnacjmifnnfliaaPR
import Derived.Test.YtnacjmifnnfliaaX1
import Derived.Test.YtnacjmifnnfliaaK1
import Derived.Deep.LoopGhost
import Derived.IntWalk
import Derived.Test.YtnacjmifnnfliaaNF4
import Derived.Test.YtnacjmifnnfliaaG1
import Derived.Shelf.SlicesQ.IndexFunc
import Derived.Shelf.SlGeneric
import Derived.Test.YtnacjmifnnfliaaProg
import Derived.Shelf.SlLaysF0
import Derived.Shelf.SlSortCmp.NoneTotal
import Derived.Test.YtnacjmifnnfliaaE1
import Derived.Test.YtnacjmifnnfliaaB1
set_option linter.unusedSimpArgs false
set_option linter.unusedVariables false
namespace Go.Proofs.Ytnacjmifnnfliaa
open Go.RowKit

/-- Arcs between nodes of n. -/
structure ArcN (N : Int) where
  a : Arc3
  h : 0 ≤ a.2.1 ∧ a.2.1 < N ∧ 1 ≤ a.2.2 ∧ a.2.2 ≤ 1000
def arcsN {N : Int} (M : List Arc3) (h : ∀ a ∈ M, 0 ≤ a.2.1 ∧ a.2.1 < N ∧ 1 ≤ a.2.2 ∧ a.2.2 ≤ 1000) : List (ArcN N) := M.pmap (fun a ha => ⟨a, ha⟩) h
theorem arcsN_len {N : Int} {M : List Arc3} (h : ∀ a ∈ M, 0 ≤ a.2.1 ∧ a.2.1 < N ∧ 1 ≤ a.2.2 ∧ a.2.2 ≤ 1000) : (arcsN M h).length = M.length := by unfold arcsN; rw [List.length_pmap]
theorem arcsN_at {N : Int} [Inhabited (ArcN N)] {M : List Arc3} (h : ∀ a ∈ M, 0 ≤ a.2.1 ∧ a.2.1 < N ∧ 1 ≤ a.2.2 ∧ a.2.2 ≤ 1000) {j : Nat} (hj : j < M.length) : ((arcsN M h)[j]!).1 = M[j] := by
  rw [getElem!_pos (arcsN M h) j (by rw [arcsN_len]; exact hj)]
  unfold arcsN
  rw [List.getElem_pmap]
/-- Where the first arc is that a search finds. -/
theorem first_at {M : List Arc3} {q : Arc3 → Bool} {a : Arc3} (h : M.find? q = some a) : ∃ k, ∃ (hk : k < M.length), M[k] = a ∧ q M[k] = true ∧ ∀ j (hj : j < k), q (M[j]'(by omega)) = false := by
  obtain ⟨h1, k, hk, e, h2⟩ := List.find?_eq_some_iff_getElem.1 h
  exact ⟨k, hk, e, by rw [e]; exact h1, fun j hj => by simpa using h2 j hj⟩
theorem idx_first {N : Int} [Inhabited (ArcN N)] {M : List Arc3} (h : ∀ a ∈ M, 0 ≤ a.2.1 ∧ a.2.1 < N ∧ 1 ≤ a.2.2 ∧ a.2.2 ≤ 1000) (q : Arc3 → Bool) {k : Nat} (hk : k < M.length) (hq : q M[k] = true) (hno : ∀ j (hj : j < k), q (M[j]'(by omega)) = false) :
    Lib.idxBy (fun _ (y : ArcN N) => q y.1) ((arcsN M h).take M.length) default = (k : Int) := by
  refine Lib.idxBy_hit _ _ M.length k default hk (by rw [arcsN_len]; exact Nat.le_refl _) ?_ (fun j hj => ?_)
  · show q ((arcsN M h)[k]!).1 = true
    rw [arcsN_at h hk]; exact hq
  · show q ((arcsN M h)[j]!).1 = false
    rw [arcsN_at h (by omega)]; exact hno j hj

/-- Where all of the first places are as far, the next arc is the same. -/
theorem nextB_take {E : List Int} {n : Nat} {v : Int} {a : Arc3} (h : n ≤ E.length) (hv : 0 ≤ v ∧ v < n) (ha : 0 ≤ a.2.1 ∧ a.2.1 < n) : nextB (E.take n) v a = nextB E v a := by
  have e : ∀ x : Int, 0 ≤ x → x < n → dAt (E.take n) x = dAt E x := fun x h0 h1 => by
    unfold dAt
    simp only [List.getD_eq_getElem?_getD]
    rw [List.getElem?_take, if_pos (by omega)]
  unfold nextB
  rw [e _ ha.1 ha.2, e _ hv.1 hv.2]

/-- k steps along a path, the node behind them being v, and what is still to come. -/
structure OnWay (L : List Arc3) (D : List Int) (s t : Int) (P : List Int) (v : Int) : Prop where
  all : P ++ stepsL L D t v = s :: stepsL L D t s
  last : ∃ Q, P = Q ++ [v]
  far : 0 ≤ dAt D v
theorem OnWay.start {L : List Arc3} {D : List Int} {s t : Int} (h : 0 ≤ dAt D s) : OnWay L D s t [s] s := ⟨rfl, ⟨[], rfl⟩, h⟩
theorem OnWay.next {L : List Arc3} {D : List Int} {s t v : Int} {P : List Int} (h : OnWay L D s t P v) (hv : v ≠ t) {a : Arc3} (hn : nextL L D v = some a) (h0 : 0 ≤ dAt D a.2.1) (hl : dAt D a.2.1 < dAt D v) : OnWay L D s t (P ++ [a.2.1]) a.2.1 := by
  refine ⟨?_, ⟨P, rfl⟩, h0⟩
  rw [← h.all, stepsL_next hv hn h0 hl, List.append_assoc]
  rfl
theorem OnWay.done {L : List Arc3} {D : List Int} {s t : Int} {P : List Int} (h : OnWay L D s t P t) : P = s :: stepsL L D t s := by
  have := h.all
  rwa [stepsL_end, List.append_nil] at this
theorem OnWay.len {L : List Arc3} {D : List Int} {s t v : Int} {P : List Int} (h : OnWay L D s t P v) (hd : dAt D s ≤ 23000) : P.length ≤ 23001 := by
  have h1 := congrArg List.length h.all
  have h2 := stepsL_len L D t _ s rfl
  simp only [List.length_append, List.length_cons] at h1
  omega

end Go.Proofs.Ytnacjmifnnfliaa

set_option linter.unusedSimpArgs false
set_option linter.unusedVariables false
namespace Go.Proofs.Ytnacjmifnnfliaa
open Go.RowKit

/-- The path from v down to t, by the next arcs. -/
inductive Way (N : Int) (L : List Arc3) (D : List Int) (t : Int) : Int → List Int → Prop
  | stop : Way N L D t t [t]
  | go {v : Int} {a : Arc3} {P : List Int} (hv : v ≠ t) (hr : 0 ≤ v ∧ v < N) (hn : nextL L D v = some a) (hL : a ∈ L) (h1 : a.1 = v) (h0 : 0 ≤ dAt D a.2.1) (hd : a.2.2 + dAt D a.2.1 = dAt D v) (hl : dAt D a.2.1 < dAt D v) (h : Way N L D t a.2.1 P) : Way N L D t v (v :: P)
theorem way_steps {N t : Int} {L : List Arc3} {D : List Int} (ho : okB N L = true) (h : IsDist N (revL L) t D) : ∀ (n : Nat) (v : Int), (dAt D v).toNat = n → 0 ≤ v → v < N → 0 ≤ dAt D v → Way N L D t v (v :: stepsL L D t v) := by
  intro n
  induction n using Nat.strongRecOn with
  | ind n ih =>
    intro v hn h0 h1 hd
    by_cases hv : v = t
    · subst hv
      rw [stepsL_end]
      exact .stop
    · obtain ⟨a, e, hL, ha, hp, hs, r0, r1, hl⟩ := nextL_some ho h h0 h1 hv hd
      rw [stepsL_next hv e hp hl]
      exact .go hv ⟨h0, h1⟩ e hL ha hp hs hl (ih _ (by omega) _ rfl r0 r1 hp)
theorem way_path {N s t : Int} {L : List Arc3} (hh : has2 N L s t = true) (hd : 0 ≤ dAt (distL N (revL L) t) s) : Way N L (distL N (revL L) t) t s (pathL N L s t) := by
  obtain ⟨ho, hs, ht⟩ := has2_of hh
  unfold pathL
  rw [if_pos (by rw [Bool.and_eq_true]; exact ⟨hh, by simpa using hd⟩)]
  exact way_steps ho (distL_is (arcsIn_of_ok (revL_ok ho)) (okB_elim ho).2.1 ht.1 ht.2) _ s rfl hs.1 hs.2 hd
section
variable {N t v : Int} {L : List Arc3} {D P : List Int}
theorem Way.pos (h : Way N L D t v P) : 0 < P.length := by cases h <;> simp
theorem Way.head (h : Way N L D t v P) (hp : 0 < P.length) : P[0] = v := by cases h <;> rfl
theorem Way.last (h : Way N L D t v P) : ∀ (hp : P.length - 1 < P.length), P[P.length - 1] = t := by
  induction h with
  | stop => intro _; rfl
  | go hv hr hn hL h1 h0 hd hl h ih =>
    intro hp
    have := h.pos
    have h2 := ih (by omega)
    simp only [List.length_cons]
    rw [List.getElem_cons]
    rw [dif_neg (by omega)]
    simpa using h2
theorem Way.nodes (h : Way N L D t v P) (ht : 0 ≤ t ∧ t < N) (hz : 0 ≤ dAt D t) : ∀ x ∈ P, (0 ≤ x ∧ x < N) ∧ 0 ≤ dAt D x ∧ dAt D x ≤ dAt D v := by
  induction h with
  | stop => intro x hx; simp at hx; subst hx; exact ⟨ht, hz, Int.le_refl _⟩
  | go hv hr hn hL h1 h0 hd hl h ih =>
    intro x hx
    rcases List.mem_cons.1 hx with rfl | hx
    · exact ⟨hr, by omega, Int.le_refl _⟩
    · obtain ⟨a, b, c⟩ := ih x hx
      exact ⟨a, b, by omega⟩
/-- Each step is the next arc. -/
theorem Way.step (h : Way N L D t v P) : ∀ i (hi : i + 1 < P.length), ∃ a, nextL L D (P[i]'(by omega)) = some a ∧ a ∈ L ∧ a.1 = P[i]'(by omega) ∧ a.2.1 = P[i + 1] ∧ a.2.2 + dAt D P[i + 1] = dAt D (P[i]'(by omega)) ∧ dAt D P[i + 1] < dAt D (P[i]'(by omega)) := by
  induction h with
  | stop => intro i hi; simp at hi
  | go hv hr hn hL h1 h0 hd hl h ih =>
    intro i hi
    rcases i with _ | i
    · have hp := h.pos
      have hh := h.head hp
      simp only [List.getElem_cons_zero, List.getElem_cons_succ]
      rw [hh]
      exact ⟨_, hn, hL, h1, rfl, hd, hl⟩
    · simpa using ih i (by simpa using hi)
/-- How far is left falls along the path. -/
theorem Way.falls (h : Way N L D t v P) : ∀ i j (hij : i < j) (hj : j < P.length), dAt D P[j] < dAt D (P[i]'(by omega)) := by
  intro i j hij
  induction j with
  | zero => omega
  | succ j ih =>
    intro hj
    obtain ⟨a, -, -, -, -, -, e⟩ := h.step j hj
    by_cases hh : i = j
    · subst hh; exact e
    · have := ih (by omega) (by omega)
      omega
theorem Way.nodup (h : Way N L D t v P) : ∀ i j (hij : i < j) (hj : j < P.length), P[i]'(by omega) ≠ P[j] := fun i j hij hj e => by
  have := h.falls i j hij hj
  rw [e] at this
  omega
end

/-- Nodes of the first path are on a shortest one. -/
theorem way_on {N s t : Int} {L : List Arc3} {D E : List Int} (ho : okB N L = true) (hD : IsDist N L s D) (hE : IsDist N (revL L) t E) {v : Int} {P : List Int} (h : Way N L E t v P) (hv : 0 ≤ dAt D v ∧ dAt D v + dAt E v = dAt D t) (hr : 0 ≤ v ∧ v < N) (ht : 0 ≤ t ∧ t < N) (hz : 0 ≤ dAt E t) :
    ∀ x ∈ P, (0 ≤ x ∧ x < N) ∧ 0 ≤ dAt D x ∧ 0 ≤ dAt E x ∧ dAt D x + dAt E x = dAt D t := by
  induction h with
  | stop =>
    intro x hx
    simp at hx
    subst hx
    exact ⟨ht, hv.1, hz, hv.2⟩
  | @go v a P hv' hr' hn hL h1 h0 hd hl h ih =>
    intro x hx
    obtain ⟨a0, a1, a2, a3, a4, a5⟩ := arcsIn_of_ok ho a hL
    rcases List.mem_cons.1 hx with rfl | hx
    · exact ⟨hr, hv.1, by omega, hv.2⟩
    · have hle := hD.arc a hL (by rw [h1]; exact hv.1)
      rw [h1] at hle
      have htri := IsDist.tri ho hD hE _ a.2.1 a2 a3 rfl h0 hle.1
      exact ih ⟨hle.1, by omega⟩ ⟨a2, a3⟩ x hx

/-- Which nodes are between two. -/
theorem distOfI_of {N s t : Int} {L : List Arc3} (ho : okB N L = true) (hs : 0 ≤ s ∧ s < N) (ht : 0 ≤ t ∧ t < N) : distOfI N L s t = dAt (distL N L s) t := by
  unfold distOfI
  rw [if_pos (by unfold has2; rw [ho, Bool.true_and, decide_eq_true_eq]; exact ⟨hs, ht⟩)]
theorem betL_mem {N s t m v : Int} {L : List Arc3} (hh : has2 N L s t = true) (hm : 0 ≤ m ∧ m ≤ 24000) (hv : 0 ≤ v ∧ v < N) :
    v ∈ betL N L s t m ↔ 0 ≤ distOfI N L s v ∧ 0 ≤ distOfI N L v t ∧ distOfI N L s v + distOfI N L v t ≤ m := by
  obtain ⟨ho, hs, ht⟩ := has2_of hh
  unfold betL
  rw [if_pos (by rw [Bool.and_eq_true]; exact ⟨hh, by simpa using hm⟩)]
  unfold withinL
  rw [mem_withinD, distOfI_of ho hs hv, distOfI_of ho hv ht, distL_of_turned ho hv ht]
  constructor
  · rintro ⟨-, h⟩; exact h
  · intro h; exact ⟨hv, h⟩
theorem onL_mem {N s t v : Int} {L : List Arc3} (hh : has2 N L s t = true) (hv : 0 ≤ v ∧ v < N) :
    v ∈ onL N L s t ↔ 0 ≤ distOfI N L s v ∧ 0 ≤ distOfI N L v t ∧ distOfI N L s v + distOfI N L v t = distOfI N L s t := by
  obtain ⟨ho, hs, ht⟩ := has2_of hh
  unfold onL
  rw [if_pos hh]
  unfold withinL
  have hD := distL_is (s := s) (arcsIn_of_ok ho) (okB_elim ho).2.1 hs.1 hs.2
  have hE := distL_is (s := t) (arcsIn_of_ok (revL_ok ho)) (okB_elim ho).2.1 ht.1 ht.2
  have hb := byB_on ho hD hE hv.1 hv.2
  rw [distOfI_of ho hs hv, distOfI_of ho hv ht, distOfI_of ho hs ht, ← distL_of_turned ho hv ht]
  have hm : v ∈ withinD N (distL N L s) (distL N (revL L) t) (dAt (distL N L s) t) ↔ byB (distL N L s) (distL N (revL L) t) (dAt (distL N L s) t) v = true := by
    unfold withinD
    rw [List.mem_filter, mem_nodesL]
    constructor
    · exact fun h => h.2
    · exact fun h => ⟨hv, h⟩
  rw [hm, hb, decide_eq_true_eq]
theorem betL_on {N s t : Int} {L : List Arc3} (hh : has2 N L s t = true) (hd : 0 ≤ distOfI N L s t) : betL N L s t (distOfI N L s t) = onL N L s t := by
  obtain ⟨ho, hs, ht⟩ := has2_of hh
  have hb := (distOfI_bounds (N := N) (s := s) (t := t) (L := L)).2
  unfold betL onL
  rw [if_pos (by rw [Bool.and_eq_true]; exact ⟨hh, by simp; omega⟩), if_pos hh, distOfI_of ho hs ht]
theorem betL_more {N s t m v : Int} {L : List Arc3} (hm : m < 24000) (h : v ∈ betL N L s t m) : v ∈ betL N L s t (m + 1) := by
  unfold betL at h ⊢
  split at h
  · rename_i hc
    rw [Bool.and_eq_true] at hc
    have h2 : 0 ≤ m ∧ m ≤ 24000 := by simpa using hc.2
    rw [if_pos (by rw [Bool.and_eq_true]; exact ⟨hc.1, by simp; omega⟩)]
    unfold withinL at h ⊢
    rw [mem_withinD] at h ⊢
    obtain ⟨a, b, c, d⟩ := h
    exact ⟨a, b, c, by omega⟩
  · simp at h
theorem betL_turned {N s t m : Int} {L : List Arc3} (ho : okB N L = true) : betL N (revL L) t s m = betL N L s t m := by
  have e : has2 N (revL L) t s = has2 N L s t := by
    unfold has2
    rw [ho, revL_ok ho]
    simp [and_comm]
  unfold betL
  rw [e]
  by_cases h : (has2 N L s t && decide (0 ≤ m ∧ m ≤ 24000)) = true
  · rw [if_pos h, if_pos h]
    rw [Bool.and_eq_true] at h
    obtain ⟨-, hs, ht⟩ := has2_of h.1
    unfold withinL withinD
    rw [revL_revL ho]
    congr 1
    funext v
    unfold byB
    rw [decide_eq_decide]
    constructor <;> (intro h; omega)
  · rw [if_neg h, if_neg h]
/-- The first path's nodes are on a shortest one. -/
theorem path_on {N s t x : Int} {L : List Arc3} (h : x ∈ pathL N L s t) : x ∈ onL N L s t := by
  unfold pathL at h
  split at h
  · rename_i hc
    rw [Bool.and_eq_true] at hc
    have hd : 0 ≤ dAt (distL N (revL L) t) s := by simpa using hc.2
    obtain ⟨ho, hs, ht⟩ := has2_of hc.1
    have hD := distL_is (s := s) (arcsIn_of_ok ho) (okB_elim ho).2.1 hs.1 hs.2
    have hE := distL_is (s := t) (arcsIn_of_ok (revL_ok ho)) (okB_elim ho).2.1 ht.1 ht.2
    have hw := way_path hc.1 hd
    have hx : x ∈ pathL N L s t := by
      unfold pathL
      rw [if_pos (by rw [Bool.and_eq_true]; exact hc)]
      exact h
    have h0 := hD.start
    have h1 := hE.start
    have hst := distL_of_turned ho hs ht
    obtain ⟨a, b, c, d⟩ := way_on ho hD hE hw ⟨by omega, by omega⟩ hs ht (by omega) x hx
    rw [onL_mem hc.1 a, distOfI_of ho hs a, distOfI_of ho a ht, distOfI_of ho hs ht, ← distL_of_turned ho a ht]
    exact ⟨b, c, d⟩
  · simp at h

end Go.Proofs.Ytnacjmifnnfliaa

set_option linter.unusedSimpArgs false
set_option linter.unusedVariables false
namespace Go.Proofs.Ytnacjmifnnfliaa
open Go.RowKit

theorem OwnA.grown_ {w w' : World} {B : Nat} {v : Value} {L : List Arc3} {row : Option Nat} (h : OwnA w B v L) (hg : w.grownBy w' row) (hne : ∀ g, row = some g → g < B) : OwnA w' B v L :=
  World.ownsRow.kept h hg (by
    cases hv : v.ownBlock with
    | none => exact .inl rfl
    | some g =>
      refine .inr fun e => ?_
      have h1 := (h.lt g hv).1
      have h2 := hne g e.symm
      omega)

/-- Two cells, in a block of their own. -/
def Two (w : World) (g : Nat) (a b : Value) : Prop := w.rowIs g 30 2 (fun i => if i = 0 then a else b)
theorem Two.new (w : World) (a b : Value) : Two (w.alloc (.cells #[a, b] 30)) w.heap.size a b :=
  World.rowIs_alloc w #[a, b] _ _ (fun i hi => by
    have : i = 0 ∨ i = 1 := by simp at hi; omega
    rcases this with rfl | rfl <;> simp)
theorem Two.facts {w : World} {g : Nat} {a b : Value} (h : Two w g a b) : w.cell? ⟨g, 0, none⟩ = some a ∧ w.cell? ⟨g, 1, none⟩ = some b ∧ w.frozen? ⟨g, 0, none⟩ = false ∧ w.frozen? ⟨g, 1, none⟩ = false :=
  ⟨h.cell (i := 0) (by omega), h.cell (i := 1) (by omega), h.frozen 0, h.frozen 1⟩
theorem Two.bl {w w' : World} {g : Nat} {a b : Value} (h : Two w g a b) (hb : Bl w w') : Two w' g a b := row_bl h hb
theorem Two.grown_ {w w' : World} {g : Nat} {a b : Value} {row : Option Nat} (h : Two w g a b) (hg : w.grownBy w' row) (hne : some g ≠ row) : Two w' g a b := World.rowIs.of_block h (hg.block g (World.rowIs.lt h) hne)
theorem Two.far {w : World} {g : Nat} {a b : Value} (h : Two w g a b) {p : Addr} (hp : g ≠ p.block) (u : Value) : Two (w.setCell p u) g a b := World.rowIs.setOther h hp u
theorem Two.set1 {w : World} {g : Nat} {a b : Value} (h : Two w g a b) (u : Value) : Two (w.setCell ⟨g, 1, none⟩ u) g a u :=
  (World.rowIs.set h 1 u).congr fun i hi => by
    have : i = 0 ∨ i = 1 := by omega
    rcases this with rfl | rfl <;> simp
theorem Two.set0 {w : World} {g : Nat} {a b : Value} (h : Two w g a b) (u : Value) : Two (w.setCell ⟨g, 0, none⟩ u) g u b :=
  (World.rowIs.set h 0 u).congr fun i hi => by
    have : i = 0 ∨ i = 1 := by omega
    rcases this with rfl | rfl <;> simp

/-- A graph of N nodes is put together in the box tb; the result's box is g0, still empty; P: the argument's box. -/
structure TS (w : World) (P : Obj) (g0 tb : Nat) (N : Int) (q : Value) (L : List Arc3) (wr : World) : Prop where
  box : Two wr tb (.int .i64 N) q
  res : Two wr g0 (.int .i64 0) (.slice none 0 0)
  own : OwnA wr (tb + 1) q L
  bl : Bl (w.alloc P) wr
  lo : w.heap.size < g0 ∧ g0 < tb
section
variable {w w2 wr : World} {P : Obj} {g0 tb : Nat} {N : Int} {q : Value} {L : List Arc3}
theorem TS.bl_ (h : TS w P g0 tb N q L wr) (hb : Bl wr w2) : TS w P g0 tb N q L w2 :=
  ⟨h.box.bl hb, h.res.bl hb, OwnA.bl h.own hb, h.bl.trans_ hb, h.lo⟩
theorem TS.grown_ (h : TS w P g0 tb N q L wr) (hg : wr.grownBy w2 q.ownBlock) {q2 : Value} {L2 : List Arc3} (ho : OwnA w2 (tb + 1) q2 L2) : Two w2 tb (.int .i64 N) q ∧ Two w2 g0 (.int .i64 0) (.slice none 0 0) ∧ Bl (w.alloc P) w2 := by
  obtain ⟨l1, l2⟩ := h.lo
  have key : ∀ g, g ≤ tb → some g ≠ q.ownBlock := fun g hg e => by
    have := (h.own.lt g e.symm).1
    omega
  exact ⟨h.box.grown_ hg (key tb (by omega)), h.res.grown_ hg (key g0 (by omega)), h.bl.grown_ hg (fun g e => by
    have := (h.own.lt g e).1
    simp
    omega)⟩
theorem TS.same (h : TS w P g0 tb N q L wr) (hg : wr.grownBy w2 q.ownBlock) {L2 : List Arc3} (ho : OwnA w2 (tb + 1) q L2) : TS w P g0 tb N q L2 w2 := by
  obtain ⟨a, b, c⟩ := h.grown_ hg ho
  exact ⟨a, b, ho, c, h.lo⟩
theorem TS.app (h : TS w P g0 tb N q L wr) (hg : wr.grownBy w2 q.ownBlock) {q2 : Value} {L2 : List Arc3} (ho : OwnA w2 (tb + 1) q2 L2) : TS w P g0 tb N q2 L2 (w2.setCell ⟨tb, 1, none⟩ q2) := by
  obtain ⟨a, b, c⟩ := h.grown_ hg ho
  obtain ⟨l1, l2⟩ := h.lo
  exact ⟨a.set1 q2, b.far (by show g0 ≠ tb; omega) q2, ho.set_ (by show tb < tb + 1; omega) q2, c.set_ (by simp; omega) q2, h.lo⟩
theorem TS.put (h : TS w P g0 tb N q L wr) {q2 : Value} {L2 : List Arc3} (ho : OwnA wr (tb + 1) q2 L2) : TS w P g0 tb N q2 L2 (wr.setCell ⟨tb, 1, none⟩ q2) := by
  obtain ⟨l1, l2⟩ := h.lo
  exact ⟨h.box.set1 q2, h.res.far (by show g0 ≠ tb; omega) q2, ho.set_ (by show tb < tb + 1; omega) q2, h.bl.set_ (by simp; omega) q2, h.lo⟩
theorem TS.fin (h : TS w P g0 tb N q L wr) (x y : Value) : OwnA ((wr.setCell ⟨g0, 0, none⟩ x).setCell ⟨g0, 1, none⟩ y) w.heap.size q L ∧ Bl w ((wr.setCell ⟨g0, 0, none⟩ x).setCell ⟨g0, 1, none⟩ y) := by
  obtain ⟨l1, l2⟩ := h.lo
  have hb : Bl w wr := (Bl.alloc_ (Bl.refl w) P).trans_ h.bl
  exact ⟨((h.own.set_ (by show g0 < tb + 1; omega) x).set_ (by show g0 < tb + 1; omega) y).low (by omega), (hb.set_ (by show w.heap.size ≤ g0; omega) x).set_ (by show w.heap.size ≤ g0; omega) y⟩
end

/-- A graph that is turned: none, where it is not right. -/
def revN (N : Int) (L : List Arc3) : Int := if okB N L = true then N else 0
def revG (N : Int) (L : List Arc3) : List Arc3 := if okB N L = true then revL L else []
theorem revG_len (N : Int) (L : List Arc3) : (revG N L).length ≤ 1048576 := by
  unfold revG
  split
  · rename_i h
    obtain ⟨h1, h2, h3, h4, h5⟩ := okB_elim h
    rw [revL_len h5]
    omega
  · simp
/-- The first k arcs, turned, in order. -/
def revK (L : List Arc3) (k : Nat) : List Arc3 := (L.take k).foldl (fun acc a => putL (turnA a) acc) []
theorem revK_succ {L : List Arc3} {k : Nat} (h : k < L.length) : revK L (k + 1) = putL (turnA L[k]) (revK L k) := by
  unfold revK
  rw [List.take_succ_eq_append_getElem h, List.foldl_append]
  rfl
theorem revK_all (L : List Arc3) : revK L L.length = revL L := by
  unfold revK revL
  rw [List.take_length]
theorem revK_len (L : List Arc3) : ∀ k, k ≤ L.length → (revK L k).length ≤ k
  | 0, _ => by simp [revK]
  | k + 1, h => by
    rw [revK_succ (by omega)]
    have h1 := putL_len (turnA L[k]) (revK L k)
    have h2 := revK_len L k (by omega)
    omega
/-- The first k arcs, turned. -/
def turnK (L : List Arc3) (k : Nat) : List Arc3 := (L.take k).map turnA
theorem turnK_succ {L : List Arc3} {k : Nat} (h : k < L.length) : turnK L (k + 1) = turnK L k ++ [turnA L[k]] := by
  unfold turnK
  rw [List.take_succ_eq_append_getElem h, List.map_append]
  rfl
theorem turnK_len (L : List Arc3) (k : Nat) : (turnK L k).length ≤ k := by
  unfold turnK
  rw [List.length_map]
  exact List.length_take_le _ _
theorem turnK_all (L : List Arc3) : turnK L L.length = L.map turnA := by
  unfold turnK
  rw [List.take_length]

end Go.Proofs.Ytnacjmifnnfliaa

set_option linter.unusedSimpArgs false
set_option linter.unusedVariables false
namespace Go.Proofs.Ytnacjmifnnfliaa
open Go.RowKit

set_option maxRecDepth 100000 in
set_option maxHeartbeats 4000000 in
theorem l1Reverse_any (N : Int) (A : Option Addr) (n c : Nat) (L : List Arc3) (hn : n = L.length) (w : World) (hm : n ≤ 1048576) (H1 : ArcsAt w w.heap.size A L) :
    Calls Try.prog 61 #[.agg #[.int .i64 N, .slice A n c]] w (GraphMade1 N (revL L) w) := by
  have K1 := Lib.hid H1
  have HN := Lib.hid hn
  clear H1 hn
  have T0 := Lib.hid (show TS w (.cells #[.int .i64 N, .slice A n c] 30) (w.heap.size + 1) (w.heap.size + 2) N (.slice none 0 0) [] (((w.alloc (.cells #[.int .i64 N, .slice A n c] 30)).alloc (.cells #[.int .i64 0, .slice none 0 0] 30)).alloc (.cells #[.int .i64 N, .slice none 0 0] 30)) from by
    refine ⟨?_, ?_, OwnA.nil_ _ _, (by repeat' (first | exact Bl.refl _ | with_reducible assumption | with_reducible refine Bl.drew_ ?_ | with_reducible refine Bl.drewN_ ?_ _ | with_reducible refine Bl.alloc_ ?_ _ | with_reducible refine Bl.trans_ ?_ (by assumption) | with_reducible refine Bl.trans_ ?_ (And.left (by assumption)))), by omega, by omega⟩
    · have := Two.new ((w.alloc (.cells #[.int .i64 N, .slice A n c] 30)).alloc (.cells #[.int .i64 0, .slice none 0 0] 30)) (.int .i64 N) (.slice none 0 0)
      simpa using this
    · have := Two.new (w.alloc (.cells #[.int .i64 N, .slice A n c] 30)) (.int .i64 0) (.slice none 0 0)
      have := this.bl (Bl.alloc_ (Bl.refl _) (.cells #[.int .i64 N, .slice none 0 0] 30))
      simpa using this)
  go_enter Try.func61, Try.ntmps61
  go_wp2_with fail
  go_loopw [4] (fun i wr => ∃ (k : Nat) (q : Value), k ≤ n ∧ i = .int .i64 k ∧ TS w (.cells #[.int .i64 N, .slice A n c] 30) (w.heap.size + 1) (w.heap.size + 2) N q (revK L k) wr) (fun i _ => n - (intOf i).toNat)
  case atStart => exact ⟨0, _, by omega, rfl, T0.out⟩
  case round =>
    obtain ⟨k, q, hk, rfl, hT⟩ := hrel
    obtain ⟨h00, h01⟩ := box2 hT.bl
    obtain ⟨c0, c1, f0, f1⟩ := hT.box.facts
    obtain ⟨AQ, cq, rfl, hAQ, -⟩ := hT.own.shape
    have T := Lib.hid hT
    have Q := Lib.hid hAQ
    have hbw : Bl w wr := (Bl.alloc_ (Bl.refl w) _).trans_ hT.bl
    have HB := Lib.hid hbw
    clear hT hAQ T0
    by_cases hlt : k < n
    · have hkl : k < L.length := by have := HN.out; omega
      obtain ⟨g1, o1, rfl, hg1, hc1⟩ := K1.out (by omega)
      obtain ⟨p1, p2, p3⟩ := hc1 k hkl
      clear hc1
      rw [← (bcell hbw).1 _ _ hg1] at p1 p2 p3
      have RK := Lib.hid (revK_succ hkl)
      have hlen := revK_len L k (by omega)
      generalize hx : L[k].1 = x at p1
      generalize hy : L[k].2.1 = y at p2
      generalize hz : L[k].2.2 = z at p3
      have HE := Lib.hid (show turnA L[k] = (y, x, z) from by unfold turnA; rw [hx, hy, hz])
      clear hx hy hz hbw
      obtain ⟨l, hl⟩ : ∃ l, l = (revK L k).length := ⟨_, rfl⟩
      rw [← hl] at hlen c1 T
      have HL := Lib.hid hl
      clear hl
      have u1 : (0 : Int) ≤ (k : Int) := by omega
      have u2 : (k : Int) < (n : Int) := by omega
      go_wp2_with fail
      have TD := Lib.hid (T.out.bl_ (show Bl wr wr.drew from (by repeat' (first | exact Bl.refl _ | with_reducible assumption | with_reducible refine Bl.drew_ ?_ | with_reducible refine Bl.drewN_ ?_ _ | with_reducible refine Bl.alloc_ ?_ _ | with_reducible refine Bl.trans_ ?_ (by assumption) | with_reducible refine Bl.trans_ ?_ (And.left (by assumption))))))
      have e0 := (TD.out.box.facts).1
      go_still_tail 21, (by kernel_rfl)
      change wpList _ _ _ _ _ wr.drew
      go_wp2_with fail
      refine (l1Put_any y x z AQ l cq (revK L k) HL.out _ (by omega) (Q.out.bl (by repeat' (first | exact Bl.refl _ | with_reducible assumption | with_reducible refine Bl.drew_ ?_ | with_reducible refine Bl.drewN_ ?_ _ | with_reducible refine Bl.alloc_ ?_ _ | with_reducible refine Bl.trans_ ?_ (by assumption) | with_reducible refine Bl.trans_ ?_ (And.left (by assumption)))))).mono ?_
      rintro e w9 ⟨v4, rfl, ho, hb⟩
      obtain ⟨AB, cb, rfl, -, -⟩ := ho.shape
      have hlen2 := putL_len (y, x, z) (revK L k)
      have U4 := Lib.hid (TD.out.bl_ hb)
      have O4 := Lib.hid (U4.out.put (q2 := _) (L2 := putL (y, x, z) (revK L k)) (ho.low (World.rowIs.lt TD.out.box)))
      obtain ⟨d0, d1, k0, k1⟩ := U4.out.box.facts
      clear ho c0 c1 f0 f1 e0
      go_wp2
      go_roundw
      case rel => exact ⟨k + 1, _, by omega, by go_num, by rw [RK.out, HE.out]; exact O4.out⟩
      case measure => simp [intOf]; omega
    · obtain rfl : k = n := by omega
      have RA := Lib.hid (show revK L k = revL L from by rw [HN.out]; exact revK_all L)
      obtain ⟨r0, r1, fr0, fr1⟩ := T.out.res.facts
      go_wp2
      refine bodyPost_ret (v := .agg #[.int .i64 N, .slice AQ (revK L k).length cq]) (by simp [results, Try.results61, go_sem, r0, r1, fr0, fr1]) rfl ?_
      have := T.out.fin (.int .i64 N) (.slice AQ (revK L k).length cq)
      rw [RA.out] at this ⊢
      exact ⟨_, rfl, this.1, this.2⟩

-- (specReversed_any left out)

end Go.Proofs.Ytnacjmifnnfliaa

set_option linter.unusedSimpArgs false
set_option linter.unusedVariables false
namespace Go.Proofs.Ytnacjmifnnfliaa
open Go.RowKit

theorem OwnN.snoc {w : World} {B : Nat} {v : Value} {V : List Int} {x : Int} {n : Nat} (hn : n = V.length) (h : w.ownsRow B 2 1 v (n + 1) (csI V ++ [.int .i64 x])) : OwnN w B v (V ++ [x]) := by
  unfold OwnN Owns
  rw [List.length_append, ← hn]
  simpa [csI] using h
/-- What holds where a word is true, and where it is not. -/
def IfT (b : Bool) (P : Prop) : Prop := b = true → P
def IfF (b : Bool) (P : Prop) : Prop := b = false → P
/-- A list of numbers of one's own, in a block. -/
def RowN (w : World) (g c : Nat) (V : List Int) : Prop := OwnN w g (.slice (some ⟨g, 0, none⟩) V.length c) V
theorem RowN.cells {w : World} {g c : Nat} {V : List Int} (h : RowN w g c V) : (∀ o, w.frozen? ⟨g, o, none⟩ = false) ∧ (∀ k (hk : k < V.length), w.cell? ⟨g, k, none⟩ = some (.int .i64 V[k])) := by
  refine ⟨fun o => World.ownsRow.frozenAt h o, fun k hk => ?_⟩
  rw [World.ownsRow.cellAt h k (by omega), List.getElem?_eq_getElem (by rw [csI_len]; exact hk), csI_at]
theorem RowN.bl {w w' : World} {g c : Nat} {V : List Int} (h : RowN w g c V) (hb : Bl w w') : RowN w' g c V := OwnN.bl h hb
theorem RowN.set {w : World} {g c : Nat} {V : List Int} (h : RowN w g c V) (k : Nat) (x : Int) : RowN (w.setCell ⟨g, k, none⟩ (.int .i64 x)) g c (V.set k x) := by
  have h' := (Owns.stored h k (.int .i64 x)).1
  unfold RowN OwnN
  rw [List.length_set]
  have e : csI (V.set k x) = (csI V).set k (.int .i64 x) := by simp [csI, List.map_set]
  rw [e]
  exact h'

theorem OwnN.toRow {w : World} {B : Nat} {v : Value} {V : List Int} (h : OwnN w B v V) (h0 : 0 < V.length) : ∃ g c, v = .slice (some ⟨g, 0, none⟩) V.length c ∧ B ≤ g ∧ g < w.heap.size ∧ RowN w g c V := by
  obtain ⟨A, c, rfl, -, -, -, h3⟩ := Owns.shape h
  obtain ⟨g, rfl, hB, hg, -, -⟩ := h3 h0
  refine ⟨g, c, rfl, hB, hg, h.1, ?_⟩
  rcases h.2 with ⟨e, h1⟩ | ⟨g', cap, cur, e, hB', r⟩
  · simp at e
  · have e' := e
    injection e with e1 e2 e3
    injection e1 with e1
    injection e1 with e1
    exact .inr ⟨g', cap, cur, e', by omega, r⟩
theorem RowN.own {w : World} {g c B : Nat} {V : List Int} (h : RowN w g c V) (hB : B ≤ g) : OwnN w B (.slice (some ⟨g, 0, none⟩) V.length c) V := OwnN.low h hB
theorem RowN.lt {w : World} {g c : Nat} {V : List Int} (h : RowN w g c V) : g < w.heap.size := (Owns.lt_ h g rfl).2

set_option maxRecDepth 100000 in
set_option maxHeartbeats 4000000 in
theorem l3Dist_any (N s : Int) (A : Option Addr) (n c : Nat) (L : List Arc3) (hn : n = L.length) (ho : okB N L = true) (h0 : 0 ≤ s) (h1 : s < N) (w : World) (hm : n ≤ 1048576) (H1 : ArcsAt w w.heap.size A L) :
    Calls Try.prog 55 #[.agg #[.int .i64 N, .slice A n c], .int .i64 s] w (NumsMade (distL N L s) w) := by
  obtain ⟨i0, hi, hz0, hz1, hz2⟩ := info_parts infoInt
  have I0 := Lib.hid hi
  have I1 := Lib.hid hz0
  have I2 := Lib.hid hz1
  have I3 := Lib.hid hz2
  have K1 := Lib.hid H1
  have HN := Lib.hid hn
  have HO := Lib.hid ho
  have hN24 := (okB_elim ho).2.1
  have hL150 := (okB_elim ho).2.2.1
  obtain ⟨m, rfl⟩ : ∃ m : Nat, N = m := ⟨N.toNat, by omega⟩
  obtain ⟨q, rfl⟩ : ∃ q : Nat, s = q := ⟨s.toNat, by omega⟩
  have hm24 : m ≤ 24 := by omega
  have hqm : q < m := by omega
  clear H1 hn hi hz0 hz1 hz2 ho
  go_enter Try.func55, Try.ntmps55
  go_wp2_with fail
  go_loopw [5, 6] (fun v i wr => ∃ k : Nat, k ≤ m ∧ i = .int .i64 k ∧ OwnN wr (w.heap.size + 1) v (List.replicate k (-1)) ∧ Bl (w.alloc (.cells #[.int .i64 (m : Int), .slice A n c] 30)) wr) (fun _ i _ => m - (intOf i).toNat)
  case atStart =>
    refine ⟨0, by omega, rfl, ?_, (by repeat' (first | exact Bl.refl _ | with_reducible assumption | with_reducible refine Bl.drew_ ?_ | with_reducible refine Bl.drewN_ ?_ _ | with_reducible refine Bl.alloc_ ?_ _ | with_reducible refine Bl.trans_ ?_ (by assumption) | with_reducible refine Bl.trans_ ?_ (And.left (by assumption))))⟩
    have h := World.ownsRow_made (base := w.heap.size + 1) (e := 2) (size := 1) (w.alloc (.cells #[.int .i64 (m : Int), .slice A n c] 30)) #[] 0 (by simp) (by unfold maxLen; omega) rfl
    rw [World.size_alloc] at h
    exact h
  case round =>
    obtain ⟨k, hk, rfl, hown, hbl⟩ := hrel
    have hs := hbl.size
    simp only [World.size_alloc] at hs
    obtain ⟨q0, q1⟩ := box2 hbl
    have O := Lib.hid hown
    have HB := Lib.hid hbl
    clear hown hbl
    by_cases hlt : k < m
    · go_wp2_with (at_builtin; refine wpList_append_own _ rfl (.tmp 18) (.tmp 19) _ rfl (w.heap.size + 1) 2 i0 _ 1 8 Try.underlying26 I0.out I1.out I2.out I3.out rfl (by decide) _ (List.replicate k (-1)).length (csI (List.replicate k (-1))) rfl (World.ownsRow.alloc O.out _) ⟨wr.heap.size, 0, none⟩ 1 1 [.int .i64 (-1)] rfl rfl ?c0 (by simp [Value.oneCell']) ?c3 ?c4 ?c5 ?_)
      case c0 => 
        intro j u hj
        match j, hj with
        | 0, hj => simp at hj; subst hj; simp [Addr.add, go_sem]
        | (j + 1), hj => simp at hj
      case c3 => unfold maxLen; simp; omega
      case c4 => simp; omega
      case c5 => simp; omega
      intro v' w1 hown' hgrow _
      have O1 := Lib.hid (OwnN.snoc (V := List.replicate k (-1)) (x := -1) (n := k) (by simp) (by simpa using hown'))
      have hb1 : Bl (w.alloc (.cells #[.int .i64 (m : Int), .slice A n c] 30)) w1 := (HB.out.alloc_ _).grown_ hgrow (fun g hg => by have := (Owns.lt O.out g hg).1; simpa using this)
      have hb1' := Lib.hid hb1
      obtain ⟨q2, q3⟩ := box2 hb1
      clear hown' hgrow q0 q1 hb1
      go_wp2
      go_roundw
      case rel => exact ⟨k + 1, by omega, by go_num, by rw [List.replicate_succ']; exact O1.out, hb1'.out⟩
      case measure => simp [intOf]; omega
    · obtain rfl : k = m := by omega
      obtain ⟨g, c', rfl, hBg, hgl, hrow⟩ := O.out.toRow (by simp; omega)
      have hcl := hrow.cells
      have p0 := hcl.2 q (by simp; exact hqm)
      have p1 := hcl.1 q
      rw [List.getElem_replicate] at p0
      rw [List.length_replicate]
      have hq0 : (0 : Int) ≤ (q : Int) := by omega
      have hq1 : (q : Int) < (k : Int) := by omega
      have R0 := Lib.hid (show RowN (wr.setCell ⟨g, q, none⟩ (.int .i64 0)) g c' (startD k q) from by
        have := hrow.set q 0
        unfold startD
        simpa using this)
      have HB0 := Lib.hid (show Bl (w.alloc (.cells #[.int .i64 (k : Int), .slice A n c] 30)) (wr.setCell ⟨g, q, none⟩ (.int .i64 0)) from HB.out.set_ (by simp; omega) _)
      clear hcl hrow
      go_wp2_with fail
      clear p0 p1 q0 q1
      go_loopg [7] (sumF potF (startD k q) + 1) (fun t mo wr => ∃ (D : List Int) (b : Bool), mo = .bool b ∧ Hid (Rel k L q D) ∧ Hid (RowN wr g c' D) ∧ Hid (Bl (w.alloc (.cells #[.int .i64 (k : Int), .slice A n c] 30)) wr) ∧ IfT b (sumF potF D + 1 ≤ t) ∧ IfF b (IsDist k L q D))
      case atStart => exact ⟨startD k q, true, rfl, Lib.hid (Rel.start_ (by omega) (by omega)), R0, HB0, fun _ => Nat.le_refl _, fun h => nomatch h⟩
      case round =>
        obtain ⟨D, b, rfl, RE, RO, BB, po, di⟩ := hrel
        have PO := Lib.hid po
        have DI := Lib.hid di
        clear po di
        have hDl : D.length = k := by have := RE.out.len; simpa using this
        have HDL := Lib.hid hDl
        clear hDl
        cases b with
        | false =>
          go_wp2_with fail
          go_ret
          have hD := distL_of (arcsIn_of_ok HO.out) (by omega) (by omega) (by omega) (DI.out rfl)
          refine ⟨_, rfl, ?_, (Bl.alloc_ (Bl.refl w) _).trans_ BB.out⟩
          rw [← hD]
          have := RO.out.own (B := w.heap.size) (by omega)
          rw [HDL.out] at this
          exact this
        | true =>
          obtain ⟨q0, q1⟩ := box2 BB.out
          go_wp2_with fail
          clear q0 q1
          go_loopw [7, 8] (fun mo i wr => ∃ (j : Nat) (E : List Int) (b : Bool), j ≤ n ∧ i = .int .i64 j ∧ mo = .bool b ∧ Hid (Rel k L q E) ∧ Hid (RowN wr g c' E) ∧ Hid (Bl (w.alloc (.cells #[.int .i64 (k : Int), .slice A n c] 30)) wr) ∧
            IfT b (sumF potF E < sumF potF D) ∧ IfF b (E = D ∧ ∀ t (h : t < L.length), t < j → nearer D L[t] = false)) (fun _ i _ => n - (intOf i).toNat)
          case atStart => exact ⟨0, D, false, by omega, rfl, rfl, RE, RO, BB, (fun h => nomatch h), fun _ => ⟨rfl, fun t h h' => absurd h' (by omega)⟩⟩
          case round =>
            obtain ⟨j, E, b, hj, rfl, rfl, RE2, RO2, BB2, less, same⟩ := hrel
            have LESS := Lib.hid less
            have SAME := Lib.hid same
            clear less same
            obtain ⟨q0, q1⟩ := box2 BB2.out
            have hEl : E.length = k := by have := RE2.out.len; simpa using this
            have HEL := Lib.hid hEl
            clear hEl
            by_cases hlt : j < n
            · have hjl : j < L.length := by have := HN.out; omega
              have hbw : Bl w wr := (Bl.alloc_ (Bl.refl w) _).trans_ BB2.out
              obtain ⟨g1, o1, rfl, hg1, hc1⟩ := K1.out (by omega)
              obtain ⟨p1, p2, p3⟩ := hc1 j hjl
              rw [← (bcell hbw).1 _ _ hg1] at p1 p2 p3
              obtain ⟨a0, a1, a2, a3, a4, a5⟩ := arcsIn_of_ok HO.out L[j] (List.getElem_mem hjl)
              have AM := Lib.hid (show L[j] ∈ L from List.getElem_mem hjl)
              have hgl2 := RO2.out.lt
              have hg1l : g1 < wr.heap.size := Nat.lt_of_lt_of_le hg1 hbw.size
              clear hc1 hbw
              generalize hAA : L[j] = aa at *
              obtain ⟨x, y, z⟩ := aa
              simp only at a0 a1 a2 a3 a4 a5 p1 p2 p3
              obtain ⟨u, rfl⟩ : ∃ u : Nat, x = u := ⟨x.toNat, by omega⟩
              obtain ⟨v, rfl⟩ : ∃ v : Nat, y = v := ⟨y.toNat, by omega⟩
              have huk : u < k := by omega
              have hvk : v < k := by omega
              obtain ⟨hfz, hcl⟩ := RO2.out.cells
              have c1 := hcl u (by rw [HEL.out]; exact huk)
              have c2 := hcl v (by rw [HEL.out]; exact hvk)
              have f2 := hfz v
              clear hfz hcl
              have e1 : E[u]'(by rw [HEL.out]; exact huk) = dAt E (u : Int) := by simp [dAt, HEL.out, huk]
              have e2 : E[v]'(by rw [HEL.out]; exact hvk) = dAt E (v : Int) := by simp [dAt, HEL.out, hvk]
              rw [e1] at c1
              rw [e2] at c2
              have b1 := RE2.out.bound (by omega) (u : Int)
              have b2 := RE2.out.bound (by omega) (v : Int)
              have b3 := RE2.out.low (u : Int)
              have b4 := RE2.out.low (v : Int)
              have HA := Lib.hid hAA
              clear e1 e2 hAA
              have hstep : nearer E ((u : Int), (v : Int), z) = true → Rel k L q (E.set v (dAt E (u : Int) + z)) ∧ sumF potF (E.set v (dAt E (u : Int) + z)) < sumF potF E := fun h => by
                have := RE2.out.step (arcsIn_of_ok HO.out) (by omega) AM.out h
                simpa using this
              have HST := Lib.hid hstep
              clear hstep
              generalize hdu : dAt E (u : Int) = du at *
              generalize hdv : dAt E (v : Int) = dv at *
              have hnr : nearer E ((u : Int), (v : Int), z) = decide (0 ≤ du ∧ (dv < 0 ∨ du + z < dv)) := by
                unfold nearer
                simp only [hdu, hdv]
              have HNR := Lib.hid hnr
              have no : nearer E ((u : Int), (v : Int), z) = false → IfF b (E = D ∧ ∀ t (h : t < L.length), t < j + 1 → nearer D L[t] = false) := fun hn hb => by
                obtain ⟨e, h⟩ := SAME.out hb
                refine ⟨e, fun t ht htj => ?_⟩
                rcases Nat.lt_or_ge t j with h' | h'
                · exact h t ht h'
                · obtain rfl : t = j := by omega
                  rw [HA.out, ← e]
                  exact hn
              have NO := Lib.hid no
              clear hdu hdv hnr no AM HA
              have i1 : (0 : Int) ≤ (u : Int) := by omega
              have i2 : (u : Int) < (k : Int) := by omega
              have i3 : (0 : Int) ≤ (v : Int) := by omega
              have i4 : (v : Int) < (k : Int) := by omega
              by_cases hdn : du < 0
              · have hnf : nearer E ((u : Int), (v : Int), z) = false := by rw [HNR.out]; simp; omega
                have NF := Lib.hid (NO.out hnf)
                clear hnf
                go_wp2_with fail
                go_roundw
                case rel => exact ⟨j + 1, E, b, by omega, by go_num, rfl, RE2, Lib.hid (RO2.out.bl (by repeat' (first | exact Bl.refl _ | with_reducible assumption | with_reducible refine Bl.drew_ ?_ | with_reducible refine Bl.drewN_ ?_ _ | with_reducible refine Bl.alloc_ ?_ _ | with_reducible refine Bl.trans_ ?_ (by assumption) | with_reducible refine Bl.trans_ ?_ (And.left (by assumption))))), Lib.hid (BB2.out.trans_ (by repeat' (first | exact Bl.refl _ | with_reducible assumption | with_reducible refine Bl.drew_ ?_ | with_reducible refine Bl.drewN_ ?_ _ | with_reducible refine Bl.alloc_ ?_ _ | with_reducible refine Bl.trans_ ?_ (by assumption) | with_reducible refine Bl.trans_ ?_ (And.left (by assumption))))), LESS.out, NF.out⟩
                case measure => simp [intOf]; omega
              · by_cases hnv : dv < 0
                · have hyes : nearer E ((u : Int), (v : Int), z) = true := by rw [HNR.out]; simp; omega
                  obtain ⟨hre, hpo⟩ := HST.out hyes
                  have RE3 := Lib.hid hre
                  have LS3 := Lib.hid (show sumF potF (E.set v (du + z)) < sumF potF D from by
                    cases hb : b with
                    | true => exact Nat.lt_trans hpo (LESS.out hb)
                    | false => rw [← (SAME.out hb).1]; exact hpo)
                  have hw : IntKind.i64.wrap (du + z) = du + z := IntWalk.i64_in _ (by omega)
                  clear hyes hre hpo
                  go_wp2_with fail
                  go_quiet (fail)
                  clear hw
                  go_wp2_with fail
                  go_roundw
                  case rel => exact ⟨j + 1, E.set v (du + z), true, by omega, by go_num, rfl, RE3, Lib.hid (RowN.set (RO2.out.bl (by repeat' (first | exact Bl.refl _ | with_reducible assumption | with_reducible refine Bl.drew_ ?_ | with_reducible refine Bl.drewN_ ?_ _ | with_reducible refine Bl.alloc_ ?_ _ | with_reducible refine Bl.trans_ ?_ (by assumption) | with_reducible refine Bl.trans_ ?_ (And.left (by assumption))))) v _), Lib.hid (Bl.set_ (BB2.out.trans_ (by repeat' (first | exact Bl.refl _ | with_reducible assumption | with_reducible refine Bl.drew_ ?_ | with_reducible refine Bl.drewN_ ?_ _ | with_reducible refine Bl.alloc_ ?_ _ | with_reducible refine Bl.trans_ ?_ (by assumption) | with_reducible refine Bl.trans_ ?_ (And.left (by assumption))))) (by simp; omega) _), (fun _ => LS3.out), fun h => nomatch h⟩
                  case measure => simp [intOf]; omega
                · by_cases hln : du + z < dv
                  · have hyes : nearer E ((u : Int), (v : Int), z) = true := by rw [HNR.out]; simp; omega
                    obtain ⟨hre, hpo⟩ := HST.out hyes
                    have RE3 := Lib.hid hre
                    have LS3 := Lib.hid (show sumF potF (E.set v (du + z)) < sumF potF D from by
                      cases hb : b with
                      | true => exact Nat.lt_trans hpo (LESS.out hb)
                      | false => rw [← (SAME.out hb).1]; exact hpo)
                    have hw : IntKind.i64.wrap (du + z) = du + z := IntWalk.i64_in _ (by omega)
                    clear hyes hre hpo
                    go_wp2_with fail
                    go_quiet (fail)
                    clear hw
                    go_wp2_with fail
                    go_roundw
                    case rel => exact ⟨j + 1, E.set v (du + z), true, by omega, by go_num, rfl, RE3, Lib.hid (RowN.set (RO2.out.bl (by repeat' (first | exact Bl.refl _ | with_reducible assumption | with_reducible refine Bl.drew_ ?_ | with_reducible refine Bl.drewN_ ?_ _ | with_reducible refine Bl.alloc_ ?_ _ | with_reducible refine Bl.trans_ ?_ (by assumption) | with_reducible refine Bl.trans_ ?_ (And.left (by assumption))))) v _), Lib.hid (Bl.set_ (BB2.out.trans_ (by repeat' (first | exact Bl.refl _ | with_reducible assumption | with_reducible refine Bl.drew_ ?_ | with_reducible refine Bl.drewN_ ?_ _ | with_reducible refine Bl.alloc_ ?_ _ | with_reducible refine Bl.trans_ ?_ (by assumption) | with_reducible refine Bl.trans_ ?_ (And.left (by assumption))))) (by simp; omega) _), (fun _ => LS3.out), fun h => nomatch h⟩
                    case measure => simp [intOf]; omega
                  · have hnf : nearer E ((u : Int), (v : Int), z) = false := by rw [HNR.out]; simp; omega
                    have NF := Lib.hid (NO.out hnf)
                    have hw : IntKind.i64.wrap (du + z) = du + z := IntWalk.i64_in _ (by omega)
                    clear hnf
                    go_wp2_with fail
                    go_quiet (fail)
                    clear hw
                    go_wp2_with fail
                    go_roundw
                    case rel => exact ⟨j + 1, E, b, by omega, by go_num, rfl, RE2, Lib.hid (RO2.out.bl (by repeat' (first | exact Bl.refl _ | with_reducible assumption | with_reducible refine Bl.drew_ ?_ | with_reducible refine Bl.drewN_ ?_ _ | with_reducible refine Bl.alloc_ ?_ _ | with_reducible refine Bl.trans_ ?_ (by assumption) | with_reducible refine Bl.trans_ ?_ (And.left (by assumption))))), Lib.hid (BB2.out.trans_ (by repeat' (first | exact Bl.refl _ | with_reducible assumption | with_reducible refine Bl.drew_ ?_ | with_reducible refine Bl.drewN_ ?_ _ | with_reducible refine Bl.alloc_ ?_ _ | with_reducible refine Bl.trans_ ?_ (by assumption) | with_reducible refine Bl.trans_ ?_ (And.left (by assumption))))), LESS.out, NF.out⟩
                    case measure => simp [intOf]; omega
            · go_wp2_with fail
              go_roundg (if b = true then sumF potF E + 1 else 0)
              case rel =>
                refine ⟨E, b, rfl, RE2, RO2, BB2, fun h => by rw [h]; simp, fun h => ?_⟩
                obtain ⟨e, hx⟩ := SAME.out h
                refine RE2.out.done (arcsIn_of_ok HO.out) fun a ha => ?_
                obtain ⟨t, ht, rfl⟩ := List.mem_iff_getElem.1 ha
                rw [e]
                exact hx t ht (by have := HN.out; omega)
              case measure =>
                have := PO.out rfl
                cases hb : b with
                | true => have := LESS.out hb; simp; omega
                | false => simp; omega

end Go.Proofs.Ytnacjmifnnfliaa

set_option linter.unusedSimpArgs false
set_option linter.unusedVariables false
namespace Go.Proofs.Ytnacjmifnnfliaa
open Go.RowKit

theorem nodeB_ok {N v : Int} {L : List Arc3} (ho : okB N L = true) : nodeB N v = decide (0 ≤ v ∧ v < N) := by
  obtain ⟨h1, h2, -⟩ := okB_elim ho
  unfold nodeB inB
  have : wrap64 (N - 1) = N - 1 := by unfold wrap64; omega
  rw [this, Bool.eq_iff_iff]
  simp only [decide_eq_true_eq]
  omega
theorem distFromL_len (N : Int) (L : List Arc3) (s : Int) : (distFromL N L s).length ≤ 1048576 := by
  unfold distFromL
  split
  · obtain ⟨ho, h0, h1⟩ := has1_of ‹_›
    have := (okB_elim ho).2.1
    rw [distL_len ho h0 h1]
    omega
  · simp

set_option maxHeartbeats 1000000 in
theorem specDistFrom_any (N s : Int) (A : Option Addr) (n c : Nat) (L : List Arc3) (hn : n = L.length) (hc : n ≤ c) (w : World) (hm : n ≤ 1048576) (H1 : ArcsAt w w.heap.size A L) :
    Calls Try.prog 16 #[.agg #[.int .i64 N, .slice A n c], .int .i64 s] w (NumsMade (distFromL N L s) w) := by
  have K1 := Lib.hid H1
  have HN := Lib.hid hn
  clear H1 hn
  cases ho : okB N L with
  | false =>
    have HO := Lib.hid ho
    clear ho
    go_enter Try.func16, Try.ntmps16
    go_wp2_with fail
    refine (specOk_any N A n c L HN.out _ (by omega) (K1.out.bl (by repeat' (first | exact Bl.refl _ | with_reducible assumption | with_reducible refine Bl.drew_ ?_ | with_reducible refine Bl.drewN_ ?_ _ | with_reducible refine Bl.alloc_ ?_ _ | with_reducible refine Bl.trans_ ?_ (by assumption) | with_reducible refine Bl.trans_ ?_ (And.left (by assumption)))))).mono ?_
    rintro e w1 ⟨rfl, hb1⟩
    rw [HO.out]
    go_wp2
    go_ret
    refine ⟨_, rfl, ?_, (by repeat' (first | exact Bl.refl _ | with_reducible assumption | with_reducible refine Bl.drew_ ?_ | with_reducible refine Bl.drewN_ ?_ _ | with_reducible refine Bl.alloc_ ?_ _ | with_reducible refine Bl.trans_ ?_ (by assumption) | with_reducible refine Bl.trans_ ?_ (And.left (by assumption))))⟩
    unfold distFromL has1
    rw [HO.out, Bool.false_and, if_neg (by simp)]
    exact World.ownsRow_made (base := w.heap.size) (e := 2) (size := 1) w1 #[] 0 (by have := hb1.size; simp at this; omega) (by unfold maxLen; omega) rfl
  | true =>
    have HO := Lib.hid ho
    have HNB := Lib.hid (nodeB_ok (v := s) ho)
    clear ho
    by_cases hh : 0 ≤ s ∧ s < N
    · have h1 : decide (0 ≤ s ∧ s < N) = true := by simpa using hh
      have H1 := Lib.hid h1
      obtain ⟨hs0, hs1⟩ := hh
      clear h1
      go_enter Try.func16, Try.ntmps16
      go_wp2_with fail
      refine (specOk_any N A n c L HN.out _ (by omega) (K1.out.bl (by repeat' (first | exact Bl.refl _ | with_reducible assumption | with_reducible refine Bl.drew_ ?_ | with_reducible refine Bl.drewN_ ?_ _ | with_reducible refine Bl.alloc_ ?_ _ | with_reducible refine Bl.trans_ ?_ (by assumption) | with_reducible refine Bl.trans_ ?_ (And.left (by assumption)))))).mono ?_
      rintro e w1 ⟨rfl, hb1⟩
      rw [HO.out]
      obtain ⟨q0, q1⟩ := box2 hb1
      go_wp2_with fail
      refine (l1Node_any N s _ _).mono ?_
      rintro e w2 ⟨rfl, hb2⟩
      rw [HNB.out, H1.out]
      have hb12 := hb1.trans_ hb2
      clear q0 q1
      obtain ⟨q0, q1⟩ := box2 hb12
      have hbw : Bl w w2 := (Bl.alloc_ (Bl.refl w) _).trans_ hb12
      clear hb12
      go_wp2_with fail
      refine (l3Dist_any N s A n c L HN.out HO.out hs0 hs1 _ hm (K1.out.bl hbw)).mono ?_
      rintro e w3 ⟨v, rfl, hv, hb3⟩
      have V := Lib.hid (hv.low (B := w.heap.size) hbw.size)
      clear hv
      go_wp2
      go_ret
      refine ⟨v, rfl, ?_, hbw.trans_ hb3⟩
      unfold distFromL has1
      rw [HO.out, H1.out]
      exact V.out
    · have h1 : decide (0 ≤ s ∧ s < N) = false := by simpa using hh
      have H1 := Lib.hid h1
      clear h1 hh
      go_enter Try.func16, Try.ntmps16
      go_wp2_with fail
      refine (specOk_any N A n c L HN.out _ (by omega) (K1.out.bl (by repeat' (first | exact Bl.refl _ | with_reducible assumption | with_reducible refine Bl.drew_ ?_ | with_reducible refine Bl.drewN_ ?_ _ | with_reducible refine Bl.alloc_ ?_ _ | with_reducible refine Bl.trans_ ?_ (by assumption) | with_reducible refine Bl.trans_ ?_ (And.left (by assumption)))))).mono ?_
      rintro e w1 ⟨rfl, hb1⟩
      rw [HO.out]
      obtain ⟨q0, q1⟩ := box2 hb1
      go_wp2_with fail
      refine (l1Node_any N s _ _).mono ?_
      rintro e w2 ⟨rfl, hb2⟩
      rw [HNB.out, H1.out]
      have hb12 := hb1.trans_ hb2
      have hbw : Bl w w2 := (Bl.alloc_ (Bl.refl w) _).trans_ hb12
      clear hb12
      go_wp2
      go_ret
      refine ⟨_, rfl, ?_, hbw.alloc_ _⟩
      unfold distFromL has1
      rw [H1.out, Bool.and_false, if_neg (by simp)]
      exact World.ownsRow_made (base := w.heap.size) (e := 2) (size := 1) w2 #[] 0 hbw.size (by unfold maxLen; omega) rfl

set_option maxHeartbeats 1000000 in
theorem specDistOf_any (N s t : Int) (A : Option Addr) (n c : Nat) (L : List Arc3) (hn : n = L.length) (hc : n ≤ c) (w : World) (hm : n ≤ 1048576) (H1 : ArcsAt w w.heap.size A L) :
    Calls Try.prog 24 #[.agg #[.int .i64 N, .slice A n c], .int .i64 s, .int .i64 t] w fun e w' => e = .returned (.int .i64 (distOfI N L s t)) ∧ Bl w w' := by
  have K1 := Lib.hid H1
  have HN := Lib.hid hn
  clear H1 hn
  cases ho : okB N L with
  | false =>
    have HO := Lib.hid ho
    clear ho
    go_enter Try.func24, Try.ntmps24
    go_wp2_with fail
    refine (specOk_any N A n c L HN.out _ (by omega) (K1.out.bl (by repeat' (first | exact Bl.refl _ | with_reducible assumption | with_reducible refine Bl.drew_ ?_ | with_reducible refine Bl.drewN_ ?_ _ | with_reducible refine Bl.alloc_ ?_ _ | with_reducible refine Bl.trans_ ?_ (by assumption) | with_reducible refine Bl.trans_ ?_ (And.left (by assumption)))))).mono ?_
    rintro e w1 ⟨rfl, hb1⟩
    rw [HO.out]
    go_wp2
    go_ret
    refine ⟨ret_int ?_, (by repeat' (first | exact Bl.refl _ | with_reducible assumption | with_reducible refine Bl.drew_ ?_ | with_reducible refine Bl.drewN_ ?_ _ | with_reducible refine Bl.alloc_ ?_ _ | with_reducible refine Bl.trans_ ?_ (by assumption) | with_reducible refine Bl.trans_ ?_ (And.left (by assumption))))⟩
    unfold distOfI has2
    rw [HO.out, Bool.false_and, if_neg (by simp)]
  | true =>
    have HO := Lib.hid ho
    have HNB := Lib.hid (nodeB_ok (v := s) ho)
    have HNT := Lib.hid (nodeB_ok (v := t) ho)
    clear ho
    by_cases hh : 0 ≤ s ∧ s < N
    · have h1 : decide (0 ≤ s ∧ s < N) = true := by simpa using hh
      have H1 := Lib.hid h1
      obtain ⟨hs0, hs1⟩ := hh
      clear h1
      by_cases hk : 0 ≤ t ∧ t < N
      · have h2 : decide (0 ≤ t ∧ t < N) = true := by simpa using hk
        have H2 := Lib.hid h2
        obtain ⟨ht0, ht1⟩ := hk
        clear h2
        obtain ⟨u, rfl⟩ : ∃ u : Nat, t = u := ⟨t.toNat, by omega⟩
        go_enter Try.func24, Try.ntmps24
        go_wp2_with fail
        refine (specOk_any N A n c L HN.out _ (by omega) (K1.out.bl (by repeat' (first | exact Bl.refl _ | with_reducible assumption | with_reducible refine Bl.drew_ ?_ | with_reducible refine Bl.drewN_ ?_ _ | with_reducible refine Bl.alloc_ ?_ _ | with_reducible refine Bl.trans_ ?_ (by assumption) | with_reducible refine Bl.trans_ ?_ (And.left (by assumption)))))).mono ?_
        rintro e w1 ⟨rfl, hb1⟩
        rw [HO.out]
        obtain ⟨q0, q1⟩ := box2 hb1
        go_wp2_with fail
        refine (l1Node_any N s _ _).mono ?_
        rintro e w2 ⟨rfl, hb2⟩
        rw [HNB.out, H1.out]
        have hb2 := hb1.trans_ hb2
        clear q0 q1
        obtain ⟨q0, q1⟩ := box2 hb2
        go_wp2_with fail
        refine (l1Node_any N u _ _).mono ?_
        rintro e w3 ⟨rfl, hb3⟩
        rw [HNT.out, H2.out]
        have hb3 := hb2.trans_ hb3
        clear q0 q1
        obtain ⟨q0, q1⟩ := box2 hb3
        have hbw : Bl w w3 := (Bl.alloc_ (Bl.refl w) _).trans_ hb3
        clear hb1 hb2 hb3
        go_wp2_with fail
        refine (l3Dist_any N s A n c L HN.out HO.out hs0 hs1 _ hm (K1.out.bl hbw)).mono ?_
        rintro e w4 ⟨v, rfl, hv, hb4⟩
        have hl : (distL N L s).length = N.toNat := distL_len HO.out hs0 hs1
        obtain ⟨A5, c5, rfl, hc5, hi5, -, -⟩ := OwnN.shape hv
        obtain ⟨g5, o5, rfl, hg5, hcell⟩ := hi5.cell (by omega)
        have p := hcell u (by omega)
        have e1 : (distL N L s)[u]'(by omega) = distOfI N L s u := by
          unfold distOfI has2
          rw [HO.out, Bool.true_and, if_pos (by simp; omega)]
          unfold dAt
          simp [hl]
          rw [List.getElem?_eq_getElem (by omega)]
          rfl
        rw [e1] at p
        have i1 : (0 : Int) ≤ (u : Int) := by omega
        have i2 : (u : Int) < ((distL N L s).length : Int) := by omega
        clear hcell hv hi5 e1 hl q0 q1
        generalize (distL N L s).length = dl at *
        go_wp2
        go_ret
        exact ⟨ret_int rfl, hbw.trans_ hb4⟩
      · have h2 : decide (0 ≤ t ∧ t < N) = false := by simpa using hk
        have H2 := Lib.hid h2
        clear h2
        go_enter Try.func24, Try.ntmps24
        go_wp2_with fail
        refine (specOk_any N A n c L HN.out _ (by omega) (K1.out.bl (by repeat' (first | exact Bl.refl _ | with_reducible assumption | with_reducible refine Bl.drew_ ?_ | with_reducible refine Bl.drewN_ ?_ _ | with_reducible refine Bl.alloc_ ?_ _ | with_reducible refine Bl.trans_ ?_ (by assumption) | with_reducible refine Bl.trans_ ?_ (And.left (by assumption)))))).mono ?_
        rintro e w1 ⟨rfl, hb1⟩
        rw [HO.out]
        obtain ⟨q0, q1⟩ := box2 hb1
        go_wp2_with fail
        refine (l1Node_any N s _ _).mono ?_
        rintro e w2 ⟨rfl, hb2⟩
        rw [HNB.out, H1.out]
        have hb2 := hb1.trans_ hb2
        clear q0 q1
        obtain ⟨q0, q1⟩ := box2 hb2
        go_wp2_with fail
        refine (l1Node_any N t _ _).mono ?_
        rintro e w3 ⟨rfl, hb3⟩
        rw [HNT.out, H2.out]
        have hb3 := hb2.trans_ hb3
        have hbw : Bl w w3 := (Bl.alloc_ (Bl.refl w) _).trans_ hb3
        clear hb1 hb2 hb3 q0 q1
        go_wp2
        go_ret
        refine ⟨ret_int ?_, hbw⟩
        unfold distOfI has2
        rw [if_neg]
        intro h
        simp at h
        exact hk h.2.2
    · have h1 : decide (0 ≤ s ∧ s < N) = false := by simpa using hh
      have H1 := Lib.hid h1
      clear h1
      go_enter Try.func24, Try.ntmps24
      go_wp2_with fail
      refine (specOk_any N A n c L HN.out _ (by omega) (K1.out.bl (by repeat' (first | exact Bl.refl _ | with_reducible assumption | with_reducible refine Bl.drew_ ?_ | with_reducible refine Bl.drewN_ ?_ _ | with_reducible refine Bl.alloc_ ?_ _ | with_reducible refine Bl.trans_ ?_ (by assumption) | with_reducible refine Bl.trans_ ?_ (And.left (by assumption)))))).mono ?_
      rintro e w1 ⟨rfl, hb1⟩
      rw [HO.out]
      obtain ⟨q0, q1⟩ := box2 hb1
      go_wp2_with fail
      refine (l1Node_any N s _ _).mono ?_
      rintro e w2 ⟨rfl, hb2⟩
      rw [HNB.out, H1.out]
      have hb2 := hb1.trans_ hb2
      have hbw : Bl w w2 := (Bl.alloc_ (Bl.refl w) _).trans_ hb2
      clear hb1 hb2 q0 q1
      go_wp2
      go_ret
      refine ⟨ret_int ?_, hbw⟩
      unfold distOfI has2
      rw [if_neg]
      intro h
      simp at h
      exact hh h.2.1

end Go.Proofs.Ytnacjmifnnfliaa

set_option linter.unusedSimpArgs false
set_option linter.unusedVariables false
namespace Go.Proofs.Ytnacjmifnnfliaa
open Go.RowKit

theorem outsL_none {N v : Int} {L : List Arc3} (h : has1 N L v = false) : outsL N L v = [] := by
  unfold outsL
  split
  · rename_i ho
    unfold fromL
    rw [List.filter_eq_nil_iff]
    intro a ha hv
    have e : a.1 = v := by simpa using hv
    have := arcsIn_of_ok ho a ha
    unfold has1 at h
    rw [ho, Bool.true_and, decide_eq_false_iff_not] at h
    exact h (by omega)
  · rfl
theorem fromL_len' (v : Int) (L : List Arc3) : (fromL v L).length ≤ L.length := by
  unfold fromL
  exact List.length_filter_le _ _

-- (implOuts_any left out)

end Go.Proofs.Ytnacjmifnnfliaa

set_option linter.unusedSimpArgs false
set_option linter.unusedVariables false
namespace Go.Proofs.Ytnacjmifnnfliaa
open Go.RowKit

theorem cell_new_drewNp (w : World) (n : Nat) (v : Value) (t : TypeId) : ((w.drewN n).alloc (.cells #[v] t)).cell? ⟨w.heap.size, 0, none⟩ = some v := by
  have h : ∀ wz : World, (wz.alloc (.cells #[v] t)).cell? ⟨wz.heap.size, 0, none⟩ = some v := fun wz => by simp [go_sem]
  exact h (w.drewN n)

set_option maxRecDepth 100000 in
set_option maxHeartbeats 4000000 in
theorem l3Path_any (N s t : Int) (A : Option Addr) (n c : Nat) (L : List Arc3) (hn : n = L.length) (hh : has2 N L s t = true) (w : World) (hm : n ≤ 1048576) (H1 : ArcsAt w w.heap.size A L) :
    Calls Try.prog 64 #[.agg #[.int .i64 N, .slice A n c], .int .i64 s, .int .i64 t] w (NumsMade (pathL N L s t) w) := by
  obtain ⟨i0, hi, hz0, hz1, hz2⟩ := info_parts infoInt
  have I0 := Lib.hid hi
  have I1 := Lib.hid hz0
  have I2 := Lib.hid hz1
  have I3 := Lib.hid hz2
  have K1 := Lib.hid H1
  have HN := Lib.hid hn
  have HH := Lib.hid hh
  obtain ⟨ho, ⟨hs0, hs1⟩, ht0, ht1⟩ := has2_of hh
  have hN24 := (okB_elim ho).2.1
  have HO := Lib.hid ho
  have HRO := Lib.hid (revL_ok ho)
  have HRL := Lib.hid (revL_len (okB_elim ho).2.2.2.2)
  have HE := Lib.hid (distL_is (s := t) (arcsIn_of_ok (revL_ok ho)) hN24 ht0 ht1)
  have HET := Lib.hid (fun v => distL_top (s := t) (revL_ok ho) ht0 ht1 v)
  have HEl := Lib.hid (show (distL N (revL L) t).length = N.toNat from distL_len (revL_ok ho) ht0 ht1)
  obtain ⟨u, rfl⟩ : ∃ u : Nat, s = u := ⟨s.toNat, by omega⟩
  obtain ⟨z, rfl⟩ : ∃ z : Nat, N = z := ⟨N.toNat, by omega⟩
  clear hh ho H1 hn hi hz0 hz1 hz2
  go_enter Try.func64, Try.ntmps64
  go_wp2_with fail
  refine (l1Reverse_any z A n c L HN.out _ hm (K1.out.bl (by repeat' (first | exact Bl.refl _ | with_reducible assumption | with_reducible refine Bl.drew_ ?_ | with_reducible refine Bl.drewN_ ?_ _ | with_reducible refine Bl.alloc_ ?_ _ | with_reducible refine Bl.trans_ ?_ (by assumption) | with_reducible refine Bl.trans_ ?_ (And.left (by assumption)))))).mono ?_
  rintro e w1 ⟨v5, rfl, hv5, hb1⟩
  obtain ⟨A5, c5, rfl, ha5, -⟩ := hv5.shape
  have J5 := Lib.hid ha5
  clear hv5 ha5
  go_wp2_with fail
  refine (l3Dist_any z t A5 (revL L).length c5 (revL L) rfl HRO.out ht0 ht1 _ (by rw [HRL.out]; have := HN.out; omega) J5.out).mono ?_
  rintro e w2 ⟨v6, rfl, hv6, hb2⟩
  obtain ⟨A6, c6, rfl, -, hi6, -, lo6⟩ := OwnN.shape hv6
  have J6 := Lib.hid hi6
  have BB := Lib.hid ((Bl.alloc_ (Bl.refl w) (.cells #[.int .i64 (z : Int), .slice A n c] 30)).trans_ (hb1.trans_ hb2))
  have BX := Lib.hid (show ∀ wx, Bl w2 wx → (wx.cell? ⟨w.heap.size, 0, none⟩ = some (.int .i64 (z : Int)) ∧ wx.cell? ⟨w.heap.size, 1, none⟩ = some (.slice A n c)) from fun wx hb => box2 (hb1.trans_ (hb2.trans_ hb)))
  clear hv6 hi6 lo6 hb1 hb2
  have hEl : (distL z (revL L) t).length = z := by rw [HEl.out]; simp
  have EQ := Lib.hid hEl
  rw [hEl]
  have hue : u < (distL (z : Int) (revL L) t).length := by rw [hEl]; omega
  obtain ⟨g6, o6, rfl, hg6, hc6⟩ := J6.out.cell (by omega)
  have q2 := hc6 u hue
  have HDU := Lib.hid (dAt_at hue)
  have CE := Lib.hid hc6
  generalize (distL (z : Int) (revL L) t)[u] = d at q2 HDU
  have u0 : (0 : Int) ≤ (u : Int) := by omega
  have u1 : (u : Int) < (z : Int) := hs1
  clear hc6 hue hEl
  by_cases hd : d < 0
  · have bd : decide (d < 0) = true := by simpa using hd
    have HP := Lib.hid (show pathL z L u t = [] from by
      unfold pathL
      rw [if_neg (by rw [HDU.out, Bool.and_eq_true]; intro h; have := of_decide_eq_true h.2; omega)])
    go_wp2
    go_ret
    exact ⟨_, rfl, by rw [HP.out]; exact OwnN.nil_ _ _, BB.out⟩
  · have bd : decide (d < 0) = false := by simpa using hd
    have HP := Lib.hid (show pathL z L u t = (u : Int) :: stepsL L (distL z (revL L) t) t u from by
      unfold pathL
      rw [if_pos (by rw [HDU.out, Bool.and_eq_true]; exact ⟨HH.out, by simp; omega⟩)])
    have ST := Lib.hid (OnWay.start (L := L) (D := distL z (revL L) t) (t := t) (s := (u : Int)) (by rw [HDU.out]; omega))
    have hdb := (HET.out u).2
    have NW := Lib.hid (fun (v : Int) h0 h1 hv hd => nextL_some (L := L) (v := v) HO.out HE.out h0 h1 hv hd)
    generalize hDD : distL (z : Int) (revL L) t = D at *
    have O0 := Lib.hid (show OwnN (w2.alloc (.cells #[.int .i64 (u : Int)] 2)) w2.heap.size (.slice (some ⟨w2.heap.size, 0, none⟩) 1 1) [(u : Int)] from
      ⟨rfl, .inr ⟨w2.heap.size, 1, #[.int .i64 (u : Int)], rfl, Nat.le_refl _, World.alloc_heap_new _ _, Nat.le_refl _, by unfold maxLen; omega, rfl, rfl⟩⟩)
    clear HE HDU hDD HRL HRO J5
    go_wp2_with fail
    clear q2
    go_loopw [8, 9] (fun pv vv wr => ∃ (P : List Int) (v : Int), (0 ≤ v ∧ v < (z : Int)) ∧ vv = .int .i64 v ∧ OwnN wr w2.heap.size pv P ∧ OnWay L D u t P v ∧ Bl w2 wr) (fun _ vv _ => (dAt D (intOf vv)).toNat)
    case atStart => exact ⟨[(u : Int)], u, ⟨by omega, u1⟩, rfl, O0.out, ST.out, Bl.alloc_ (Bl.refl w2) _⟩
    case round =>
      obtain ⟨P, v, ⟨hv0, hv1⟩, rfl, hO, hway, hbl⟩ := hrel
      have O := Lib.hid hO
      have WY := Lib.hid hway
      obtain ⟨q0, q1⟩ := BX.out _ hbl
      have hPl : P.length ≤ 23001 := hway.len hdb
      clear hO hway
      by_cases hvt : v = t
      · have bv : (v != t) = false := by simpa using hvt
        subst hvt
        go_wp2
        go_ret
        refine ⟨u8, rfl, ?_, BB.out.trans_ hbl⟩
        rw [HP.out, ← WY.out.done]
        exact O.out.low BB.out.size
      · have bv : (v != t) = true := by simpa using hvt
        obtain ⟨a, hnx, haL, ha1, hap, has, ha0, haN, hal⟩ := NW.out v hv0 hv1 hvt WY.out.far
        have WY2 := Lib.hid (WY.out.next hvt hnx hap hal)
        have LT := Lib.hid hal
        have NX := Lib.hid hnx
        clear hnx haL ha1 hap has hal
        go_wp2_with fail
        refine (l1Outs_any z v A n c L HN.out _ hm (K1.out.bl (BB.out.trans_ hbl))).mono ?_
        rintro e w4 ⟨v4, rfl, hv4, hb4⟩
        obtain ⟨A4, c4, rfl, ha4, -⟩ := hv4.shape
        have hR := NX.out
        unfold nextL at hR
        obtain ⟨kf, hkf, hfa, hq, hno⟩ := first_at hR
        have hin : ∀ b ∈ fromL v L, 0 ≤ b.2.1 ∧ b.2.1 < (z : Int) ∧ 1 ≤ b.2.2 ∧ b.2.2 ≤ 1000 := fun b hb => by
          have h := arcsIn_of_ok HO.out b (by unfold fromL at hb; exact (List.mem_filter.1 hb).1)
          exact ⟨h.2.2.1, h.2.2.2.1, h.2.2.2.2.1, h.2.2.2.2.2⟩
        have HIN := Lib.hid hin
        have HQ := Lib.hid hq
        have HNO := Lib.hid hno
        have HFA := Lib.hid hfa
        have V4 := Lib.hid ha4
        have B4 := Lib.hid (hbl.trans_ hb4)
        have O4 := Lib.hid (O.out.bl hb4)
        obtain ⟨R, hRl⟩ : ∃ R, R = (fromL v L).length := ⟨_, rfl⟩
        rw [← hRl]
        have HRR := Lib.hid hRl
        have hkR : kf < R := by rw [hRl]; exact hkf
        have hR48 : R ≤ 1048576 := by rw [hRl]; have := fromL_len' v L; have := HN.out; omega
        obtain ⟨vn, rfl⟩ : ∃ vn : Nat, v = vn := ⟨v.toNat, by omega⟩
        have hvl : vn < D.length := by rw [EQ.out]; omega
        have HDV := Lib.hid (dAt_at hvl)
        clear hv4 ha4 hb4 hR hfa hq hno hin hRl q0 q1 O hbl
        go_wp2_with fail
        go_loopw [9, 11] (fun vv i wx => ∃ k : Nat, k ≤ kf ∧ vv = .int .i64 (vn : Int) ∧ i = .int .i64 k ∧ Bl w4 wx) (fun _ i _ => kf + 1 - (intOf i).toNat)
        case atStart => exact ⟨0, by omega, rfl, rfl, Bl.refl _⟩
        case round =>
          obtain ⟨k, hk, rfl, rfl, hbl⟩ := hrel
          have hkl : k < (fromL (vn : Int) L).length := by rw [← HRR.out]; omega
          obtain ⟨g4, o4, rfl, hg4, hc4⟩ := (V4.out.bl hbl) (by omega)
          obtain ⟨p1, p2, p3⟩ := hc4 k hkl
          obtain ⟨b0, b1, b2, b3⟩ := HIN.out _ (List.getElem_mem hkl)
          have HNK := Lib.hid (fun (h : k < kf) => (show nextB D (vn : Int) ((fromL (vn : Int) L)[k]'hkl) = false from HNO.out k h))
          have HYK := Lib.hid (fun (h : k = kf) => (show (fromL (vn : Int) L)[k] = a from by subst h; exact HFA.out))
          generalize (fromL (vn : Int) L)[k] = b at *
          obtain ⟨x1, y1, z1⟩ := b
          simp only at p1 p2 p3 b0 b1 b2 b3
          obtain ⟨yn, rfl⟩ : ∃ yn : Nat, y1 = yn := ⟨y1.toNat, by omega⟩
          have hyl : yn < D.length := by rw [EQ.out]; omega
          have HDY := Lib.hid (dAt_at hyl)
          have r1 := CE.out yn hyl
          have r2 := CE.out vn hvl
          have hb24 := B4.out.trans_ hbl
          rw [← (bcell hb24).1 _ _ hg6] at r1 r2
          have hty := HET.out yn
          rw [HDY.out] at hty
          have NB := Lib.hid (show nextB D (vn : Int) (x1, (yn : Int), z1) = decide (0 ≤ D[yn] ∧ z1 + D[yn] = D[vn]) from by unfold nextB; simp only; rw [HDY.out, HDV.out])
          generalize D[yn] = dy at *
          generalize hdv : D[vn] = dv at *
          have a1 : IntKind.i64.wrap (z1 + dy) = z1 + dy := IntWalk.i64_in _ (by omega)
          have k0 : (0 : Int) ≤ (k : Int) := by omega
          have k1 : (k : Int) < (R : Int) := by omega
          have y0 : (0 : Int) ≤ (yn : Int) := by omega
          have y2 : (yn : Int) < (z : Int) := b1
          have v0 : (0 : Int) ≤ (vn : Int) := by omega
          have v1 : (vn : Int) < (z : Int) := hv1
          clear hc4 p1
          by_cases h1 : 0 ≤ dy
          · have c1 : decide (0 ≤ dy) = true := by simpa using h1
            by_cases h2 : z1 + dy = dv
            · have c2 : (z1 + dy == dv) = true := by simpa using h2
              have HK := Lib.hid (show k = kf from by
                by_cases e : k < kf
                · have := HNK.out e
                  rw [NB.out, decide_eq_false_iff_not] at this
                  exact absurd ⟨h1, h2⟩ this
                · omega)
              have HA := Lib.hid (HYK.out HK.out)
              have AY := Lib.hid (show a.2.1 = (yn : Int) from by rw [← HA.out])
              have O5 := Lib.hid (O4.out.bl hbl)
              have B5 := Lib.hid hb24
              clear h2 hbl hb24 NB HNK HYK
              go_wp2
              go_quiet (fail)
              go_wp2_with (at_builtin; refine wpList_append_any _ rfl (.tmp 71) (.tmp 73) _ rfl w2.heap.size 2 i0 _ 1 8 Try.underlying26 I0.out I1.out I2.out I3.out rfl (by decide) _ P.length (csI P) rfl (World.ownsRow.alloc (OwnN.bl O5.out (by first | exact Bl.refl _ | exact (Bl.refl _).drew_ | exact (Bl.refl _).drewN_ _)) _) (wr.heap.size + 1) (some ⟨wr.heap.size, 0, none⟩) 1 1 [.int .i64 (yn : Int)] rfl ?c0 (by simp [Value.oneCell']) ?c3 ?c4 ?c5 ?_)
              case c0 =>
                refine ⟨rfl, fun _ => ⟨_, rfl, by show wr.heap.size < wr.heap.size + 1; omega, fun x u hj => ?_⟩⟩
                match x, hj with
                | 0, hj => simp at hj; subst hj; (try simp [Addr.add, go_sem]); (try exact cell_new_drewNp _ _ _ _)
                | (x + 1), hj => simp at hj
              case c3 => unfold maxLen; omega
              case c4 => omega
              case c5 => have := B5.out.size; simp; omega
              intro v' w8 hown' hgrow hwh
              have O8 := Lib.hid (OwnN.snoc (V := P) (x := (yn : Int)) (n := P.length) rfl (by simpa using hown'))
              have B8 : Hid (Bl w2 w8) := by
                refine Lib.hid (Bl.grown_ (B5.out.trans_ ?_) hgrow (fun g hg => (Owns.lt O5.out g hg).1))
                first | exact (Bl.refl wr).alloc_ _ | exact ((Bl.refl wr).alloc_ _).drew_ | exact ((Bl.refl wr).alloc_ _).drewN_ _ | exact ((Bl.refl wr).drewN_ _).alloc_ _
              clear hown' hgrow hwh
              go_wp2
              go_roundw
              case rel => exact ⟨P ++ [(yn : Int)], yn, ⟨y0, y2⟩, rfl, O8.out, by rw [← AY.out]; exact WY2.out, B8.out⟩
              case measure =>
                have h1 := LT.out
                have h2 := WY2.out.far
                rw [AY.out] at h1 h2
                simp only [intOf]
                omega
            · have c2 : (z1 + dy == dv) = false := by simpa using h2
              have HK := Lib.hid (show k < kf from by
                by_cases e : k < kf
                · exact e
                · have e2 : k = kf := by omega
                  have h3 := HQ.out
                  have h4 := HFA.out
                  have h5 := HYK.out e2
                  rw [h4, ← h5, NB.out, decide_eq_true_eq] at h3
                  exact absurd h3.2 h2)
              have hkk := HK.out
              clear h2 NB HNK HYK
              go_wp2
              go_quiet (fail)
              go_wp2
              go_roundw
              case rel => exact ⟨k + 1, by omega, rfl, by go_num, (by repeat' (first | exact Bl.refl _ | with_reducible assumption | with_reducible refine Bl.drew_ ?_ | with_reducible refine Bl.drewN_ ?_ _ | with_reducible refine Bl.alloc_ ?_ _ | with_reducible refine Bl.trans_ ?_ (by assumption) | with_reducible refine Bl.trans_ ?_ (And.left (by assumption))))⟩
              case measure => simp [intOf]; omega
          · have c1 : decide (0 ≤ dy) = false := by simpa using h1
            have HK := Lib.hid (show k < kf from by
              by_cases e : k < kf
              · exact e
              · have e2 : k = kf := by omega
                have h3 := HQ.out
                have h4 := HFA.out
                have h5 := HYK.out e2
                rw [h4, ← h5, NB.out, decide_eq_true_eq] at h3
                exact absurd h3.1 h1)
            have hkk := HK.out
            clear NB HNK HYK
            go_wp2
            go_quiet (fail)
            go_wp2
            go_roundw
            case rel => exact ⟨k + 1, by omega, rfl, by go_num, (by repeat' (first | exact Bl.refl _ | with_reducible assumption | with_reducible refine Bl.drew_ ?_ | with_reducible refine Bl.drewN_ ?_ _ | with_reducible refine Bl.alloc_ ?_ _ | with_reducible refine Bl.trans_ ?_ (by assumption) | with_reducible refine Bl.trans_ ?_ (And.left (by assumption))))⟩
            case measure => simp [intOf]; omega

end Go.Proofs.Ytnacjmifnnfliaa

namespace Go.Proofs.Ytnacjmifnnfliaa
open Go.Shelf

def idxArcs_ren : Go.Shelf.Ren := ⟨fun | 6 => 102 | n => n, fun | 22 => 28 | 23 => 106 | 25 => 121 | 3 => 3 | 0 => 0 | 4 => 4 | n => n, fun | n => n⟩
theorem idxArcs : Go.Proofs.SlLaysH0.n6 Try.prog idxArcs_ren := {
  mixed := by kernel_rfl
  f6 := ⟨Try.f102.name, by decide, Try.func102.trans (congrArg some (by kernel_rfl))⟩
  t0 := Try.underlying0
  a0 := Try.isAgg0
  z0 := Try.sizeOf0
  v0 := Try.zeroValue0
  t3 := Try.underlying3
  a3 := Try.isAgg3
  z3 := Try.sizeOf3
  v3 := Try.zeroValue3
  t4 := Try.underlying4
  a4 := Try.isAgg4
  z4 := Try.sizeOf4
  v4 := Try.zeroValue4
  t22 := Try.underlying28
  a22 := Try.isAgg28
  z22 := Try.sizeOf28
  v22 := Try.zeroValue28
  t25 := Try.underlying121
  a25 := Try.isAgg121
  z25 := Try.sizeOf121
  v25 := Try.zeroValue121 }

end Go.Proofs.Ytnacjmifnnfliaa

set_option linter.unusedSimpArgs false
set_option linter.unusedVariables false
namespace Go.Proofs.Ytnacjmifnnfliaa
open Go.RowKit Go.Shelf

set_option maxHeartbeats 1000000 in
theorem next1_any (lb vb : Nat) (E : List Int) (N v x y z : Int) (W : World) (hl : NumsAt W lb E) (hv : W.cell? ⟨vb, 0, none⟩ = some (.int .i64 v)) (hN : N ≤ 24) (y0 : 0 ≤ y) (y1 : y < N) (z0 : 1 ≤ z) (z1 : z ≤ 1000) (v0 : 0 ≤ v) (v1 : v < N)
    (hE : ∀ k (h : k < E.length), (k : Int) < N → -1 ≤ E[k] ∧ E[k] ≤ 23000) :
    Calls Try.prog 103 #[.agg #[.int .i64 x, .int .i64 y, .int .i64 z], .pointer (some ⟨lb, 0, none⟩), .pointer (some ⟨vb, 0, none⟩)] W fun e w' => e = .returned (.bool (nextB E v (x, y, z))) ∧ Bl W w' := by
  obtain ⟨yn, rfl⟩ : ∃ yn : Nat, y = yn := ⟨y.toNat, by omega⟩
  obtain ⟨vn, rfl⟩ : ∃ vn : Nat, v = vn := ⟨v.toNat, by omega⟩
  have hlen := hl.len
  have hyl : yn < E.length := by omega
  have hvl : vn < E.length := by omega
  have q0 := hl.cell yn hyl
  have q1 := hl.cell vn hvl
  have hby := hE yn hyl y1
  have hbv := hE vn hvl v1
  have HB := Lib.hid (show nextB E (vn : Int) (x, (yn : Int), z) = decide (0 ≤ E[yn] ∧ z + E[yn] = E[vn]) from by
    unfold nextB
    rw [dAt_at hyl, dAt_at hvl])
  generalize E[yn] = d at *
  generalize E[vn] = e at *
  have hlb := hl.lt
  have hvb := World.block_lt_of_cell? _ _ hv
  simp only at hvb
  have u1 : (0 : Int) ≤ (yn : Int) := by omega
  have u2 : (yn : Int) < 24 := by omega
  have u3 : (0 : Int) ≤ (vn : Int) := by omega
  have u4 : (vn : Int) < 24 := by omega
  clear hl hE hlen hyl hvl
  by_cases h1 : 0 ≤ d
  · have b1 : decide (0 ≤ d) = true := by simpa using h1
    have a1 : IntKind.i64.wrap (z + d) = z + d := IntWalk.i64_in _ (by omega)
    by_cases h2 : z + d = e
    · have b2 : (z + d == e) = true := by simpa using h2
      have HC := Lib.hid (show decide (0 ≤ d ∧ z + d = e) = true from by simp only [decide_eq_true_eq]; exact ⟨h1, h2⟩)
      clear h2
      go_enter Try.func103, Try.ntmps103
      go_wp2
      go_quiet (fail)
      go_wp2
      go_ret
      exact ⟨ret_bool (by rw [HB.out, HC.out]), (by repeat' (first | exact Bl.refl _ | with_reducible assumption | with_reducible refine Bl.drew_ ?_ | with_reducible refine Bl.drewN_ ?_ _ | with_reducible refine Bl.alloc_ ?_ _ | with_reducible refine Bl.trans_ ?_ (by assumption) | with_reducible refine Bl.trans_ ?_ (And.left (by assumption))))⟩
    · have b2 : (z + d == e) = false := by simpa using h2
      have HC := Lib.hid (show decide (0 ≤ d ∧ z + d = e) = false from by simp only [decide_eq_false_iff_not]; exact fun h => h2 h.2)
      clear h2
      go_enter Try.func103, Try.ntmps103
      go_wp2
      go_quiet (fail)
      go_wp2
      go_ret
      exact ⟨ret_bool (by rw [HB.out, HC.out]), (by repeat' (first | exact Bl.refl _ | with_reducible assumption | with_reducible refine Bl.drew_ ?_ | with_reducible refine Bl.drewN_ ?_ _ | with_reducible refine Bl.alloc_ ?_ _ | with_reducible refine Bl.trans_ ?_ (by assumption) | with_reducible refine Bl.trans_ ?_ (And.left (by assumption))))⟩
  · have b1 : decide (0 ≤ d) = false := by simpa using h1
    have HC := Lib.hid (show decide (0 ≤ d ∧ z + d = e) = false from by simp only [decide_eq_false_iff_not]; exact fun h => h1 h.1)
    go_enter Try.func103, Try.ntmps103
    go_wp2
    go_quiet (fail)
    go_wp2
    go_ret
    exact ⟨ret_bool (by rw [HB.out, HC.out]), (by repeat' (first | exact Bl.refl _ | with_reducible assumption | with_reducible refine Bl.drew_ ?_ | with_reducible refine Bl.drewN_ ?_ _ | with_reducible refine Bl.alloc_ ?_ _ | with_reducible refine Bl.trans_ ?_ (by assumption) | with_reducible refine Bl.trans_ ?_ (And.left (by assumption))))⟩

def encN {N : Int} (y : ArcN N) : List Value := [.int .i64 y.a.1, .int .i64 y.a.2.1, .int .i64 y.a.2.2]
theorem box24 {w wx : World} {E : List Int} {t : TypeId} (hE : E.length = 24) (h : Bl (w.alloc (.cells (E.map (Value.int .i64)).toArray t)) wx) : NumsAt wx w.heap.size E := by
  refine NumsAt.bl (w := w.alloc (.cells (E.map (Value.int .i64)).toArray t)) ⟨by simp, hE, fun i hi => ?_, fun i hi => ?_⟩ h
  · simp [go_sem, hi]
  · simp [go_sem]

set_option maxRecDepth 100000 in
set_option maxHeartbeats 2000000 in
theorem nextNode_any (N v : Int) (A : Option Addr) (n c : Nat) (L : List Arc3) (hn : n = L.length) (hc : n ≤ c) (ho : okB N L = true) (E : List Int) (hE : E.length = 24)
    (hEb : ∀ k (h : k < E.length), (k : Int) < N → -1 ≤ E[k] ∧ E[k] ≤ 23000) (v0 : 0 ≤ v) (v1 : v < N) (a : Arc3) (hnext : nextL L (E.take N.toNat) v = some a) (w : World) (hm : n ≤ 1048576) (H1 : ArcsAt w w.heap.size A L) :
    Calls Try.prog 66 #[.agg #[.int .i64 N, .slice A n c], .agg (E.map (Value.int .i64)).toArray, .int .i64 v] w fun e w' => e = .returned (.int .i64 a.2.1) ∧ Bl w w' := by
  have K1 := Lib.hid H1
  have HN := Lib.hid hn
  have HO := Lib.hid ho
  have EL := Lib.hid hE
  have EB := Lib.hid hEb
  have NX := Lib.hid hnext
  have hN24 := (okB_elim ho).2.1
  have hN1 := (okB_elim ho).1
  clear H1 hn ho hE hEb hnext
  go_enter Try.func66, Try.ntmps66
  go_wp2_with fail
  refine (arcsFrom_any N v A n c L HN.out _ (by omega) hc (sorted_of_ok HO.out) (fun a ha => (arcsIn_of_ok HO.out a ha).2.2.1) (by omega) (by omega) (K1.out.bl (by repeat' (first | exact Bl.refl _ | with_reducible assumption | with_reducible refine Bl.drew_ ?_ | with_reducible refine Bl.drewN_ ?_ _ | with_reducible refine Bl.alloc_ ?_ _ | with_reducible refine Bl.trans_ ?_ (by assumption) | with_reducible refine Bl.trans_ ?_ (And.left (by assumption)))))).mono ?_
  rintro e w1 ⟨A', c1, rfl, hc1, hA1, hblk, hb1⟩
  have hR := NX.out
  unfold nextL at hR
  obtain ⟨k, hk, ha, hq, hno⟩ := first_at hR
  have hin : ∀ b ∈ fromL v L, 0 ≤ b.2.1 ∧ b.2.1 < N ∧ 1 ≤ b.2.2 ∧ b.2.2 ≤ 1000 := fun b hb => by
    have h := arcsIn_of_ok HO.out b (by unfold fromL at hb; exact (List.mem_filter.1 hb).1)
    exact ⟨h.2.2.1, h.2.2.2.1, h.2.2.2.2.1, h.2.2.2.2.2⟩
  have hnt : N.toNat ≤ E.length := by rw [EL.out]; omega
  have hsame : ∀ b ∈ fromL v L, nextB (E.take N.toNat) v b = nextB E v b := fun b hb => nextB_take hnt ⟨v0, by omega⟩ ⟨(hin b hb).1, by have := (hin b hb).2.1; omega⟩
  rw [hsame _ (List.getElem_mem hk)] at hq
  have hno' : ∀ j (hj : j < k), nextB E v ((fromL v L)[j]'(by omega)) = false := fun j hj => by rw [← hsame _ (List.getElem_mem (by omega))]; exact hno j hj
  haveI : Inhabited (ArcN N) := ⟨⟨(0, 0, 1), by show (0 : Int) ≤ 0; omega, by show (0 : Int) < N; omega, by show (1 : Int) ≤ 1; omega, by show (1 : Int) ≤ 1000; omega⟩⟩
  have hidx := idx_first hin (nextB E v) hk hq hno'
  obtain ⟨g, off, rfl, hg, hcell⟩ := hA1 (by omega)
  have hB := Lib.hid (show Bl w w1 from (((Bl.alloc_ (Bl.refl w) _).alloc_ _).alloc_ _).trans_ hb1)
  have hgl : g < w1.heap.size := Nat.lt_of_lt_of_le hg hb1.size
  have NA := Lib.hid (show ∀ W, Below w1.heap.size w1 W → NumsAt W (w.heap.size + 1) E ∧ W.cell? ⟨w.heap.size + 2, 0, none⟩ = some (.int .i64 v) from fun W hW => by
    have hbW : Bl w1 W := hW
    have h1 := box24 (w := w.alloc (.cells #[.int .i64 N, .slice A n c] 30)) (t := 73) EL.out ((Bl.alloc_ (Bl.refl _) (.cells #[.int .i64 v] 2)).trans_ (hb1.trans_ hbW))
    rw [World.size_alloc] at h1
    have h2 := box1 (w := (w.alloc (.cells #[.int .i64 N, .slice A n c] 30)).alloc (.cells (E.map (Value.int .i64)).toArray 73)) (hb1.trans_ hbW)
    rw [World.size_alloc, World.size_alloc] at h2
    exact ⟨h1, h2⟩)
  have hcon := AnyQ.slices_IndexFunc (P := Try.prog) (ρ := idxArcs_ren) { idxArcs with } 3 (fun w => by kernel_rfl) (fun w => by kernel_rfl) (encN (N := N)) (fun _ => rfl)
    (fun y => nextB E v y.a) 103 #[.pointer (some ⟨w.heap.size + 1, 0, none⟩), .pointer (some ⟨w.heap.size + 2, 0, none⟩)] (enters_of Try.func103 (by kernel_rfl) rfl) g off (fromL v L).length c1 (arcsN (fromL v L) hin) w1
    (fun W x hW => by
      obtain ⟨h1, h2⟩ := NA.out W hW
      obtain ⟨⟨x1, x2, x3⟩, hx1, hx2, hx3, hx4⟩ := x
      refine (next1_any (w.heap.size + 1) (w.heap.size + 2) E N v x1 x2 x3 W h1 h2 hN24 hx1 hx2 hx3 hx4 v0 v1 EB.out).mono ?_
      rintro e w' ⟨rfl, hb'⟩
      exact ⟨rfl, (show Bl w1 w' from (show Bl w1 W from hW).trans_ hb')⟩)
    (by rw [arcsN_len]; exact Nat.le_refl _) (by have := fromL_len' v L; have := HN.out; omega) hgl
    (fun j hj i u hu => by
      rw [arcsN_len] at hj
      obtain ⟨p1, p2, p3⟩ := hcell j hj
      have e := arcsN_at hin hj
      unfold encN at hu
      rw [e] at hu
      match i, hu with
      | 0, hu => simp at hu; rw [← hu]; exact p1
      | 1, hu => simp at hu; rw [← hu]; exact p2
      | 2, hu => simp at hu; rw [← hu]; exact p3
      | (i + 3), hu => simp at hu)
  change Calls Try.prog 102 _ _ _ at hcon
  rw [hidx] at hcon
  obtain ⟨p1, p2, p3⟩ := hcell k hk
  have HKL := Lib.hid hk
  obtain ⟨R, hRl⟩ : ∃ R, R = (fromL v L).length := ⟨_, rfl⟩
  rw [← hRl] at hcon hk ⊢
  rw [ha] at p2
  have HA := Lib.hid ha
  have hkc : (k : Int) < (R : Int) := by omega
  have hk0 : (0 : Int) ≤ (k : Int) := by omega
  have CON := Lib.hid hcon
  clear hcon hidx hcell hno hno' hsame hq hR hRl p1 p3 hin ha
  generalize a.2.1 = y at *
  go_wp2_with fail
  refine CON.out.mono ?_
  rintro e w2 ⟨rfl, hb2⟩
  have hb2 : Bl w1 w2 := hb2
  rw [← (bcell hb2).1 _ _ hgl] at p2
  go_wp2
  go_ret
  exact ⟨by first | rfl | kernel_rfl | simp [go_sem] | exact ret_val rfl, hB.out.trans_ hb2⟩

end Go.Proofs.Ytnacjmifnnfliaa

namespace Go.Proofs.Ytnacjmifnnfliaa
open Go.Shelf

def sortArcs_ren : Go.Shelf.Ren := ⟨fun | 6 => 99 | 15 => 120 | 14 => 119 | 28 => 138 | 29 => 139 | 20 => 130 | 21 => 131 | 22 => 132 | 23 => 133 | 24 => 134 | 25 => 135 | 26 => 136 | 27 => 137 | 46 => 144 | 47 => 145 | 48 => 146 | 49 => 147 | 50 => 148 | 57 => 151 | n => n, fun | 22 => 28 | 24 => 106 | 25 => 119 | 3 => 3 | 39 => 137 | 0 => 0 | 53 => 160 | 55 => 162 | 4 => 4 | 46 => 154 | 45 => 153 | 50 => 140 | 5 => 5 | 9 => 9 | 66 => 166 | 70 => 170 | 76 => 174 | 77 => 175 | n => n, fun | n => n⟩
theorem sortArcs : Go.Proofs.SlLaysF0.n6 Try.prog sortArcs_ren := {
  mixed := by kernel_rfl
  f6 := ⟨Try.f99.name, by decide, Try.func99.trans (congrArg some (by kernel_rfl))⟩
  f14 := ⟨Try.f119.name, by decide, Try.func119.trans (congrArg some (by kernel_rfl))⟩
  f15 := Try.func120.trans (congrArg some (by kernel_rfl))
  f20 := ⟨Try.f130.name, by decide, Try.func130.trans (congrArg some (by kernel_rfl))⟩
  f21 := ⟨Try.f131.name, by decide, Try.func131.trans (congrArg some (by kernel_rfl))⟩
  f22 := ⟨Try.f132.name, by decide, Try.func132.trans (congrArg some (by kernel_rfl))⟩
  f23 := ⟨Try.f133.name, by decide, Try.func133.trans (congrArg some (by kernel_rfl))⟩
  f24 := ⟨Try.f134.name, by decide, Try.func134.trans (congrArg some (by kernel_rfl))⟩
  f25 := ⟨Try.f135.name, by decide, Try.func135.trans (congrArg some (by kernel_rfl))⟩
  f26 := ⟨Try.f136.name, by decide, Try.func136.trans (congrArg some (by kernel_rfl))⟩
  f27 := ⟨Try.f137.name, by decide, Try.func137.trans (congrArg some (by kernel_rfl))⟩
  f28 := Try.func138.trans (congrArg some (by kernel_rfl))
  f29 := Try.func139.trans (congrArg some (by kernel_rfl))
  f46 := ⟨Try.f144.name, by decide, Try.func144.trans (congrArg some (by kernel_rfl))⟩
  f47 := Try.func145.trans (congrArg some (by kernel_rfl))
  f48 := Try.func146.trans (congrArg some (by kernel_rfl))
  f49 := ⟨Try.f147.name, by decide, Try.func147.trans (congrArg some (by kernel_rfl))⟩
  f50 := ⟨Try.f148.name, by decide, Try.func148.trans (congrArg some (by kernel_rfl))⟩
  f57 := ⟨Try.f151.name, by decide, Try.func151.trans (congrArg some (by kernel_rfl))⟩
  t0 := Try.underlying0
  a0 := Try.isAgg0
  z0 := Try.sizeOf0
  v0 := Try.zeroValue0
  t3 := Try.underlying3
  a3 := Try.isAgg3
  z3 := Try.sizeOf3
  v3 := Try.zeroValue3
  t4 := Try.underlying4
  a4 := Try.isAgg4
  z4 := Try.sizeOf4
  v4 := Try.zeroValue4
  t5 := Try.underlying5
  a5 := Try.isAgg5
  z5 := Try.sizeOf5
  v5 := Try.zeroValue5
  t9 := Try.underlying9
  a9 := Try.isAgg9
  z9 := Try.sizeOf9
  v9 := Try.zeroValue9
  t22 := Try.underlying28
  a22 := Try.isAgg28
  z22 := Try.sizeOf28
  v22 := Try.zeroValue28
  t25 := Try.underlying119
  a25 := Try.isAgg119
  z25 := Try.sizeOf119
  v25 := Try.zeroValue119
  t39 := Try.underlying137
  a39 := Try.isAgg137
  z39 := Try.sizeOf137
  v39 := Try.zeroValue137
  t45 := Try.underlying153
  a45 := Try.isAgg153
  z45 := Try.sizeOf153
  v45 := Try.zeroValue153
  t46 := Try.underlying154
  a46 := Try.isAgg154
  z46 := Try.sizeOf154
  v46 := Try.zeroValue154
  t50 := Try.underlying140
  a50 := Try.isAgg140
  z50 := Try.sizeOf140
  v50 := Try.zeroValue140
  t53 := Try.underlying160
  a53 := Try.isAgg160
  z53 := Try.sizeOf160
  v53 := Try.zeroValue160
  t55 := Try.underlying162
  a55 := Try.isAgg162
  z55 := Try.sizeOf162
  v55 := Try.zeroValue162
  t66 := Try.underlying166
  a66 := Try.isAgg166
  z66 := Try.sizeOf166
  v66 := Try.zeroValue166
  t70 := Try.underlying170
  a70 := Try.isAgg170
  z70 := Try.sizeOf170
  v70 := Try.zeroValue170
  t76 := Try.underlying174
  a76 := Try.isAgg174
  z76 := Try.sizeOf174
  v76 := Try.zeroValue174
  t77 := Try.underlying175
  a77 := Try.isAgg175
  z77 := Try.sizeOf175
  v77 := Try.zeroValue175 }

end Go.Proofs.Ytnacjmifnnfliaa

set_option linter.unusedSimpArgs false
set_option linter.unusedVariables false
namespace Go.Proofs.Ytnacjmifnnfliaa
open Go.RowKit Go.Sort

/-- Draws and new blocks alone. -/
def Gr (w w' : World) : Prop := ∃ q os, w' = Sort.grow (w.drewN q) os
theorem Gr.refl (w : World) : Gr w w := ⟨0, #[], (grow_empty w).symm⟩
theorem Gr.alloc_ {w w' : World} (h : Gr w w') (o : Obj) : Gr w (w'.alloc o) := by
  obtain ⟨q, os, rfl⟩ := h
  exact ⟨q, os ++ #[o], by rw [alloc_eq_grow, grow_grow]⟩
theorem Gr.drew_ {w w' : World} (h : Gr w w') : Gr w w'.drew := by
  obtain ⟨q, os, rfl⟩ := h
  exact ⟨q + 1, os, rfl⟩
theorem Gr.drewN_ {w w' : World} (h : Gr w w') (n : Nat) : Gr w (w'.drewN n) := by
  obtain ⟨q, os, rfl⟩ := h
  exact ⟨q + n, os, by simp [Sort.grow, World.drewN, Nat.add_assoc]⟩
theorem Gr.trans_ {a b c : World} (h : Gr a b) (k : Gr b c) : Gr a c := by
  obtain ⟨q', os', rfl⟩ := k
  obtain ⟨q, os, h⟩ := h.drewN_ q'
  exact ⟨q, os ++ os', by rw [h, grow_grow]⟩
theorem Gr.bl {w w' : World} (h : Gr w w') : Bl w w' := by
  obtain ⟨q, os, rfl⟩ := h
  exact ⟨rfl, rfl, rfl, by rw [size_grow]; exact Nat.le_add_right _ _, fun i hi => heap_grow_old _ os hi⟩

theorem two_boxes_g {w wx : World} {a b x c d y : Int} (h : Gr ((w.alloc (.cells #[.int .i64 a, .int .i64 b, .int .i64 x] 106)).alloc (.cells #[.int .i64 c, .int .i64 d, .int .i64 y] 106)) wx) :
    Gr ((w.alloc (.cells #[.int .i64 a, .int .i64 b, .int .i64 x] 106)).alloc (.cells #[.int .i64 c, .int .i64 d, .int .i64 y] 106)) wx ∧ wx.cell? ⟨w.heap.size, 0, none⟩ = some (.int .i64 a) ∧ wx.cell? ⟨w.heap.size, 1, none⟩ = some (.int .i64 b) ∧ wx.cell? ⟨w.heap.size + 1, 0, none⟩ = some (.int .i64 c) ∧ wx.cell? ⟨w.heap.size + 1, 1, none⟩ = some (.int .i64 d) :=
  ⟨h, (two_boxes h.bl).2⟩

set_option maxHeartbeats 1000000 in
theorem ends_gr (a b x c d y : Int) (w : World) :
    Calls Try.prog 100 #[.agg #[.int .i64 a, .int .i64 b, .int .i64 x], .agg #[.int .i64 c, .int .i64 d, .int .i64 y]] w fun e w' => e = .returned (.int .i64 (endsI a b c d)) ∧ Gr w w' := by
  go_enter Try.func100, Try.ntmps100
  go_wp2
  go_region_held3 (fun wx => Gr ((w.alloc (.cells #[.int .i64 a, .int .i64 b, .int .i64 x] 106)).alloc (.cells #[.int .i64 c, .int .i64 d, .int .i64 y] 106)) wx ∧ wx.cell? ⟨w.heap.size, 0, none⟩ = some (.int .i64 a) ∧ wx.cell? ⟨w.heap.size, 1, none⟩ = some (.int .i64 b) ∧ wx.cell? ⟨w.heap.size + 1, 0, none⟩ = some (.int .i64 c) ∧ wx.cell? ⟨w.heap.size + 1, 1, none⟩ = some (.int .i64 d)) (exact two_boxes_g (by repeat' (first | exact Gr.refl _ | with_reducible assumption | with_reducible refine Gr.drew_ ?_ | with_reducible refine Gr.drewN_ ?_ _ | with_reducible refine Gr.alloc_ ?_ _ | with_reducible refine Gr.trans_ ?_ (by assumption) | with_reducible refine Gr.trans_ ?_ (And.left (by assumption))))) (first | (go_at_call 122; refine (cmp_any _ _ _).mono ?_; rintro e w' ⟨rfl, rfl⟩) | (go_at_call 121; refine (or_any (cmpI a c) (cmpI b d) _ _ _ ?_ ?_).mono ?_; (· go_simp); (· go_simp); rintro e w' ⟨rfl, rfl⟩))
  go_wp2
  go_ret
  exact ⟨ret_int rfl, (by repeat' (first | exact Gr.refl _ | with_reducible assumption | with_reducible refine Gr.drew_ ?_ | with_reducible refine Gr.drewN_ ?_ _ | with_reducible refine Gr.alloc_ ?_ _ | with_reducible refine Gr.trans_ ?_ (by assumption) | with_reducible refine Gr.trans_ ?_ (And.left (by assumption))))⟩

/-- An arc's cells. -/
def enc3 (a : Arc3) : List Value := [.int .i64 a.1, .int .i64 a.2.1, .int .i64 a.2.2]
/-- The order of two arcs by their ends, as a number. -/
def endsC (x y : Arc3) : Int := endsI x.1 x.2.1 y.1 y.2.1
theorem ltOf_ends (x y : Arc3) : ltOf endsC x y = aheadB x.1 x.2.1 y.1 y.2.1 := ends_neg _ _ _ _
theorem swo_ends : SWO (ltOf endsC) where
  irrefl x := by rw [ltOf_ends]; exact ahead_irrefl _ _
  trans x y z h1 h2 := by rw [ltOf_ends] at *; exact ahead_trans h1 h2
  ntrans x y z h1 h2 := by
    rw [ltOf_ends] at *
    simp only [aheadB, decide_eq_false_iff_not] at *
    omega
theorem cmp_lays (blk off size : Nat) (w : World) : CmpLays Try.prog 100 #[] enc3 3 endsC blk off size w := fun _ _ _ _ x y => ends_gr _ _ _ _ _ _ _

theorem sorted_turned {L : List Arc3} {d d' : Array Arc3} (hs : L.Pairwise AheadP) (hd : d.toList = L.map turnA) (hp : PermIn 0 d.size d d') (hso : SortedIn (ltOf endsC) 0 d.size d') : d'.toList = revL L := by
  obtain ⟨hsz, -, hperm⟩ := hp
  have e1 : d'.extract 0 d.size = d' := by rw [← hsz]; exact Array.extract_size
  rw [e1, Array.extract_size, hd] at hperm
  obtain ⟨r1, r2⟩ := revL_sorted hs
  have hne : (L.map turnA).Pairwise (fun a b => ¬ (a.1 = b.1 ∧ a.2.1 = b.2.1)) := by
    rw [List.pairwise_map]
    exact hs.imp fun {a b} h => fun hc => ahead_ne h ⟨hc.2, hc.1⟩
  have hne' := hperm.symm.pairwise hne (fun {x y} h => fun hc => h ⟨hc.1.symm, hc.2.symm⟩)
  refine sorted_uniq ?_ r1 (hperm.trans r2.symm)
  rw [List.pairwise_iff_getElem] at hne' ⊢
  intro i j hi hj hij
  have hi' : i < d'.size := by simpa using hi
  have hj' : j < d'.size := by simpa using hj
  have h1 := hso i j (Nat.zero_le _) hij (by omega)
  rw [getElem!_pos d' j hj', getElem!_pos d' i hi', ltOf_ends] at h1
  have h2 := hne' i j hi hj hij
  exact ahead_total (by simpa using h1) (fun hc => h2 ⟨hc.1.symm, hc.2.symm⟩)

theorem flat_arcs (T : List Arc3) : flatK enc3 3 T.toArray = (cs3 T).toArray := by
  refine ext_get! (by simp [cs3_length]) fun t ht => ?_
  have ht' : t < T.toArray.size * 3 := by simpa using ht
  have htl : t < T.length * 3 := by simpa using ht'
  rw [get_flatK _ _ _ _ ht']
  have hk : t / 3 < T.length := by omega
  obtain ⟨a, b, c⟩ := cs3_at T (t / 3) hk
  have e : t = t / 3 * 3 + t % 3 := by omega
  have h3 : t % 3 = 0 ∨ t % 3 = 1 ∨ t % 3 = 2 := by omega
  have hg : T.toArray[t / 3]! = T[t / 3] := by rw [getElem!_pos T.toArray (t / 3) (by simpa using hk)]; simp
  have key : ∀ r, t % 3 = r → (cs3 T).toArray[t]! = ((cs3 T)[t / 3 * 3 + r]?).getD default := fun r hr => by
    rw [← hr, ← e]
    simp
  rw [hg]
  rcases h3 with h3 | h3 | h3
  · rw [key 0 h3, Nat.add_zero, a, h3]; rfl
  · rw [key 1 h3, b, h3]; rfl
  · rw [key 2 h3, c, h3]; rfl

theorem holds_arcs {w : World} {B g c : Nat} {T : List Arc3} (h : OwnA w B (.slice (some ⟨g, 0, none⟩) T.length c) T) : HoldsK enc3 3 w g 0 T.toArray := by
  unfold HoldsK
  rw [flat_arcs]
  intro j hj
  have hj' : j < (cs3 T).length := by simpa using hj
  have h' : w.ownsRow B 106 3 (.slice (some ⟨g, 0, none⟩) T.length c) T.length (cs3 T) := h
  refine ⟨?_, by rw [Nat.zero_add]; exact World.ownsRow.frozenAt h' j⟩
  rw [Nat.zero_add, World.ownsRow.cellAt h' j (by rw [cs3_length] at hj'; exact hj'), getElem!_pos _ j hj]
  simp [hj']

theorem sorted_own {w : World} {B g c : Nat} {T T' : List Arc3} (h : OwnA w B (.slice (some ⟨g, 0, none⟩) T.length c) T) (hl : T'.length = T.length) (m : Nat) (os : Array Obj) :
    OwnA (sortWorldK enc3 3 w g 0 m T'.toArray os) B (.slice (some ⟨g, 0, none⟩) T.length c) T' ∧ w.grownBy (sortWorldK enc3 3 w g 0 m T'.toArray os) (some g) := by
  have h' : w.ownsRow B 106 3 (.slice (some ⟨g, 0, none⟩) T.length c) T.length (cs3 T) := h
  have hother : w.grownBy (sortWorldK enc3 3 w g 0 m T'.toArray os) (some g) := by
    refine ⟨rfl, rfl, rfl, ?_, fun i hi hne => ?_⟩
    · unfold sortWorldK
      rw [size_grow, size_putRowK]
      exact Nat.le_add_right _ _
    · have hne' : g ≠ i := fun e => hne (by rw [e])
      have hsz : i < (putRowK enc3 3 (Sort.ahead w m) g 0 T'.toArray).heap.size := by rw [size_putRowK]; exact hi
      unfold sortWorldK
      rw [heap_grow_old _ _ hsz]
      simp [putRowK, putRow, mapBlock, Sort.ahead, Array.getElem?_modify, hne']
  refine ⟨⟨by rw [cs3_length], ?_⟩, hother⟩
  rcases h'.2 with ⟨e, h0⟩ | ⟨g', cap, cur, e, hB, hg, hnc, hcm, hcs, htake⟩
  · injection e with e1 e2 e3
    cases e1
  · injection e with e1 e2 e3
    injection e1 with e1
    injection e1 with e1
    subst e1
    have hlt : g < w.heap.size := (Array.getElem?_eq_some_iff.1 hg).1
    have hsz : g < (putRowK enc3 3 (Sort.ahead w m) g 0 T'.toArray).heap.size := by rw [size_putRowK]; exact hlt
    refine .inr ⟨g, cap, putCells id 0 (flatK enc3 3 T'.toArray) cur, by rw [hl, e3], hB, ?_, by rw [hl]; exact hnc, hcm, by simp [putCells, hcs], ?_⟩
    · unfold sortWorldK
      rw [heap_grow_old _ _ hsz]
      simp [putRowK, putRow, mapBlock, Sort.ahead, Array.getElem?_modify, hg, onCells]
    · rw [flat_arcs]
      refine List.ext_getElem (by simp [putCells, hcs, cs3_length]; omega) fun i h1 h2 => ?_
      have hi : i < (cs3 T').length := h2
      simp [putCells, hi]

set_option maxHeartbeats 1000000 in
/-- The sort of arcs that are turned. -/
theorem sort_arcs (L T : List Arc3) (hs : L.Pairwise AheadP) (hT : T = L.map turnA) (B : Nat) (v : Value) (w : World) (hm : T.length ≤ 1048576) (h : OwnA w B v T) :
    Calls Try.prog 99 #[v, .func (.func 100) #[] #[]] w fun e w' => e = .returned (.tuple #[]) ∧ OwnA w' B v (revL L) ∧ w.grownBy w' v.ownBlock := by
  have h' : w.ownsRow B 106 3 v T.length (cs3 T) := h
  have hrl : (revL L).length = T.length := by rw [revL_len hs, hT, List.length_map]
  rcases h'.2 with ⟨rfl, h0⟩ | ⟨g, cap, cur, rfl, hB, hg, hnc, hcm, hcs, htake⟩
  · have hcon := AnyF.slices_SortFunc_none { sortArcs with } none 0 (.func (.func 100) #[] #[]) w
    change Calls Try.prog 99 _ _ _ at hcon
    refine hcon.mono ?_
    rintro e w' ⟨rfl, rfl⟩
    have e0 : revL L = [] := List.eq_nil_of_length_eq_zero (by omega)
    exact ⟨rfl, by rw [e0]; exact OwnA.nil_ _ _, World.grownBy.refl _ _⟩
  · have eg : ∀ args w, (callFunc 100 args).run Try.prog w = .ok (.enter 100 args) w := enters_of Try.func100 (by kernel_rfl) rfl
    have hcon := AnyQ.slices_SortFunc sortArcs 3 Try.isAgg106 Try.sizeOf106 enc3 (fun _ => rfl) (fun x v hv => by simp [enc3] at hv; rcases hv with rfl | rfl | rfl <;> rfl) endsC swo_ends 100 #[] g 0 cap T.toArray w eg (cmp_lays g 0 _ w) (holds_arcs h) (Array.getElem?_eq_some_iff.1 hg).1 (by simp; omega)
    change Calls Try.prog 99 _ _ _ at hcon
    refine hcon.mono ?_
    rintro e w' ⟨rfl, d', n, os, hp, hso, rfl⟩
    have e' : d' = (revL L).toArray := by
      have := sorted_turned hs (d := T.toArray) (by simpa using hT) hp hso
      rw [← this]
    rw [e']
    obtain ⟨o1, o2⟩ := sorted_own h hrl n os
    exact ⟨rfl, o1, o2⟩

end Go.Proofs.Ytnacjmifnnfliaa

set_option linter.unusedSimpArgs false
set_option linter.unusedVariables false
namespace Go.Proofs.Ytnacjmifnnfliaa
open Go.RowKit

set_option maxRecDepth 100000 in
set_option maxHeartbeats 4000000 in
theorem implReversed_any (N : Int) (A : Option Addr) (n c : Nat) (L : List Arc3) (hn : n = L.length) (w : World) (hm : n ≤ 1048576) (H1 : ArcsAt w w.heap.size A L) :
    Calls Try.prog 65 #[.agg #[.int .i64 N, .slice A n c]] w (GraphMade1 (revN N L) (revG N L) w) := by
  obtain ⟨i0, hi, hz0, hz1, hz2⟩ := info_parts infoArc
  have I0 := Lib.hid hi
  have I1 := Lib.hid hz0
  have I2 := Lib.hid hz1
  have I3 := Lib.hid hz2
  have K1 := Lib.hid H1
  have HN := Lib.hid hn
  clear H1 hn hi hz0 hz1 hz2
  cases ho : okB N L with
  | false =>
    have HO := Lib.hid ho
    clear ho
    go_enter Try.func65, Try.ntmps65
    go_wp2_with fail
    refine (implOk_any N A n c L HN.out _ (by omega) (K1.out.bl (by repeat' (first | exact Bl.refl _ | with_reducible assumption | with_reducible refine Bl.drew_ ?_ | with_reducible refine Bl.drewN_ ?_ _ | with_reducible refine Bl.alloc_ ?_ _ | with_reducible refine Bl.trans_ ?_ (by assumption) | with_reducible refine Bl.trans_ ?_ (And.left (by assumption)))))).mono ?_
    rintro e w1 ⟨rfl, hb1⟩
    rw [HO.out]
    obtain ⟨h00, h01, h10, h11, f10, f11, hsz⟩ := box22 hb1
    go_wp2
    refine bodyPost_ret (v := .agg #[.int .i64 0, .slice none 0 0]) (by simp [results, Try.results65, go_sem, h10, h11, f10, f11]) rfl ?_
    refine ⟨.slice none 0 0, by unfold revN; rw [HO.out]; rfl, by unfold revG; rw [HO.out, if_neg (by simp)]; exact OwnA.nil_ _ _, ?_⟩
    exact Bl.set_ (Bl.set_ ((Bl.alloc_ (Bl.alloc_ (Bl.refl w) _) _).trans_ hb1) (Nat.le_succ _) _) (Nat.le_succ _) _
  | true =>
    have HO := Lib.hid ho
    have HP := Lib.hid (okB_elim ho).2.2.2.2
    clear ho
    go_enter Try.func65, Try.ntmps65
    go_wp2_with fail
    refine (implOk_any N A n c L HN.out _ (by omega) (K1.out.bl (by repeat' (first | exact Bl.refl _ | with_reducible assumption | with_reducible refine Bl.drew_ ?_ | with_reducible refine Bl.drewN_ ?_ _ | with_reducible refine Bl.alloc_ ?_ _ | with_reducible refine Bl.trans_ ?_ (by assumption) | with_reducible refine Bl.trans_ ?_ (And.left (by assumption)))))).mono ?_
    rintro e w1 ⟨rfl, hb1⟩
    rw [HO.out]
    obtain ⟨h00, h01, h10, h11, f10, f11, hsz⟩ := box22 hb1
    have T0 := Lib.hid (show TS w (.cells #[.int .i64 N, .slice A n c] 30) (w.heap.size + 1) w1.heap.size N (.slice none 0 0) [] (w1.alloc (.cells #[.int .i64 N, .slice none 0 0] 30)) from by
      refine ⟨Two.new _ _ _, ?_, OwnA.nil_ _ _, ?_, by omega, hsz⟩
      · have := Two.new (w.alloc (.cells #[.int .i64 N, .slice A n c] 30)) (.int .i64 0) (.slice none 0 0)
        have := (this.bl hb1).bl (Bl.alloc_ (Bl.refl _) (.cells #[.int .i64 N, .slice none 0 0] 30))
        simpa using this
      · exact ((Bl.alloc_ (Bl.refl _) _).trans_ hb1).alloc_ _)
    clear h10 h11 f10 f11
    have hs1 : w.heap.size + 1 < w1.heap.size := hsz
    clear hsz
    obtain ⟨y0, y1⟩ := box2 T0.out.bl
    go_wp2_with fail
    clear y0 y1
    go_loopw [16] (fun i wr => ∃ (k : Nat) (q : Value), k ≤ n ∧ i = .int .i64 k ∧ TS w (.cells #[.int .i64 N, .slice A n c] 30) (w.heap.size + 1) w1.heap.size N q (turnK L k) wr) (fun i _ => n - (intOf i).toNat)
    case atStart => exact ⟨0, _, by omega, rfl, T0.out⟩
    case round =>
      obtain ⟨k, q, hk, rfl, hT⟩ := hrel
      obtain ⟨c0, c1, f0, f1⟩ := hT.box.facts
      obtain ⟨AQ, cq, rfl, hAQ, -⟩ := hT.own.shape
      have T := Lib.hid hT
      have hbw : Bl w wr := (Bl.alloc_ (Bl.refl w) _).trans_ hT.bl
      have hlt' := World.rowIs.lt hT.box
      clear hT hAQ T0
      by_cases hlt : k < n
      · have hkl : k < L.length := by have := HN.out; omega
        obtain ⟨g1, o1, rfl, hg1, hc1⟩ := K1.out (by omega)
        obtain ⟨p1, p2, p3⟩ := hc1 k hkl
        clear hc1
        rw [← (bcell hbw).1 _ _ hg1] at p1 p2 p3
        have TK := Lib.hid (turnK_succ hkl)
        have hlen := turnK_len L k
        generalize hx : L[k].1 = x at p1
        generalize hy : L[k].2.1 = y at p2
        generalize hz : L[k].2.2 = z at p3
        have HE := Lib.hid (show turnA L[k] = (y, x, z) from by unfold turnA; rw [hx, hy, hz])
        clear hx hy hz hbw
        obtain ⟨l, hl⟩ : ∃ l, l = (turnK L k).length := ⟨_, rfl⟩
        rw [← hl] at hlen c1 T
        have HL := Lib.hid hl
        clear hl
        have u1 : (0 : Int) ≤ (k : Int) := by omega
        have u2 : (k : Int) < (n : Int) := by omega
        have T2 := Lib.hid (T.out.bl_ (show Bl wr ((wr.alloc (.cells #[.int .i64 x, .int .i64 y, .int .i64 z] 106)).alloc (.cells #[.int .i64 y, .int .i64 x, .int .i64 z] 106)) from (by repeat' (first | exact Bl.refl _ | with_reducible assumption | with_reducible refine Bl.drew_ ?_ | with_reducible refine Bl.drewN_ ?_ _ | with_reducible refine Bl.alloc_ ?_ _ | with_reducible refine Bl.trans_ ?_ (by assumption) | with_reducible refine Bl.trans_ ?_ (And.left (by assumption))))))
        go_wp2_with (at_builtin; refine wpList_append_own _ rfl (.tmp 21) (.tmp 29) _ rfl (w1.heap.size + 1) 106 i0 _ 3 24 Try.underlying28 I0.out I1.out I2.out I3.out rfl (by decide) _ l (cs3 (turnK L k)) rfl ?c0 ⟨wr.heap.size + 1, 0, none⟩ 1 1 [.int .i64 y, .int .i64 x, .int .i64 z] rfl rfl ?c1 (one3 _ _ _) ?c3 ?c4 ?c5 ?_)
        case c0 => have := T2.out.own; rw [HL.out] at this ⊢; exact this
        case c1 => have := new3 (wr.alloc (.cells #[.int .i64 x, .int .i64 y, .int .i64 z] 106)) (.int .i64 y) (.int .i64 x) (.int .i64 z) 106; simpa using this
        case c3 => unfold maxLen; omega
        case c4 => omega
        case c5 => simp; omega
        intro v2 w2 hown2 hg2 _
        have O2 := Lib.hid (show OwnA w2 (w1.heap.size + 1) v2 (turnK L (k + 1)) from by
          rw [TK.out, HE.out]
          exact own_snoc (a := (y, x, z)) (by rw [← HL.out]; exact hown2))
        have G2 := Lib.hid hg2
        clear hown2 hg2
        have U := Lib.hid (T2.out.app G2.out O2.out)
        obtain ⟨b0, -, -⟩ := T2.out.grown_ G2.out O2.out
        obtain ⟨A2, c2, rfl, -, -⟩ := O2.out.shape
        obtain ⟨d0, d1, k0, k1⟩ := b0.facts
        clear b0 c0 c1 f0 f1
        go_wp2
        go_roundw
        case rel => exact ⟨k + 1, _, by omega, by go_num, U.out⟩
        case measure => simp [intOf]; omega
      · obtain rfl : k = n := by omega
        have TA := Lib.hid (show turnK L k = L.map turnA from by rw [HN.out]; exact turnK_all L)
        have hlen := turnK_len L k
        go_wp2_with fail
        refine (sort_arcs L (turnK L k) HP.out TA.out (w1.heap.size + 1) _ _ (by omega) T.out.own).mono ?_
        rintro e w2 ⟨rfl, ho, hg⟩
        have U := Lib.hid (T.out.same hg ho)
        clear ho hg c0 c1 f0 f1
        obtain ⟨c0, c1, f0, f1⟩ := U.out.box.facts
        obtain ⟨r0, r1, fr0, fr1⟩ := U.out.res.facts
        go_wp2
        refine bodyPost_ret (v := .agg #[.int .i64 N, .slice AQ (turnK L k).length cq]) (by simp [results, Try.results65, go_sem, r0, r1, fr0, fr1]) rfl ?_
        have := U.out.fin (.int .i64 N) (.slice AQ (turnK L k).length cq)
        exact ⟨_, by unfold revN; rw [HO.out]; rfl, by unfold revG; rw [HO.out, if_pos rfl]; exact this.1, this.2⟩

end Go.Proofs.Ytnacjmifnnfliaa

set_option linter.unusedSimpArgs false
set_option linter.unusedVariables false
namespace Go.Proofs.Ytnacjmifnnfliaa
open Go.RowKit

/-- A path and a flag are left. -/
def PathMade (P : List Int) (w : World) (e : Ending) (w' : World) : Prop := ∃ v, e = .returned (.tuple #[v, .bool (decide (0 < P.length))]) ∧ OwnN w' w.heap.size v P ∧ Bl w w'
theorem pathL_none {N s t : Int} {L : List Arc3} (h : has2 N L s t = false) : pathL N L s t = [] := by
  unfold pathL
  rw [if_neg (by rw [h]; simp)]
theorem OwnA.capp {w : World} {B : Nat} {v : Value} {L : List Arc3} (h : OwnA w B v L) : ∀ A l c, v = .slice A l c → L.length ≤ c := fun A l c ev => by
  subst ev
  have h' : w.ownsRow B 106 3 (.slice A l c) L.length (cs3 L) := h
  rcases h'.2 with ⟨e, h0⟩ | ⟨g, cap, cur, e, hB, hg, hnc, -⟩
  · injection e with e1 e2 e3
    omega
  · injection e with e1 e2 e3
    omega

set_option maxRecDepth 100000 in
set_option maxHeartbeats 4000000 in
theorem implPathOf_any (N s t : Int) (A : Option Addr) (n c : Nat) (L : List Arc3) (hn : n = L.length) (hc : n ≤ c) (w : World) (hm : n ≤ 1048576) (H1 : ArcsAt w w.heap.size A L) :
    Calls Try.prog 31 #[.agg #[.int .i64 N, .slice A n c], .int .i64 s, .int .i64 t] w (PathMade (pathL N L s t) w) := by
  obtain ⟨i0, hi, hz0, hz1, hz2⟩ := info_parts infoInt
  have I0 := Lib.hid hi
  have I1 := Lib.hid hz0
  have I2 := Lib.hid hz1
  have I3 := Lib.hid hz2
  have K1 := Lib.hid H1
  have HN := Lib.hid hn
  clear H1 hn hi hz0 hz1 hz2
  cases hh : has2 N L s t with
  | false =>
    have HH := Lib.hid hh
    clear hh
    go_enter Try.func31, Try.ntmps31
    go_wp2_with fail
    refine (hasNodes_2 N s t A n c L HN.out (w.heap.size + 1) 2 _ (by omega) (K1.out.bl (by repeat' (first | exact Bl.refl _ | with_reducible assumption | with_reducible refine Bl.drew_ ?_ | with_reducible refine Bl.drewN_ ?_ _ | with_reducible refine Bl.alloc_ ?_ _ | with_reducible refine Bl.trans_ ?_ (by assumption) | with_reducible refine Bl.trans_ ?_ (And.left (by assumption))))) (by simp) (by simp [go_sem]) (by simp [go_sem])).mono ?_
    rintro e w1 ⟨rfl, hb1⟩
    rw [HH.out]
    go_wp2
    go_ret2
    exact ⟨_, by rw [pathL_none HH.out]; rfl, by rw [pathL_none HH.out]; exact OwnN.nil_ _ _, (by repeat' (first | exact Bl.refl _ | with_reducible assumption | with_reducible refine Bl.drew_ ?_ | with_reducible refine Bl.drewN_ ?_ _ | with_reducible refine Bl.alloc_ ?_ _ | with_reducible refine Bl.trans_ ?_ (by assumption) | with_reducible refine Bl.trans_ ?_ (And.left (by assumption))))⟩
  | true =>
    have HH := Lib.hid hh
    obtain ⟨ho, ⟨hs0, hs1⟩, ht0, ht1⟩ := has2_of hh
    have hN24 := (okB_elim ho).2.1
    have HO := Lib.hid ho
    have HRO := Lib.hid (revL_ok ho)
    have HRL := Lib.hid (revL_len (okB_elim ho).2.2.2.2)
    have HE := Lib.hid (distL_is (s := t) (arcsIn_of_ok (revL_ok ho)) hN24 ht0 ht1)
    have HET := Lib.hid (fun v => distL_top (s := t) (revL_ok ho) ht0 ht1 v)
    obtain ⟨u, rfl⟩ : ∃ u : Nat, s = u := ⟨s.toNat, by omega⟩
    clear hh ho
    go_enter Try.func31, Try.ntmps31
    go_wp2_with fail
    refine (hasNodes_2 N u t A n c L HN.out (w.heap.size + 1) 2 _ (by omega) (K1.out.bl (by repeat' (first | exact Bl.refl _ | with_reducible assumption | with_reducible refine Bl.drew_ ?_ | with_reducible refine Bl.drewN_ ?_ _ | with_reducible refine Bl.alloc_ ?_ _ | with_reducible refine Bl.trans_ ?_ (by assumption) | with_reducible refine Bl.trans_ ?_ (And.left (by assumption))))) (by simp) (by simp [go_sem]) (by simp [go_sem])).mono ?_
    rintro e w1 ⟨rfl, hb1⟩
    rw [HH.out]
    have hx := (bcell hb1).1
    have q0 : w1.cell? ⟨w.heap.size, 0, none⟩ = some (.int .i64 N) := (hx _ _ (by simp; omega)).trans (by simp [go_sem])
    have q1 : w1.cell? ⟨w.heap.size, 1, none⟩ = some (.slice A n c) := (hx _ _ (by simp; omega)).trans (by simp [go_sem])
    have hbw : Bl w w1 := (((Bl.refl w).alloc_ _).alloc_ _).trans_ hb1
    have hsw : w.heap.size < w1.heap.size := by have := hb1.size; simp at this; omega
    clear hx hb1
    go_wp2_with fail
    refine (implReversed_any N A n c L HN.out _ hm (K1.out.bl hbw)).mono ?_
    rintro e w2 ⟨v6, rfl, hv6, hb2⟩
    rw [show revN N L = N from if_pos HO.out]
    rw [show revG N L = revL L from if_pos HO.out] at hv6
    have hcap := OwnA.capp hv6
    obtain ⟨A6, c6, rfl, ha6, -⟩ := hv6.shape
    have V6 := Lib.hid ha6
    have HC6 := Lib.hid (hcap _ _ _ rfl)
    clear hv6 hcap ha6
    go_wp2_with fail
    refine (distances_any N t A6 (revL L).length c6 (revL L) rfl HC6.out HRO.out ht0 ht1 _ V6.out).mono ?_
    rintro e w3 ⟨E, rfl, hE, hEd, hb3⟩
    have EL := Lib.hid hE
    have ED := Lib.hid hEd
    have HB3 := Lib.hid (hbw.trans_ (hb2.trans_ hb3))
    have hb13 := hb2.trans_ hb3
    have r0 := ((bcell hb13).1 _ _ hsw).trans q0
    have r1 := ((bcell hb13).1 _ _ hsw).trans q1
    have hs3 := hb13.size
    have hsw3 : w.heap.size < w3.heap.size := by omega
    clear hE hEd q0 q1 hb2 hb3 hb13 hbw
    have NS := Lib.hid (NumsAt.stored EL.out (by simp) (there_new w3 73))
    have hbS := Bl.setCells_ w3.heap.size (Nat.le_refl _) (csI E) 0 _ ((Bl.refl w3).alloc_ (.cells #[.int .i64 0, .int .i64 0, .int .i64 0, .int .i64 0, .int .i64 0, .int .i64 0, .int .i64 0, .int .i64 0, .int .i64 0, .int .i64 0, .int .i64 0, .int .i64 0, .int .i64 0, .int .i64 0, .int .i64 0, .int .i64 0, .int .i64 0, .int .i64 0, .int .i64 0, .int .i64 0, .int .i64 0, .int .i64 0, .int .i64 0, .int .i64 0] 73))
    have HBS := Lib.hid hbS
    have hz := setCells_size w3.heap.size (csI E) 0 (w3.alloc (.cells #[.int .i64 0, .int .i64 0, .int .i64 0, .int .i64 0, .int .i64 0, .int .i64 0, .int .i64 0, .int .i64 0, .int .i64 0, .int .i64 0, .int .i64 0, .int .i64 0, .int .i64 0, .int .i64 0, .int .i64 0, .int .i64 0, .int .i64 0, .int .i64 0, .int .i64 0, .int .i64 0, .int .i64 0, .int .i64 0, .int .i64 0, .int .i64 0] 73))
    obtain ⟨W, hW⟩ : ∃ W, W = (w3.alloc (.cells #[.int .i64 0, .int .i64 0, .int .i64 0, .int .i64 0, .int .i64 0, .int .i64 0, .int .i64 0, .int .i64 0, .int .i64 0, .int .i64 0, .int .i64 0, .int .i64 0, .int .i64 0, .int .i64 0, .int .i64 0, .int .i64 0, .int .i64 0, .int .i64 0, .int .i64 0, .int .i64 0, .int .i64 0, .int .i64 0, .int .i64 0, .int .i64 0] 73)).setCells w3.heap.size 0 (csI E) := ⟨_, rfl⟩
    have NSW : NumsAt W w3.heap.size E := by rw [hW]; exact NS.out
    have BSW : Bl w3 W := by rw [hW]; exact HBS.out
    have szW : W.heap.size = w3.heap.size + 1 := by rw [hW, hz]; simp
    have e0 := ((bcell BSW).1 _ _ hsw3).trans r0
    have e1 := ((bcell BSW).1 _ _ hsw3).trans r1
    clear hz hbS HBS r0 r1
    have hEl := EL.out
    have hue : u < E.length := by rw [hEl]; omega
    have q2 := NSW.cell u hue
    have hDu : dAt (distL N (revL L) t) u = E[u] := by
      rw [← ED.out]
      unfold dAt
      simp only [List.getD_eq_getElem?_getD]
      rw [List.getElem?_take, if_pos (by omega)]
      simp [hue]
    have HDU := Lib.hid hDu
    generalize E[u] = d at q2 HDU
    clear hDu
    rw [hW] at q2
    have u0 : (0 : Int) ≤ (u : Int) := by omega
    have u1 : (u : Int) < 24 := by omega
    by_cases hd : d < 0
    · have bd : decide (d < 0) = true := by simpa using hd
      have HP := Lib.hid (show pathL N L u t = [] from by
        unfold pathL
        rw [if_neg (by rw [HDU.out, Bool.and_eq_true]; intro h; have := of_decide_eq_true h.2; omega)])
      go_wp2_with (refine wpList_store_mid rfl 73 (.tmp 8) (.tmp 20) rfl w3.heap.size 0 (csI E).toArray rfl rfl ?c1 ?c2 (csI_one _) ?_)
      case c1 => simpa [csI_len, EL.out] using there_new w3 _
      case c2 => simpa [csI_len, EL.out] using size24
      rw [← hW]
      go_ret2
      exact ⟨_, by rw [HP.out]; rfl, by rw [HP.out]; exact OwnN.nil_ _ _, HB3.out.trans_ BSW⟩
    · have bd : decide (d < 0) = false := by simpa using hd
      have HP := Lib.hid (show pathL N L u t = (u : Int) :: stepsL L (distL N (revL L) t) t u from by
        unfold pathL
        rw [if_pos (by rw [HDU.out, Bool.and_eq_true]; exact ⟨HH.out, by simp; omega⟩)])
      have ST := Lib.hid (OnWay.start (L := L) (D := distL N (revL L) t) (t := t) (s := (u : Int)) (by rw [HDU.out]; omega))
      have hdb := (HET.out u).2
      have NW := Lib.hid (fun (v : Int) h0 h1 hv hd => nextL_some (L := L) (v := v) HO.out HE.out h0 h1 hv hd)
      have EB := Lib.hid (show ∀ k (h : k < E.length), (k : Int) < N → -1 ≤ E[k] ∧ E[k] ≤ 23000 from fun k hk hkN => by
        have h1 := HET.out k
        rw [← ED.out] at h1
        have h2 : dAt (E.take N.toNat) (k : Int) = E[k] := by
          unfold dAt
          simp only [List.getD_eq_getElem?_getD]
          rw [List.getElem?_take, if_pos (by omega)]
          simp [hk]
        rw [h2] at h1
        exact h1)
      have NXT := Lib.hid (fun (v : Int) (a : Arc3) (h : nextL L (distL N (revL L) t) v = some a) => (show nextL L (E.take N.toNat) v = some a from by rw [ED.out]; exact h))
      have hu1 := hs1
      generalize hDD : distL N (revL L) t = D at *
      have AA := Lib.hid (K1.out.bl (HB3.out.trans_ BSW))
      have BB := Lib.hid (HB3.out.trans_ BSW)
      have O0 := Lib.hid (show OwnN (W.alloc (.cells #[.int .i64 (u : Int)] 2)) (w3.heap.size + 1) (.slice (some ⟨w3.heap.size + 1, 0, none⟩) 1 1) [(u : Int)] from by
        rw [← szW]
        exact ⟨rfl, .inr ⟨W.heap.size, 1, #[.int .i64 (u : Int)], rfl, Nat.le_refl _, World.alloc_heap_new _ _, Nat.le_refl _, by unfold maxLen; omega, rfl, rfl⟩⟩)
      have BX := Lib.hid (show ∀ wx, Bl W wx → (wx.cell? ⟨w.heap.size, 0, none⟩ = some (.int .i64 N) ∧ wx.cell? ⟨w.heap.size, 1, none⟩ = some (.slice A n c)) ∧ NumsAt wx w3.heap.size E from fun wx hb => ⟨⟨((bcell hb).1 _ _ (by omega)).trans e0, ((bcell hb).1 _ _ (by omega)).trans e1⟩, NSW.bl hb⟩)
      clear e0 e1 HE HET HDU BSW NSW hDD hue hEl
      go_wp2_with (refine wpList_store_mid rfl 73 (.tmp 8) (.tmp 20) rfl w3.heap.size 0 (csI E).toArray rfl rfl ?c1 ?c2 (csI_one _) ?_)
      case c1 => simpa [csI_len, EL.out] using there_new w3 _
      case c2 => simpa [csI_len, EL.out] using size24
      rw [← hW]
      clear q2 hW NS
      go_loopw [9, 10] (fun pv vv wr => ∃ (P : List Int) (v : Int), (0 ≤ v ∧ v < N) ∧ vv = .int .i64 v ∧ OwnN wr (w3.heap.size + 1) pv P ∧ OnWay L D u t P v ∧ Bl W wr) (fun _ vv _ => (dAt D (intOf vv)).toNat)
      case atStart => exact ⟨[(u : Int)], u, ⟨by omega, hu1⟩, rfl, O0.out, ST.out, Bl.alloc_ (Bl.refl W) _⟩
      case round =>
        obtain ⟨P, v, ⟨hv0, hv1⟩, rfl, hO, hway, hbl⟩ := hrel
        have O := Lib.hid hO
        have WY := Lib.hid hway
        obtain ⟨⟨q0, q1⟩, hNS⟩ := BX.out _ hbl
        have NS := Lib.hid hNS
        have hPl : P.length ≤ 23001 := hway.len hdb
        clear hO hway hNS
        by_cases hvt : v = t
        · have bv : (v != t) = false := by simpa using hvt
          subst hvt
          go_wp2
          go_ret2
          refine ⟨u9, ?_, ?_, BB.out.trans_ hbl⟩
          · rw [HP.out]; rfl
          · rw [HP.out, ← WY.out.done]; exact O.out.low (by have := BB.out.size; omega)
        · have bv : (v != t) = true := by simpa using hvt
          obtain ⟨a, hnx, haL, ha1, hap, has, ha0, haN, hal⟩ := NW.out v hv0 hv1 hvt WY.out.far
          have NX := Lib.hid hnx
          have WY2 := Lib.hid (WY.out.next hvt hnx hap hal)
          have LT := Lib.hid hal
          clear hnx haL ha1 hap has hal
          go_wp2_with (refine wpList_load_mid rfl 73 (.tmp 8) rfl w3.heap.size 0 rfl (csI E) _ NS.out.range Try.underlying73 rfl (by rw [csI_len, EL.out]; exact size24) ?_)
          refine (nextNode_any N v A n c L HN.out hc HO.out E EL.out EB.out hv0 hv1 a (NXT.out v a NX.out) _ hm (AA.out.bl hbl)).mono ?_
          rintro e w7 ⟨rfl, hb7⟩
          have O7 := Lib.hid (O.out.bl hb7)
          have B7 := Lib.hid (hbl.trans_ hb7)
          have hs7 := B7.out.size
          clear hb7 q0 q1 hbl
          generalize hya : a.2.1 = y at *
          have YA := Lib.hid hya
          clear hya
          go_wp2_with (at_builtin; refine wpList_append_any _ rfl (.tmp 35) (.tmp 37) _ rfl (w3.heap.size + 1) 2 i0 _ 1 8 Try.underlying26 I0.out I1.out I2.out I3.out rfl (by decide) _ P.length (csI P) rfl (World.ownsRow.alloc O7.out _) (w7.heap.size + 1) (some ⟨w7.heap.size, 0, none⟩) 1 1 [.int .i64 y] rfl ?c0 (by simp [Value.oneCell']) ?c3 ?c4 ?c5 ?_)
          case c0 =>
            refine ⟨rfl, fun _ => ⟨_, rfl, by show w7.heap.size < w7.heap.size + 1; omega, fun x u hj => ?_⟩⟩
            match x, hj with
            | 0, hj => simp at hj; subst hj; simp [Addr.add, go_sem]
            | (x + 1), hj => simp at hj
          case c3 => unfold maxLen; omega
          case c4 => omega
          case c5 => simp; omega
          intro v' w8 hown' hgrow hwh
          have O8 := Lib.hid (OwnN.snoc (V := P) (x := y) (n := P.length) rfl (by simpa using hown'))
          have B8 := Lib.hid (show Bl W w8 from (B7.out.alloc_ (.cells #[.int .i64 y] 2)).grown_ hgrow (fun g hg => by have := (Owns.lt O7.out g hg).1; omega))
          clear hown' hgrow hwh
          go_wp2
          go_roundw
          case rel => exact ⟨P ++ [y], y, ⟨ha0, haN⟩, rfl, O8.out, WY2.out, B8.out⟩
          case measure =>
            have h1 := LT.out
            have h2 := WY2.out.far
            simp only [intOf]
            omega

end Go.Proofs.Ytnacjmifnnfliaa

set_option linter.unusedSimpArgs false
set_option linter.unusedVariables false
namespace Go.Proofs.Ytnacjmifnnfliaa
open Go.RowKit

set_option maxRecDepth 100000 in
set_option maxHeartbeats 2000000 in
theorem specPathOf_any (N s t : Int) (A : Option Addr) (n c : Nat) (L : List Arc3) (hn : n = L.length) (w : World) (hm : n ≤ 1048576) (H1 : ArcsAt w w.heap.size A L) :
    Calls Try.prog 30 #[.agg #[.int .i64 N, .slice A n c], .int .i64 s, .int .i64 t] w (PathMade (pathL N L s t) w) := by
  have K1 := Lib.hid H1
  have HN := Lib.hid hn
  have BX := Lib.hid (show ∀ wx, Bl (w.alloc (.cells #[.int .i64 N, .slice A n c] 30)) wx → wx.cell? ⟨w.heap.size, 0, none⟩ = some (.int .i64 N) ∧ wx.cell? ⟨w.heap.size, 1, none⟩ = some (.slice A n c) from fun wx hb => box2 hb)
  have BW := Lib.hid (show ∀ wx, Bl (w.alloc (.cells #[.int .i64 N, .slice A n c] 30)) wx → Bl w wx from fun wx hb => (Bl.alloc_ (Bl.refl w) _).trans_ hb)
  clear H1 hn
  cases ho : okB N L with
  | false =>
    have HO := Lib.hid ho
    have HP := Lib.hid (pathL_none (N := N) (L := L) (s := s) (t := t) (by unfold has2; rw [ho]; rfl))
    clear ho
    go_enter Try.func30, Try.ntmps30
    go_wp2_with fail
    refine (specOk_any N A n c L HN.out _ (by omega) (K1.out.bl (by repeat' (first | exact Bl.refl _ | with_reducible assumption | with_reducible refine Bl.drew_ ?_ | with_reducible refine Bl.drewN_ ?_ _ | with_reducible refine Bl.alloc_ ?_ _ | with_reducible refine Bl.trans_ ?_ (by assumption) | with_reducible refine Bl.trans_ ?_ (And.left (by assumption)))))).mono ?_
    rintro e w1 ⟨rfl, hb1⟩
    rw [HO.out]
    go_wp2
    go_ret2
    exact ⟨_, by rw [HP.out]; rfl, by rw [HP.out]; exact OwnN.nil_ _ _, BW.out _ hb1⟩
  | true =>
    have HO := Lib.hid ho
    have HNS := Lib.hid (nodeB_ok (v := s) ho)
    have HNT := Lib.hid (nodeB_ok (v := t) ho)
    by_cases hs : 0 ≤ s ∧ s < N
    · have hsd : decide (0 ≤ s ∧ s < N) = true := by simpa using hs
      have HS := Lib.hid hsd
      by_cases ht : 0 ≤ t ∧ t < N
      · have htd : decide (0 ≤ t ∧ t < N) = true := by simpa using ht
        have HT := Lib.hid htd
        have HH := Lib.hid (show has2 N L s t = true from by unfold has2; rw [ho, Bool.true_and, decide_eq_true_eq]; exact ⟨hs, ht⟩)
        clear hsd htd ho
        go_enter Try.func30, Try.ntmps30
        go_wp2_with fail
        refine (specOk_any N A n c L HN.out _ (by omega) (K1.out.bl (by repeat' (first | exact Bl.refl _ | with_reducible assumption | with_reducible refine Bl.drew_ ?_ | with_reducible refine Bl.drewN_ ?_ _ | with_reducible refine Bl.alloc_ ?_ _ | with_reducible refine Bl.trans_ ?_ (by assumption) | with_reducible refine Bl.trans_ ?_ (And.left (by assumption)))))).mono ?_
        rintro e w1 ⟨rfl, hb1⟩
        rw [HO.out]
        obtain ⟨q0, q1⟩ := BX.out _ hb1
        go_wp2_with fail
        refine (l1Node_any N s _ _).mono ?_
        rintro e w2 ⟨rfl, hb2⟩
        rw [HNS.out, HS.out]
        have hb2 := hb1.trans_ hb2
        obtain ⟨q0, q1⟩ := BX.out _ hb2
        go_wp2_with fail
        refine (l1Node_any N t _ _).mono ?_
        rintro e w3 ⟨rfl, hb3⟩
        rw [HNT.out, HT.out]
        have hb3 := hb2.trans_ hb3
        obtain ⟨q0, q1⟩ := BX.out _ hb3
        go_wp2_with fail
        refine (l3Path_any N s t A n c L HN.out HH.out _ hm (K1.out.bl (BW.out _ hb3))).mono ?_
        rintro e w4 ⟨v, rfl, hv, hb4⟩
        obtain ⟨A4, c4, rfl, -⟩ := OwnN.shape hv
        have O4 := Lib.hid hv
        have hl := pathL_len N L s t
        generalize hP : pathL N L s t = P at *
        obtain ⟨k, hk⟩ : ∃ k, k = P.length := ⟨_, rfl⟩
        rw [← hk]
        have HK := Lib.hid hk
        have B4 := Lib.hid (hb3.trans_ hb4)
        have HB3 := Lib.hid hb3
        clear hv hk hb1 hb2 hb3 hb4 hP
        have O4' := Lib.hid (show OwnN w4 w3.heap.size (.slice A4 k c4) P from by rw [HK.out]; exact O4.out)
        have hs3 : w.heap.size ≤ w3.heap.size := by
          have h1 := (BW.out _ HB3.out).size
          exact h1
        go_wp2
        go_ret2
        refine ⟨.slice A4 k c4, ?_, O4'.out.low hs3, BW.out _ B4.out⟩
        rw [← HK.out]
        simp
      · have htd : decide (0 ≤ t ∧ t < N) = false := by simpa using ht
        have HT := Lib.hid htd
        have HP := Lib.hid (pathL_none (N := N) (L := L) (s := s) (t := t) (by unfold has2; rw [ho, Bool.true_and, decide_eq_false_iff_not]; exact fun h => ht h.2))
        clear hsd htd
        go_enter Try.func30, Try.ntmps30
        go_wp2_with fail
        refine (specOk_any N A n c L HN.out _ (by omega) (K1.out.bl (by repeat' (first | exact Bl.refl _ | with_reducible assumption | with_reducible refine Bl.drew_ ?_ | with_reducible refine Bl.drewN_ ?_ _ | with_reducible refine Bl.alloc_ ?_ _ | with_reducible refine Bl.trans_ ?_ (by assumption) | with_reducible refine Bl.trans_ ?_ (And.left (by assumption)))))).mono ?_
        rintro e w1 ⟨rfl, hb1⟩
        rw [HO.out]
        obtain ⟨q0, q1⟩ := BX.out _ hb1
        go_wp2_with fail
        refine (l1Node_any N s _ _).mono ?_
        rintro e w2 ⟨rfl, hb2⟩
        rw [HNS.out, HS.out]
        have hb2 := hb1.trans_ hb2
        obtain ⟨q0, q1⟩ := BX.out _ hb2
        go_wp2_with fail
        refine (l1Node_any N t _ _).mono ?_
        rintro e w3 ⟨rfl, hb3⟩
        rw [HNT.out, HT.out]
        have hb3 := hb2.trans_ hb3
        go_wp2
        go_ret2
        exact ⟨_, by rw [HP.out]; rfl, by rw [HP.out]; exact OwnN.nil_ _ _, BW.out _ hb3⟩
    · have hsd : decide (0 ≤ s ∧ s < N) = false := by simpa using hs
      have HS := Lib.hid hsd
      have HP := Lib.hid (pathL_none (N := N) (L := L) (s := s) (t := t) (by unfold has2; rw [ho, Bool.true_and, decide_eq_false_iff_not]; exact fun h => hs h.1))
      clear hsd
      go_enter Try.func30, Try.ntmps30
      go_wp2_with fail
      refine (specOk_any N A n c L HN.out _ (by omega) (K1.out.bl (by repeat' (first | exact Bl.refl _ | with_reducible assumption | with_reducible refine Bl.drew_ ?_ | with_reducible refine Bl.drewN_ ?_ _ | with_reducible refine Bl.alloc_ ?_ _ | with_reducible refine Bl.trans_ ?_ (by assumption) | with_reducible refine Bl.trans_ ?_ (And.left (by assumption)))))).mono ?_
      rintro e w1 ⟨rfl, hb1⟩
      rw [HO.out]
      obtain ⟨q0, q1⟩ := BX.out _ hb1
      go_wp2_with fail
      refine (l1Node_any N s _ _).mono ?_
      rintro e w2 ⟨rfl, hb2⟩
      rw [HNS.out, HS.out]
      have hb2 := hb1.trans_ hb2
      go_wp2
      go_ret2
      exact ⟨_, by rw [HP.out]; rfl, by rw [HP.out]; exact OwnN.nil_ _ _, BW.out _ hb2⟩

end Go.Proofs.Ytnacjmifnnfliaa

set_option linter.unusedSimpArgs false
set_option linter.unusedVariables false
namespace Go.Proofs.Ytnacjmifnnfliaa
open Go.RowKit

/-- The slice may be written: it leads to a row of its own. -/
def RowW (w : World) (A : Option Addr) (n : Nat) : Prop := 0 < n → ∃ g m f, A = some ⟨g, 0, none⟩ ∧ n * 3 ≤ m ∧ w.rowIs g 106 m f
/-- The slice holds the numbers from k on. -/
def MarkedAt (w : World) (A : Option Addr) (n : Nat) (k : Int) : Prop := 0 < n → ∃ g, A = some ⟨g, 0, none⟩ ∧ g < w.heap.size ∧ ∀ j, j < n →
  w.cell? ⟨g, j * 3, none⟩ = some (.int .i64 (k + 3 * j)) ∧ w.cell? ⟨g, j * 3 + 1, none⟩ = some (.int .i64 (k + 3 * j + 1)) ∧ w.cell? ⟨g, j * 3 + 2, none⟩ = some (.int .i64 (k + 3 * j + 2))
theorem MarkedAt.bl {w w' : World} {A : Option Addr} {n : Nat} {k : Int} (h : MarkedAt w A n k) (hb : Bl w w') : MarkedAt w' A n k := fun h0 => by
  obtain ⟨g, e, hg, hc⟩ := h h0
  have hh := (bcell hb).1
  exact ⟨g, e, Nat.lt_of_lt_of_le hg hb.size, fun j hj => by rw [hh _ _ hg, hh _ _ hg, hh _ _ hg]; exact hc j hj⟩
theorem RowW.bl {w w' : World} {A : Option Addr} {n : Nat} (h : RowW w A n) (hb : Bl w w') : RowW w' A n := fun h0 => by
  obtain ⟨g, m, f, e, hm, hr⟩ := h h0
  exact ⟨g, m, f, e, hm, row_bl hr hb⟩
theorem OwnA.row {w : World} {B : Nat} {A : Option Addr} {n c : Nat} {L : List Arc3} (h : OwnA w B (.slice A n c) L) (hn : n = L.length) : RowW w A n := fun h0 => by
  have h' : w.ownsRow B 106 3 (.slice A n c) L.length (cs3 L) := h
  rcases h'.2 with ⟨e, h1⟩ | ⟨g, cap, cur, e, hB, hg, hnc, hcm, hcs, htake⟩
  · omega
  · injection e with e1 e2 e3
    exact ⟨g, cur.size, fun i => cur.getD i undef, e1, by omega, cur, hg, rfl, fun i hi => by simp [Array.getD, hi]⟩

theorem only_setCell {a w : World} {g : Nat} (h : a.grownBy w (some g)) {p : Addr} (hp : p.block = g ∨ a.heap.size ≤ p.block) (u : Value) : a.grownBy (w.setCell p u) (some g) :=
  ⟨h.os, h.tape, h.output, by simpa [World.setCell] using h.size, fun i hi hne => (Below.heap_setCell w p u i (by
    rintro rfl
    rcases hp with hp | hp
    · exact hne (by rw [hp])
    · omega)).trans (h.block i hi hne)⟩

/-- What the marks leave. -/
def MarkPost (A : Option Addr) (n : Nat) (k : Int) (w : World) (e : Ending) (w' : World) : Prop :=
  e = .returned (.int .i64 (k + 3 * n)) ∧ MarkedAt w' A n k ∧ w.grownBy w' (blockOf A) ∧ RowW w' A n

set_option maxHeartbeats 1000000 in
theorem markArcS_any (A : Option Addr) (n c : Nat) (k : Int) (w : World) (hn : n ≤ 1048576) (hk0 : 0 ≤ k) (hk1 : k ≤ 1099511627776) (HR : RowW w A n) :
    Calls Try.prog 60 #[.slice A n c, .int .i64 k] w (MarkPost A n k w) := by
  have R := Lib.hid HR
  clear HR
  rcases Nat.eq_zero_or_pos n with rfl | hpos
  · go_enter Try.func60, Try.ntmps60
    go_wp2
    refine wp_loop_rounds 1 ?_
    rw [rounds_succ]
    go_wp2
    go_ret
    exact ⟨ret_int (by simp), fun h => absurd h (by omega), World.grownBy.refl w _, R.out⟩
  · obtain ⟨g, m, f, rfl, hm, hr⟩ := R.out hpos
    have hg := hr.lt
    have R0 := Lib.hid hr
    clear hr R
    go_enter Try.func60, Try.ntmps60
    go_wp2
    go_loopw [1, 5] (fun q i wr => ∃ (j : Nat) (f : Nat → Value), j ≤ n ∧ i = .int .i64 j ∧ q = .int .i64 (k + 3 * j) ∧ wr.rowIs g 106 m f ∧ w.grownBy wr (some g) ∧ wr.heap.size = w.heap.size ∧
      ∀ t, t < j → f (t * 3) = .int .i64 (k + 3 * t) ∧ f (t * 3 + 1) = .int .i64 (k + 3 * t + 1) ∧ f (t * 3 + 2) = .int .i64 (k + 3 * t + 2)) (fun _ i _ => n - (intOf i).toNat)
    case atStart => exact ⟨0, f, by omega, rfl, by simp, R0.out, World.grownBy.refl w _, rfl, fun t h => absurd h (by omega)⟩
    case round =>
      obtain ⟨j, f', hj, rfl, rfl, hr, hgr, hsz, hf⟩ := hrel
      have R1 := Lib.hid hr
      have G := Lib.hid hgr
      have Z := Lib.hid hsz
      have F := Lib.hid hf
      clear hr hgr hsz hf
      by_cases hlt : j < n
      · have z1 := R1.out.cell (i := j * 3) (by omega)
        have z2 := R1.out.cell (i := j * 3 + 1) (by omega)
        have z3 := R1.out.cell (i := j * 3 + 2) (by omega)
        have y1 := R1.out.frozen (j * 3)
        have y2 := R1.out.frozen (j * 3 + 1)
        have y3 := R1.out.frozen (j * 3 + 2)
        go_wp2
        go_roundw
        case rel =>
          refine ⟨j + 1, _, by omega, by go_num, by go_num, ((R1.out.set (j * 3) _).set (j * 3 + 1) _).set (j * 3 + 2) _, only_setCell (only_setCell (only_setCell G.out (.inl rfl) _) (.inl rfl) _) (.inl rfl) _, by rw [World.size_setCell, World.size_setCell, World.size_setCell]; exact Z.out, fun t ht => ?_⟩
          rcases Nat.lt_or_ge t j with h | h
          · rw [if_neg (by omega), if_neg (by omega), if_neg (by omega), if_neg (by omega), if_neg (by omega), if_neg (by omega), if_neg (by omega), if_neg (by omega), if_neg (by omega)]
            exact F.out t h
          · have e : t = j := by omega
            subst e
            exact ⟨by rw [if_neg (by omega), if_neg (by omega), if_pos rfl], by rw [if_neg (by omega), if_pos rfl], by rw [if_pos rfl]; congr 1; omega⟩
        case measure => simp [intOf]; omega
      · go_wp2
        go_ret
        have e : j = n := by omega
        subst e
        refine ⟨ret_int rfl, fun _ => ⟨g, rfl, by rw [Z.out]; exact hg, fun t ht => ?_⟩, G.out, fun _ => ⟨g, m, f', rfl, hm, R1.out⟩⟩
        obtain ⟨e1, e2, e3⟩ := F.out t ht
        exact ⟨by rw [← e1]; exact R1.out.cell (by omega), by rw [← e2]; exact R1.out.cell (by omega), by rw [← e3]; exact R1.out.cell (by omega)⟩

set_option maxHeartbeats 400000 in
theorem markGraph_any (N : Int) (A : Option Addr) (n c : Nat) (k : Int) (w : World) (hn : n ≤ 1048576) (hk0 : 0 ≤ k) (hk1 : k ≤ 1099511627776) (HR : RowW w A n) :
    Calls Try.prog 21 #[.agg #[.int .i64 N, .slice A n c], .int .i64 k] w (MarkPost A n k w) := by
  have R := Lib.hid HR
  clear HR
  go_enter Try.func21, Try.ntmps21
  go_wp2_with fail
  refine (markArcS_any A n c k _ hn hk0 hk1 (R.out.bl (by repeat' (first | exact Bl.refl _ | with_reducible assumption | with_reducible refine Bl.drew_ ?_ | with_reducible refine Bl.drewN_ ?_ _ | with_reducible refine Bl.alloc_ ?_ _ | with_reducible refine Bl.trans_ ?_ (by assumption) | with_reducible refine Bl.trans_ ?_ (And.left (by assumption)))))).mono ?_
  rintro e w1 ⟨rfl, hmk, hgr, hro⟩
  have M := Lib.hid hmk
  have G := Lib.hid hgr
  have O := Lib.hid hro
  clear hmk hgr hro
  go_wp2
  go_ret
  exact ⟨ret_int rfl, M.out, grown_of_bl (by repeat' (first | exact Bl.refl _ | with_reducible assumption | with_reducible refine Bl.drew_ ?_ | with_reducible refine Bl.drewN_ ?_ _ | with_reducible refine Bl.alloc_ ?_ _ | with_reducible refine Bl.trans_ ?_ (by assumption) | with_reducible refine Bl.trans_ ?_ (And.left (by assumption)))) G.out, O.out⟩

-- (heldArcS_any left out)

end Go.Proofs.Ytnacjmifnnfliaa

set_option linter.unusedSimpArgs false
set_option linter.unusedVariables false
namespace Go.Proofs.Ytnacjmifnnfliaa
open Go.RowKit

set_option maxHeartbeats 400000 in
theorem toArcS_row (A : Option Addr) (n c : Nat) (L : List Arc3) (hn : n = L.length) (w : World) (hm : n ≤ 1048576) (H1 : ArcsAt w w.heap.size A L) :
    Calls Try.prog 56 #[.slice A n c] w fun e w' => e = .returned (.slice (some ⟨w.heap.size, 0, none⟩) n n) ∧ ArcsAt w' w'.heap.size (some ⟨w.heap.size, 0, none⟩) L ∧ Bl w w' ∧ RowW w' (some ⟨w.heap.size, 0, none⟩) n ∧ w.heap.size < w'.heap.size := by
  have K1 := Lib.hid H1
  have HN := Lib.hid hn
  clear H1 hn
  have hmk := make_arcs n hm
  go_enter Try.func56, Try.ntmps56
  go_wp2
  clear hmk
  go_loopw [4] (fun i wr => ∃ k : Nat, k ≤ n ∧ i = .int .i64 k ∧ Bl w wr ∧ ∃ f, wr.rowIs w.heap.size 106 (n * 3) f ∧ ∀ j (h : j < k) (h' : j < L.length), f (j * 3) = .int .i64 L[j].1 ∧ f (j * 3 + 1) = .int .i64 L[j].2.1 ∧ f (j * 3 + 2) = .int .i64 L[j].2.2) (fun i _ => n - (intOf i).toNat)
  case atStart => exact ⟨0, by omega, rfl, (by repeat' (first | exact Bl.refl _ | with_reducible assumption | with_reducible refine Bl.drew_ ?_ | with_reducible refine Bl.drewN_ ?_ _ | with_reducible refine Bl.alloc_ ?_ _ | with_reducible refine Bl.trans_ ?_ (by assumption) | with_reducible refine Bl.trans_ ?_ (And.left (by assumption)))), _, mk3_row _ _ _, fun j h => absurd h (by omega)⟩
  case round =>
    obtain ⟨k, hk, rfl, hbl, f, hrow, hf⟩ := hrel
    by_cases hlt : k < n
    · have hkl : k < L.length := by have := HN.out; omega
      obtain ⟨g1, o1, rfl, hg1, hc1⟩ := K1.out (by omega)
      obtain ⟨p1, p2, p3⟩ := hc1 k hkl
      rw [← (bcell hbl).1 _ _ hg1] at p1 p2 p3
      have F := Lib.hid hf
      have R := Lib.hid hrow
      clear hf hrow hc1
      go_wp2_with fail
      refine (toArc_any _ _ _ _).mono ?_
      rintro e w1 ⟨rfl, hb⟩
      have R1 := Lib.hid (row_bl R.out hb)
      have z1 := R1.out.cell (i := k * 3) (by omega)
      have z2 := R1.out.cell (i := k * 3 + 1) (by omega)
      have z3 := R1.out.cell (i := k * 3 + 2) (by omega)
      have y1 := R1.out.frozen (k * 3)
      have y2 := R1.out.frozen (k * 3 + 1)
      have y3 := R1.out.frozen (k * 3 + 2)
      go_wp2
      go_roundw
      case rel =>
        refine ⟨k + 1, by omega, by go_num, ((Bl.set_ (Bl.set_ (Bl.set_ (hbl.trans_ hb) (Nat.le_refl _) _) (Nat.le_refl _) _) (Nat.le_refl _) _)), _, (((R1.out.set (k * 3) _).set (k * 3 + 1) _).set (k * 3 + 2) _), fun j hj hj' => ?_⟩
        rcases Nat.lt_or_ge j k with h | h
        · rw [if_neg (by omega), if_neg (by omega), if_neg (by omega), if_neg (by omega), if_neg (by omega), if_neg (by omega), if_neg (by omega), if_neg (by omega), if_neg (by omega)]
          exact F.out j h hj'
        · have e : j = k := by omega
          subst e
          exact ⟨by rw [if_neg (by omega), if_neg (by omega), if_pos rfl], by rw [if_neg (by omega), if_pos rfl], by rw [if_pos rfl]⟩
      case measure => simp [intOf]; omega
    · go_wp2
      go_ret
      have e : k = n := by omega
      subst e
      refine ⟨rfl, fun h0 => ⟨w.heap.size, 0, rfl, hrow.lt, fun j hj => ?_⟩, hbl, fun _ => ⟨_, _, f, rfl, Nat.le_refl _, hrow⟩, hrow.lt⟩
      have hjk : j < k := by have := HN.out; omega
      obtain ⟨e1, e2, e3⟩ := hf j hjk hj
      rw [← e1, ← e2, ← e3]
      exact ⟨by rw [Nat.zero_add]; exact hrow.cell (by omega), by rw [Nat.zero_add]; exact hrow.cell (by omega), by rw [Nat.zero_add]; exact hrow.cell (by omega)⟩


/-- What toGraph leaves, and that its arcs may be written. -/
def GraphRow (N : Int) (n : Nat) (L : List Arc3) (w : World) (e : Ending) (w' : World) : Prop :=
  ∃ g, e = .returned (.agg #[.int .i64 N, .slice (some ⟨g, 0, none⟩) n n]) ∧ ArcsAt w' w'.heap.size (some ⟨g, 0, none⟩) L ∧ w.heap.size ≤ g ∧ Bl w w' ∧ RowW w' (some ⟨g, 0, none⟩) n ∧ g < w'.heap.size

set_option maxHeartbeats 400000 in
theorem toGraph_row (N : Int) (A : Option Addr) (n c : Nat) (L : List Arc3) (hn : n = L.length) (w : World) (hm : n ≤ 1048576) (H1 : ArcsAt w w.heap.size A L) :
    Calls Try.prog 17 #[.agg #[.int .i64 N, .slice A n c]] w (GraphRow N n L w) := by
  have K1 := Lib.hid H1
  have HN := Lib.hid hn
  clear H1 hn
  go_enter Try.func17, Try.ntmps17
  go_wp2_with fail
  refine (toArcS_row _ _ _ L HN.out _ hm (K1.out.bl (by repeat' (first | exact Bl.refl _ | with_reducible assumption | with_reducible refine Bl.drew_ ?_ | with_reducible refine Bl.drewN_ ?_ _ | with_reducible refine Bl.alloc_ ?_ _ | with_reducible refine Bl.trans_ ?_ (by assumption) | with_reducible refine Bl.trans_ ?_ (And.left (by assumption)))))).mono ?_
  rintro e w1 ⟨rfl, ha, hb, hro, hlt1⟩
  obtain ⟨hc, hf⟩ := bcell hb
  have HA := Lib.hid ha
  have hs := hb.size
  have HR := Lib.hid hro
  clear ha hro
  go_wp2
  refine bodyPost_ret (v := .agg #[.int .i64 N, .slice (some ⟨w.heap.size + 1 + 1 + 1, 0, none⟩) n n]) (by simp [results, Try.results17, go_sem, hc]) rfl ?_
  have HA' : ArcsAt w1 w1.heap.size (some ⟨w.heap.size + 1 + 1 + 1, 0, none⟩) L := by simpa only [World.size_alloc] using HA.out
  have HR' : RowW w1 (some ⟨w.heap.size + 1 + 1 + 1, 0, none⟩) n := by simpa only [World.size_alloc] using HR.out
  refine ⟨_, rfl, ?_, by omega, Bl.set_ (Bl.set_ (Bl.set_ (by repeat' (first | exact Bl.refl _ | with_reducible assumption | with_reducible refine Bl.drew_ ?_ | with_reducible refine Bl.drewN_ ?_ _ | with_reducible refine Bl.alloc_ ?_ _ | with_reducible refine Bl.trans_ ?_ (by assumption) | with_reducible refine Bl.trans_ ?_ (And.left (by assumption)))) ?_ _) ?_ _) ?_ _, fun h0 => ?_, by rw [World.size_setCell, World.size_setCell, World.size_setCell]; simpa only [World.size_alloc] using hlt1⟩
  · rw [World.size_setCell, World.size_setCell, World.size_setCell]
    exact ((HA'.set (by simp) _).set (by show w.heap.size + 1 ≠ w.heap.size + 1 + 1 + 1; omega) _).set (by show w.heap.size + 1 ≠ w.heap.size + 1 + 1 + 1; omega) _
  · show w.heap.size ≤ w.heap.size + 1 + 1; omega
  · show w.heap.size ≤ w.heap.size + 1; omega
  · show w.heap.size ≤ w.heap.size + 1; omega
  · obtain ⟨g, m, f, e, hm', hr⟩ := HR' h0
    injection e with e
    injection e with e1 e2 e3
    subst e1
    exact ⟨_, m, f, rfl, hm', ((hr.setOther (by show w.heap.size + 1 + 1 + 1 ≠ w.heap.size + 1 + 1; omega) _).setOther (by show w.heap.size + 1 + 1 + 1 ≠ w.heap.size + 1; omega) _).setOther (by show w.heap.size + 1 + 1 + 1 ≠ w.heap.size + 1; omega) _⟩

theorem ArcsAt.grown_ {w w' : World} {B : Nat} {A : Option Addr} {L : List Arc3} {row : Option Nat} (h : ArcsAt w B A L) (hB : B ≤ w.heap.size) (hg : w.grownBy w' row)
    (hne : ∀ g, blockOf A = some g → g < B → some g ≠ row) : ArcsAt w' B A L := fun hp => by
  obtain ⟨g, off, rfl, hlt, hc⟩ := h hp
  have hb := hg.block g (by omega) (hne g rfl hlt)
  exact ⟨g, off, rfl, hlt, fun k hk => by
    have q : ∀ o, w'.cell? ⟨g, o, none⟩ = w.cell? ⟨g, o, none⟩ := fun o => World.cell?_of_block hb
    rw [q, q, q]
    exact hc k hk⟩
theorem RowW.grown_ {w w' : World} {A : Option Addr} {n : Nat} {row : Option Nat} (h : RowW w A n) (hg : w.grownBy w' row) (hne : ∀ g, blockOf A = some g → some g ≠ row) : RowW w' A n := fun hp => by
  obtain ⟨g, m, f, rfl, hm, hr⟩ := h hp
  exact ⟨g, m, f, rfl, hm, hr.of_block (hg.block g hr.lt (hne g rfl))⟩
theorem OwnA.lt_ {w : World} {B : Nat} {A : Option Addr} {n c : Nat} {L : List Arc3} (h : OwnA w B (.slice A n c) L) : ∀ g, blockOf A = some g → B ≤ g ∧ g < w.heap.size := fun g hg =>
  h.lt g (by rw [ownBlock_slice]; exact hg)
theorem outsL_len (N : Int) (L : List Arc3) (u : Int) : (outsL N L u).length ≤ L.length := by
  unfold outsL
  split
  · exact List.length_filter_le _ _
  · simp

end Go.Proofs.Ytnacjmifnnfliaa

set_option linter.unusedSimpArgs false
set_option linter.unusedVariables false
namespace Go.Proofs.Ytnacjmifnnfliaa
open Go.RowKit

set_option maxHeartbeats 2000000 in
theorem lawPathOf_any (N s t : Int) (A : Option Addr) (n c : Nat) (L : List Arc3) (hn : n = L.length) (w : World) (hm : n ≤ 9223372036854775807) (H1 : ArcsAt w w.heap.size A L) :
    Calls Try.prog 7 #[.agg #[.int .i64 N, .slice A n c], .int .i64 s, .int .i64 t] w fun e w' => e = .returned (.bool true) ∧ Bl w w' := by
  have K1 := Lib.hid H1
  have HN := Lib.hid hn
  clear H1 hn
  by_cases hbig : (1048576 : Int) - n < 0
  · go_enter Try.func7, Try.ntmps7
    go_wp2_with (go_at_call 15; refine (szGraph_any _ _ _ _ _ _ hm (by omega) (by omega)).mono ?_; rintro e w' ⟨rfl, hb⟩; obtain ⟨hc, hf⟩ := bcell hb)
    go_ret
    exact ⟨rfl, (by repeat' (first | exact Bl.refl _ | with_reducible assumption | with_reducible refine Bl.drew_ ?_ | with_reducible refine Bl.drewN_ ?_ _ | with_reducible refine Bl.alloc_ ?_ _ | with_reducible refine Bl.trans_ ?_ (by assumption) | with_reducible refine Bl.trans_ ?_ (And.left (by assumption))))⟩
  · have hm' : n ≤ 1048576 := by omega
    clear hbig
    go_enter Try.func7, Try.ntmps7
    go_wp2_with fail
    refine (szGraph_small N A n c _ hm').mono ?_
    rintro e w1 ⟨rfl, hb1⟩
    obtain ⟨q0, q1⟩ := box2 hb1
    have p1 : (0 : Int) ≤ 1048576 - (n : Int) := by omega
    go_wp2_with fail
    refine (toGraph_any N A n c L HN.out _ hm' (K1.out.bl (by repeat' (first | exact Bl.refl _ | with_reducible assumption | with_reducible refine Bl.drew_ ?_ | with_reducible refine Bl.drewN_ ?_ _ | with_reducible refine Bl.alloc_ ?_ _ | with_reducible refine Bl.trans_ ?_ (by assumption) | with_reducible refine Bl.trans_ ?_ (And.left (by assumption)))))).mono ?_
    rintro e w2 ⟨g2, rfl, ha2, hg2, hb2⟩
    have hb2 := hb1.trans_ hb2
    obtain ⟨q0, q1⟩ := box2 hb2
    have HA2 := Lib.hid ha2
    clear ha2
    go_wp2_with fail
    refine (specPathOf_any N s t _ n n L HN.out _ hm' HA2.out).mono ?_
    rintro e w3 ⟨v0, rfl, hv0, hb3⟩
    have hb3 := hb2.trans_ hb3
    obtain ⟨q0, q1⟩ := box2 hb3
    obtain ⟨A0, c0, rfl, -, hA0, -, -⟩ := OwnN.shape hv0
    have V0 := Lib.hid hA0
    clear hv0 hA0
    obtain ⟨l, hl⟩ : ∃ l, l = (pathL N L s t).length := ⟨_, rfl⟩
    have hln : l ≤ 1048576 := by rw [hl]; exact pathL_len N L s t
    rw [← hl]
    have HL := Lib.hid hl
    have hbb : (decide (0 < l) != decide (0 < l)) = false := by simp
    clear hl
    go_wp2_with fail
    refine (toGraph_row N A n c L HN.out _ hm' (K1.out.bl (by repeat' (first | exact Bl.refl _ | with_reducible assumption | with_reducible refine Bl.drew_ ?_ | with_reducible refine Bl.drewN_ ?_ _ | with_reducible refine Bl.alloc_ ?_ _ | with_reducible refine Bl.trans_ ?_ (by assumption) | with_reducible refine Bl.trans_ ?_ (And.left (by assumption)))))).mono ?_
    rintro e w4 ⟨g4, rfl, ha4, hg4, hb4, hr4, hlt4⟩
    have hb34 := hb4
    have hb4 := hb3.trans_ hb4
    obtain ⟨q0, q1⟩ := box2 hb4
    have HA4 := Lib.hid ha4
    have HR4 := Lib.hid hr4
    clear ha4 hr4
    go_wp2_with fail
    refine (implPathOf_any N s t _ n n L HN.out (Nat.le_refl _) _ hm' (HA4.out.bl (by repeat' (first | exact Bl.refl _ | with_reducible assumption | with_reducible refine Bl.drew_ ?_ | with_reducible refine Bl.drewN_ ?_ _ | with_reducible refine Bl.alloc_ ?_ _ | with_reducible refine Bl.trans_ ?_ (by assumption) | with_reducible refine Bl.trans_ ?_ (And.left (by assumption)))))).mono ?_
    rintro e w5 ⟨v1, rfl, hv1, hb5⟩
    obtain ⟨x0, x1⟩ := box2 hb5
    have hb5a := (Bl.alloc_ (Bl.refl w4) _).trans_ hb5
    have HA5 := Lib.hid (ArcsAt.bl HA4.out hb5a)
    have HR5 := Lib.hid (RowW.bl HR4.out hb5a)
    have hB5 := hb4.trans_ hb5a
    obtain ⟨q0, q1⟩ := box2 hB5
    obtain ⟨A1, c1, rfl, -, hA1, hR1, hl1⟩ := OwnN.shape hv1
    have V1 := Lib.hid hA1
    have L1 := Lib.hid hl1
    have W1 := Lib.hid hR1
    rw [← HL.out] at W1
    clear hv1 hA1 hR1 hl1
    rw [← HL.out]
    have B1 := Lib.hid (show ∀ g, blockOf A1 = some g → w4.heap.size < g ∧ g < w5.heap.size from fun g hg => by have := L1.out g hg; rw [World.size_alloc] at this; omega)
    clear L1
    have s3 := hb34.size
    have s5 := hb5a.size
    go_wp2_with fail
    refine (eqInt64S_yes A1 A0 c1 c0 (pathL N L s t) l HL.out _ (by omega) V1.out (V0.out.bl (hb34.trans_ hb5a))).mono ?_
    rintro e w6 ⟨rfl, hb6⟩
    have P6 := hb6
    have HSH := Lib.hid (show ∀ wx, Bl w5 wx → Bl w5 wx ∧ wx.cell? ⟨w.heap.size, 0, none⟩ = some (.int .i64 N) ∧ wx.cell? ⟨w.heap.size, 1, none⟩ = some (.slice A n c) ∧ wx.cell? ⟨w4.heap.size, 0, none⟩ = some (.int .i64 N) ∧ wx.cell? ⟨w4.heap.size, 1, none⟩ = some (.slice (some ⟨g4, 0, none⟩) n n) from fun wx hb =>
      ⟨hb, (box2 (hB5.trans_ hb)).1, (box2 (hB5.trans_ hb)).2, (box2 (hb5.trans_ hb)).1, (box2 (hb5.trans_ hb)).2⟩)
    go_wp2_with fail
    refine wp_region_held_drew (S := fun wx => Bl w5 wx ∧ wx.cell? ⟨w.heap.size, 0, none⟩ = some (.int .i64 N) ∧ wx.cell? ⟨w.heap.size, 1, none⟩ = some (.slice A n c) ∧ wx.cell? ⟨w4.heap.size, 0, none⟩ = some (.int .i64 N) ∧ wx.cell? ⟨w4.heap.size, 1, none⟩ = some (.slice (some ⟨g4, 0, none⟩) n n)) (by kernel_rfl) ?_ (fun hHeld => ?_)
    · (exact HSH.out _ (by repeat' (first | exact Bl.refl _ | with_reducible assumption | with_reducible refine Bl.drew_ ?_ | with_reducible refine Bl.drewN_ ?_ _ | with_reducible refine Bl.alloc_ ?_ _ | with_reducible refine Bl.trans_ ?_ (by assumption) | with_reducible refine Bl.trans_ ?_ (And.left (by assumption)))))
    refine wpAnyH_take (i := 0) (v := ?_) rfl (by kernel_rfl) (by kernel_rfl) (by kernel_rfl) (fun _ _ _ h => h) (Or.inl ⟨by kernel_rfl, ?_⟩) (by assumption) ?_
    rotate_left
    · (intro wx hSw; (try dsimp only at hSw); go_simp; try (with_reducible rfl))
    try simp only [Act.put, List.getElem_toArray, List.getElem_cons_succ, List.getElem_cons_zero, List.setIfInBounds_toArray, List.set_cons_zero, List.set_cons_succ]
    refine wpAnyH_take (i := 1) (v := ?_) rfl (by kernel_rfl) (by kernel_rfl) (by kernel_rfl) (fun _ _ _ h => h) (Or.inl ⟨by kernel_rfl, ?_⟩) (by assumption) ?_
    rotate_left
    · (intro wx hSw; (try dsimp only at hSw); go_simp; try (with_reducible rfl))
    try simp only [Act.put, List.getElem_toArray, List.getElem_cons_succ, List.getElem_cons_zero, List.setIfInBounds_toArray, List.set_cons_zero, List.set_cons_succ]
    refine wpAnyH_ready (rs := [2]) (by kernel_rfl) (by simp) ?_
    refine AllReadyH.cons rfl (fun K hK => ?_) AllReadyH.nil
    go_simp
    (go_at_call 17; refine (toGraph_any N A n c L HN.out _ hm' (K1.out.bl (by repeat' (first | exact Bl.refl _ | with_reducible assumption | with_reducible refine Bl.drew_ ?_ | with_reducible refine Bl.drewN_ ?_ _ | with_reducible refine Bl.alloc_ ?_ _ | with_reducible refine Bl.trans_ ?_ (by assumption) | with_reducible refine Bl.trans_ ?_ (And.left (by assumption)))))).mono ?_; rintro e w7 ⟨g7, rfl, ha7, hg7, hb7⟩; have HA7 := Lib.hid ha7; clear ha7)
    try (go_wp2_with fail)
    refine hK.out _ _ ?_ (fun hHeld => ?_)
    · (exact HSH.out _ (by repeat' (first | exact Bl.refl _ | with_reducible assumption | with_reducible refine Bl.drew_ ?_ | with_reducible refine Bl.drewN_ ?_ _ | with_reducible refine Bl.alloc_ ?_ _ | with_reducible refine Bl.trans_ ?_ (by assumption) | with_reducible refine Bl.trans_ ?_ (And.left (by assumption)))))
    clear hK K
    try simp only [Act.put, List.getElem_toArray, List.getElem_cons_succ, List.getElem_cons_zero, List.setIfInBounds_toArray, List.set_cons_zero, List.set_cons_succ]
    refine wpAnyH_ready (rs := [3]) (by kernel_rfl) (by simp) ?_
    refine AllReadyH.cons rfl (fun K hK => ?_) AllReadyH.nil
    go_simp
    (go_at_call 20; refine (eqGraph_yes N _ _ n n L n HN.out _ hm (HA5.out.bl (by repeat' (first | exact Bl.refl _ | with_reducible assumption | with_reducible refine Bl.drew_ ?_ | with_reducible refine Bl.drewN_ ?_ _ | with_reducible refine Bl.alloc_ ?_ _ | with_reducible refine Bl.trans_ ?_ (by assumption) | with_reducible refine Bl.trans_ ?_ (And.left (by assumption))))) HA7.out).mono ?_; rintro e w8 ⟨rfl, hb8⟩)
    try (go_wp2_with fail)
    refine hK.out _ _ ?_ (fun hHeld => ?_)
    · (exact HSH.out _ (by repeat' (first | exact Bl.refl _ | with_reducible assumption | with_reducible refine Bl.drew_ ?_ | with_reducible refine Bl.drewN_ ?_ _ | with_reducible refine Bl.alloc_ ?_ _ | with_reducible refine Bl.trans_ ?_ (by assumption) | with_reducible refine Bl.trans_ ?_ (And.left (by assumption)))))
    clear hK K
    try simp only [Act.put, List.getElem_toArray, List.getElem_cons_succ, List.getElem_cons_zero, List.setIfInBounds_toArray, List.set_cons_zero, List.set_cons_succ]
    refine wpAnyH_take (i := 4) (v := ?_) rfl (by kernel_rfl) (by kernel_rfl) (by kernel_rfl) (fun _ _ _ h => h) (Or.inl ⟨by kernel_rfl, ?_⟩) (by assumption) ?_
    rotate_left
    · (intro wx hSw; (try dsimp only at hSw); go_simp; try (with_reducible rfl))
    try simp only [Act.put, List.getElem_toArray, List.getElem_cons_succ, List.getElem_cons_zero, List.setIfInBounds_toArray, List.set_cons_zero, List.set_cons_succ]
    refine wpAnyH_done (by kernel_rfl) ?_ _
    have P8 : Bl w5 w8 := (by repeat' (first | exact Bl.refl _ | with_reducible assumption | with_reducible refine Bl.drew_ ?_ | with_reducible refine Bl.drewN_ ?_ _ | with_reducible refine Bl.alloc_ ?_ _ | with_reducible refine Bl.trans_ ?_ (by assumption) | with_reducible refine Bl.trans_ ?_ (And.left (by assumption))))
    obtain ⟨x0, x1⟩ := box2 (hb5.trans_ P8)
    go_wp2_with fail
    refine (markGraph_any N _ n n 1 _ hm' (by omega) (by omega) (HR5.out.bl P8)).mono ?_
    rintro e w9 ⟨rfl, hm9, hg9, hr9⟩
    have G9 := Lib.hid hg9
    clear hm9 hg9 hr9
    have s8 := P8.size
    have s9 := G9.out.size
    have Q9 : Bl w w9 := (show Bl w w8 from (by repeat' (first | exact Bl.refl _ | with_reducible assumption | with_reducible refine Bl.drew_ ?_ | with_reducible refine Bl.drewN_ ?_ _ | with_reducible refine Bl.alloc_ ?_ _ | with_reducible refine Bl.trans_ ?_ (by assumption) | with_reducible refine Bl.trans_ ?_ (And.left (by assumption))))).grown_ G9.out (fun g hg => by
      obtain rfl : g4 = g := by simpa [blockOf] using hg
      have := hb3.size; simp at this; omega)
    have V09 := Lib.hid (((V0.out).bl' (Nat.le_refl _) ((hb34.trans_ hb5a).trans_ P8)).grown_ (by omega) G9.out (fun g _ hlt => by simp [blockOf]; omega))
    have V19 := Lib.hid ((V1.out.bl' (Nat.le_refl _) P8).grown_ (by omega) G9.out (fun g hg _ => by have := B1.out g hg; simp [blockOf]; omega))
    have W19 := Lib.hid (RowsW.grown_ (RowsW.bl W1.out P8) G9.out (fun g hg => by have := B1.out g hg; simp [blockOf]; omega))
    have p2 : (0 : Int) ≤ 1 + 3 * (n : Int) := by omega
    have s45 : w3.heap.size ≤ w4.heap.size := s3
    have sw : w.heap.size < w3.heap.size := by have := hb3.size; simp at this; omega
    obtain ⟨q0, q1⟩ := box2 (hB5.trans_ P8)
    have C0 := Lib.hid (G9.out.cell q0 (by simp [blockOf]; omega))
    have C1 := Lib.hid (G9.out.cell q1 (by simp [blockOf]; omega))
    go_wp2_with fail
    refine (eqInt64S_yes A1 A0 c1 c0 (pathL N L s t) l HL.out _ (by omega) (V19.out.more (by omega)) (V09.out.more (by omega))).mono ?_
    rintro e w10 ⟨rfl, hb10⟩
    have s10 := hb10.size
    have D0 := Lib.hid (((bcell hb10).1 _ _ (by omega)).trans C0.out)
    have D1 := Lib.hid (((bcell hb10).1 _ _ (by omega)).trans C1.out)
    go_wp2_with fail
    refine (markN_any A1 l c1 1 _ (by omega) (by omega) (by omega) (RowsW.bl W19.out hb10)).mono ?_
    rintro e w11 ⟨rfl, hm11, hg11, hr11⟩
    have G11 := Lib.hid hg11
    have M11 := Lib.hid hm11
    clear hm11 hg11 hr11
    have s11 := G11.out.size
    have ne1 : ∀ g, g ≤ w4.heap.size → some g ≠ blockOf A1 := fun g hg h => by have := B1.out g h.symm; omega
    have Q11 : Bl w w11 := (Q9.trans_ hb10).grown_ G11.out (fun g hg => by have := B1.out g hg; omega)
    have V011 := Lib.hid ((V09.out.bl' (by omega) hb10).grown_ (by omega) G11.out (fun g _ hlt => ne1 g (by omega)))
    have q0 := G11.out.cell D0.out (ne1 _ (by show w.heap.size ≤ _; omega))
    have q1 := G11.out.cell D1.out (ne1 _ (by show w.heap.size ≤ _; omega))
    clear ne1
    go_wp2_with fail
    refine (heldInt64S_any A1 l c1 1 _ (by omega) (by omega) (by omega) M11.out).mono ?_
    rintro e w12 ⟨rfl, rfl⟩
    have p3 : (0 : Int) ≤ 1 + (l : Int) := by omega
    have p4 : ((1 : Int) + (l : Int) != 1 + (l : Int)) = false := by simp
    go_wp2_with fail
    refine (toGraph_any N A n c L HN.out _ hm' (K1.out.bl Q11)).mono ?_
    rintro e w12 ⟨g12, rfl, ha12, hg12, hb12⟩
    have HA12 := Lib.hid ha12
    clear ha12
    go_wp2_with fail
    refine (implPathOf_any N s t _ n n L HN.out (Nat.le_refl _) _ hm' HA12.out).mono ?_
    rintro e w13 ⟨v2, rfl, hv2, hb13⟩
    obtain ⟨A2, c2, rfl, -, hA2, -, -⟩ := OwnN.shape hv2
    have V2 := Lib.hid hA2
    clear hv2 hA2
    rw [← HL.out]
    have b1213 := hb12.trans_ hb13
    have s13 := b1213.size
    go_wp2_with fail
    refine (eqInt64S_yes A2 A0 c2 c0 (pathL N L s t) l HL.out _ (by omega) V2.out ((V011.out.bl' (by omega) b1213).more (by omega))).mono ?_
    rintro e w14 ⟨rfl, hb14⟩
    go_wp2_with fail
    refine (heldInt64S_any A1 l c1 1 _ (by omega) (by omega) (by omega) (Marks.bl M11.out (b1213.trans_ hb14))).mono ?_
    rintro e w15 ⟨rfl, rfl⟩
    go_wp2
    go_ret
    exact ⟨rfl, Q11.trans_ (b1213.trans_ hb14)⟩


end Go.Proofs.Ytnacjmifnnfliaa
