/-
  What is proved here: a function that holds several ranges over functions leaves by their marks; plain facts on distances there and back: by way of a third node it is no nearer; nodes by way of which it is at most so far; lengths of paths; plain facts on weights, on the nearest way over an arc, and on the arcs of all nodes, one behind the other; bounds of weights; plain facts on lists without two alike, on the nearest of some nodes, and on the first of the greatest; how far all nodes are, as the model reckons it; DistFrom and DistOf of the model; the small functions of the code and of the model that ask whether numbers are nodes, no two alike; a graph and a few unlike nodes that are drawn by a code; a region that draws its order, in a round of a range over a function, is met by the laws for one without a fence; the code's Farthest; the model's Farthest; the laws' small functions that hold lists and graphs against each other, and ask for nodes. No conditions beyond those that each theorem states.
-/
import Derived.Test.YtndkdeiojkclbaaW4
import Derived.Test.YtndkdeiojkclbaaNF4
import Derived.Test.YtndkdeiojkclbaaX1
import Derived.Test.YtndkdeiojkclbaaK1
import Derived.Deep.LoopGhost
import Derived.IntWalk
import Derived.Test.YtndkdeiojkclbaaNF1
import Derived.Test.YtndkdeiojkclbaaDR
import Derived.Deep.RegionLaw
import Derived.Test.YtndkdeiojkclbaaW5
import Derived.Lib.MinMax
import Derived.Outline
set_option linter.unusedSimpArgs false
set_option linter.unusedVariables false
namespace Go.Proofs.Ytndkdeiojkclbaa
open Go.RowKit

/-- What a range over a function leaves among the deferred calls. -/
def markD (D : Nat) : Deferred := { target := .collected D, args := #[] }
structure MarksD (ds : List Deferred) (Ds : List Nat) (w : World) : Prop where
  eq : ds = Ds.map markD
  nodup : Ds.Nodup
  here : ∀ D ∈ Ds, w.heap[D]? = some (.deferred (some []))
theorem MarksD.nil_ (w : World) : MarksD [] [] w := ⟨rfl, by simp, by simp⟩
theorem MarksD.lt {ds : List Deferred} {Ds : List Nat} {w : World} (h : MarksD ds Ds w) : ∀ D ∈ Ds, D < w.heap.size := fun D hD => (Array.getElem?_eq_some_iff.1 (h.here D hD)).1
theorem MarksD.turn {ds : List Deferred} {Ds : List Nat} {w w' : World} {S : Nat → Prop} (h : MarksD ds Ds w) (t : Turn S w w') (hS : ∀ D ∈ Ds, ¬ S D) : MarksD ds Ds w' :=
  ⟨h.eq, h.nodup, fun D hD => (t.block D (h.lt D hD) (hS D hD)).trans (h.here D hD)⟩
theorem MarksD.bl {ds : List Deferred} {Ds : List Nat} {w w' : World} (h : MarksD ds Ds w) (t : Bl w w') : MarksD ds Ds w' := h.turn (Turn.of_bl (S := fun _ => False) t) (fun _ _ h => h)
theorem MarksD.cons {ds : List Deferred} {Ds : List Nat} {w : World} {D : Nat} (h : MarksD ds Ds w) (hD : w.heap[D]? = some (.deferred (some []))) (hn : D ∉ Ds) : MarksD ({ target := .collected D, args := #[] } :: ds) (D :: Ds) w :=
  ⟨by rw [h.eq]; rfl, List.nodup_cons.2 ⟨hn, h.nodup⟩, fun E hE => by
    rcases List.mem_cons.1 hE with rfl | hE
    · exact hD
    · exact h.here E hE⟩

theorem leaves_marks {F : Fence} {n : Nat} {P : Program} {fn : Func} {tmps : Array Value} {R : Ending → World → Prop} : ∀ (Ds : List Nat) (ds : List Deferred) (w : World), MarksD ds Ds w →
    (∀ w', Turn (fun i => i ∈ Ds) w w' → LeavesIn F n P fn tmps R [] .returning w') → LeavesInM F n P fn tmps R ds .returning w
  | [], ds, w, h, hR => by
    obtain rfl : ds = [] := h.eq
    exact hR w (Turn.refl _ _)
  | D :: Ds, ds, w, h, hR => by
    obtain rfl : ds = markD D :: Ds.map markD := h.eq
    obtain ⟨hn, hnd⟩ := List.nodup_cons.1 h.nodup
    have hD := h.here D (by simp)
    have t : Turn (fun i => i = D) w (w.putObj D (.deferred none)) := turn_put (fun i => i = D) _ (.deferred none) rfl
    have h' : MarksD (Ds.map markD) Ds w := ⟨rfl, hnd, fun E hE => h.here E (List.mem_cons_of_mem _ hE)⟩
    refine ⟨by simp, .inl ⟨D, _, rfl, run_takeDeferred hD, ?_⟩⟩
    refine leaves_marks Ds _ _ (h'.turn t (fun E hE e => hn (by rw [← e]; exact hE))) fun w' t' => hR w' ?_
    exact (t.more fun i _ e => by rw [e]; simp).trans (t'.more fun i _ e => List.mem_cons_of_mem _ e) (fun i _ e => e)

end Go.Proofs.Ytndkdeiojkclbaa

set_option linter.unusedSimpArgs false
set_option linter.unusedVariables false
namespace Go.Proofs.Ytndkdeiojkclbaa
open Go.RowKit

theorem IsDist.tri {N : Int} {L : List Arc3} {s t : Int} {D E : List Int} (ho : okB N L = true) (hD : IsDist N L s D) (hE : IsDist N (revL L) t E) :
    ∀ (n : Nat) (v : Int), 0 ≤ v → v < N → (dAt E v).toNat = n → 0 ≤ dAt E v → 0 ≤ dAt D v → 0 ≤ dAt D t ∧ dAt D t ≤ dAt D v + dAt E v := by
  have hp := (okB_elim ho).2.2.2.2
  have hin := arcsIn_of_ok ho
  intro n
  induction n using Nat.strongRecOn with
  | ind n ih =>
    intro v h0 h1 hn hb ha
    rcases hE.back v h0 h1 hb with rfl | ⟨r, hr, e1, e2, e3⟩
    · have := hE.start
      omega
    · have hm := (revL_mem hp).1 hr
      obtain ⟨a0, a1, a2, a3, a4, a5⟩ := hin _ hm
      simp only [turnA] at a0 a1 a2 a3 a4 a5
      have := hD.arc _ hm (by simp only [turnA]; rw [e1]; exact ha)
      simp only [turnA] at this
      rw [e1] at this
      obtain ⟨x, y⟩ := ih (dAt E r.1).toNat (by omega) r.1 a2 a3 rfl e2 this.1
      omega
/-- In the graph that is turned it is as far the other way round. -/
theorem IsDist.turned {N : Int} {L : List Arc3} {s t : Int} {D E : List Int} (ho : okB N L = true) (hs : 0 ≤ s ∧ s < N) (ht : 0 ≤ t ∧ t < N) (hD : IsDist N L s D) (hE : IsDist N (revL L) t E) : dAt E s = dAt D t := by
  have h1 := fun h => hD.tri ho hE _ s hs.1 hs.2 rfl h (by rw [hD.start]; omega)
  have hD' : IsDist N (revL (revL L)) s D := by rw [revL_revL ho]; exact hD
  have h2 := fun h => hE.tri (revL_ok ho) hD' _ t ht.1 ht.2 rfl h (by rw [hE.start]; omega)
  have e1 := hD.start
  have e2 := hE.start
  have l1 := hD.low t
  have l2 := hE.low s
  by_cases p : 0 ≤ dAt E s
  · obtain ⟨a, b⟩ := h1 p
    obtain ⟨c, d⟩ := h2 a
    omega
  · by_cases q : 0 ≤ dAt D t
    · obtain ⟨c, d⟩ := h2 q
      omega
    · omega

/-- The nodes of N, rising. -/
def nodesL (N : Int) : List Int := (List.range N.toNat).map Int.ofNat
/-- Is it by way of v at most so far? -/
def byB (D E : List Int) (m v : Int) : Bool := decide (0 ≤ dAt D v ∧ 0 ≤ dAt E v ∧ dAt D v + dAt E v ≤ m)
/-- The nodes by way of which it is at most so far. -/
def withinD (N : Int) (D E : List Int) (m : Int) : List Int := (nodesL N).filter (byB D E m)
def withinL (N : Int) (L : List Arc3) (s t m : Int) : List Int := withinD N (distL N L s) (distL N (revL L) t) m
theorem withinD_len (N : Int) (D E : List Int) (m : Int) : (withinD N D E m).length ≤ N.toNat := by
  unfold withinD
  exact Nat.le_trans (List.length_filter_le _ _) (by simp [nodesL])
/-- The first k of them. -/
def withinK (D E : List Int) (m : Int) (k : Nat) : List Int := ((List.range k).map Int.ofNat).filter (byB D E m)
theorem withinK_zero (D E : List Int) (m : Int) : withinK D E m 0 = [] := rfl
theorem withinK_yes {D E : List Int} {m : Int} {k : Nat} (h : byB D E m (k : Int) = true) : withinK D E m (k + 1) = withinK D E m k ++ [(k : Int)] := by
  unfold withinK
  rw [List.range_succ, List.map_append, List.filter_append]
  congr 1
  show List.filter _ [(k : Int)] = _
  rw [List.filter_cons, if_pos h]
  rfl
theorem withinK_no {D E : List Int} {m : Int} {k : Nat} (h : byB D E m (k : Int) = false) : withinK D E m (k + 1) = withinK D E m k := by
  unfold withinK
  rw [List.range_succ, List.map_append, List.filter_append]
  have : List.filter (byB D E m) (List.map Int.ofNat [k]) = [] := by
    show List.filter _ [(k : Int)] = _
    rw [List.filter_cons, if_neg (by rw [h]; simp)]
    rfl
  rw [this, List.append_nil]
theorem withinK_len (D E : List Int) (m : Int) (k : Nat) : (withinK D E m k).length ≤ k := by
  unfold withinK
  exact Nat.le_trans (List.length_filter_le _ _) (by simp)
theorem withinK_all (N : Int) (D E : List Int) (m : Int) : withinK D E m N.toNat = withinD N D E m := rfl
theorem mem_nodesL {N v : Int} : v ∈ nodesL N ↔ 0 ≤ v ∧ v < N := by
  unfold nodesL
  rw [List.mem_map]
  constructor
  · rintro ⟨k, hk, rfl⟩
    have := List.mem_range.1 hk
    simp
    omega
  · rintro ⟨h0, h1⟩
    exact ⟨v.toNat, List.mem_range.2 (by omega), by simp; omega⟩
theorem mem_withinD {N : Int} {D E : List Int} {m v : Int} : v ∈ withinD N D E m ↔ (0 ≤ v ∧ v < N) ∧ 0 ≤ dAt D v ∧ 0 ≤ dAt E v ∧ dAt D v + dAt E v ≤ m := by
  unfold withinD
  rw [List.mem_filter, mem_nodesL]
  simp [byB]

/-- The nodes of the shortest paths. -/
def onL (N : Int) (L : List Arc3) (s t : Int) : List Int := if has2 N L s t = true then withinL N L s t (dAt (distL N L s) t) else []
def betL (N : Int) (L : List Arc3) (s t m : Int) : List Int := if (has2 N L s t && decide (0 ≤ m ∧ m ≤ 24000)) = true then withinL N L s t m else []
theorem byB_on {N : Int} {L : List Arc3} {s t v : Int} {D E : List Int} (ho : okB N L = true) (hD : IsDist N L s D) (hE : IsDist N (revL L) t E) (h0 : 0 ≤ v) (h1 : v < N) : byB D E (dAt D t) v = decide (0 ≤ dAt D v ∧ 0 ≤ dAt E v ∧ dAt D v + dAt E v = dAt D t) := by
  unfold byB
  rw [Bool.eq_iff_iff]
  simp only [decide_eq_true_eq]
  constructor
  · rintro ⟨a, b, c⟩
    have := hD.tri ho hE _ v h0 h1 rfl b a
    omega
  · rintro ⟨a, b, c⟩
    omega
theorem byB_none {D E : List Int} {m v : Int} (h : m < 0) : byB D E m v = false := by
  unfold byB
  rw [decide_eq_false_iff_not]
  omega
theorem withinD_none {N : Int} {D E : List Int} {m : Int} (h : m < 0) : withinD N D E m = [] := by
  unfold withinD
  rw [List.filter_eq_nil_iff]
  intro v _
  rw [byB_none h]
  simp
theorem stepsL_len (L : List Arc3) (D : List Int) (t : Int) : ∀ (n : Nat) (v : Int), (dAt D v).toNat = n → (stepsL L D t v).length ≤ n := by
  intro n
  induction n using Nat.strongRecOn with
  | ind n ih =>
    intro v hn
    rw [stepsL]
    split
    · simp
    · split
      · simp
      · split
        · rename_i a _ h
          have := ih _ (by omega) a.2.1 rfl
          simp only [List.length_cons]
          omega
        · simp
theorem distL_of_turned {N s t : Int} {L : List Arc3} (ho : okB N L = true) (hs : 0 ≤ s ∧ s < N) (ht : 0 ≤ t ∧ t < N) : dAt (distL N (revL L) t) s = dAt (distL N L s) t :=
  IsDist.turned ho hs ht (distL_is (arcsIn_of_ok ho) (okB_elim ho).2.1 hs.1 hs.2) (distL_is (arcsIn_of_ok (revL_ok ho)) (okB_elim ho).2.1 ht.1 ht.2)

/-- The first of the shortest paths; none: there is none. -/
def pathL (N : Int) (L : List Arc3) (s t : Int) : List Int := if (has2 N L s t && decide (0 ≤ dAt (distL N (revL L) t) s)) = true then s :: stepsL L (distL N (revL L) t) t s else []

theorem onL_len (N : Int) (L : List Arc3) (s t : Int) : (onL N L s t).length ≤ 1048576 := by
  unfold onL
  split
  · rename_i h
    have := (okB_elim (has2_of h).1).2.1
    have := withinD_len N (distL N L s) (distL N (revL L) t) (dAt (distL N L s) t)
    unfold withinL
    omega
  · simp
theorem betL_len (N : Int) (L : List Arc3) (s t m : Int) : (betL N L s t m).length ≤ 1048576 := by
  unfold betL
  split
  · rename_i h
    rw [Bool.and_eq_true] at h
    have := (okB_elim (has2_of h.1).1).2.1
    have := withinD_len N (distL N L s) (distL N (revL L) t) m
    unfold withinL
    omega
  · simp
theorem pathL_len (N : Int) (L : List Arc3) (s t : Int) : (pathL N L s t).length ≤ 1048576 := by
  unfold pathL
  split
  · rename_i h
    rw [Bool.and_eq_true] at h
    obtain ⟨ho, h1, h2⟩ := has2_of h.1
    have := (distL_top (revL_ok ho) h2.1 h2.2 s).2
    have := stepsL_len L (distL N (revL L) t) t _ s rfl
    simp only [List.length_cons]
    omega
  · simp

/-- The weight of step k of a path; 0: it is none. -/
def stepW (L : List Arc3) (P : List Int) (k : Nat) : Int := wtL (P.getD k 0) (P.getD (k + 1) 0) L
/-- The first k steps together. -/
def sumW (L : List Arc3) (P : List Int) : Nat → Int
  | 0 => 0
  | k + 1 => sumW L P k + stepW L P k
theorem stepW_at {L : List Arc3} {P : List Int} {k : Nat} (h : k + 1 < P.length) : stepW L P k = wtL P[k] P[k + 1] L := by
  unfold stepW
  rw [List.getD_eq_getElem?_getD, List.getD_eq_getElem?_getD, List.getElem?_eq_getElem (by omega), List.getElem?_eq_getElem h]
  rfl
/-- Is it a path of a right graph? -/
def pathB (N : Int) (L : List Arc3) (P : List Int) : Bool := okB N L && decide (0 < P.length ∧ P.length ≤ 1000 ∧ (0 ≤ P.getD 0 0 ∧ P.getD 0 0 < N) ∧ ∀ j, j < P.length - 1 → stepW L P j ≠ 0)
def lenI (N : Int) (L : List Arc3) (P : List Int) : Int := if pathB N L P = true then sumW L P (P.length - 1) else 0

end Go.Proofs.Ytndkdeiojkclbaa

set_option linter.unusedSimpArgs false
set_option linter.unusedVariables false
namespace Go.Proofs.Ytndkdeiojkclbaa
open Go.RowKit

theorem wtL_mem {L : List Arc3} (hs : L.Pairwise AheadP) : ∀ {a : Arc3}, a ∈ L → wtL a.1 a.2.1 L = a.2.2 := by
  induction L with
  | nil => intro a ha; cases ha
  | cons b L ih =>
    intro a ha
    rw [List.pairwise_cons] at hs
    unfold wtL
    rcases List.mem_cons.1 ha with rfl | h
    · rw [if_pos (isEnds_iff.2 ⟨rfl, rfl⟩)]
    · rw [if_neg (fun he => ahead_ne (hs.1 a h) (isEnds_iff.1 he))]
      exact ih hs.2 h
theorem wtL_pos {u v : Int} : ∀ {L : List Arc3}, 0 < wtL u v L → (u, v, wtL u v L) ∈ L
  | [], h => by simp [wtL] at h
  | a :: l, h => by
    unfold wtL at h ⊢
    split
    · rename_i he
      obtain ⟨rfl, rfl⟩ := isEnds_iff.1 he
      exact List.mem_cons_self
    · rename_i he
      rw [if_neg he] at h
      exact List.mem_cons_of_mem _ (wtL_pos h)

/-- The least way over an arc from one of the first k nodes. -/
def leastSt (D : List Int) (L : List Arc3) (s v : Int) : Nat → Int
  | 0 => if v = s then 0 else -1
  | k + 1 => if 0 < wtL k v L ∧ 0 ≤ dAt D k ∧ (leastSt D L s v k < 0 ∨ dAt D k + wtL k v L < leastSt D L s v k) then dAt D k + wtL k v L else leastSt D L s v k
theorem leastSt_inv {N : Int} {L : List Arc3} {s v : Int} {D : List Int} (hD : IsDist N L s D) : ∀ k : Nat,
    -1 ≤ leastSt D L s v k ∧ (0 ≤ leastSt D L s v k → 0 ≤ dAt D v ∧ dAt D v ≤ leastSt D L s v k) ∧ (v = s → 0 ≤ leastSt D L s v k ∧ leastSt D L s v k ≤ 0) ∧
      ∀ u : Nat, u < k → 0 < wtL u v L → 0 ≤ dAt D u → 0 ≤ leastSt D L s v k ∧ leastSt D L s v k ≤ dAt D u + wtL u v L
  | 0 => by
    have hst := hD.start
    unfold leastSt
    split
    · rename_i e
      rw [e]
      exact ⟨by omega, fun _ => by omega, fun _ => by omega, fun u h => absurd h (by omega)⟩
    · rename_i e
      exact ⟨by omega, fun h => by omega, fun h => absurd h e, fun u h => absurd h (by omega)⟩
  | k + 1 => by
    obtain ⟨h1, h2, h3, h4⟩ := leastSt_inv (v := v) hD k
    have hst := hD.start
    unfold leastSt
    split
    · rename_i hc
      obtain ⟨c1, c2, c3⟩ := hc
      have ha := hD.arc _ (wtL_pos c1) (by simpa using c2)
      simp only at ha
      refine ⟨by omega, fun _ => ha, fun e => ?_, fun u hu p q => ?_⟩
      · have := h3 e
        rw [e] at ha
        omega
      · rcases Nat.lt_or_ge u k with h | h
        · have := h4 u h p q
          omega
        · obtain rfl : u = k := by omega
          omega
    · rename_i hc
      refine ⟨h1, h2, h3, fun u hu p q => ?_⟩
      rcases Nat.lt_or_ge u k with h | h
      · exact h4 u h p q
      · obtain rfl : u = k := by omega
        omega
theorem leastSt_all {N : Int} {L : List Arc3} {s v : Int} {D : List Int} (ho : okB N L = true) (hD : IsDist N L s D) (h0 : 0 ≤ v) (h1 : v < N) : leastSt D L s v N.toNat = dAt D v := by
  obtain ⟨a, b, c, d⟩ := leastSt_inv (v := v) hD N.toNat
  have hl := hD.low v
  by_cases hp : 0 ≤ dAt D v
  · rcases hD.back v h0 h1 hp with e | ⟨x, hx, e1, e2, e3⟩
    · subst e
      have h := c rfl
      have := b h.1
      have hst := hD.start
      omega
    · obtain ⟨a0, a1, a2, a3, a4, a5⟩ := arcsIn_of_ok ho x hx
      have hw := wtL_mem (okB_elim ho).2.2.2.2 hx
      rw [e1] at hw
      obtain ⟨u, hu⟩ : ∃ u : Nat, x.1 = u := ⟨x.1.toNat, by omega⟩
      rw [hu] at hw e2 e3
      have h := d u (by omega) (by omega) e2
      have := b h.1
      omega
  · have : ¬ 0 ≤ leastSt D L s v N.toNat := fun h => hp (b h).1
    omega

theorem triangle {N s t v : Int} {L : List Arc3} (h : has2 N L s t = true) (h0 : 0 ≤ v) (h1 : v < N) (ha : 0 ≤ distOfI N L s v) (hb : 0 ≤ distOfI N L v t) : 0 ≤ distOfI N L s t ∧ distOfI N L s t ≤ distOfI N L s v + distOfI N L v t := by
  obtain ⟨ho, hs, ht⟩ := has2_of h
  have e1 : distOfI N L s v = dAt (distL N L s) v := by
    unfold distOfI
    rw [if_pos (by unfold has2; rw [ho, Bool.true_and, decide_eq_true_eq]; omega)]
  have e2 : distOfI N L v t = dAt (distL N L v) t := by
    unfold distOfI
    rw [if_pos (by unfold has2; rw [ho, Bool.true_and, decide_eq_true_eq]; omega)]
  have e3 : distOfI N L s t = dAt (distL N L s) t := by unfold distOfI; rw [if_pos h]
  rw [e1] at ha ⊢
  rw [e2] at hb ⊢
  rw [e3]
  have e4 := distL_of_turned ho ⟨h0, h1⟩ ht
  rw [← e4] at hb ⊢
  have hD := distL_is (s := s) (arcsIn_of_ok ho) (okB_elim ho).2.1 hs.1 hs.2
  have hE := distL_is (s := t) (arcsIn_of_ok (revL_ok ho)) (okB_elim ho).2.1 ht.1 ht.2
  exact hD.tri ho hE _ v h0 h1 rfl hb ha
theorem distOfI_bounds {N s t : Int} {L : List Arc3} : -1 ≤ distOfI N L s t ∧ distOfI N L s t ≤ 23000 := by
  unfold distOfI
  split
  · rename_i h
    obtain ⟨ho, hs, ht⟩ := has2_of h
    exact distL_top ho hs.1 hs.2 t
  · omega

/-- The arcs of the first k nodes, one behind the other. -/
def catL (L : List Arc3) (k : Nat) : List Arc3 := L.filter fun a => decide (a.1 < (k : Int))
theorem catL_zero {L : List Arc3} (h : ∀ a ∈ L, 0 ≤ a.1) : catL L 0 = [] := by
  unfold catL
  rw [List.filter_eq_nil_iff]
  intro a ha
  have := h a ha
  simp
  omega
theorem catL_succ {L : List Arc3} (hs : L.Pairwise AheadP) (k : Nat) : catL L (k + 1) = catL L k ++ fromL k L := by
  induction L with
  | nil => rfl
  | cons a L ih =>
    rw [List.pairwise_cons] at hs
    have ih' := ih hs.2
    unfold catL fromL at ih' ⊢
    simp only [List.filter_cons]
    by_cases h1 : a.1 < (k : Int)
    · rw [if_pos (by simp; omega), if_pos (by simpa using h1), if_neg (by simp; omega), ih']
      rfl
    · by_cases h2 : a.1 = (k : Int)
      · have h3 : L.filter (fun a => decide (a.1 < (k : Int))) = [] := by
          rw [List.filter_eq_nil_iff]
          intro b hb hlt
          have := hs.1 b hb
          unfold AheadP at this
          simp only [aheadB, decide_eq_true_eq] at this hlt
          omega
        rw [h3, List.nil_append] at ih'
        rw [if_pos (by simp; omega), if_neg (by simpa using h1), if_pos (by simpa using h2), ih', h3]
        rfl
      · have h3 : L.filter (fun a => decide (a.1 < ((k + 1 : Nat) : Int))) = [] := by
          rw [List.filter_eq_nil_iff]
          intro b hb hlt
          have := hs.1 b hb
          unfold AheadP at this
          simp only [aheadB, decide_eq_true_eq] at this hlt
          omega
        rw [h3] at ih'
        rw [if_neg (by simp; omega), if_neg (by simpa using h1), if_neg (by simpa using h2), h3]
        exact ih'
theorem catL_all {N : Int} {L : List Arc3} (h : okB N L = true) : catL L N.toNat = L := by
  unfold catL
  rw [List.filter_eq_self]
  intro a ha
  have := arcsIn_of_ok h a ha
  simp
  omega
theorem catL_len (L : List Arc3) (k : Nat) : (catL L k).length ≤ L.length := List.length_filter_le _ _
theorem fromL_at {v : Int} {L : List Arc3} {k : Nat} (hs : L.Pairwise AheadP) (h : k < (fromL v L).length) : (fromL v L)[k].1 = v ∧ wtL v (fromL v L)[k].2.1 L = (fromL v L)[k].2.2 := by
  have hm : (fromL v L)[k] ∈ fromL v L := List.getElem_mem h
  generalize (fromL v L)[k] = a at hm
  unfold fromL at hm
  obtain ⟨h1, h2⟩ := List.mem_filter.1 hm
  have e : a.1 = v := by simpa using h2
  refine ⟨e, ?_⟩
  have := wtL_mem hs h1
  rwa [e] at this

/-- How many arcs come to a node. -/
def intoN (L : List Arc3) (v : Int) (k : Nat) : Nat := ((L.take k).filter fun a => a.2.1 == v).length
theorem intoN_all {L : List Arc3} (hs : L.Pairwise AheadP) (v : Int) : (fromL v (revL L)).length = intoN L v L.length := by
  unfold fromL intoN
  rw [List.take_length]
  have h := ((revL_sorted hs).2.filter fun a => a.1 == v).length_eq
  rw [h, List.filter_map, List.length_map]
  rfl

end Go.Proofs.Ytndkdeiojkclbaa

set_option linter.unusedSimpArgs false
set_option linter.unusedVariables false
namespace Go.Proofs.Ytndkdeiojkclbaa
open Go.RowKit

theorem wtL_bounds {N u v : Int} {L : List Arc3} (ho : okB N L = true) : 0 ≤ wtL u v L ∧ wtL u v L ≤ 1000 := by
  have h := arcsIn_of_ok ho
  have key : ∀ (M : List Arc3), (∀ a ∈ M, 1 ≤ a.2.2 ∧ a.2.2 ≤ 1000) → 0 ≤ wtL u v M ∧ wtL u v M ≤ 1000 := by
    intro M
    induction M with
    | nil => intro _; simp [wtL]
    | cons a M ih =>
      intro hM
      unfold wtL
      split
      · have := hM a (by simp); omega
      · exact ih fun b hb => hM b (by simp [hb])
  exact key L fun a ha => by have := h a ha; omega

theorem dAt_at {D : List Int} {k : Nat} (hk : k < D.length) : dAt D (k : Int) = D[k] := by simp [dAt, hk]

end Go.Proofs.Ytndkdeiojkclbaa

set_option linter.unusedSimpArgs false
set_option linter.unusedVariables false
namespace Go.Proofs.Ytndkdeiojkclbaa

/-- Are all of these nodes of N, no two alike? -/
def unB (N : Int) (V : List Int) : Bool := decide ((∀ v ∈ V, 0 ≤ v ∧ v < N) ∧ V.Nodup)
/-- Is the graph right, are all of these nodes of it, and no two alike? -/
def hasUB (N : Int) (L : List Arc3) (V : List Int) : Bool := okB N L && unB N V
theorem hasB_iff {N : Int} {L : List Arc3} {V : List Int} : hasB N L V = true ↔ okB N L = true ∧ ∀ v ∈ V, 0 ≤ v ∧ v < N := by
  unfold hasB
  rw [Bool.and_eq_true, List.all_eq_true]
  simp
theorem hasUB_no {N : Int} {L : List Arc3} {V : List Int} (h : hasB N L V = false) : hasUB N L V = false := by
  unfold hasUB unB
  rcases Bool.eq_false_or_eq_true (okB N L) with ho | ho
  · rw [ho, Bool.true_and, decide_eq_false_iff_not]
    intro hx
    have := hasB_iff.2 ⟨ho, hx.1⟩
    rw [this] at h
    exact absurd h (by simp)
  · rw [ho]; rfl
theorem hasUB_yes {N : Int} {L : List Arc3} {V : List Int} (h : hasB N L V = true) : hasUB N L V = decide V.Nodup := by
  obtain ⟨h1, h2⟩ := hasB_iff.1 h
  unfold hasUB unB
  rw [h1, Bool.true_and]
  by_cases hn : V.Nodup
  · rw [decide_eq_true hn]; exact decide_eq_true ⟨h2, hn⟩
  · rw [decide_eq_false hn]; exact decide_eq_false fun hx => hn hx.2
theorem hasUB_iff {N : Int} {L : List Arc3} {V : List Int} : hasUB N L V = true ↔ okB N L = true ∧ (∀ v ∈ V, 0 ≤ v ∧ v < N) ∧ V.Nodup := by
  unfold hasUB unB
  rw [Bool.and_eq_true, decide_eq_true_eq]

/-- Numbers as items. -/
def itV (V : List Int) : List It := V.map fun v => (0, v)
theorem told_itV {V : List Int} {v : Int} : toldB (itV V) v = decide (v ∈ V) := by
  rw [Bool.eq_iff_iff, toldB_iff, decide_eq_true_eq]
  constructor
  · rintro ⟨y, hy, rfl⟩
    obtain ⟨u, hu, rfl⟩ := List.mem_map.1 hy
    exact hu
  · intro h
    exact ⟨(0, v), List.mem_map.2 ⟨v, h, rfl⟩, rfl⟩
theorem itV_snoc (V : List Int) (v : Int) : itV (V ++ [v]) = itV V ++ [(0, v)] := by simp [itV]
theorem take_snocI {V : List Int} {j : Nat} (h : j < V.length) : V.take (j + 1) = V.take j ++ [V[j]] := by
  rw [List.take_succ_eq_append_getElem h]
theorem nodup_step {V : List Int} {j : Nat} (h : j < V.length) (hn : (V.take j).Nodup) (hv : V[j] ∉ V.take j) : (V.take (j + 1)).Nodup := by
  rw [take_snocI h, List.nodup_append]
  refine ⟨hn, by simp, fun a ha b hb => ?_⟩
  have : b = V[j] := by simpa using hb
  subst this
  intro e
  subst e
  exact hv ha
theorem nodup_hurt {V : List Int} {j : Nat} (h : j < V.length) (hv : V[j] ∈ V.take j) : ¬ V.Nodup := by
  intro hn
  obtain ⟨i, hi, e⟩ := List.mem_iff_getElem.1 hv
  rw [List.length_take] at hi
  rw [List.getElem_take] at e
  have := (List.nodup_iff_pairwise_ne.1 hn)
  exact (List.pairwise_iff_getElem.1 this) i j (by omega) h (by omega) e

/-- The lesser of a number and a distance that is there. -/
def minD (m d : Int) : Int := if 0 ≤ d then min m d else m
theorem minD_no {m d : Int} (h : d < 0) : minD m d = m := if_neg (by omega)
theorem minD_yes {m d : Int} (h : 0 ≤ d) : minD m d = min m d := if_pos h
/-- How far a node is from the nearest of some. -/
def nearV (N : Int) (L : List Arc3) (v : Int) (V : List Int) : Int := V.foldl (fun m s => minD m (dAt (distL N L s) v)) 24000
theorem nearV_nil (N : Int) (L : List Arc3) (v : Int) : nearV N L v [] = 24000 := rfl
theorem nearV_snoc (N : Int) (L : List Arc3) (v : Int) (V : List Int) (s : Int) : nearV N L v (V ++ [s]) = minD (nearV N L v V) (dAt (distL N L s) v) := by
  simp [nearV, List.foldl_append]
theorem nearV_step (N : Int) (L : List Arc3) (v : Int) {V : List Int} {j : Nat} (h : j < V.length) : nearV N L v (V.take (j + 1)) = minD (nearV N L v (V.take j)) (dAt (distL N L V[j]) v) := by
  rw [take_snocI h, nearV_snoc]
theorem nearV_bounds (N : Int) (L : List Arc3) (v : Int) (V : List Int) : 0 ≤ nearV N L v V ∧ nearV N L v V ≤ 24000 := by
  unfold nearV
  have h : ∀ (V : List Int) (m : Int), 0 ≤ m ∧ m ≤ 24000 → 0 ≤ V.foldl (fun m s => minD m (dAt (distL N L s) v)) m ∧ V.foldl (fun m s => minD m (dAt (distL N L s) v)) m ≤ 24000 := by
    intro V
    induction V with
    | nil => intro m hm; exact hm
    | cons a t ih =>
      intro m hm
      refine ih _ ?_
      show 0 ≤ minD m (dAt (distL N L a) v) ∧ minD m (dAt (distL N L a) v) ≤ 24000
      unfold minD
      split <;> omega
  exact h V 24000 (by omega)

/-- The array of the nearest behind some nodes that are told. -/
def minE (E : List Int) (Y : List It) : List Int := (List.range 24).map fun (i : Nat) => minD (E.getD i 0) (keyOf Y (i : Int))
theorem minE_len (E : List Int) (Y : List It) : (minE E Y).length = 24 := by simp [minE]
theorem minE_at {E : List Int} {Y : List It} {u : Nat} (h : u < (minE E Y).length) : (minE E Y)[u] = minD (E.getD u 0) (keyOf Y (u : Int)) := by simp [minE]
theorem minE_nil {E : List Int} (h : E.length = 24) : minE E [] = E := by
  refine List.ext_getElem (by rw [minE_len, h]) fun i h1 h2 => ?_
  rw [minE_at h1, minD_no (by rw [keyOf_no (by simp)]; omega)]
  simp [h2]
theorem minE_snoc {E : List Int} {Y : List It} {x : Int} {u : Nat} (hx : toldB Y (u : Int) = false) (h0 : 0 ≤ x) (hu : u < (minE E Y).length) : minE E (Y ++ [(x, (u : Int))]) = (minE E Y).set u (min (minE E Y)[u] x) := by
  refine List.ext_getElem (by simp [minE_len]) fun i h1 h2 => ?_
  rw [minE_at h1, List.getElem_set, keyOf_snoc (x := (x, (u : Int))) hx]
  by_cases e : u = i
  · subst e
    rw [if_pos rfl, if_pos rfl, minD_yes h0]
    congr 1
    rw [minE_at hu, minD_no (by rw [keyOf_no (toldB_no.1 hx)]; omega)]
  · rw [if_neg e, if_neg (by simp; omega), minE_at (by rw [minE_len] at h1 ⊢; exact h1)]
theorem minE_done {N : Int} {L : List Arc3} {s : Int} {V : List Int} {E : List Int} {Y : List It} (ho : okB N L = true) (hY : AllNear N L s Y)
    (hE : ∀ v : Nat, (v : Int) < N → E.getD v 0 = nearV N L (v : Int) V) : ∀ v : Nat, (v : Int) < N → (minE E Y).getD v 0 = nearV N L (v : Int) (V ++ [s]) := by
  intro v hv
  have hN := (okB_elim ho).2.1
  have hl : v < (minE E Y).length := by rw [minE_len]; omega
  have e : (minE E Y).getD v 0 = (minE E Y)[v] := by simp [hl]
  rw [e, minE_at hl, nearV_snoc, hE v hv]
  congr 1
  rw [← hY.keys (arcsIn_of_ok ho) hN, keysL_at (by omega) (by omega)]

/-- The first place of the greatest among the first k. -/
def topK (f : Nat → Int) : Nat → Nat
  | 0 => 0
  | k + 1 => if f (topK f k) < f k then k else topK f k
theorem topK_lt (f : Nat → Int) : ∀ k, 0 < k → topK f k < k
  | 0, h => absurd h (by omega)
  | k + 1, _ => by
    unfold topK
    split
    · omega
    · rcases Nat.eq_zero_or_pos k with rfl | hk
      · exact Nat.zero_lt_one
      · have := topK_lt f k hk; omega
theorem topK_le (f : Nat → Int) (k : Nat) : topK f k ≤ k := by
  rcases Nat.eq_zero_or_pos k with rfl | hk
  · exact Nat.le_refl _
  · exact Nat.le_of_lt (topK_lt f k hk)
theorem topK_yes {f : Nat → Int} {k : Nat} (h : f (topK f k) < f k) : topK f (k + 1) = k := if_pos h
theorem topK_no {f : Nat → Int} {k : Nat} (h : ¬ f (topK f k) < f k) : topK f (k + 1) = topK f k := if_neg h
theorem topK_max (f : Nat → Int) : ∀ k j, j < k → f j ≤ f (topK f k) ∧ (f j = f (topK f k) → topK f k ≤ j)
  | 0, j, h => absurd h (by omega)
  | k + 1, j, h => by
    by_cases hx : f (topK f k) < f k
    · rw [topK_yes hx]
      rcases Nat.lt_or_ge j k with hj | hj
      · have := (topK_max f k j hj).1
        exact ⟨by omega, fun e => by omega⟩
      · obtain rfl : j = k := by omega
        exact ⟨Int.le_refl _, fun _ => Nat.le_refl _⟩
    · rw [topK_no hx]
      rcases Nat.lt_or_ge j k with hj | hj
      · exact topK_max f k j hj
      · obtain rfl : j = k := by omega
        exact ⟨by omega, fun _ => topK_le f j⟩

/-- How far each node is from the nearest of V. -/
def nearF (N : Int) (L : List Arc3) (V : List Int) (k : Nat) : Int := nearV N L (k : Int) V
/-- The first node that is farthest from the nearest of V. -/
def farI (N : Int) (L : List Arc3) (V : List Int) : Int := if hasUB N L V = true then ((topK (nearF N L V) N.toNat : Nat) : Int) else -1

end Go.Proofs.Ytndkdeiojkclbaa

set_option linter.unusedSimpArgs false
set_option linter.unusedVariables false
namespace Go.Proofs.Ytndkdeiojkclbaa
open Go.RowKit

theorem OwnN.snoc {w : World} {B : Nat} {v : Value} {V : List Int} {x : Int} {n : Nat} (hn : n = V.length) (h : w.ownsRow B 2 1 v (n + 1) (csI V ++ [.int .i64 x])) : OwnN w B v (V ++ [x]) := by
  unfold OwnN Owns
  rw [List.length_append, ← hn]
  simpa [csI] using h
/-- What holds where a word is true, and where it is not. -/
def IfT (b : Bool) (P : Prop) : Prop := b = true → P
def IfF (b : Bool) (P : Prop) : Prop := b = false → P
/-- A list of numbers of one's own, in a block. -/
def RowN (w : World) (g c : Nat) (V : List Int) : Prop := OwnN w g (.slice (some ⟨g, 0, none⟩) V.length c) V
theorem RowN.cells {w : World} {g c : Nat} {V : List Int} (h : RowN w g c V) : (∀ o, w.frozen? ⟨g, o, none⟩ = false) ∧ (∀ k (hk : k < V.length), w.cell? ⟨g, k, none⟩ = some (.int .i64 V[k])) := by
  refine ⟨fun o => World.ownsRow.frozenAt h o, fun k hk => ?_⟩
  rw [World.ownsRow.cellAt h k (by omega), List.getElem?_eq_getElem (by rw [csI_len]; exact hk), csI_at]
theorem RowN.bl {w w' : World} {g c : Nat} {V : List Int} (h : RowN w g c V) (hb : Bl w w') : RowN w' g c V := OwnN.bl h hb
theorem RowN.set {w : World} {g c : Nat} {V : List Int} (h : RowN w g c V) (k : Nat) (x : Int) : RowN (w.setCell ⟨g, k, none⟩ (.int .i64 x)) g c (V.set k x) := by
  have h' := (Owns.stored h k (.int .i64 x)).1
  unfold RowN OwnN
  rw [List.length_set]
  have e : csI (V.set k x) = (csI V).set k (.int .i64 x) := by simp [csI, List.map_set]
  rw [e]
  exact h'

theorem OwnN.toRow {w : World} {B : Nat} {v : Value} {V : List Int} (h : OwnN w B v V) (h0 : 0 < V.length) : ∃ g c, v = .slice (some ⟨g, 0, none⟩) V.length c ∧ B ≤ g ∧ g < w.heap.size ∧ RowN w g c V := by
  obtain ⟨A, c, rfl, -, -, -, h3⟩ := Owns.shape h
  obtain ⟨g, rfl, hB, hg, -, -⟩ := h3 h0
  refine ⟨g, c, rfl, hB, hg, h.1, ?_⟩
  rcases h.2 with ⟨e, h1⟩ | ⟨g', cap, cur, e, hB', r⟩
  · simp at e
  · have e' := e
    injection e with e1 e2 e3
    injection e1 with e1
    injection e1 with e1
    exact .inr ⟨g', cap, cur, e', by omega, r⟩
theorem RowN.own {w : World} {g c B : Nat} {V : List Int} (h : RowN w g c V) (hB : B ≤ g) : OwnN w B (.slice (some ⟨g, 0, none⟩) V.length c) V := OwnN.low h hB
theorem RowN.lt {w : World} {g c : Nat} {V : List Int} (h : RowN w g c V) : g < w.heap.size := (Owns.lt_ h g rfl).2

set_option maxRecDepth 100000 in
set_option maxHeartbeats 4000000 in
theorem l3Dist_any (N s : Int) (A : Option Addr) (n c : Nat) (L : List Arc3) (hn : n = L.length) (ho : okB N L = true) (h0 : 0 ≤ s) (h1 : s < N) (w : World) (hm : n ≤ 1048576) (H1 : ArcsAt w w.heap.size A L) :
    Calls Try.prog 15 #[.agg #[.int .i64 N, .slice A n c], .int .i64 s] w (NumsMade (distL N L s) w) := by
  obtain ⟨i0, hi, hz0, hz1, hz2⟩ := info_parts infoInt
  have I0 := Lib.hid hi
  have I1 := Lib.hid hz0
  have I2 := Lib.hid hz1
  have I3 := Lib.hid hz2
  have K1 := Lib.hid H1
  have HN := Lib.hid hn
  have HO := Lib.hid ho
  have hN24 := (okB_elim ho).2.1
  have hL150 := (okB_elim ho).2.2.1
  obtain ⟨m, rfl⟩ : ∃ m : Nat, N = m := ⟨N.toNat, by omega⟩
  obtain ⟨q, rfl⟩ : ∃ q : Nat, s = q := ⟨s.toNat, by omega⟩
  have hm24 : m ≤ 24 := by omega
  have hqm : q < m := by omega
  clear H1 hn hi hz0 hz1 hz2 ho
  go_enter Try.func15, Try.ntmps15
  go_wp2_with fail
  go_loopw [5, 6] (fun v i wr => ∃ k : Nat, k ≤ m ∧ i = .int .i64 k ∧ OwnN wr (w.heap.size + 1) v (List.replicate k (-1)) ∧ Bl (w.alloc (.cells #[.int .i64 (m : Int), .slice A n c] 26)) wr) (fun _ i _ => m - (intOf i).toNat)
  case atStart =>
    refine ⟨0, by omega, rfl, ?_, (by repeat' (first | exact Bl.refl _ | with_reducible assumption | with_reducible refine Bl.drew_ ?_ | with_reducible refine Bl.drewN_ ?_ _ | with_reducible refine Bl.alloc_ ?_ _ | with_reducible refine Bl.trans_ ?_ (by assumption) | with_reducible refine Bl.trans_ ?_ (And.left (by assumption))))⟩
    have h := World.ownsRow_made (base := w.heap.size + 1) (e := 2) (size := 1) (w.alloc (.cells #[.int .i64 (m : Int), .slice A n c] 26)) #[] 0 (by simp) (by unfold maxLen; omega) rfl
    rw [World.size_alloc] at h
    exact h
  case round =>
    obtain ⟨k, hk, rfl, hown, hbl⟩ := hrel
    have hs := hbl.size
    simp only [World.size_alloc] at hs
    obtain ⟨q0, q1⟩ := box2 hbl
    have O := Lib.hid hown
    have HB := Lib.hid hbl
    clear hown hbl
    by_cases hlt : k < m
    · go_wp2_with (at_builtin; refine wpList_append_own _ rfl (.tmp 18) (.tmp 19) _ rfl (w.heap.size + 1) 2 i0 _ 1 8 Try.underlying27 I0.out I1.out I2.out I3.out rfl (by decide) _ (List.replicate k (-1)).length (csI (List.replicate k (-1))) rfl (World.ownsRow.alloc O.out _) ⟨wr.heap.size, 0, none⟩ 1 1 [.int .i64 (-1)] rfl rfl ?c0 (by simp [Value.oneCell']) ?c3 ?c4 ?c5 ?_)
      case c0 => 
        intro j u hj
        match j, hj with
        | 0, hj => simp at hj; subst hj; simp [Addr.add, go_sem]
        | (j + 1), hj => simp at hj
      case c3 => unfold maxLen; simp; omega
      case c4 => simp; omega
      case c5 => simp; omega
      intro v' w1 hown' hgrow _
      have O1 := Lib.hid (OwnN.snoc (V := List.replicate k (-1)) (x := -1) (n := k) (by simp) (by simpa using hown'))
      have hb1 : Bl (w.alloc (.cells #[.int .i64 (m : Int), .slice A n c] 26)) w1 := (HB.out.alloc_ _).grown_ hgrow (fun g hg => by have := (Owns.lt O.out g hg).1; simpa using this)
      have hb1' := Lib.hid hb1
      obtain ⟨q2, q3⟩ := box2 hb1
      clear hown' hgrow q0 q1 hb1
      go_wp2
      go_roundw
      case rel => exact ⟨k + 1, by omega, by go_num, by rw [List.replicate_succ']; exact O1.out, hb1'.out⟩
      case measure => simp [intOf]; omega
    · obtain rfl : k = m := by omega
      obtain ⟨g, c', rfl, hBg, hgl, hrow⟩ := O.out.toRow (by simp; omega)
      have hcl := hrow.cells
      have p0 := hcl.2 q (by simp; exact hqm)
      have p1 := hcl.1 q
      rw [List.getElem_replicate] at p0
      rw [List.length_replicate]
      have hq0 : (0 : Int) ≤ (q : Int) := by omega
      have hq1 : (q : Int) < (k : Int) := by omega
      have R0 := Lib.hid (show RowN (wr.setCell ⟨g, q, none⟩ (.int .i64 0)) g c' (startD k q) from by
        have := hrow.set q 0
        unfold startD
        simpa using this)
      have HB0 := Lib.hid (show Bl (w.alloc (.cells #[.int .i64 (k : Int), .slice A n c] 26)) (wr.setCell ⟨g, q, none⟩ (.int .i64 0)) from HB.out.set_ (by simp; omega) _)
      clear hcl hrow
      go_wp2_with fail
      clear p0 p1 q0 q1
      go_loopg [7] (sumF potF (startD k q) + 1) (fun t mo wr => ∃ (D : List Int) (b : Bool), mo = .bool b ∧ Hid (Rel k L q D) ∧ Hid (RowN wr g c' D) ∧ Hid (Bl (w.alloc (.cells #[.int .i64 (k : Int), .slice A n c] 26)) wr) ∧ IfT b (sumF potF D + 1 ≤ t) ∧ IfF b (IsDist k L q D))
      case atStart => exact ⟨startD k q, true, rfl, Lib.hid (Rel.start_ (by omega) (by omega)), R0, HB0, fun _ => Nat.le_refl _, fun h => nomatch h⟩
      case round =>
        obtain ⟨D, b, rfl, RE, RO, BB, po, di⟩ := hrel
        have PO := Lib.hid po
        have DI := Lib.hid di
        clear po di
        have hDl : D.length = k := by have := RE.out.len; simpa using this
        have HDL := Lib.hid hDl
        clear hDl
        cases b with
        | false =>
          go_wp2_with fail
          go_ret
          have hD := distL_of (arcsIn_of_ok HO.out) (by omega) (by omega) (by omega) (DI.out rfl)
          refine ⟨_, rfl, ?_, (Bl.alloc_ (Bl.refl w) _).trans_ BB.out⟩
          rw [← hD]
          have := RO.out.own (B := w.heap.size) (by omega)
          rw [HDL.out] at this
          exact this
        | true =>
          obtain ⟨q0, q1⟩ := box2 BB.out
          go_wp2_with fail
          clear q0 q1
          go_loopw [7, 8] (fun mo i wr => ∃ (j : Nat) (E : List Int) (b : Bool), j ≤ n ∧ i = .int .i64 j ∧ mo = .bool b ∧ Hid (Rel k L q E) ∧ Hid (RowN wr g c' E) ∧ Hid (Bl (w.alloc (.cells #[.int .i64 (k : Int), .slice A n c] 26)) wr) ∧
            IfT b (sumF potF E < sumF potF D) ∧ IfF b (E = D ∧ ∀ t (h : t < L.length), t < j → nearer D L[t] = false)) (fun _ i _ => n - (intOf i).toNat)
          case atStart => exact ⟨0, D, false, by omega, rfl, rfl, RE, RO, BB, (fun h => nomatch h), fun _ => ⟨rfl, fun t h h' => absurd h' (by omega)⟩⟩
          case round =>
            obtain ⟨j, E, b, hj, rfl, rfl, RE2, RO2, BB2, less, same⟩ := hrel
            have LESS := Lib.hid less
            have SAME := Lib.hid same
            clear less same
            obtain ⟨q0, q1⟩ := box2 BB2.out
            have hEl : E.length = k := by have := RE2.out.len; simpa using this
            have HEL := Lib.hid hEl
            clear hEl
            by_cases hlt : j < n
            · have hjl : j < L.length := by have := HN.out; omega
              have hbw : Bl w wr := (Bl.alloc_ (Bl.refl w) _).trans_ BB2.out
              obtain ⟨g1, o1, rfl, hg1, hc1⟩ := K1.out (by omega)
              obtain ⟨p1, p2, p3⟩ := hc1 j hjl
              rw [← (bcell hbw).1 _ _ hg1] at p1 p2 p3
              obtain ⟨a0, a1, a2, a3, a4, a5⟩ := arcsIn_of_ok HO.out L[j] (List.getElem_mem hjl)
              have AM := Lib.hid (show L[j] ∈ L from List.getElem_mem hjl)
              have hgl2 := RO2.out.lt
              have hg1l : g1 < wr.heap.size := Nat.lt_of_lt_of_le hg1 hbw.size
              clear hc1 hbw
              generalize hAA : L[j] = aa at *
              obtain ⟨x, y, z⟩ := aa
              simp only at a0 a1 a2 a3 a4 a5 p1 p2 p3
              obtain ⟨u, rfl⟩ : ∃ u : Nat, x = u := ⟨x.toNat, by omega⟩
              obtain ⟨v, rfl⟩ : ∃ v : Nat, y = v := ⟨y.toNat, by omega⟩
              have huk : u < k := by omega
              have hvk : v < k := by omega
              obtain ⟨hfz, hcl⟩ := RO2.out.cells
              have c1 := hcl u (by rw [HEL.out]; exact huk)
              have c2 := hcl v (by rw [HEL.out]; exact hvk)
              have f2 := hfz v
              clear hfz hcl
              have e1 : E[u]'(by rw [HEL.out]; exact huk) = dAt E (u : Int) := by simp [dAt, HEL.out, huk]
              have e2 : E[v]'(by rw [HEL.out]; exact hvk) = dAt E (v : Int) := by simp [dAt, HEL.out, hvk]
              rw [e1] at c1
              rw [e2] at c2
              have b1 := RE2.out.bound (by omega) (u : Int)
              have b2 := RE2.out.bound (by omega) (v : Int)
              have b3 := RE2.out.low (u : Int)
              have b4 := RE2.out.low (v : Int)
              have HA := Lib.hid hAA
              clear e1 e2 hAA
              have hstep : nearer E ((u : Int), (v : Int), z) = true → Rel k L q (E.set v (dAt E (u : Int) + z)) ∧ sumF potF (E.set v (dAt E (u : Int) + z)) < sumF potF E := fun h => by
                have := RE2.out.step (arcsIn_of_ok HO.out) (by omega) AM.out h
                simpa using this
              have HST := Lib.hid hstep
              clear hstep
              generalize hdu : dAt E (u : Int) = du at *
              generalize hdv : dAt E (v : Int) = dv at *
              have hnr : nearer E ((u : Int), (v : Int), z) = decide (0 ≤ du ∧ (dv < 0 ∨ du + z < dv)) := by
                unfold nearer
                simp only [hdu, hdv]
              have HNR := Lib.hid hnr
              have no : nearer E ((u : Int), (v : Int), z) = false → IfF b (E = D ∧ ∀ t (h : t < L.length), t < j + 1 → nearer D L[t] = false) := fun hn hb => by
                obtain ⟨e, h⟩ := SAME.out hb
                refine ⟨e, fun t ht htj => ?_⟩
                rcases Nat.lt_or_ge t j with h' | h'
                · exact h t ht h'
                · obtain rfl : t = j := by omega
                  rw [HA.out, ← e]
                  exact hn
              have NO := Lib.hid no
              clear hdu hdv hnr no AM HA
              have i1 : (0 : Int) ≤ (u : Int) := by omega
              have i2 : (u : Int) < (k : Int) := by omega
              have i3 : (0 : Int) ≤ (v : Int) := by omega
              have i4 : (v : Int) < (k : Int) := by omega
              by_cases hdn : du < 0
              · have hnf : nearer E ((u : Int), (v : Int), z) = false := by rw [HNR.out]; simp; omega
                have NF := Lib.hid (NO.out hnf)
                clear hnf
                go_wp2_with fail
                go_roundw
                case rel => exact ⟨j + 1, E, b, by omega, by go_num, rfl, RE2, Lib.hid (RO2.out.bl (by repeat' (first | exact Bl.refl _ | with_reducible assumption | with_reducible refine Bl.drew_ ?_ | with_reducible refine Bl.drewN_ ?_ _ | with_reducible refine Bl.alloc_ ?_ _ | with_reducible refine Bl.trans_ ?_ (by assumption) | with_reducible refine Bl.trans_ ?_ (And.left (by assumption))))), Lib.hid (BB2.out.trans_ (by repeat' (first | exact Bl.refl _ | with_reducible assumption | with_reducible refine Bl.drew_ ?_ | with_reducible refine Bl.drewN_ ?_ _ | with_reducible refine Bl.alloc_ ?_ _ | with_reducible refine Bl.trans_ ?_ (by assumption) | with_reducible refine Bl.trans_ ?_ (And.left (by assumption))))), LESS.out, NF.out⟩
                case measure => simp [intOf]; omega
              · by_cases hnv : dv < 0
                · have hyes : nearer E ((u : Int), (v : Int), z) = true := by rw [HNR.out]; simp; omega
                  obtain ⟨hre, hpo⟩ := HST.out hyes
                  have RE3 := Lib.hid hre
                  have LS3 := Lib.hid (show sumF potF (E.set v (du + z)) < sumF potF D from by
                    cases hb : b with
                    | true => exact Nat.lt_trans hpo (LESS.out hb)
                    | false => rw [← (SAME.out hb).1]; exact hpo)
                  have hw : IntKind.i64.wrap (du + z) = du + z := IntWalk.i64_in _ (by omega)
                  clear hyes hre hpo
                  go_wp2_with fail
                  go_quiet (fail)
                  clear hw
                  go_wp2_with fail
                  go_roundw
                  case rel => exact ⟨j + 1, E.set v (du + z), true, by omega, by go_num, rfl, RE3, Lib.hid (RowN.set (RO2.out.bl (by repeat' (first | exact Bl.refl _ | with_reducible assumption | with_reducible refine Bl.drew_ ?_ | with_reducible refine Bl.drewN_ ?_ _ | with_reducible refine Bl.alloc_ ?_ _ | with_reducible refine Bl.trans_ ?_ (by assumption) | with_reducible refine Bl.trans_ ?_ (And.left (by assumption))))) v _), Lib.hid (Bl.set_ (BB2.out.trans_ (by repeat' (first | exact Bl.refl _ | with_reducible assumption | with_reducible refine Bl.drew_ ?_ | with_reducible refine Bl.drewN_ ?_ _ | with_reducible refine Bl.alloc_ ?_ _ | with_reducible refine Bl.trans_ ?_ (by assumption) | with_reducible refine Bl.trans_ ?_ (And.left (by assumption))))) (by simp; omega) _), (fun _ => LS3.out), fun h => nomatch h⟩
                  case measure => simp [intOf]; omega
                · by_cases hln : du + z < dv
                  · have hyes : nearer E ((u : Int), (v : Int), z) = true := by rw [HNR.out]; simp; omega
                    obtain ⟨hre, hpo⟩ := HST.out hyes
                    have RE3 := Lib.hid hre
                    have LS3 := Lib.hid (show sumF potF (E.set v (du + z)) < sumF potF D from by
                      cases hb : b with
                      | true => exact Nat.lt_trans hpo (LESS.out hb)
                      | false => rw [← (SAME.out hb).1]; exact hpo)
                    have hw : IntKind.i64.wrap (du + z) = du + z := IntWalk.i64_in _ (by omega)
                    clear hyes hre hpo
                    go_wp2_with fail
                    go_quiet (fail)
                    clear hw
                    go_wp2_with fail
                    go_roundw
                    case rel => exact ⟨j + 1, E.set v (du + z), true, by omega, by go_num, rfl, RE3, Lib.hid (RowN.set (RO2.out.bl (by repeat' (first | exact Bl.refl _ | with_reducible assumption | with_reducible refine Bl.drew_ ?_ | with_reducible refine Bl.drewN_ ?_ _ | with_reducible refine Bl.alloc_ ?_ _ | with_reducible refine Bl.trans_ ?_ (by assumption) | with_reducible refine Bl.trans_ ?_ (And.left (by assumption))))) v _), Lib.hid (Bl.set_ (BB2.out.trans_ (by repeat' (first | exact Bl.refl _ | with_reducible assumption | with_reducible refine Bl.drew_ ?_ | with_reducible refine Bl.drewN_ ?_ _ | with_reducible refine Bl.alloc_ ?_ _ | with_reducible refine Bl.trans_ ?_ (by assumption) | with_reducible refine Bl.trans_ ?_ (And.left (by assumption))))) (by simp; omega) _), (fun _ => LS3.out), fun h => nomatch h⟩
                    case measure => simp [intOf]; omega
                  · have hnf : nearer E ((u : Int), (v : Int), z) = false := by rw [HNR.out]; simp; omega
                    have NF := Lib.hid (NO.out hnf)
                    have hw : IntKind.i64.wrap (du + z) = du + z := IntWalk.i64_in _ (by omega)
                    clear hnf
                    go_wp2_with fail
                    go_quiet (fail)
                    clear hw
                    go_wp2_with fail
                    go_roundw
                    case rel => exact ⟨j + 1, E, b, by omega, by go_num, rfl, RE2, Lib.hid (RO2.out.bl (by repeat' (first | exact Bl.refl _ | with_reducible assumption | with_reducible refine Bl.drew_ ?_ | with_reducible refine Bl.drewN_ ?_ _ | with_reducible refine Bl.alloc_ ?_ _ | with_reducible refine Bl.trans_ ?_ (by assumption) | with_reducible refine Bl.trans_ ?_ (And.left (by assumption))))), Lib.hid (BB2.out.trans_ (by repeat' (first | exact Bl.refl _ | with_reducible assumption | with_reducible refine Bl.drew_ ?_ | with_reducible refine Bl.drewN_ ?_ _ | with_reducible refine Bl.alloc_ ?_ _ | with_reducible refine Bl.trans_ ?_ (by assumption) | with_reducible refine Bl.trans_ ?_ (And.left (by assumption))))), LESS.out, NF.out⟩
                    case measure => simp [intOf]; omega
            · go_wp2_with fail
              go_roundg (if b = true then sumF potF E + 1 else 0)
              case rel =>
                refine ⟨E, b, rfl, RE2, RO2, BB2, fun h => by rw [h]; simp, fun h => ?_⟩
                obtain ⟨e, hx⟩ := SAME.out h
                refine RE2.out.done (arcsIn_of_ok HO.out) fun a ha => ?_
                obtain ⟨t, ht, rfl⟩ := List.mem_iff_getElem.1 ha
                rw [e]
                exact hx t ht (by have := HN.out; omega)
              case measure =>
                have := PO.out rfl
                cases hb : b with
                | true => have := LESS.out hb; simp; omega
                | false => simp; omega

end Go.Proofs.Ytndkdeiojkclbaa

set_option linter.unusedSimpArgs false
set_option linter.unusedVariables false
namespace Go.Proofs.Ytndkdeiojkclbaa
open Go.RowKit

theorem nodeB_ok {N v : Int} {L : List Arc3} (ho : okB N L = true) : nodeB N v = decide (0 ≤ v ∧ v < N) := by
  obtain ⟨h1, h2, -⟩ := okB_elim ho
  unfold nodeB inB
  have : wrap64 (N - 1) = N - 1 := by unfold wrap64; omega
  rw [this, Bool.eq_iff_iff]
  simp only [decide_eq_true_eq]
  omega
theorem distFromL_len (N : Int) (L : List Arc3) (s : Int) : (distFromL N L s).length ≤ 1048576 := by
  unfold distFromL
  split
  · obtain ⟨ho, h0, h1⟩ := has1_of ‹_›
    have := (okB_elim ho).2.1
    rw [distL_len ho h0 h1]
    omega
  · simp

-- (specDistFrom_any left out)

-- (specDistOf_any left out)

end Go.Proofs.Ytndkdeiojkclbaa

set_option linter.unusedSimpArgs false
set_option linter.unusedVariables false
namespace Go.Proofs.Ytndkdeiojkclbaa
open Go.RowKit

set_option maxRecDepth 100000 in
set_option maxHeartbeats 1000000 in
theorem hasUnlike_any (N : Int) (A : Option Addr) (n c : Nat) (L : List Arc3) (hn : n = L.length) (A2 : Option Addr) (k c2 : Nat) (V : List Int) (hk : k = V.length) (w : World) (hm : n ≤ 9223372036854775807) (hkm : k ≤ 1048576) (H1 : ArcsAt w w.heap.size A L) (H2 : IntsAt w w.heap.size A2 V) :
    Calls Try.prog 11 #[.agg #[.int .i64 N, .slice A n c], .slice A2 k c2] w fun e w' => e = .returned (.bool (hasUB N L V)) ∧ Bl w w' := by
  have K1 := Lib.hid H1
  have K2 := Lib.hid H2
  have HN := Lib.hid hn
  have HK := Lib.hid hk
  clear H1 H2 hn hk
  cases hh : hasB N L V with
  | false =>
    have HH := Lib.hid hh
    clear hh
    go_enter Try.func11, Try.ntmps11
    go_wp2_with fail
    refine (hasNodes_any N A n c L HN.out A2 k c2 V HK.out _ hm hkm (K1.out.bl (by repeat' (first | exact Bl.refl _ | with_reducible assumption | with_reducible refine Bl.drew_ ?_ | with_reducible refine Bl.drewN_ ?_ _ | with_reducible refine Bl.alloc_ ?_ _ | with_reducible refine Bl.trans_ ?_ (by assumption) | with_reducible refine Bl.trans_ ?_ (And.left (by assumption))))) (K2.out.bl (by repeat' (first | exact Bl.refl _ | with_reducible assumption | with_reducible refine Bl.drew_ ?_ | with_reducible refine Bl.drewN_ ?_ _ | with_reducible refine Bl.alloc_ ?_ _ | with_reducible refine Bl.trans_ ?_ (by assumption) | with_reducible refine Bl.trans_ ?_ (And.left (by assumption)))))).mono ?_
    rintro e w1 ⟨rfl, hb1⟩
    rw [HH.out]
    go_wp2
    go_ret
    exact ⟨ret_bool (hasUB_no HH.out).symm, (by repeat' (first | exact Bl.refl _ | with_reducible assumption | with_reducible refine Bl.drew_ ?_ | with_reducible refine Bl.drewN_ ?_ _ | with_reducible refine Bl.alloc_ ?_ _ | with_reducible refine Bl.trans_ ?_ (by assumption) | with_reducible refine Bl.trans_ ?_ (And.left (by assumption))))⟩
  | true =>
    have HH := Lib.hid hh
    obtain ⟨ho, hin⟩ := hasB_iff.1 hh
    have hN24 := (okB_elim ho).2.1
    have HIN := Lib.hid hin
    clear hh ho hin
    go_enter Try.func11, Try.ntmps11
    go_wp2_with fail
    refine (hasNodes_any N A n c L HN.out A2 k c2 V HK.out _ hm hkm (K1.out.bl (by repeat' (first | exact Bl.refl _ | with_reducible assumption | with_reducible refine Bl.drew_ ?_ | with_reducible refine Bl.drewN_ ?_ _ | with_reducible refine Bl.alloc_ ?_ _ | with_reducible refine Bl.trans_ ?_ (by assumption) | with_reducible refine Bl.trans_ ?_ (And.left (by assumption))))) (K2.out.bl (by repeat' (first | exact Bl.refl _ | with_reducible assumption | with_reducible refine Bl.drew_ ?_ | with_reducible refine Bl.drewN_ ?_ _ | with_reducible refine Bl.alloc_ ?_ _ | with_reducible refine Bl.trans_ ?_ (by assumption) | with_reducible refine Bl.trans_ ?_ (And.left (by assumption)))))).mono ?_
    rintro e w1 ⟨rfl, hb1⟩
    rw [HH.out]
    have BW := Lib.hid (show Bl w w1 from (Bl.alloc_ (Bl.refl w) _).trans_ hb1)
    clear hb1
    go_wp2_with fail
    go_loopw [14] (fun i wr => ∃ j : Nat, j ≤ k ∧ i = .int .i64 j ∧ Bl w1 wr ∧ ToldAt wr w1.heap.size (itV (V.take j)) ∧ Hid ((V.take j).Nodup)) (fun i _ => k - (intOf i).toNat)
    case atStart =>
      refine ⟨0, by omega, rfl, (by repeat' (first | exact Bl.refl _ | with_reducible assumption | with_reducible refine Bl.drew_ ?_ | with_reducible refine Bl.drewN_ ?_ _ | with_reducible refine Bl.alloc_ ?_ _ | with_reducible refine Bl.trans_ ?_ (by assumption) | with_reducible refine Bl.trans_ ?_ (And.left (by assumption)))), ⟨by simp, fun i hi => ?_, fun i hi => by simp [go_sem]⟩, Lib.hid (by simp)⟩
      match i, hi with
      | 0, _ | 1, _ | 2, _ | 3, _ | 4, _ | 5, _ | 6, _ | 7, _ | 8, _ | 9, _ | 10, _ | 11, _ | 12, _ | 13, _ | 14, _ | 15, _ | 16, _ | 17, _ | 18, _ | 19, _ | 20, _ | 21, _ | 22, _ | 23, _ => simp [go_sem, toldB, itV]
      | (k + 24), h => exact absurd h (by omega)
    case round =>
      obtain ⟨j, hj, rfl, hbl, htold, hnd⟩ := hrel
      by_cases hlt : j < k
      · have hjl : j < V.length := by have := HK.out; omega
        obtain ⟨g2, o2, rfl, hg2, hc2⟩ := K2.out.cell (by omega)
        have p1 := hc2 j hjl
        clear hc2
        rw [← (bcell (BW.out.trans_ hbl)).1 _ _ hg2] at p1
        have hx := HIN.out V[j] (List.getElem_mem hjl)
        have YES := Lib.hid (fun h : V[j] ∈ V.take j => nodup_hurt hjl h)
        have NO := Lib.hid (fun h : V[j] ∉ V.take j => nodup_step hjl hnd.out h)
        have SN := Lib.hid (take_snocI hjl)
        generalize V[j] = x at *
        obtain ⟨u, rfl⟩ : ∃ u : Nat, x = u := ⟨x.toNat, by omega⟩
        have hu : u < 24 := by omega
        have z1 := htold.cell u hu
        have z2 := htold.free u hu
        rw [told_itV] at z1
        have TL := Lib.hid htold
        have hu0 : (0 : Int) ≤ (u : Int) := by omega
        have hu1 : (u : Int) < 24 := by omega
        have hj0 : (0 : Int) ≤ (j : Int) := by omega
        have hj1 : (j : Int) < (k : Int) := by omega
        clear htold hx
        by_cases hmem : (u : Int) ∈ V.take j
        · rw [decide_eq_true hmem] at z1
          have HY := Lib.hid (YES.out hmem)
          clear YES NO hmem
          go_wp2
          go_ret
          refine ⟨ret_bool ?_, BW.out.trans_ hbl⟩
          rw [hasUB_yes HH.out, decide_eq_false HY.out]
        · rw [decide_eq_false hmem] at z1
          have HZ := Lib.hid (NO.out hmem)
          clear YES NO hmem
          go_wp2
          go_roundw
          case rel =>
            refine ⟨j + 1, by omega, by go_num, hbl.set_ (by simp) _, ?_, HZ⟩
            rw [SN.out, itV_snoc]
            exact TL.out.set hu
          case measure => simp [intOf]; omega
      · have HZ := Lib.hid (show V.Nodup from by
          have := hnd.out
          rwa [List.take_of_length_le (by have := HK.out; omega)] at this)
        go_wp2
        go_ret
        refine ⟨ret_bool ?_, BW.out.trans_ hbl⟩
        rw [hasUB_yes HH.out, decide_eq_true HZ.out]

set_option maxHeartbeats 400000 in
theorem l1Has_any (A : Option Addr) (c : Nat) (V : List Int) (n : Nat) (hn : n = V.length) (x : Int) (w : World) (hm : n ≤ 9223372036854775807) (H1 : IntsAt w w.heap.size A V) :
    Calls Try.prog 26 #[.slice A n c, .int .i64 x] w fun e w' => e = .returned (.bool (decide (x ∈ V))) ∧ Bl w w' := by
  have K1 := Lib.hid H1
  have HN := Lib.hid hn
  clear H1 hn
  go_enter Try.func26, Try.ntmps26
  go_wp2
  go_loopw [5] (fun i wr => ∃ k : Nat, k ≤ n ∧ i = .int .i64 k ∧ Bl w wr ∧ Hid (∀ j (h : j < V.length), j < k → V[j] ≠ x)) (fun i _ => n - (intOf i).toNat)
  case atStart => exact ⟨0, by omega, rfl, Bl.refl w, Lib.hid (fun j _ h => by omega)⟩
  case round =>
    obtain ⟨k, hk, rfl, hbl, hno⟩ := hrel
    by_cases hlt : k < n
    · have hkl : k < V.length := by have := HN.out; omega
      obtain ⟨g1, o1, rfl, hg1, hc1⟩ := K1.out.cell (by omega)
      have p1 := hc1 k hkl
      clear hc1
      rw [← (bcell hbl).1 _ _ hg1] at p1
      have HY := Lib.hid (fun h : V[k] ≠ x => (show ∀ j (h : j < V.length), j < k + 1 → V[j] ≠ x from fun j hj hjk => by
        by_cases e : j = k
        · subst e; exact h
        · exact hno.out j hj (by omega)))
      have HX := Lib.hid (fun h : V[k] = x => (show decide (x ∈ V) = true from by rw [decide_eq_true_eq, ← h]; exact List.getElem_mem hkl))
      generalize V[k] = y at p1 HY HX
      have i1 : (0 : Int) ≤ (k : Int) := by omega
      have i2 : (k : Int) < (n : Int) := by omega
      by_cases e : y = x
      · have b1 : (y == x) = true := by simpa using e
        have HZ := Lib.hid (HX.out e)
        clear e HY HX
        go_wp2
        go_ret
        exact ⟨ret_bool HZ.out.symm, hbl⟩
      · have b1 : (y == x) = false := by simpa using e
        have HZ := Lib.hid (HY.out e)
        clear e HY HX
        go_wp2
        go_roundw
        case rel => exact ⟨k + 1, by omega, by go_num, hbl, HZ⟩
        case measure => simp [intOf]; omega
    · have HZ := Lib.hid (show decide (x ∈ V) = false from by
        rw [decide_eq_false_iff_not]
        intro hx
        obtain ⟨j, hj, e⟩ := List.getElem_of_mem hx
        exact absurd e (hno.out j hj (by have := HN.out; omega)))
      go_wp2
      go_ret
      exact ⟨ret_bool HZ.out.symm, hbl⟩

set_option maxRecDepth 100000 in
set_option maxHeartbeats 2000000 in
theorem l6Nodes_any (N : Int) (A : Option Addr) (n c : Nat) (L : List Arc3) (ho : okB N L = true) (A2 : Option Addr) (k c2 : Nat) (V : List Int) (hk : k = V.length) (hkc : k ≤ c2) (w : World) (hkm : k ≤ 9223372036854775807) (H2 : IntsAt w w.heap.size A2 V) :
    Calls Try.prog 14 #[.agg #[.int .i64 N, .slice A n c], .slice A2 k c2] w fun e w' => e = .returned (.bool (unB N V)) ∧ Bl w w' := by
  have K2 := Lib.hid H2
  have HK := Lib.hid hk
  have HO := Lib.hid ho
  clear H2 hk ho
  go_enter Try.func14, Try.ntmps14
  go_wp2_with fail
  go_loopw [5] (fun i wr => ∃ j : Nat, j ≤ k ∧ i = .int .i64 j ∧ Bl (w.alloc (.cells #[.int .i64 N, .slice A n c] 26)) wr ∧ Hid ((∀ t (h : t < V.length), t < j → 0 ≤ V[t] ∧ V[t] < N) ∧ (V.take j).Nodup)) (fun i _ => k - (intOf i).toNat)
  case atStart => exact ⟨0, by omega, rfl, Bl.refl _, Lib.hid ⟨fun t h h' => absurd h' (by omega), by simp⟩⟩
  case round =>
    obtain ⟨j, hj, rfl, hbl, hno⟩ := hrel
    have hbw : Bl w wr := (Bl.alloc_ (Bl.refl w) _).trans_ hbl
    have BW := Lib.hid hbw
    have BB := Lib.hid hbl
    by_cases hlt : j < k
    · have hjl : j < V.length := by have := HK.out; omega
      obtain ⟨g2, o2, rfl, hg2, hc2⟩ := K2.out.cell (by omega)
      have p1 := hc2 j hjl
      clear hc2
      have HX := Lib.hid (rfl : V[j] = V[j])
      have YES := Lib.hid (fun h : V[j] ∈ V.take j => nodup_hurt hjl h)
      have NOT := Lib.hid (fun h : ¬ (0 ≤ V[j] ∧ V[j] < N) => (show ¬ ((∀ v ∈ V, 0 ≤ v ∧ v < N) ∧ V.Nodup) from fun hv => h (hv.1 _ (List.getElem_mem hjl))))
      have NO := Lib.hid (fun (h0 : 0 ≤ V[j] ∧ V[j] < N) (h : V[j] ∉ V.take j) => (show (∀ t (h : t < V.length), t < j + 1 → 0 ≤ V[t] ∧ V[t] < N) ∧ (V.take (j + 1)).Nodup from ⟨fun t ht htj => by
        rcases Nat.lt_or_ge t j with h' | h'
        · exact hno.out.1 t ht h'
        · obtain rfl : t = j := by omega
          exact h0, nodup_step hjl hno.out.2 h⟩))
      have HNB := Lib.hid (nodeB_ok (v := V[j]) HO.out)
      have TAK := Lib.hid (show IntsAt w w.heap.size (some ⟨g2, o2, none⟩) (V.take j) from by
        have := CellsAt.take_ K2.out j
        rwa [show (csI V).take j = csI (V.take j) from by simp [csI, List.map_take]] at this)
      have LEN := Lib.hid (show j = (V.take j).length from by rw [List.length_take]; omega)
      clear HX
      generalize V[j] = x at *
      have i0 : (0 : Int) ≤ (j : Int) := by omega
      have i1 : (j : Int) < (k : Int) := by omega
      have i2 : (j : Int) ≤ (c2 : Int) := by omega
      have HSH := Lib.hid (show ∀ wx, Bl wr wx → Bl wr wx ∧ wx.cell? ⟨w.heap.size, 0, none⟩ = some (.int .i64 N) ∧ wx.cell? ⟨w.heap.size, 1, none⟩ = some (.slice A n c) ∧ wx.cell? ⟨g2, o2 + j, none⟩ = some (.int .i64 x) from fun wx hb => by
        obtain ⟨y0, y1⟩ := box2 (hbl.trans_ hb)
        exact ⟨hb, y0, y1, ((bcell (hbw.trans_ hb)).1 _ _ hg2).trans p1⟩)
      clear p1 hbl hbw
      by_cases hin : 0 ≤ x ∧ x < N
      · have hd : decide (0 ≤ x ∧ x < N) = true := by simpa using hin
        have HD := Lib.hid hd
        clear hd
        by_cases hmem : x ∈ V.take j
        · have hd2 : decide (x ∈ V.take j) = true := decide_eq_true hmem
          have HD2 := Lib.hid hd2
          have HY := Lib.hid (YES.out hmem)
          clear YES NO NOT hmem hd2
          go_wp2_with fail
          refine wp_region_held_drew (S := fun wx => Bl wr wx ∧ wx.cell? ⟨w.heap.size, 0, none⟩ = some (.int .i64 N) ∧ wx.cell? ⟨w.heap.size, 1, none⟩ = some (.slice A n c) ∧ wx.cell? ⟨g2, o2 + j, none⟩ = some (.int .i64 x)) (by kernel_rfl) ?_ (fun hHeld => ?_)
          · (exact HSH.out _ (by repeat' (first | exact Bl.refl _ | with_reducible assumption | with_reducible refine Bl.drew_ ?_ | with_reducible refine Bl.drewN_ ?_ _ | with_reducible refine Bl.alloc_ ?_ _ | with_reducible refine Bl.trans_ ?_ (by assumption) | with_reducible refine Bl.trans_ ?_ (And.left (by assumption)))))
          refine wpAnyH_take (i := 0) (v := ?_) rfl (by kernel_rfl) (by kernel_rfl) (by kernel_rfl) (fun _ _ _ h => h) (Or.inl ⟨by kernel_rfl, ?_⟩) (by assumption) ?_
          rotate_left
          · (intro wx hSw; (try dsimp only at hSw); go_simp; try (with_reducible rfl))
          try simp only [Act.put, List.getElem_toArray, List.getElem_cons_succ, List.getElem_cons_zero, List.setIfInBounds_toArray, List.set_cons_zero, List.set_cons_succ]
          refine wpAnyH_take (i := 1) (v := ?_) rfl (by kernel_rfl) (by kernel_rfl) (by kernel_rfl) (fun _ _ _ h => h) (Or.inl ⟨by kernel_rfl, ?_⟩) (by assumption) ?_
          rotate_left
          · (intro wx hSw; (try dsimp only at hSw); go_simp; try (with_reducible rfl))
          try simp only [Act.put, List.getElem_toArray, List.getElem_cons_succ, List.getElem_cons_zero, List.setIfInBounds_toArray, List.set_cons_zero, List.set_cons_succ]
          refine wpAnyH_take (i := 2) (v := ?_) rfl (by kernel_rfl) (by kernel_rfl) (by kernel_rfl) (fun _ _ _ h => h) (Or.inl ⟨by kernel_rfl, ?_⟩) (by assumption) ?_
          rotate_left
          · (intro wx hSw; (try dsimp only at hSw); go_simp; try (with_reducible rfl))
          try simp only [Act.put, List.getElem_toArray, List.getElem_cons_succ, List.getElem_cons_zero, List.setIfInBounds_toArray, List.set_cons_zero, List.set_cons_succ]
          refine wpAnyH_take (i := 3) (v := ?_) rfl (by kernel_rfl) (by kernel_rfl) (by kernel_rfl) (fun _ _ _ h => h) (Or.inl ⟨by kernel_rfl, ?_⟩) (by assumption) ?_
          rotate_left
          · (intro wx hSw; (try dsimp only at hSw); go_simp; try (with_reducible rfl))
          try simp only [Act.put, List.getElem_toArray, List.getElem_cons_succ, List.getElem_cons_zero, List.setIfInBounds_toArray, List.set_cons_zero, List.set_cons_succ]
          refine wpAnyH_take (i := 4) (v := ?_) rfl (by kernel_rfl) (by kernel_rfl) (by kernel_rfl) (fun _ _ _ h => h) (Or.inl ⟨by kernel_rfl, ?_⟩) (by assumption) ?_
          rotate_left
          · (intro wx hSw; (try dsimp only at hSw); go_simp; try (with_reducible rfl))
          try simp only [Act.put, List.getElem_toArray, List.getElem_cons_succ, List.getElem_cons_zero, List.setIfInBounds_toArray, List.set_cons_zero, List.set_cons_succ]
          refine wpAnyH_ready (rs := [5]) (by kernel_rfl) (by simp) ?_
          refine AllReadyH.cons rfl (fun K hK => ?_) AllReadyH.nil
          go_simp
          (go_at_call 23; refine (l1Node_any N x _ _).mono ?_; rintro e w5 ⟨rfl, hb5⟩; rw [HNB.out, HD.out])
          try (go_wp2_with fail)
          refine hK.out _ _ ?_ (fun hHeld => ?_)
          · (exact HSH.out _ (by repeat' (first | exact Bl.refl _ | with_reducible assumption | with_reducible refine Bl.drew_ ?_ | with_reducible refine Bl.drewN_ ?_ _ | with_reducible refine Bl.alloc_ ?_ _ | with_reducible refine Bl.trans_ ?_ (by assumption) | with_reducible refine Bl.trans_ ?_ (And.left (by assumption)))))
          clear hK K
          try simp only [Act.put, List.getElem_toArray, List.getElem_cons_succ, List.getElem_cons_zero, List.setIfInBounds_toArray, List.set_cons_zero, List.set_cons_succ]
          refine wpAnyH_take (i := 6) (v := ?_) rfl (by kernel_rfl) (by kernel_rfl) (by kernel_rfl) (fun _ _ _ h => h) (Or.inl ⟨by kernel_rfl, ?_⟩) (by assumption) ?_
          rotate_left
          · (intro wx hSw; (try dsimp only at hSw); go_simp; try (with_reducible rfl))
          try simp only [Act.put, List.getElem_toArray, List.getElem_cons_succ, List.getElem_cons_zero, List.setIfInBounds_toArray, List.set_cons_zero, List.set_cons_succ]
          refine wpAnyH_take (i := 7) (v := ?_) rfl (by kernel_rfl) (by kernel_rfl) (by kernel_rfl) (fun _ _ _ h => h) (Or.inl ⟨by kernel_rfl, ?_⟩) (by assumption) ?_
          rotate_left
          · (intro wx hSw; (try dsimp only at hSw); go_simp; try (with_reducible rfl))
          try simp only [Act.put, List.getElem_toArray, List.getElem_cons_succ, List.getElem_cons_zero, List.setIfInBounds_toArray, List.set_cons_zero, List.set_cons_succ]
          refine wpAnyH_take (i := 8) (v := ?_) rfl (by kernel_rfl) (by kernel_rfl) (by kernel_rfl) (fun _ _ _ h => h) (Or.inl ⟨by kernel_rfl, ?_⟩) (by assumption) ?_
          rotate_left
          · (intro wx hSw; (try dsimp only at hSw); go_simp; try (with_reducible rfl))
          try simp only [Act.put, List.getElem_toArray, List.getElem_cons_succ, List.getElem_cons_zero, List.setIfInBounds_toArray, List.set_cons_zero, List.set_cons_succ]
          refine wpAnyH_take (i := 9) (v := ?_) rfl (by kernel_rfl) (by kernel_rfl) (by kernel_rfl) (fun _ _ _ h => h) (Or.inl ⟨by kernel_rfl, ?_⟩) (by assumption) ?_
          rotate_left
          · (intro wx hSw; (try dsimp only at hSw); go_simp; try (with_reducible rfl))
          try simp only [Act.put, List.getElem_toArray, List.getElem_cons_succ, List.getElem_cons_zero, List.setIfInBounds_toArray, List.set_cons_zero, List.set_cons_succ]
          refine wpAnyH_take (i := 10) (v := ?_) rfl (by kernel_rfl) (by kernel_rfl) (by kernel_rfl) (fun _ _ _ h => h) (Or.inl ⟨by kernel_rfl, ?_⟩) (by assumption) ?_
          rotate_left
          · (intro wx hSw; (try dsimp only at hSw); go_simp; try (with_reducible rfl))
          try simp only [Act.put, List.getElem_toArray, List.getElem_cons_succ, List.getElem_cons_zero, List.setIfInBounds_toArray, List.set_cons_zero, List.set_cons_succ]
          refine wpAnyH_take (i := 11) (v := ?_) rfl (by kernel_rfl) (by kernel_rfl) (by kernel_rfl) (fun _ _ _ h => h) (Or.inl ⟨by kernel_rfl, ?_⟩) (by assumption) ?_
          rotate_left
          · (intro wx hSw; (try dsimp only at hSw); go_simp; try (with_reducible rfl))
          try simp only [Act.put, List.getElem_toArray, List.getElem_cons_succ, List.getElem_cons_zero, List.setIfInBounds_toArray, List.set_cons_zero, List.set_cons_succ]
          refine wpAnyH_take (i := 12) (v := ?_) rfl (by kernel_rfl) (by kernel_rfl) (by kernel_rfl) (fun _ _ _ h => h) (Or.inl ⟨by kernel_rfl, ?_⟩) (by assumption) ?_
          rotate_left
          · (intro wx hSw; (try dsimp only at hSw); go_simp; try (with_reducible rfl))
          try simp only [Act.put, List.getElem_toArray, List.getElem_cons_succ, List.getElem_cons_zero, List.setIfInBounds_toArray, List.set_cons_zero, List.set_cons_succ]
          refine wpAnyH_take (i := 13) (v := ?_) rfl (by kernel_rfl) (by kernel_rfl) (by kernel_rfl) (fun _ _ _ h => h) (Or.inl ⟨by kernel_rfl, ?_⟩) (by assumption) ?_
          rotate_left
          · (intro wx hSw; (try dsimp only at hSw); go_simp; try (with_reducible rfl))
          try simp only [Act.put, List.getElem_toArray, List.getElem_cons_succ, List.getElem_cons_zero, List.setIfInBounds_toArray, List.set_cons_zero, List.set_cons_succ]
          refine wpAnyH_take (i := 14) (v := ?_) rfl (by kernel_rfl) (by kernel_rfl) (by kernel_rfl) (fun _ _ _ h => h) (Or.inl ⟨by kernel_rfl, ?_⟩) (by assumption) ?_
          rotate_left
          · (intro wx hSw; (try dsimp only at hSw); go_simp; try (with_reducible rfl))
          try simp only [Act.put, List.getElem_toArray, List.getElem_cons_succ, List.getElem_cons_zero, List.setIfInBounds_toArray, List.set_cons_zero, List.set_cons_succ]
          refine wpAnyH_ready (rs := [15]) (by kernel_rfl) (by simp) ?_
          refine AllReadyH.cons rfl (fun K hK => ?_) AllReadyH.nil
          go_simp
          (go_at_call 26; refine (l1Has_any _ _ (V.take j) j LEN.out x _ (by omega) (TAK.out.bl (BW.out.trans_ (by repeat' (first | exact Bl.refl _ | with_reducible assumption | with_reducible refine Bl.drew_ ?_ | with_reducible refine Bl.drewN_ ?_ _ | with_reducible refine Bl.alloc_ ?_ _ | with_reducible refine Bl.trans_ ?_ (by assumption) | with_reducible refine Bl.trans_ ?_ (And.left (by assumption))))))).mono ?_; rintro e w6 ⟨rfl, hb6⟩; rw [HD2.out])
          try (go_wp2_with fail)
          refine hK.out _ _ ?_ (fun hHeld => ?_)
          · (exact HSH.out _ (by repeat' (first | exact Bl.refl _ | with_reducible assumption | with_reducible refine Bl.drew_ ?_ | with_reducible refine Bl.drewN_ ?_ _ | with_reducible refine Bl.alloc_ ?_ _ | with_reducible refine Bl.trans_ ?_ (by assumption) | with_reducible refine Bl.trans_ ?_ (And.left (by assumption)))))
          clear hK K
          try simp only [Act.put, List.getElem_toArray, List.getElem_cons_succ, List.getElem_cons_zero, List.setIfInBounds_toArray, List.set_cons_zero, List.set_cons_succ]
          refine wpAnyH_take (i := 16) (v := ?_) rfl (by kernel_rfl) (by kernel_rfl) (by kernel_rfl) (fun _ _ _ h => h) (Or.inl ⟨by kernel_rfl, ?_⟩) (by assumption) ?_
          rotate_left
          · (intro wx hSw; (try dsimp only at hSw); go_simp; try (with_reducible rfl))
          try simp only [Act.put, List.getElem_toArray, List.getElem_cons_succ, List.getElem_cons_zero, List.setIfInBounds_toArray, List.set_cons_zero, List.set_cons_succ]
          refine wpAnyH_done (by kernel_rfl) ?_ _
          go_wp2
          go_ret
          refine ⟨ret_bool ?_, BW.out.trans_ (by repeat' (first | exact Bl.refl _ | with_reducible assumption | with_reducible refine Bl.drew_ ?_ | with_reducible refine Bl.drewN_ ?_ _ | with_reducible refine Bl.alloc_ ?_ _ | with_reducible refine Bl.trans_ ?_ (by assumption) | with_reducible refine Bl.trans_ ?_ (And.left (by assumption))))⟩
          unfold unB
          exact (decide_eq_false fun h => HY.out h.2).symm
        · have hd2 : decide (x ∈ V.take j) = false := decide_eq_false hmem
          have HD2 := Lib.hid hd2
          have HZ := Lib.hid (NO.out hin hmem)
          clear YES NO NOT hmem hd2
          go_wp2_with fail
          refine wp_region_held_drew (S := fun wx => Bl wr wx ∧ wx.cell? ⟨w.heap.size, 0, none⟩ = some (.int .i64 N) ∧ wx.cell? ⟨w.heap.size, 1, none⟩ = some (.slice A n c) ∧ wx.cell? ⟨g2, o2 + j, none⟩ = some (.int .i64 x)) (by kernel_rfl) ?_ (fun hHeld => ?_)
          · (exact HSH.out _ (by repeat' (first | exact Bl.refl _ | with_reducible assumption | with_reducible refine Bl.drew_ ?_ | with_reducible refine Bl.drewN_ ?_ _ | with_reducible refine Bl.alloc_ ?_ _ | with_reducible refine Bl.trans_ ?_ (by assumption) | with_reducible refine Bl.trans_ ?_ (And.left (by assumption)))))
          refine wpAnyH_take (i := 0) (v := ?_) rfl (by kernel_rfl) (by kernel_rfl) (by kernel_rfl) (fun _ _ _ h => h) (Or.inl ⟨by kernel_rfl, ?_⟩) (by assumption) ?_
          rotate_left
          · (intro wx hSw; (try dsimp only at hSw); go_simp; try (with_reducible rfl))
          try simp only [Act.put, List.getElem_toArray, List.getElem_cons_succ, List.getElem_cons_zero, List.setIfInBounds_toArray, List.set_cons_zero, List.set_cons_succ]
          refine wpAnyH_take (i := 1) (v := ?_) rfl (by kernel_rfl) (by kernel_rfl) (by kernel_rfl) (fun _ _ _ h => h) (Or.inl ⟨by kernel_rfl, ?_⟩) (by assumption) ?_
          rotate_left
          · (intro wx hSw; (try dsimp only at hSw); go_simp; try (with_reducible rfl))
          try simp only [Act.put, List.getElem_toArray, List.getElem_cons_succ, List.getElem_cons_zero, List.setIfInBounds_toArray, List.set_cons_zero, List.set_cons_succ]
          refine wpAnyH_take (i := 2) (v := ?_) rfl (by kernel_rfl) (by kernel_rfl) (by kernel_rfl) (fun _ _ _ h => h) (Or.inl ⟨by kernel_rfl, ?_⟩) (by assumption) ?_
          rotate_left
          · (intro wx hSw; (try dsimp only at hSw); go_simp; try (with_reducible rfl))
          try simp only [Act.put, List.getElem_toArray, List.getElem_cons_succ, List.getElem_cons_zero, List.setIfInBounds_toArray, List.set_cons_zero, List.set_cons_succ]
          refine wpAnyH_take (i := 3) (v := ?_) rfl (by kernel_rfl) (by kernel_rfl) (by kernel_rfl) (fun _ _ _ h => h) (Or.inl ⟨by kernel_rfl, ?_⟩) (by assumption) ?_
          rotate_left
          · (intro wx hSw; (try dsimp only at hSw); go_simp; try (with_reducible rfl))
          try simp only [Act.put, List.getElem_toArray, List.getElem_cons_succ, List.getElem_cons_zero, List.setIfInBounds_toArray, List.set_cons_zero, List.set_cons_succ]
          refine wpAnyH_take (i := 4) (v := ?_) rfl (by kernel_rfl) (by kernel_rfl) (by kernel_rfl) (fun _ _ _ h => h) (Or.inl ⟨by kernel_rfl, ?_⟩) (by assumption) ?_
          rotate_left
          · (intro wx hSw; (try dsimp only at hSw); go_simp; try (with_reducible rfl))
          try simp only [Act.put, List.getElem_toArray, List.getElem_cons_succ, List.getElem_cons_zero, List.setIfInBounds_toArray, List.set_cons_zero, List.set_cons_succ]
          refine wpAnyH_ready (rs := [5]) (by kernel_rfl) (by simp) ?_
          refine AllReadyH.cons rfl (fun K hK => ?_) AllReadyH.nil
          go_simp
          (go_at_call 23; refine (l1Node_any N x _ _).mono ?_; rintro e w5 ⟨rfl, hb5⟩; rw [HNB.out, HD.out])
          try (go_wp2_with fail)
          refine hK.out _ _ ?_ (fun hHeld => ?_)
          · (exact HSH.out _ (by repeat' (first | exact Bl.refl _ | with_reducible assumption | with_reducible refine Bl.drew_ ?_ | with_reducible refine Bl.drewN_ ?_ _ | with_reducible refine Bl.alloc_ ?_ _ | with_reducible refine Bl.trans_ ?_ (by assumption) | with_reducible refine Bl.trans_ ?_ (And.left (by assumption)))))
          clear hK K
          try simp only [Act.put, List.getElem_toArray, List.getElem_cons_succ, List.getElem_cons_zero, List.setIfInBounds_toArray, List.set_cons_zero, List.set_cons_succ]
          refine wpAnyH_take (i := 6) (v := ?_) rfl (by kernel_rfl) (by kernel_rfl) (by kernel_rfl) (fun _ _ _ h => h) (Or.inl ⟨by kernel_rfl, ?_⟩) (by assumption) ?_
          rotate_left
          · (intro wx hSw; (try dsimp only at hSw); go_simp; try (with_reducible rfl))
          try simp only [Act.put, List.getElem_toArray, List.getElem_cons_succ, List.getElem_cons_zero, List.setIfInBounds_toArray, List.set_cons_zero, List.set_cons_succ]
          refine wpAnyH_take (i := 7) (v := ?_) rfl (by kernel_rfl) (by kernel_rfl) (by kernel_rfl) (fun _ _ _ h => h) (Or.inl ⟨by kernel_rfl, ?_⟩) (by assumption) ?_
          rotate_left
          · (intro wx hSw; (try dsimp only at hSw); go_simp; try (with_reducible rfl))
          try simp only [Act.put, List.getElem_toArray, List.getElem_cons_succ, List.getElem_cons_zero, List.setIfInBounds_toArray, List.set_cons_zero, List.set_cons_succ]
          refine wpAnyH_take (i := 8) (v := ?_) rfl (by kernel_rfl) (by kernel_rfl) (by kernel_rfl) (fun _ _ _ h => h) (Or.inl ⟨by kernel_rfl, ?_⟩) (by assumption) ?_
          rotate_left
          · (intro wx hSw; (try dsimp only at hSw); go_simp; try (with_reducible rfl))
          try simp only [Act.put, List.getElem_toArray, List.getElem_cons_succ, List.getElem_cons_zero, List.setIfInBounds_toArray, List.set_cons_zero, List.set_cons_succ]
          refine wpAnyH_take (i := 9) (v := ?_) rfl (by kernel_rfl) (by kernel_rfl) (by kernel_rfl) (fun _ _ _ h => h) (Or.inl ⟨by kernel_rfl, ?_⟩) (by assumption) ?_
          rotate_left
          · (intro wx hSw; (try dsimp only at hSw); go_simp; try (with_reducible rfl))
          try simp only [Act.put, List.getElem_toArray, List.getElem_cons_succ, List.getElem_cons_zero, List.setIfInBounds_toArray, List.set_cons_zero, List.set_cons_succ]
          refine wpAnyH_take (i := 10) (v := ?_) rfl (by kernel_rfl) (by kernel_rfl) (by kernel_rfl) (fun _ _ _ h => h) (Or.inl ⟨by kernel_rfl, ?_⟩) (by assumption) ?_
          rotate_left
          · (intro wx hSw; (try dsimp only at hSw); go_simp; try (with_reducible rfl))
          try simp only [Act.put, List.getElem_toArray, List.getElem_cons_succ, List.getElem_cons_zero, List.setIfInBounds_toArray, List.set_cons_zero, List.set_cons_succ]
          refine wpAnyH_take (i := 11) (v := ?_) rfl (by kernel_rfl) (by kernel_rfl) (by kernel_rfl) (fun _ _ _ h => h) (Or.inl ⟨by kernel_rfl, ?_⟩) (by assumption) ?_
          rotate_left
          · (intro wx hSw; (try dsimp only at hSw); go_simp; try (with_reducible rfl))
          try simp only [Act.put, List.getElem_toArray, List.getElem_cons_succ, List.getElem_cons_zero, List.setIfInBounds_toArray, List.set_cons_zero, List.set_cons_succ]
          refine wpAnyH_take (i := 12) (v := ?_) rfl (by kernel_rfl) (by kernel_rfl) (by kernel_rfl) (fun _ _ _ h => h) (Or.inl ⟨by kernel_rfl, ?_⟩) (by assumption) ?_
          rotate_left
          · (intro wx hSw; (try dsimp only at hSw); go_simp; try (with_reducible rfl))
          try simp only [Act.put, List.getElem_toArray, List.getElem_cons_succ, List.getElem_cons_zero, List.setIfInBounds_toArray, List.set_cons_zero, List.set_cons_succ]
          refine wpAnyH_take (i := 13) (v := ?_) rfl (by kernel_rfl) (by kernel_rfl) (by kernel_rfl) (fun _ _ _ h => h) (Or.inl ⟨by kernel_rfl, ?_⟩) (by assumption) ?_
          rotate_left
          · (intro wx hSw; (try dsimp only at hSw); go_simp; try (with_reducible rfl))
          try simp only [Act.put, List.getElem_toArray, List.getElem_cons_succ, List.getElem_cons_zero, List.setIfInBounds_toArray, List.set_cons_zero, List.set_cons_succ]
          refine wpAnyH_take (i := 14) (v := ?_) rfl (by kernel_rfl) (by kernel_rfl) (by kernel_rfl) (fun _ _ _ h => h) (Or.inl ⟨by kernel_rfl, ?_⟩) (by assumption) ?_
          rotate_left
          · (intro wx hSw; (try dsimp only at hSw); go_simp; try (with_reducible rfl))
          try simp only [Act.put, List.getElem_toArray, List.getElem_cons_succ, List.getElem_cons_zero, List.setIfInBounds_toArray, List.set_cons_zero, List.set_cons_succ]
          refine wpAnyH_ready (rs := [15]) (by kernel_rfl) (by simp) ?_
          refine AllReadyH.cons rfl (fun K hK => ?_) AllReadyH.nil
          go_simp
          (go_at_call 26; refine (l1Has_any _ _ (V.take j) j LEN.out x _ (by omega) (TAK.out.bl (BW.out.trans_ (by repeat' (first | exact Bl.refl _ | with_reducible assumption | with_reducible refine Bl.drew_ ?_ | with_reducible refine Bl.drewN_ ?_ _ | with_reducible refine Bl.alloc_ ?_ _ | with_reducible refine Bl.trans_ ?_ (by assumption) | with_reducible refine Bl.trans_ ?_ (And.left (by assumption))))))).mono ?_; rintro e w6 ⟨rfl, hb6⟩; rw [HD2.out])
          try (go_wp2_with fail)
          refine hK.out _ _ ?_ (fun hHeld => ?_)
          · (exact HSH.out _ (by repeat' (first | exact Bl.refl _ | with_reducible assumption | with_reducible refine Bl.drew_ ?_ | with_reducible refine Bl.drewN_ ?_ _ | with_reducible refine Bl.alloc_ ?_ _ | with_reducible refine Bl.trans_ ?_ (by assumption) | with_reducible refine Bl.trans_ ?_ (And.left (by assumption)))))
          clear hK K
          try simp only [Act.put, List.getElem_toArray, List.getElem_cons_succ, List.getElem_cons_zero, List.setIfInBounds_toArray, List.set_cons_zero, List.set_cons_succ]
          refine wpAnyH_take (i := 16) (v := ?_) rfl (by kernel_rfl) (by kernel_rfl) (by kernel_rfl) (fun _ _ _ h => h) (Or.inl ⟨by kernel_rfl, ?_⟩) (by assumption) ?_
          rotate_left
          · (intro wx hSw; (try dsimp only at hSw); go_simp; try (with_reducible rfl))
          try simp only [Act.put, List.getElem_toArray, List.getElem_cons_succ, List.getElem_cons_zero, List.setIfInBounds_toArray, List.set_cons_zero, List.set_cons_succ]
          refine wpAnyH_done (by kernel_rfl) ?_ _
          go_wp2
          go_roundw
          case rel =>
            exact ⟨j + 1, by omega, by go_num, BB.out.trans_ (by repeat' (first | exact Bl.refl _ | with_reducible assumption | with_reducible refine Bl.drew_ ?_ | with_reducible refine Bl.drewN_ ?_ _ | with_reducible refine Bl.alloc_ ?_ _ | with_reducible refine Bl.trans_ ?_ (by assumption) | with_reducible refine Bl.trans_ ?_ (And.left (by assumption)))), HZ⟩
          case measure => simp [intOf]; omega
      · have hd : decide (0 ≤ x ∧ x < N) = false := by simpa using hin
        have HD := Lib.hid hd
        have HZ := Lib.hid (NOT.out hin)
        clear hd YES NO NOT hin
        go_wp2_with fail
        refine wp_region_held_drew (S := fun wx => Bl wr wx ∧ wx.cell? ⟨w.heap.size, 0, none⟩ = some (.int .i64 N) ∧ wx.cell? ⟨w.heap.size, 1, none⟩ = some (.slice A n c) ∧ wx.cell? ⟨g2, o2 + j, none⟩ = some (.int .i64 x)) (by kernel_rfl) ?_ (fun hHeld => ?_)
        · (exact HSH.out _ (by repeat' (first | exact Bl.refl _ | with_reducible assumption | with_reducible refine Bl.drew_ ?_ | with_reducible refine Bl.drewN_ ?_ _ | with_reducible refine Bl.alloc_ ?_ _ | with_reducible refine Bl.trans_ ?_ (by assumption) | with_reducible refine Bl.trans_ ?_ (And.left (by assumption)))))
        refine wpAnyH_take (i := 0) (v := ?_) rfl (by kernel_rfl) (by kernel_rfl) (by kernel_rfl) (fun _ _ _ h => h) (Or.inl ⟨by kernel_rfl, ?_⟩) (by assumption) ?_
        rotate_left
        · (intro wx hSw; (try dsimp only at hSw); go_simp; try (with_reducible rfl))
        try simp only [Act.put, List.getElem_toArray, List.getElem_cons_succ, List.getElem_cons_zero, List.setIfInBounds_toArray, List.set_cons_zero, List.set_cons_succ]
        refine wpAnyH_take (i := 1) (v := ?_) rfl (by kernel_rfl) (by kernel_rfl) (by kernel_rfl) (fun _ _ _ h => h) (Or.inl ⟨by kernel_rfl, ?_⟩) (by assumption) ?_
        rotate_left
        · (intro wx hSw; (try dsimp only at hSw); go_simp; try (with_reducible rfl))
        try simp only [Act.put, List.getElem_toArray, List.getElem_cons_succ, List.getElem_cons_zero, List.setIfInBounds_toArray, List.set_cons_zero, List.set_cons_succ]
        refine wpAnyH_take (i := 2) (v := ?_) rfl (by kernel_rfl) (by kernel_rfl) (by kernel_rfl) (fun _ _ _ h => h) (Or.inl ⟨by kernel_rfl, ?_⟩) (by assumption) ?_
        rotate_left
        · (intro wx hSw; (try dsimp only at hSw); go_simp; try (with_reducible rfl))
        try simp only [Act.put, List.getElem_toArray, List.getElem_cons_succ, List.getElem_cons_zero, List.setIfInBounds_toArray, List.set_cons_zero, List.set_cons_succ]
        refine wpAnyH_take (i := 3) (v := ?_) rfl (by kernel_rfl) (by kernel_rfl) (by kernel_rfl) (fun _ _ _ h => h) (Or.inl ⟨by kernel_rfl, ?_⟩) (by assumption) ?_
        rotate_left
        · (intro wx hSw; (try dsimp only at hSw); go_simp; try (with_reducible rfl))
        try simp only [Act.put, List.getElem_toArray, List.getElem_cons_succ, List.getElem_cons_zero, List.setIfInBounds_toArray, List.set_cons_zero, List.set_cons_succ]
        refine wpAnyH_take (i := 4) (v := ?_) rfl (by kernel_rfl) (by kernel_rfl) (by kernel_rfl) (fun _ _ _ h => h) (Or.inl ⟨by kernel_rfl, ?_⟩) (by assumption) ?_
        rotate_left
        · (intro wx hSw; (try dsimp only at hSw); go_simp; try (with_reducible rfl))
        try simp only [Act.put, List.getElem_toArray, List.getElem_cons_succ, List.getElem_cons_zero, List.setIfInBounds_toArray, List.set_cons_zero, List.set_cons_succ]
        refine wpAnyH_ready (rs := [5]) (by kernel_rfl) (by simp) ?_
        refine AllReadyH.cons rfl (fun K hK => ?_) AllReadyH.nil
        go_simp
        (go_at_call 23; refine (l1Node_any N x _ _).mono ?_; rintro e w5 ⟨rfl, hb5⟩; rw [HNB.out, HD.out])
        try (go_wp2_with fail)
        refine hK.out _ _ ?_ (fun hHeld => ?_)
        · (exact HSH.out _ (by repeat' (first | exact Bl.refl _ | with_reducible assumption | with_reducible refine Bl.drew_ ?_ | with_reducible refine Bl.drewN_ ?_ _ | with_reducible refine Bl.alloc_ ?_ _ | with_reducible refine Bl.trans_ ?_ (by assumption) | with_reducible refine Bl.trans_ ?_ (And.left (by assumption)))))
        clear hK K
        try simp only [Act.put, List.getElem_toArray, List.getElem_cons_succ, List.getElem_cons_zero, List.setIfInBounds_toArray, List.set_cons_zero, List.set_cons_succ]
        refine wpAnyH_take (i := 6) (v := ?_) rfl (by kernel_rfl) (by kernel_rfl) (by kernel_rfl) (fun _ _ _ h => h) (Or.inl ⟨by kernel_rfl, ?_⟩) (by assumption) ?_
        rotate_left
        · (intro wx hSw; (try dsimp only at hSw); go_simp; try (with_reducible rfl))
        try simp only [Act.put, List.getElem_toArray, List.getElem_cons_succ, List.getElem_cons_zero, List.setIfInBounds_toArray, List.set_cons_zero, List.set_cons_succ]
        refine wpAnyH_take (i := 7) (v := ?_) rfl (by kernel_rfl) (by kernel_rfl) (by kernel_rfl) (fun _ _ _ h => h) (Or.inl ⟨by kernel_rfl, ?_⟩) (by assumption) ?_
        rotate_left
        · (intro wx hSw; (try dsimp only at hSw); go_simp; try (with_reducible rfl))
        try simp only [Act.put, List.getElem_toArray, List.getElem_cons_succ, List.getElem_cons_zero, List.setIfInBounds_toArray, List.set_cons_zero, List.set_cons_succ]
        refine wpAnyH_take (i := 8) (v := undef) rfl (by kernel_rfl) (by kernel_rfl) (by kernel_rfl) (fun _ _ _ h => h) (Or.inr ⟨by kernel_rfl, rfl⟩) (by assumption) ?_
        try simp only [Act.put, List.getElem_toArray, List.getElem_cons_succ, List.getElem_cons_zero, List.setIfInBounds_toArray, List.set_cons_zero, List.set_cons_succ]
        refine wpAnyH_take (i := 9) (v := undef) rfl (by kernel_rfl) (by kernel_rfl) (by kernel_rfl) (fun _ _ _ h => h) (Or.inr ⟨by kernel_rfl, rfl⟩) (by assumption) ?_
        try simp only [Act.put, List.getElem_toArray, List.getElem_cons_succ, List.getElem_cons_zero, List.setIfInBounds_toArray, List.set_cons_zero, List.set_cons_succ]
        refine wpAnyH_take (i := 10) (v := undef) rfl (by kernel_rfl) (by kernel_rfl) (by kernel_rfl) (fun _ _ _ h => h) (Or.inr ⟨by kernel_rfl, rfl⟩) (by assumption) ?_
        try simp only [Act.put, List.getElem_toArray, List.getElem_cons_succ, List.getElem_cons_zero, List.setIfInBounds_toArray, List.set_cons_zero, List.set_cons_succ]
        refine wpAnyH_take (i := 11) (v := undef) rfl (by kernel_rfl) (by kernel_rfl) (by kernel_rfl) (fun _ _ _ h => h) (Or.inr ⟨by kernel_rfl, rfl⟩) (by assumption) ?_
        try simp only [Act.put, List.getElem_toArray, List.getElem_cons_succ, List.getElem_cons_zero, List.setIfInBounds_toArray, List.set_cons_zero, List.set_cons_succ]
        refine wpAnyH_take (i := 12) (v := undef) rfl (by kernel_rfl) (by kernel_rfl) (by kernel_rfl) (fun _ _ _ h => h) (Or.inr ⟨by kernel_rfl, rfl⟩) (by assumption) ?_
        try simp only [Act.put, List.getElem_toArray, List.getElem_cons_succ, List.getElem_cons_zero, List.setIfInBounds_toArray, List.set_cons_zero, List.set_cons_succ]
        refine wpAnyH_take (i := 13) (v := undef) rfl (by kernel_rfl) (by kernel_rfl) (by kernel_rfl) (fun _ _ _ h => h) (Or.inr ⟨by kernel_rfl, rfl⟩) (by assumption) ?_
        try simp only [Act.put, List.getElem_toArray, List.getElem_cons_succ, List.getElem_cons_zero, List.setIfInBounds_toArray, List.set_cons_zero, List.set_cons_succ]
        refine wpAnyH_take (i := 14) (v := undef) rfl (by kernel_rfl) (by kernel_rfl) (by kernel_rfl) (fun _ _ _ h => h) (Or.inr ⟨by kernel_rfl, rfl⟩) (by assumption) ?_
        try simp only [Act.put, List.getElem_toArray, List.getElem_cons_succ, List.getElem_cons_zero, List.setIfInBounds_toArray, List.set_cons_zero, List.set_cons_succ]
        refine wpAnyH_ready (rs := [15]) (by kernel_rfl) (by simp) ?_
        refine AllReadyH.cons rfl (fun K hK => ?_) AllReadyH.nil
        go_simp
        refine hK.out _ _ ?_ (fun hHeld => ?_)
        · (exact HSH.out _ (by repeat' (first | exact Bl.refl _ | with_reducible assumption | with_reducible refine Bl.drew_ ?_ | with_reducible refine Bl.drewN_ ?_ _ | with_reducible refine Bl.alloc_ ?_ _ | with_reducible refine Bl.trans_ ?_ (by assumption) | with_reducible refine Bl.trans_ ?_ (And.left (by assumption)))))
        clear hK K
        try simp only [Act.put, List.getElem_toArray, List.getElem_cons_succ, List.getElem_cons_zero, List.setIfInBounds_toArray, List.set_cons_zero, List.set_cons_succ]
        refine wpAnyH_take (i := 16) (v := ?_) rfl (by kernel_rfl) (by kernel_rfl) (by kernel_rfl) (fun _ _ _ h => h) (Or.inl ⟨by kernel_rfl, ?_⟩) (by assumption) ?_
        rotate_left
        · (intro wx hSw; (try dsimp only at hSw); go_simp; try (with_reducible rfl))
        try simp only [Act.put, List.getElem_toArray, List.getElem_cons_succ, List.getElem_cons_zero, List.setIfInBounds_toArray, List.set_cons_zero, List.set_cons_succ]
        refine wpAnyH_done (by kernel_rfl) ?_ _
        go_wp2
        go_ret
        refine ⟨ret_bool ?_, BW.out.trans_ (by repeat' (first | exact Bl.refl _ | with_reducible assumption | with_reducible refine Bl.drew_ ?_ | with_reducible refine Bl.drewN_ ?_ _ | with_reducible refine Bl.alloc_ ?_ _ | with_reducible refine Bl.trans_ ?_ (by assumption) | with_reducible refine Bl.trans_ ?_ (And.left (by assumption))))⟩
        unfold unB
        exact (decide_eq_false HZ.out).symm
    · have HZ := Lib.hid (show (∀ v ∈ V, 0 ≤ v ∧ v < N) ∧ V.Nodup from ⟨fun v hv => by
        obtain ⟨t, ht, rfl⟩ := List.mem_iff_getElem.1 hv
        exact hno.out.1 t ht (by have := HK.out; omega), by
        have := hno.out.2
        rwa [List.take_of_length_le (by have := HK.out; omega)] at this⟩)
      go_wp2
      go_ret
      refine ⟨ret_bool ?_, BW.out⟩
      unfold unB
      exact (decide_eq_true HZ.out).symm

end Go.Proofs.Ytndkdeiojkclbaa

set_option linter.unusedSimpArgs false
set_option linter.unusedVariables false
namespace Go.Proofs.Ytndkdeiojkclbaa
open Go.RowKit

/-- A graph and a row of numbers of its own that are drawn by a code. -/
def DrawnGN (w : World) (e : Ending) (w' : World) : Prop :=
  ∃ (N : Int) (A' : Option Addr) (l c' : Nat) (L : List Arc3) (A3 : Option Addr) (k c3 : Nat) (V : List Int), e = .returned (.tuple #[.agg #[.int .i64 N, .slice A' l c'], .slice A3 k c3]) ∧ Drawn w.heap.size w' N A' l c' L ∧ k = V.length ∧ k ≤ 1048576 ∧ OwnN w' w.heap.size (.slice A3 k c3) V ∧ Bl w w'

theorem RdAny.grow_ {w w' : World} {rd : Nat} {A : Option Addr} {n c : Nat} {row : Option Nat} (h : RdAny w rd A n c) (hg : w.grownBy w' row) (hne : some rd ≠ row) (hA : 0 < n → ∀ g off, A = some ⟨g, off, none⟩ → some g ≠ row) : RdAny w' rd A n c := by
  obtain ⟨p, hr, hp, hc⟩ := h
  refine ⟨p, World.rowIs.of_block hr (hg.block rd hr.lt hne), hp, fun h0 => ?_⟩
  obtain ⟨g, off, e, hne', hlt, hcell⟩ := hc h0
  refine ⟨g, off, e, hne', Nat.lt_of_lt_of_le hlt hg.size, fun j hj => ?_⟩
  obtain ⟨b, h1, h2⟩ := hcell j hj
  exact ⟨b, hg.cell h1 (hA h0 g off e), h2⟩
theorem grown_own {a b c : World} {row row2 : Option Nat} (h : a.grownBy b row) (k : b.grownBy c row2) (hr : ∀ g, row2 = some g → a.heap.size ≤ g) : a.grownBy c row :=
  ⟨k.os.trans h.os, k.tape.trans h.tape, k.output.trans h.output, Nat.le_trans h.size k.size, fun i hi hne => (k.block i (Nat.lt_of_lt_of_le hi h.size) (fun e => by have := hr i e.symm; omega)).trans (h.block i hi hne)⟩
theorem own_none (w : World) (B : Nat) (hB : B ≤ w.heap.size) : OwnN (w.alloc (.cells #[] 2)) B (.slice (some ⟨w.heap.size, 0, none⟩) 0 0) [] := by
  refine ⟨by simp [csI], .inr ⟨w.heap.size, 0, #[], by simp, hB, ?_, by simp, by unfold maxLen; omega, by simp, ?_⟩⟩
  · exact World.alloc_heap_new w _
  · simp [csI]

set_option maxRecDepth 100000 in
set_option maxHeartbeats 4000000 in
theorem some_any (most : Int) (N : Int) (v : Value) (rd : Nat) (A : Option Addr) (n c : Nat) (w : World) (hn : n ≤ 1099511627776) (m0 : 0 ≤ most) (m1 : most ≤ 16) (h0 : -9223372036854775808 ≤ N) (h1 : N ≤ 9223372036854775807) (HR : RdAny w rd A n c) (HA : 0 < n → ∀ g off, A = some ⟨g, off, none⟩ → g < w.heap.size) :
    Calls Try.prog 19 #[.pointer (some ⟨rd, 0, none⟩), .agg #[.int .i64 N, v], .int .i64 most] w
      (fun e w' => ∃ (q : Value) (V : List Int), e = .returned q ∧ OwnN w' w.heap.size q V ∧ V.length ≤ 64 ∧ RdAny w' rd A n c ∧ w.grownBy w' (some rd)) := by
  obtain ⟨i0, hi, hz0, hz1, hz2⟩ := info_parts infoInt
  have I0 := Lib.hid hi
  have I1 := Lib.hid hz0
  have I2 := Lib.hid hz1
  have I3 := Lib.hid hz2
  clear hi hz0 hz1 hz2
  have R := Lib.hid HR
  have AL := Lib.hid HA
  have hlt := HR.lt
  clear HR HA
  go_enter Try.func19, Try.ntmps19
  go_wp2_with fail
  refine (below_any (most + 1) rd A n c _ hn (by omega) (R.out.bl (by repeat' (first | exact Bl.refl _ | with_reducible assumption | with_reducible refine Bl.drew_ ?_ | with_reducible refine Bl.drewN_ ?_ _ | with_reducible refine Bl.alloc_ ?_ _ | with_reducible refine Bl.trans_ ?_ (by assumption) | with_reducible refine Bl.trans_ ?_ (And.left (by assumption)))))).mono ?_
  rintro e w1 ⟨b, hb, rfl, hr, hg⟩
  have b0 : 0 ≤ b := hb.1
  have b1 : b ≤ 16 := by omega
  have G1 := Lib.hid (show (w.alloc (.cells #[.int .i64 N, v] 26)).grownBy w1 (some rd) from grown_trans (bl_grown (Bl.alloc_ (Bl.refl _) _) _) hg)
  have O1 := Lib.hid (show OwnN w1 (w.heap.size + 1) (.slice (some ⟨w.heap.size + 1, 0, none⟩) 0 0) [] from by
    have h := own_none (w.alloc (.cells #[.int .i64 N, v] 26)) (w.heap.size + 1) (by simp)
    have h2 := Owns.grown_ h hg (fun g hg' e => by
      injection e with e
      have := (Owns.lt h g hg').1
      omega)
    unfold OwnN
    simpa using h2)
  have R1 := Lib.hid hr
  obtain ⟨X, hX⟩ : ∃ X, X = w.alloc (.cells #[.int .i64 N, v] 26) := ⟨_, rfl⟩
  have SX : X.heap.size = w.heap.size + 1 := by rw [hX, World.size_alloc]
  have BOX := Lib.hid (show ∀ wx, X.grownBy wx (some rd) → wx.cell? ⟨w.heap.size, 0, none⟩ = some (.int .i64 N) ∧ wx.cell? ⟨w.heap.size, 1, none⟩ = some v from fun wx h => by
    rw [hX] at h
    exact ⟨h.cell (by simp [go_sem]) (by simp; omega), h.cell (by simp [go_sem]) (by simp; omega)⟩)
  have BW := Lib.hid (show Bl w X from by rw [hX]; exact Bl.alloc_ (Bl.refl w) _)
  rw [← hX] at G1
  clear hX hr hg hb
  go_wp2_with fail
  go_loopw [7, 8, 9] (fun q i _ wr => ∃ (m : Int) (V : List Int), 0 ≤ m ∧ m ≤ 16 ∧ i = .int .i64 m ∧ (V.length : Int) + m ≤ 16 ∧ OwnN wr (w.heap.size + 1) q V ∧ RdAny wr rd A n c ∧ X.grownBy wr (some rd)) (fun _ i _ _ => (intOf i).toNat)
  case atStart => exact ⟨b, [], b0, b1, rfl, by simp; omega, O1.out, R1.out, G1.out⟩
  case round =>
    obtain ⟨m, V, mm0, mm1, rfl, hVm, hO, hR, hG⟩ := hrel
    have OO := Lib.hid hO
    have RR := Lib.hid hR
    have GG := Lib.hid hG
    obtain ⟨AV, cV, rfl, -, -, -, -⟩ := OwnN.shape hO
    clear hO hR hG O1 R1 G1
    by_cases hm : 0 < m
    · obtain ⟨y0, y1⟩ := BOX.out _ GG.out
      go_wp2_with fail
      refine (node_any N v rd A n c _ hn h0 h1 RR.out).mono ?_
      rintro e w4 ⟨x, hx, rfl, hr, hg⟩
      have O4 := Lib.hid (show OwnN w4 (w.heap.size + 1) (.slice AV V.length cV) V from Owns.grown_ OO.out hg (fun g hg' e => by
        injection e with e
        have := (Owns.lt OO.out g hg').1
        omega))
      have R4 := Lib.hid hr
      have G4 := Lib.hid (grown_trans GG.out hg)
      clear hx hr hg y0 y1
      obtain ⟨AA, cc, e4, -, hi4, -, -⟩ := OwnN.shape O4.out
      injection e4 with e41 e42 e43
      subst e41
      subst e43
      clear e42
      go_wp2_with fail
      refine (l1Has_any AV cV V V.length rfl x _ (by omega) hi4).mono ?_
      rintro e w5 ⟨rfl, hb5⟩
      have O5 := Lib.hid (O4.out.bl hb5)
      have R5 := Lib.hid (R4.out.bl hb5)
      have G5 := Lib.hid (grown_bl G4.out hb5)
      clear hb5 hi4
      cases hx : decide (x ∈ V) with
      | true =>
        go_wp2_with fail
        go_roundw
        case rel => exact ⟨m - 1, V, by omega, by omega, by go_num, by omega, O5.out, R5.out, G5.out⟩
        case measure => simp [intOf]; omega
      | false =>
        obtain ⟨lv, hlv⟩ : ∃ lv, lv = V.length := ⟨_, rfl⟩
        have HLV := Lib.hid hlv
        have OW := Lib.hid (show w5.ownsRow (w.heap.size + 1) 2 1 (.slice AV lv cV) lv (csI V) from by rw [hlv]; exact O5.out)
        rw [← hlv]
        have hlv16 : lv ≤ 16 := by omega
        have s5 := G5.out.size
        clear hlv
        go_wp2_with (at_builtin; refine wpList_append_any _ rfl (.tmp 26) (.tmp 28) _ rfl (w.heap.size + 1) 2 i0 _ 1 8 Try.underlying27 I0.out I1.out I2.out I3.out rfl (by decide) _ lv (csI V) rfl (World.ownsRow.alloc OW.out _) (w5.heap.size + 1) (some ⟨w5.heap.size, 0, none⟩) 1 1 [.int .i64 x] rfl ?c0 (by simp [Value.oneCell']) ?c3 ?c4 ?c5 ?_)
        case c0 =>
          refine ⟨rfl, fun _ => ⟨_, rfl, by show w5.heap.size < w5.heap.size + 1; omega, fun x u hj => ?_⟩⟩
          match x, hj with
          | 0, hj => simp at hj; subst hj; simp [Addr.add, go_sem]
          | (x + 1), hj => simp at hj
        case c3 => unfold maxLen; omega
        case c4 => omega
        case c5 => first | omega | (simp; omega)
        intro v' w8 hown' hgrow hwh
        have O8 := Lib.hid (OwnN.snoc (V := V) (x := x) (n := lv) HLV.out hown')
        have hol := fun g h => (Owns.lt OW.out g h).1
        have GX := Lib.hid (grown_bl G5.out (Bl.alloc_ (Bl.refl w5) (.cells #[.int .i64 x] 2)))
        have G8 := Lib.hid (grown_own GX.out hgrow (fun g hg => by have := hol g hg; omega))
        have R8 := Lib.hid ((R5.out.bl (Bl.alloc_ (Bl.refl w5) (.cells #[.int .i64 x] 2))).grow_ hgrow (fun e => by have := hol rd e.symm; omega) (fun h0 g off e e2 => by have := hol g e2.symm; have := AL.out h0 g off e; omega))
        clear hown' hgrow hwh
        go_wp2
        go_roundw
        case rel => exact ⟨m - 1, V ++ [x], by omega, by omega, by go_num, by have := HLV.out; simp; omega, O8.out, R8.out, G8.out⟩
        case measure => simp [intOf]; omega
    · have hm' : decide (0 < m) = false := by simpa using hm
      go_wp2
      go_ret
      exact ⟨_, rfl, V, OO.out.low (by omega), by omega, RR.out, grown_trans (bl_grown BW.out _) GG.out⟩

theorem step_app1 {P : Program} (w : World) {ops : Array Oper} {o : Oper} {a : Act} {K : Act → World → Prop} {Q : Exit → Act → World → Prop} {E : Prop} (hgd : o.guard = none) (s x : Operand) (t : TypeId)
    (ho : o.op = .call { callee := .builtin .append, args := #[s, x], argTypes := #[t, t] })
    (base : Nat) (e : TypeId) (i : TypeInfo) (z : Value) (size bytes : Nat) (ht : P.underlying t = some (.slice e)) (hi : P.info? e = some i) (hz : i.zero = some z)
    (hsize : i.size = size) (hby : i.bytes = bytes) (hzs : z.cells.size = size) (hsz : 0 < size)
    (v : Value) (n : Nat) (xs : List Value) (hs : a.eval s = v) (hown : w.ownsRow base e size v n xs)
    (B : Nat) (A : Option Addr) (m c : Nat) (news : List Value) (hx : a.eval x = .slice A m c) (hr : Reads w B size A m news) (h1 : ∀ u ∈ news, u.oneCell' = true)
    (h63 : n + m ≤ maxLen) (hbytes : (n + m) * bytes ≤ 140737488355328) (hbase : base ≤ w.heap.size)
    (h : ∀ v' w', w'.ownsRow base e size v' (n + m) (xs ++ news) → w.grownBy w' v.ownBlock → (v'.ownBlock = v.ownBlock ∨ v'.ownBlock = some w.heap.size) → K (a.put o.dst v') w') :
    if Region.wanted o (yielded ops a.tmps) = true then Oper.wp P o a w K Q else E := by
  have hw : Region.wanted o (yielded ops a.tmps) = true := by simp [Region.wanted, hgd]
  rw [if_pos hw]
  exact wp_append_any w s x t ho base e i z size bytes ht hi hz hsize hby hzs hsz v n xs hs hown B A m c news hx hr h1 h63 hbytes hbase h
theorem reads_one {w : World} {g B : Nat} {x : Int} (hB : g < B) (h0 : w.cell? ⟨g, 0, none⟩ = some (.int .i64 x)) : Reads w B 1 (some ⟨g, 0, none⟩) 1 [.int .i64 x] := by
  refine ⟨rfl, fun _ => ⟨_, rfl, hB, fun j u hj => ?_⟩⟩
  match j, hj with
  | 0, hj => simp at hj; subst hj; simpa [Addr.add] using h0
  | (j + 1), hj => simp at hj

set_option maxRecDepth 100000 in
set_option maxHeartbeats 4000000 in
theorem drawMarksOf_any (A : Option Addr) (n c : Nat) (w : World) (hn : n ≤ 1099511627776) (H : BytesAt w A n) :
    Calls Try.prog 10 #[.slice A n c] w (DrawnGN w) := by
  obtain ⟨i0, hi, hz0, hz1, hz2⟩ := info_parts infoInt
  have I0 := Lib.hid hi
  have I1 := Lib.hid hz0
  have I2 := Lib.hid hz1
  have I3 := Lib.hid hz2
  clear hi hz0 hz1 hz2
  have K := Lib.hid H
  clear H
  go_enter Try.func10, Try.ntmps10
  go_wp2_with fail
  refine (open_any A n c _ (K.out.bl (by repeat' (first | exact Bl.refl _ | with_reducible assumption | with_reducible refine Bl.drew_ ?_ | with_reducible refine Bl.drewN_ ?_ _ | with_reducible refine Bl.alloc_ ?_ _ | with_reducible refine Bl.trans_ ?_ (by assumption) | with_reducible refine Bl.trans_ ?_ (And.left (by assumption)))))).mono ?_
  rintro e w1 ⟨rfl, hr, hb, hlt⟩
  have R1 := Lib.hid (show RdAny w1 (w.heap.size + 1) A n c from by rw [World.size_alloc] at hr; exact hr)
  have B1 := Lib.hid hb
  have s1 := hb.size
  simp only [World.size_alloc] at s1 hlt
  clear hr hb
  go_wp2_with fail
  refine (graph_any 9 (w.heap.size + 1) A n c _ hn (by omega) (by omega) R1.out (fun h0 g off e => by have := K.out.lt' h0 g off e; omega)).mono ?_
  rintro e w2 ⟨N, A', l, c', L, rfl, hd, hr, hg⟩
  have HL := Lib.hid hd.1
  have hl200 := hd.2.1
  have HN := Lib.hid hd.2.2.1
  have s2 := hg.size
  have B2 := Lib.hid (show Bl (w.alloc (.cells #[.int .i64 0, .slice none 0 0] 26)) w2 from B1.out.grown_ hg (fun g e => by injection e with e; simp; omega))
  have O2 := Lib.hid hd.2.2.2
  have R2 := Lib.hid hr
  obtain ⟨X, hX⟩ : ∃ X, X = w2.alloc (.cells #[.int .i64 N, .slice A' l c'] 26) := ⟨_, rfl⟩
  have BX := Lib.hid (show Bl w2 X from by rw [hX]; exact Bl.alloc_ (Bl.refl w2) _)
  have TX := Lib.hid (show Two X w2.heap.size (.int .i64 N) (.slice A' l c') from by rw [hX]; exact Two.new _ _ _)
  have SX := Lib.hid (show X.heap.size = w2.heap.size + 1 from by rw [hX, World.size_alloc])
  obtain ⟨t0, t1, -, -⟩ := TX.out.facts
  clear hd hr hg
  go_wp2_with fail
  rw [← hX]
  clear hX
  have R3 := Lib.hid (R2.out.bl BX.out)
  refine (some_any 4 N _ (w.heap.size + 1) A n c _ hn (by omega) (by omega) HN.out.1 HN.out.2 R3.out (fun h0 g off e => by have := K.out.lt' h0 g off e; have := BX.out.size; omega)).mono ?_
  rintro e w3 ⟨q3, V, rfl, hq, hV, hr, hg⟩
  obtain ⟨A3, c3, rfl, -, -, -, -⟩ := OwnN.shape hq
  obtain ⟨gb, hgb⟩ : ∃ gb, gb = w2.heap.size := ⟨_, rfl⟩
  obtain ⟨b1, hb1⟩ : ∃ b1, b1 = w1.heap.size := ⟨_, rfl⟩
  obtain ⟨k, hk⟩ : ∃ k, k = V.length := ⟨_, rfl⟩
  have HK := Lib.hid hk
  have l1 : w.heap.size + 1 < b1 := by omega
  have l2 : b1 ≤ gb := by omega
  have R4 := Lib.hid hr
  have GX := Lib.hid hg
  have O4 := Lib.hid (show OwnN w3 (gb + 1) (.slice A3 k c3) V from by
    have h := hq
    rw [SX.out, ← hgb, ← hk] at h
    exact h)
  -- what lies there, wherever the reader alone has turned
  have DG := Lib.hid (show ∀ wx, X.grownBy wx (some (w.heap.size + 1)) → Bl w wx ∧ OwnA wx b1 (.slice A' l c') L ∧ Two wx gb (.int .i64 N) (.slice A' l c') ∧ Two wx w.heap.size (.int .i64 0) (.slice none 0 0) from fun wx h => by
    subst hgb
    subst hb1
    exact ⟨(((Bl.alloc_ (Bl.refl w) _).trans_ B2.out).trans_ BX.out).grown_ h (fun g e => by injection e with e; omega),
      (OwnA.bl O2.out BX.out).grown_ h (fun g e => by injection e with e; omega),
      TX.out.grown_ h (fun e => by injection e with e; omega),
      (((Two.new w _ _).bl B2.out).bl BX.out).grown_ h (fun e => by injection e with e; omega)⟩)
  have GL := Lib.hid (show ∀ g, (Value.slice A' l c').ownBlock = some g → g < gb from fun g hg => by rw [hgb]; exact (Owns.lt O2.out g hg).2)
  have FIN := Lib.hid (show ∀ (wx : World) (A9 : Option Addr) (k9 c9 : Nat) (V9 : List Int), Bl w wx → OwnA wx b1 (.slice A' l c') L → OwnN wx (gb + 1) (.slice A9 k9 c9) V9 → k9 = V9.length → k9 ≤ 1048576 → DrawnGN w (.returned (.tuple #[.agg #[.int .i64 N, .slice A' l c'], .slice A9 k9 c9])) wx from fun wx A9 k9 c9 V9 h1 h2 h3 h4 h5 =>
    ⟨N, A', l, c', L, A9, k9, c9, V9, rfl, ⟨HL.out, hl200, HN.out, h2.low (by omega)⟩, h4, h5, OwnN.low h3 (by omega), h1⟩)
  have FIN2 := Lib.hid (show ∀ (wx : World) (A9 : Option Addr) (k9 c9 : Nat) (V9 : List Int) (x y : Value), Bl w wx → OwnA wx b1 (.slice A' l c') L → OwnN wx (gb + 1) (.slice A9 k9 c9) V9 → k9 = V9.length → k9 ≤ 1048576 → DrawnGN w (.returned (.tuple #[.agg #[.int .i64 N, .slice A' l c'], .slice A9 k9 c9])) ((wx.setCell ⟨w.heap.size, 0, none⟩ x).setCell ⟨w.heap.size, 1, none⟩ y) from fun wx A9 k9 c9 V9 x y h1 h2 h3 h4 h5 => by
    have hne : ∀ g, (Value.slice A9 k9 c9).ownBlock = some g → g ≠ w.heap.size := fun g hg e => by have := (Owns.lt h3 g hg).1; omega
    exact FIN.out _ A9 k9 c9 V9 ((h1.set_ (Nat.le_refl _) _).set_ (Nat.le_refl _) _) ((h2.set_ (by show w.heap.size < b1; omega) _).set_ (by show w.heap.size < b1; omega) _) (Owns.setOther (Owns.setOther h3 (p := ⟨w.heap.size, 0, none⟩) hne _) (p := ⟨w.heap.size, 1, none⟩) hne _) h4 h5)
  have nb : gb ≠ w.heap.size := by omega
  have nb' : w.heap.size ≠ gb := by omega
  rw [← hk] at hV ⊢
  clear hq hk hr hg t0 t1
  go_wp2_with fail
  rw [← hgb]
  refine (once_any 20 (w.heap.size + 1) A n c _ hn (by omega) (by omega) R4.out).mono ?_
  rintro e w4 ⟨b, rfl, hr, hg⟩
  have G5 := Lib.hid (grown_trans GX.out hg)
  have O5 := Lib.hid (show OwnN w4 (gb + 1) (.slice A3 k c3) V from Owns.grown_ O4.out hg (fun g hg' e => by
    injection e with e
    have := (Owns.lt O4.out g hg').1
    omega))
  obtain ⟨D1, D2, D3, D4⟩ := DG.out _ G5.out
  have HD1 := Lib.hid D1
  have HD2 := Lib.hid D2
  obtain ⟨y0, y1, fy0, fy1⟩ := D3.facts
  obtain ⟨r0, r1, fr0, fr1⟩ := D4.facts
  have HD3 := Lib.hid D3
  have HD4 := Lib.hid D4
  clear D1 D2 D3 D4 hr hg hgb hb1
  cases b with
  | false =>
    go_wp2
    refine bodyPost_ret (v := .tuple #[.agg #[.int .i64 N, .slice A' l c'], .slice A3 k c3]) (by simp [results, Try.results10, go_sem, r0, r1, fr0, fr1]) rfl ?_
    exact FIN2.out _ _ _ _ V _ _ HD1.out HD2.out O5.out HK.out (by omega)
  | true =>
    by_cases hk0 : 0 < k
    · have bk : decide ((0 : Int) < (k : Int)) = true := by simpa using hk0
      obtain ⟨A4, c4, e4, -, -, -, hh⟩ := Owns.shape (show Owns 2 1 w4 (gb + 1) (.slice A3 k c3) V.length (csI V) from O5.out)
      injection e4 with e41 e42 e43
      subst e41
      subst e43
      clear e42
      obtain ⟨g3, rfl, hBg, hgl, hfz, hcell⟩ := hh (by rw [← HK.out]; exact hk0)
      have k1 := hcell 0 (by rw [csI_len, ← HK.out]; omega)
      rw [csI_at] at k1
      generalize V[0]'(by rw [← HK.out]; exact hk0) = x at k1
      have OW := Lib.hid (show w4.ownsRow (gb + 1) 2 1 (.slice (some ⟨g3, 0, none⟩) k c3) k (csI V) from by have h := O5.out; unfold OwnN Owns at h; rw [← HK.out] at h; exact h)
      have n1 : g3 ≠ w.heap.size := by omega
      have n2 : w.heap.size ≠ g3 := by omega
      have n3 : g3 ≠ gb := by omega
      have gbl : gb < w4.heap.size := by omega
      have g0l : w.heap.size < w4.heap.size := by omega
      have k0 : (0 : Int) < (k : Int) := by omega
      clear hcell hfz hh
      have hol := Lib.hid (fun g h => (Owns.lt OW.out g h).1)
      go_wp2_with fail
      go_region_law (first | (refine step_app1 _ rfl (.tmp 22) (.tmp 26) 27 rfl (gb + 1) 2 i0 _ 1 8 Try.underlying27 I0.out I1.out I2.out I3.out rfl (by decide) (.slice (some ⟨g3, 0, none⟩) k c3) k (csI V) rfl (Owns.bl (show Owns 2 1 w4 (gb + 1) (.slice (some ⟨g3, 0, none⟩) k c3) k (csI V) from OW.out) (by repeat' (first | exact Bl.refl _ | with_reducible assumption | with_reducible refine Bl.drew_ ?_ | with_reducible refine Bl.drewN_ ?_ _ | with_reducible refine Bl.alloc_ ?_ _ | with_reducible refine Bl.trans_ ?_ (by assumption) | with_reducible refine Bl.trans_ ?_ (And.left (by assumption))))) (w4.heap.size + 1) (some ⟨w4.heap.size, 0, none⟩) 1 1 [.int .i64 x] rfl (reads_one (by omega) (by simp [go_sem])) (by simp [Value.oneCell']) (by unfold maxLen; omega) (by omega) (by simp <;> omega) ?_; intro v' w8 hown' hgrow hwh; have O8 := Lib.hid (OwnN.snoc (V := V) (x := x) (n := k) HK.out hown'); have T8 := Lib.hid (Two.grown_ (HD3.out.bl (by repeat' (first | exact Bl.refl _ | with_reducible assumption | with_reducible refine Bl.drew_ ?_ | with_reducible refine Bl.drewN_ ?_ _ | with_reducible refine Bl.alloc_ ?_ _ | with_reducible refine Bl.trans_ ?_ (by assumption) | with_reducible refine Bl.trans_ ?_ (And.left (by assumption))))) hgrow (fun e => by have := hol.out gb e.symm; omega)); have T9 := Lib.hid (Two.grown_ (HD4.out.bl (by repeat' (first | exact Bl.refl _ | with_reducible assumption | with_reducible refine Bl.drew_ ?_ | with_reducible refine Bl.drewN_ ?_ _ | with_reducible refine Bl.alloc_ ?_ _ | with_reducible refine Bl.trans_ ?_ (by assumption) | with_reducible refine Bl.trans_ ?_ (And.left (by assumption))))) hgrow (fun e => by have := hol.out _ e.symm; omega)); have B8 := Lib.hid (Bl.grown_ (HD1.out.trans_ (by repeat' (first | exact Bl.refl _ | with_reducible assumption | with_reducible refine Bl.drew_ ?_ | with_reducible refine Bl.drewN_ ?_ _ | with_reducible refine Bl.alloc_ ?_ _ | with_reducible refine Bl.trans_ ?_ (by assumption) | with_reducible refine Bl.trans_ ?_ (And.left (by assumption))))) hgrow (fun g hg => by have := hol.out g hg; omega)); have A8 := Lib.hid (Owns.grown_ (OwnA.bl HD2.out (by repeat' (first | exact Bl.refl _ | with_reducible assumption | with_reducible refine Bl.drew_ ?_ | with_reducible refine Bl.drewN_ ?_ _ | with_reducible refine Bl.alloc_ ?_ _ | with_reducible refine Bl.trans_ ?_ (by assumption) | with_reducible refine Bl.trans_ ?_ (And.left (by assumption))))) hgrow (fun g hg e => by have h1 := GL.out g hg; have h2 := hol.out g e.symm; omega)); obtain ⟨d0, d1, -, -⟩ := T8.out.facts; obtain ⟨p0, p1, fp0, fp1⟩ := T9.out.facts; obtain ⟨A9, c9, e9, -, -, -, -⟩ := OwnN.shape O8.out; subst e9; clear hown' hgrow hwh))
      all_goals
        go_wp2
        refine bodyPost_ret (v := .tuple #[.agg #[.int .i64 N, .slice A' l c'], .slice A9 (V ++ [x]).length c9]) (by simp [results, Try.results10, go_sem, p0, p1, fp0, fp1]) rfl ?_
        exact FIN2.out _ _ _ _ (V ++ [x]) _ _ B8.out A8.out O8.out rfl (by have := HK.out; simp; omega)
    · have bk : decide ((0 : Int) < (k : Int)) = false := by simpa using hk0
      go_wp2
      refine bodyPost_ret (v := .tuple #[.agg #[.int .i64 N, .slice A' l c'], .slice A3 k c3]) (by simp [results, Try.results10, go_sem, r0, r1, fr0, fr1]) rfl ?_
      exact FIN2.out _ _ _ _ V _ _ HD1.out HD2.out O5.out HK.out (by omega)

set_option maxRecDepth 100000 in
set_option maxHeartbeats 1000000 in
theorem drawFarthest_any (A : Option Addr) (n c : Nat) (w : World) (hn : n ≤ 1099511627776) (H : BytesAt w A n) :
    Calls Try.prog 5 #[.slice A n c] w (DrawnGN w) := by
  have K := Lib.hid H
  clear H
  go_enter Try.func5, Try.ntmps5
  go_wp2_with fail
  refine (drawMarksOf_any A n c _ hn (K.out.bl (by repeat' (first | exact Bl.refl _ | with_reducible assumption | with_reducible refine Bl.drew_ ?_ | with_reducible refine Bl.drewN_ ?_ _ | with_reducible refine Bl.alloc_ ?_ _ | with_reducible refine Bl.trans_ ?_ (by assumption) | with_reducible refine Bl.trans_ ?_ (And.left (by assumption)))))).mono ?_
  rintro e w1 ⟨N, A', l, c', L, A3, k, c3, V, rfl, hd, hk, hk20, ho, hb⟩
  have D := Lib.hid hd
  have O := Lib.hid ho
  have HK := Lib.hid hk
  have HK20 := Lib.hid hk20
  have B := Lib.hid hb
  obtain ⟨r0, r1, fr0, fr1⟩ := Two.facts ((Two.new w (.int .i64 0) (.slice none 0 0)).bl hb)
  have sz := hb.size
  simp only [World.size_alloc] at sz
  clear hd hb ho hk hk20
  go_wp2
  refine bodyPost_ret (v := .tuple #[.agg #[.int .i64 N, .slice A' l c'], .slice A3 k c3]) (by simp [results, Try.results5, go_sem, r0, r1, fr0, fr1]) rfl ?_
  have DD := D.out
  have OO := O.out
  rw [World.size_alloc] at DD OO
  have hne : ∀ g, (Value.slice A3 k c3).ownBlock = some g → g ≠ w.heap.size := fun g hg e => by have := (Owns.lt OO g hg).1; omega
  exact ⟨N, A', l, c', L, A3, k, c3, V, rfl, ⟨DD.1, DD.2.1, DD.2.2.1, ((DD.2.2.2.set_ (by show w.heap.size < w.heap.size + 1; omega) _).set_ (by show w.heap.size < w.heap.size + 1; omega) _).low (by omega)⟩, HK.out, HK20.out,
    OwnN.low (Owns.setOther (Owns.setOther OO (p := ⟨w.heap.size, 0, none⟩) hne _) (p := ⟨w.heap.size, 1, none⟩) hne _) (by omega), (((Bl.alloc_ (Bl.refl w) _).trans_ B.out).set_ (Nat.le_refl _) _).set_ (Nat.le_refl _) _⟩

end Go.Proofs.Ytndkdeiojkclbaa

set_option linter.unusedSimpArgs false
set_option linter.unusedVariables false
namespace Go.Proofs.Ytndkdeiojkclbaa
open Go.RowKit

section
variable {P : Program} {Q : Exit → Act → World → Prop} {K K' : Act → World → Prop} {a : Act} {w : World} {ops : Array Oper} {md : Region.Mode} {l : Nat}
theorem upon_round {o : Oper} {r : Result Next} (hk : ∀ a w, K a w → K' a w) (h : o.upon P a K (NoOut Q) r) : o.uponIn (Fence.wide.inRound l) 0 P a K' Q r := by
  cases r with
  | ok x w' =>
    cases x <;> simp only [Oper.upon, Oper.uponIn] at h ⊢
    case value v => exact hk _ _ h
    case skip => exact hk _ _ h
    case defer d => exact hk _ _ h
    case enter f args =>
      refine ⟨fun h => by simp [Fence.wide] at h, CallsIn.inRound l (callsIn_wide.2 (Calls.mono h fun e w'' he => ?_))⟩
      cases e with
      | returned v => exact hk _ _ he
      | panicked c => exact absurd he id
      | outgrown => exact absurd he NoOut.not
    case row row args =>
      refine ⟨fun h => by simp [Fence.wide] at h, fun c cs _ => ?_⟩
      obtain ⟨v, w2, hr, hs⟩ := h c cs
      exact ⟨v, w2, hk _ _ hr, stepsIn_wide.2 hs⟩
  | halt x w' =>
    cases x <;> simp only [Oper.upon, Oper.uponIn] at h ⊢
    case panic v => exact absurd h id

/-- None of these operations is a defer statement. -/
def noDefer (ops : Array Oper) : Bool := ops.all fun o => match o.op with | .defer _ => false | _ => true
theorem noDefer_at {i : Nat} {o : Oper} (h : noDefer ops = true) (hi : ops[i]? = some o) : ∀ c, o.op ≠ .defer c := fun c e => by
  have h1 := Array.all_eq_true'.1 h o (Array.mem_of_getElem? hi)
  rw [e] at h1
  exact absurd h1 (by simp)
theorem wpOp_round {i : Nat} (hd : noDefer ops = true) (hk : ∀ a w, K a w → K' a w) (h : wpOp P ops (NoOut Q) i K a w) : wpOpIn (Fence.wide.inRound l) 0 P ops Q i K' a w := by
  unfold wpOp at h
  unfold wpOpIn
  cases hi : ops[i]? with
  | none => rw [hi] at h; exact hk _ _ h
  | some o =>
    rw [hi] at h
    simp only at h ⊢
    split
    · rename_i hw
      rw [if_pos hw] at h
      refine ⟨fun _ _ => trivial, ?_⟩
      rcases h with h | h
      · rw [Oper.semAt_eq _ _ o (noDefer_at hd hi)]
        exact upon_round hk h
      · exact absurd h.2 NoOut.not
    · rename_i hw
      rw [if_neg hw] at h
      exact ⟨fun _ _ => trivial, hk _ _ h⟩
theorem wpAny_round (hd : noDefer ops = true) : ∀ (fuel : Nat) (listed : Array Bool) (a : Act) (w : World), wpAny P md ops (NoOut Q) fuel listed a w → wpAnyIn (Fence.wide.inRound l) 0 P md ops Q fuel listed a w
  | 0, listed, a, w, h => h
  | fuel + 1, listed, a, w, h => ⟨h.1, fun i hi => wpOp_round hd (fun a w => wpAny_round hd fuel _ a w) (h.2 i hi)⟩

theorem wpInR_region_held {S : World → Prop} {id : Nat} (hd : noDefer ops = true) (hm : P.follows .mixedOrders = true) (hS : S w.drew)
    (h : S w.drew → wpAnyH P .any ops (NoOut Q) S ops.size (Array.replicate ops.size false) a w.drew) : (Code.region id ops true).wpIn (Fence.wide.inRound l) 0 P Q a w :=
  wpIn_region_any hm (wpAny_round hd _ _ _ _ (wpAny_of_held _ _ _ _ (h hS)))
end

end Go.Proofs.Ytndkdeiojkclbaa

set_option linter.unusedSimpArgs false
set_option linter.unusedVariables false
namespace Go.Proofs.Ytndkdeiojkclbaa
open Go.RowKit Go.Shelf
attribute [local go_sem] Oper.semAt_some

set_option maxRecDepth 100000 in
set_option maxHeartbeats 8000000 in
theorem nearestOf_any (N : Int) (A : Option Addr) (n c : Nat) (L : List Arc3) (hn : n = L.length) (hc : n ≤ c) (ho : okB N L = true) (A2 : Option Addr) (k c2 : Nat) (V : List Int) (hk : k = V.length) (hV : ∀ v ∈ V, 0 ≤ v ∧ v < N) (w : World) (hkm : k ≤ 1048576) (H1 : ArcsAt w w.heap.size A L) (H2 : IntsAt w w.heap.size A2 V) :
    Calls Try.prog 12 #[.agg #[.int .i64 N, .slice A n c], .slice A2 k c2] w fun e w' => ∃ E : List Int, e = .returned (.agg (E.map (Value.int .i64)).toArray) ∧ E.length = 24 ∧ (∀ v : Nat, (v : Int) < N → E.getD v 0 = nearV N L (v : Int) V) ∧ Bl w w' := by
  have K1 := Lib.hid H1
  have K2 := Lib.hid H2
  have HN := Lib.hid hn
  have HK := Lib.hid hk
  have HO := Lib.hid ho
  have HV := Lib.hid hV
  clear H1 H2 hn hk ho hV
  refine (callsIn_wide (n := 0)).1 ?_
  refine callsIn_of_wp_marks Try.func12 rfl trivial ?_ rfl
  simp only [Try.ntmps12, List.size_toArray, List.length_cons, List.length_nil, Nat.reduceAdd, Nat.reduceSub, Array.replicate_succ, Array.replicate_zero, List.push_toArray, List.append_toArray, List.nil_append, List.cons_append]
  gi_wp2_with fail
  have hN24 := (okB_elim HO.out).2.1
  gi_loopw [10] (fun i wr => ∃ j : Nat, j ≤ 24 ∧ i = .int .i64 j ∧ Bl ((w.alloc (.cells #[.int .i64 N, .slice A n c] 26)).alloc (.cells #[.int .i64 0, .int .i64 0, .int .i64 0, .int .i64 0, .int .i64 0, .int .i64 0, .int .i64 0, .int .i64 0, .int .i64 0, .int .i64 0, .int .i64 0, .int .i64 0, .int .i64 0, .int .i64 0, .int .i64 0, .int .i64 0, .int .i64 0, .int .i64 0, .int .i64 0, .int .i64 0, .int .i64 0, .int .i64 0, .int .i64 0, .int .i64 0] 34)) wr ∧
      ∃ E, NumsAt wr (w.heap.size + 2) E ∧ ∀ i (h : i < E.length), i < j → E[i] = 24000) (fun i _ => 24 - (intOf i).toNat)
  case atStart =>
    refine ⟨0, by omega, rfl, (Bl.refl _).alloc_ _, List.replicate 24 0, ⟨by simp, by simp, fun i hi => ?_, fun i hi => ?_⟩, fun i h h' => absurd h' (by omega)⟩
    · rw [List.length_replicate] at hi
      rw [List.getElem_replicate]
      match i, hi with
      | 0, _ | 1, _ | 2, _ | 3, _ | 4, _ | 5, _ | 6, _ | 7, _ | 8, _ | 9, _ | 10, _ | 11, _ | 12, _ | 13, _ | 14, _ | 15, _ | 16, _ | 17, _ | 18, _ | 19, _ | 20, _ | 21, _ | 22, _ | 23, _ => simp [go_sem]
      | (k + 24), h => exact absurd h (by omega)
    · simp [go_sem]
  case round =>
    obtain ⟨j, hj, rfl, hbl, E, hE, hneg⟩ := hrel
    have HE := Lib.hid hE
    have NG := Lib.hid hneg
    have hbs := hbl.size
    have HB := Lib.hid hbl
    simp only [World.size_alloc] at hbs
    have hdl := hE.lt
    clear hneg hbl
    by_cases hlt : j < 24
    · have q0 := hE.cell j (by rw [hE.len]; exact hlt)
      have q1 := hE.free j hlt
      generalize E[j]'(by rw [hE.len]; exact hlt) = ej at q0
      clear hE
      gi_wp2_with fail
      go_roundw
      case rel =>
        refine ⟨j + 1, by omega, by go_num, HB.out.set_ (by simp) _, E.set j 24000, HE.out.set 24000, fun i h hi => ?_⟩
        rw [List.getElem_set]
        split
        · rfl
        · exact NG.out i (by simpa using h) (by omega)
      case measure => simp [intOf]; omega
    · have HE0 := Lib.hid (show ∀ v : Nat, (v : Int) < N → E.getD v 0 = nearV N L (v : Int) (V.take 0) from fun v hv => by
        have hl : v < E.length := by rw [hE.len]; omega
        rw [List.take_zero, nearV_nil, List.getD_eq_getElem?_getD, List.getElem?_eq_getElem hl]
        exact NG.out v hl (by omega))
      have HEL := Lib.hid hE.len
      obtain ⟨hgc0, hgc1⟩ : wr.cell? ⟨w.heap.size, 0, none⟩ = some (.int .i64 N) ∧ wr.cell? ⟨w.heap.size, 1, none⟩ = some (.slice A n c) := by
        have hx := (bcell HB.out).1
        exact ⟨(hx _ _ (by simp; omega)).trans (by simp [go_sem]), (hx _ _ (by simp; omega)).trans (by simp [go_sem])⟩
      clear hE
      gi_wp2_with fail
      refine wpIn_loop_ghost_k (fun kk a wq => ∃ v8 v9 v18 v19 v20 v21 v22 v23 v24 v25 v26 v27 v28 v29 v30 v31 v32 v33 v34 v35 v36 : Value, ∃ ds : List Deferred, (∃ (t : Nat) (Ds : List Nat) (F : List Int), (t ≤ k ∧ kk = k - t ∧ v18 = .int .i64 t) ∧ (MarksD ds Ds wq ∧ ∀ D ∈ Ds, w.heap.size + 2 < D) ∧ (NumsAt wq (w.heap.size + 2) F ∧ Hid (∀ v : Nat, (v : Int) < N → F.getD v 0 = nearV N L (v : Int) (V.take t))) ∧ Bl ((w.alloc (.cells #[.int .i64 N, .slice A n c] 26)).alloc (.cells #[.int .i64 0, .int .i64 0, .int .i64 0, .int .i64 0, .int .i64 0, .int .i64 0, .int .i64 0, .int .i64 0, .int .i64 0, .int .i64 0, .int .i64 0, .int .i64 0, .int .i64 0, .int .i64 0, .int .i64 0, .int .i64 0, .int .i64 0, .int .i64 0, .int .i64 0, .int .i64 0, .int .i64 0, .int .i64 0, .int .i64 0, .int .i64 0] 34)) wq) ∧ a = { tmps := #[.agg #[.int .i64 N, .slice A n c], .slice A2 k c2, .pointer (some ⟨w.heap.size, 0, none⟩), undef, .pointer (some ⟨w.heap.size + 1, 0, none⟩), .pointer (some ⟨w.heap.size + 1 + 1, 0, none⟩), u6, undef, v8, v9, .int .i64 j, .bool (decide ((j : Int) < 24)), u12, u13, u14, u15, .slice A2 k c2, .int .i64 (k : Int), v18, v19, v20, v21, v22, v23, v24, v25, v26, v27, v28, v29, v30, v31, v32, v33, v34, v35, v36, undef], defers := ds }) k ?start ?round
      case start => exact ⟨_, _, .int .i64 0, _, _, _, _, _, _, _, _, _, _, _, _, _, _, _, _, _, _, [], ⟨0, [], E, ⟨by omega, by omega, rfl⟩, ⟨MarksD.nil_ _, by simp⟩, ⟨HE.out, Lib.hid HE0.out⟩, HB.out⟩, rfl⟩
      case round =>
        rintro kk _ wq ⟨v8, v9, v18, v19, v20, v21, v22, v23, v24, v25, v26, v27, v28, v29, v30, v31, v32, v33, v34, v35, v36, ds, ⟨t, Ds, F, ⟨ht, rfl, rfl⟩, ⟨hmk, hml⟩, ⟨hF, FE⟩, hB⟩, rfl⟩ J KK hJ hKK
        have MK := Lib.hid hmk
        have ML := Lib.hid hml
        have NF := Lib.hid hF
        have HBQ := Lib.hid hB
        have hbw : Bl w wq := (((Bl.refl w).alloc_ _).alloc_ _).trans_ hB
        have BW := Lib.hid hbw
        have hbs' := hB.size
        simp only [World.size_alloc] at hbs'
        have hdl' := hF.lt
        obtain ⟨hgd0, hgd1⟩ : wq.cell? ⟨w.heap.size, 0, none⟩ = some (.int .i64 N) ∧ wq.cell? ⟨w.heap.size, 1, none⟩ = some (.slice A n c) := by
          have hx := (bcell hB).1
          exact ⟨(hx _ _ (by simp; omega)).trans (by simp [go_sem]), (hx _ _ (by simp; omega)).trans (by simp [go_sem])⟩
        clear hmk hml hF hB hbw HE HEL HE0 hgc0 hgc1 NG
        by_cases hlt2 : t < k
        · have htl : t < V.length := by have := HK.out; omega
          obtain ⟨g2, o2, rfl, hg2, hc2⟩ := K2.out.cell (by omega)
          have p1 := hc2 t htl
          rw [← (bcell BW.out).1 _ _ hg2] at p1
          have SN := Lib.hid (take_snocI htl)
          have hv := HV.out V[t] (List.getElem_mem htl)
          generalize V[t] = s at *
          obtain ⟨hv0, hv1⟩ := hv
          have i0 : (0 : Int) ≤ (t : Int) := by omega
          have i1 : (t : Int) < (k : Int) := by omega
          clear hc2
          gi_wp2_with fail
          refine ⟨trivial, rfl, CallsIn.mono (callsIn_wide.2 (nearestFrom_any N s A n c _)) ?_⟩
          rintro e w3 ⟨rfl, hw3⟩
          have HW3 := Lib.hid hw3
          clear hw3 hgd0 hgd1 p1
          gi_wp2_with fail
          have hs3 : w3.heap.size = wq.heap.size + 4 := by rw [HW3.out]; simp
          have hb3 : Bl wq w3 := by rw [HW3.out]; exact ((((Bl.refl wq).alloc_ _).alloc_ _).alloc_ _).alloc_ _
          have hin : NIn w3 (wq.heap.size + 3) (wq.heap.size + 2) (wq.heap.size + 1) N s A n c L := by
            refine ⟨?_, ?_, ?_, ?_, (K1.out.bl BW.out).bl hb3⟩ <;> (rw [HW3.out]; simp [go_sem])
          have hn0 : NumsAt w3 (w.heap.size + 2) (minE F []) := by rw [minE_nil NF.out.len]; exact NF.out.bl hb3
          refine wpIn_range (gf := 40) (lb := #[.pointer (some ⟨wq.heap.size + 3, 0, none⟩), .pointer (some ⟨wq.heap.size + 2, 0, none⟩), .pointer (some ⟨wq.heap.size + 1, 0, none⟩)]) ?e1 ?e2
            (near_stops N s A n c (wq.heap.size + 3) (wq.heap.size + 2) (wq.heap.size + 1) L HN.out hc HO.out hv0 hv1 w3 hin) (Bl.refl _) (fun i hi => inBlocks_lt hin hi) ?e3
            (fun pre K W' => (∀ i, K i ↔ i = w.heap.size + 2) ∧ NumsAt W' (w.heap.size + 2) (minE F pre))
            (fun _ _ _ _ => False)
            (fun pre x a K W' => ∃ xb : Nat, ∃ z0 z1 z2 z3 z4 z6 z7 z8 z10 z11 z12 z13 z14 z15 z16 z17 z18 z19 z20 z21 z22 z23 z24 z25 z26 z27 z28 z29 z30 z31 z32 z33 z34 z35 z36 z37 : Value, (∀ i, K i ↔ (i = w.heap.size + 2 ∨ i = xb)) ∧ NumsAt W' (w.heap.size + 2) (minE F pre) ∧ (xb ≠ w.heap.size + 2 ∧ W'.cell? ⟨xb, 0, none⟩ = some (.int .i64 x.1) ∧ W'.cell? ⟨xb, 1, none⟩ = some (.int .i64 x.2)) ∧
              a = { tmps := #[z0, z1, z2, z3, z4, .pointer (some ⟨w.heap.size + 1 + 1, 0, none⟩), z6, z7, z8, .pointer (some ⟨xb, 0, none⟩), z10, z11, z12, z13, z14, z15, z16, z17, z18, z19, z20, z21, z22, z23, z24, z25, z26, z27, z28, z29, z30, z31, z32, z33, z34, z35, z36, z37], defers := [] })
            (fun i => i = w.heap.size + 2) ?hK0 ?hI (fun _ _ _ _ _ h _ => h) ?hM ?hlt ⟨fun i => Iff.rfl, hn0⟩ ?assign ?body ?done (fun _ _ _ _ _ _ _ h _ _ _ => h.elim)
          case e1 => rfl
          case e2 => exact enters_of Try.func40 (by kernel_rfl) rfl
          case e3 => exact fun x => rfl
          case hK0 =>
            rintro i rfl hi
            rcases hi with h | h | h | ⟨hl, h⟩
            · omega
            · omega
            · omega
            · obtain ⟨g, off, rfl, hg, -⟩ := K1.out hl
              have : g = w.heap.size + 2 := by simpa [blockOf] using h
              omega
          case hI =>
            rintro pre K X Y ⟨hk, hnum⟩ ht
            exact ⟨hk, hnum.turn ht (fun h => h ((hk _).2 rfl))⟩
          case hM =>
            rintro pre x a K X Y ⟨xb, z0, z1, z2, z3, z4, z6, z7, z8, z10, z11, z12, z13, z14, z15, z16, z17, z18, z19, z20, z21, z22, z23, z24, z25, z26, z27, z28, z29, z30, z31, z32, z33, z34, z35, z36, z37, hk, hnum, ⟨hne, hc0, hc1⟩, he⟩ ht
            have hx := World.block_lt_of_cell? _ _ hc0
            have hs := fun o => (ht.cells hx (fun h => h ((hk _).2 (.inr rfl))) o).1
            exact ⟨xb, z0, z1, z2, z3, z4, z6, z7, z8, z10, z11, z12, z13, z14, z15, z16, z17, z18, z19, z20, z21, z22, z23, z24, z25, z26, z27, z28, z29, z30, z31, z32, z33, z34, z35, z36, z37, hk, hnum.turn ht (fun h => h ((hk _).2 (.inl rfl))), ⟨hne, (hs 0).trans hc0, (hs 1).trans hc1⟩, he⟩
          case hlt =>
            rintro pre K X ⟨hk, hnum⟩ i hi
            rw [(hk i).1 hi]
            exact hnum.lt
          case assign =>
            rintro l pre ⟨x, y⟩ K X R ⟨hk, hnum⟩ hpre hR
            have HKK := Lib.hid hk
            have HNM := Lib.hid hnum
            have HR := Lib.hid hR
            clear hk hnum hpre hR hs3 hb3 hin hn0
            dsimp only [encI]
            gi_wp2_with fail
            have hlt := HNM.out.lt
            refine HR.out _ (fun i => i = w.heap.size + 2 ∨ i = X.heap.size) _ ⟨Turn.of_bl (by repeat' (first | exact Bl.refl _ | with_reducible assumption | with_reducible refine Bl.drew_ ?_ | with_reducible refine Bl.drewN_ ?_ _ | with_reducible refine Bl.alloc_ ?_ _ | with_reducible refine Bl.trans_ ?_ (by assumption) | with_reducible refine Bl.trans_ ?_ (And.left (by assumption)))), fun i hi => hi.imp (fun h => (HKK.out i).2 h) (fun h => by rw [h]; exact Nat.le_refl _)⟩ ⟨X.heap.size, _, _, _, _, _, _, _, _, _, _, _, _, _, _, _, _, _, _, _, _, _, _, _, _, _, _, _, _, _, _, _, _, _, _, _, _, fun i => Iff.rfl, HNM.out.bl (by repeat' (first | exact Bl.refl _ | with_reducible assumption | with_reducible refine Bl.drew_ ?_ | with_reducible refine Bl.drewN_ ?_ _ | with_reducible refine Bl.alloc_ ?_ _ | with_reducible refine Bl.trans_ ?_ (by assumption) | with_reducible refine Bl.trans_ ?_ (And.left (by assumption)))), ⟨by omega, by simp [go_sem], by simp [go_sem]⟩, rfl⟩
          case body =>
            rintro l pre ⟨x, y⟩ a₁ K X ⟨xb, z0, z1, z2, z3, z4, z6, z7, z8, z10, z11, z12, z13, z14, z15, z16, z17, z18, z19, z20, z21, z22, z23, z24, z25, z26, z27, z28, z29, z30, z31, z32, z33, z34, z35, z36, z37, hk, hnum, ⟨hne, hc0, hc1⟩, rfl⟩ ⟨Z, hZ⟩
            obtain ⟨f1, f2, f3, -, -⟩ := NextFacts (arcsIn_of_ok HO.out) hN24 hZ
            simp only at f1 f2 f3
            obtain ⟨u, rfl⟩ : ∃ u : Nat, y = u := ⟨y.toNat, by omega⟩
            have hu : u < 24 := by omega
            have hx0 : 0 ≤ x := f2.1
            have hu0 : (0 : Int) ≤ (u : Int) := by omega
            have hu1 : (u : Int) < 24 := by omega
            have hml2 := minE_len F pre
            have q0 := hnum.cell u (by rw [hml2]; exact hu)
            have q1 := hnum.free u hu
            have SE := Lib.hid (minE_snoc (E := F) (Y := pre) (x := x) (u := u) f3 hx0 (by rw [hml2]; exact hu))
            generalize (minE F pre)[u]'(by rw [hml2]; exact hu) = ej at q0 SE
            have hxl := World.block_lt_of_cell? _ _ hc0
            have hnl := hnum.lt
            have HKK := Lib.hid hk
            have HNM := Lib.hid hnum
            have hne' : w.heap.size + 2 ≠ xb := fun h => hne h.symm
            simp only at hxl hc0 hc1
            clear hk hnum f1 f2 f3 hs3 hb3 hin hn0 hZ hml2
            gi_wp2_with fail
            refine wpInR_region_held (S := fun wx => wx.cell? ⟨xb, 0, none⟩ = some (.int .i64 x) ∧ wx.cell? ⟨xb, 1, none⟩ = some (.int .i64 (u : Int))) (by kernel_rfl) (by kernel_rfl) ?_ (fun hHeld => ?_)
            · (refine ⟨?_, ?_⟩ <;> (simp [go_sem, *]; done))
            refine wpAnyH_take (i := 0) (v := ?_) rfl (by kernel_rfl) (by kernel_rfl) (by kernel_rfl) (fun _ _ _ h => h) (Or.inl ⟨by kernel_rfl, ?_⟩) (by assumption) ?_
            rotate_left
            · (intro wx hSw; (try dsimp only at hSw); go_simp; try (with_reducible rfl))
            try simp only [Act.put, List.getElem_toArray, List.getElem_cons_succ, List.getElem_cons_zero, List.setIfInBounds_toArray, List.set_cons_zero, List.set_cons_succ]
            refine wpAnyH_take (i := 1) (v := ?_) rfl (by kernel_rfl) (by kernel_rfl) (by kernel_rfl) (fun _ _ _ h => h) (Or.inl ⟨by kernel_rfl, ?_⟩) (by assumption) ?_
            rotate_left
            · (intro wx hSw; (try dsimp only at hSw); go_simp; try (with_reducible rfl))
            try simp only [Act.put, List.getElem_toArray, List.getElem_cons_succ, List.getElem_cons_zero, List.setIfInBounds_toArray, List.set_cons_zero, List.set_cons_succ]
            refine wpAnyH_take (i := 2) (v := ?_) rfl (by kernel_rfl) (by kernel_rfl) (by kernel_rfl) (fun _ _ _ h => h) (Or.inl ⟨by kernel_rfl, ?_⟩) (by assumption) ?_
            rotate_left
            · (intro wx hSw; (try dsimp only at hSw); go_simp; try (with_reducible rfl))
            try simp only [Act.put, List.getElem_toArray, List.getElem_cons_succ, List.getElem_cons_zero, List.setIfInBounds_toArray, List.set_cons_zero, List.set_cons_succ]
            refine wpAnyH_take (i := 3) (v := ?_) rfl (by kernel_rfl) (by kernel_rfl) (by kernel_rfl) (fun _ _ _ h => h) (Or.inl ⟨by kernel_rfl, ?_⟩) (by assumption) ?_
            rotate_left
            · (intro wx hSw; (try dsimp only at hSw); go_simp; try (with_reducible rfl))
            try simp only [Act.put, List.getElem_toArray, List.getElem_cons_succ, List.getElem_cons_zero, List.setIfInBounds_toArray, List.set_cons_zero, List.set_cons_succ]
            refine wpAnyH_take (i := 4) (v := ?_) rfl (by kernel_rfl) (by kernel_rfl) (by kernel_rfl) (fun _ _ _ h => h) (Or.inl ⟨by kernel_rfl, ?_⟩) (by assumption) ?_
            rotate_left
            · (intro wx hSw; (try dsimp only at hSw); go_simp; try (with_reducible rfl))
            try simp only [Act.put, List.getElem_toArray, List.getElem_cons_succ, List.getElem_cons_zero, List.setIfInBounds_toArray, List.set_cons_zero, List.set_cons_succ]
            refine wpAnyH_take (i := 6) (v := ?_) rfl (by kernel_rfl) (by kernel_rfl) (by kernel_rfl) (fun _ _ _ h => h) (Or.inl ⟨by kernel_rfl, ?_⟩) (by assumption) ?_
            rotate_left
            · (intro wx hSw; (try dsimp only at hSw); go_simp; try (with_reducible rfl))
            try simp only [Act.put, List.getElem_toArray, List.getElem_cons_succ, List.getElem_cons_zero, List.setIfInBounds_toArray, List.set_cons_zero, List.set_cons_succ]
            refine wpAnyH_take (i := 7) (v := ?_) rfl (by kernel_rfl) (by kernel_rfl) (by kernel_rfl) (fun _ _ _ h => h) (Or.inl ⟨by kernel_rfl, ?_⟩) (by assumption) ?_
            rotate_left
            · (intro wx hSw; (try dsimp only at hSw); go_simp; try (with_reducible rfl))
            try simp only [Act.put, List.getElem_toArray, List.getElem_cons_succ, List.getElem_cons_zero, List.setIfInBounds_toArray, List.set_cons_zero, List.set_cons_succ]
            refine wpAnyH_ready (rs := [5]) (by kernel_rfl) (by simp) ?_
            refine AllReadyH.cons rfl (fun K hK => ?_) AllReadyH.nil
            go_simp
            refine hK.out _ _ ?_ (fun hHeld => ?_)
            · (refine ⟨?_, ?_⟩ <;> (simp [go_sem, *]; done))
            clear hK K
            try simp only [Act.put, List.getElem_toArray, List.getElem_cons_succ, List.getElem_cons_zero, List.setIfInBounds_toArray, List.set_cons_zero, List.set_cons_succ]
            refine wpAnyH_ready (rs := [8]) (by kernel_rfl) (by simp) ?_
            refine AllReadyH.cons rfl (fun K hK => ?_) AllReadyH.nil
            go_simp
            refine hK.out _ _ ?_ (fun hHeld => ?_)
            · (refine ⟨?_, ?_⟩ <;> (simp [go_sem, *]; done))
            clear hK K
            try simp only [Act.put, List.getElem_toArray, List.getElem_cons_succ, List.getElem_cons_zero, List.setIfInBounds_toArray, List.set_cons_zero, List.set_cons_succ]
            refine wpAnyH_take (i := 9) (v := ?_) rfl (by kernel_rfl) (by kernel_rfl) (by kernel_rfl) (fun _ _ _ h => h) (Or.inl ⟨by kernel_rfl, ?_⟩) (by assumption) ?_
            rotate_left
            · (intro wx hSw; (try dsimp only at hSw); go_simp; try (with_reducible rfl))
            try simp only [Act.put, List.getElem_toArray, List.getElem_cons_succ, List.getElem_cons_zero, List.setIfInBounds_toArray, List.set_cons_zero, List.set_cons_succ]
            refine wpAnyH_ready (rs := [10]) (by kernel_rfl) (by simp) ?_
            refine AllReadyH.cons rfl (fun K hK => ?_) AllReadyH.nil
            go_simp
            refine hK.out _ _ ?_ (fun hHeld => ?_)
            · (refine ⟨?_, ?_⟩ <;> (simp [go_sem, *]; done))
            clear hK K
            try simp only [Act.put, List.getElem_toArray, List.getElem_cons_succ, List.getElem_cons_zero, List.setIfInBounds_toArray, List.set_cons_zero, List.set_cons_succ]
            refine wpAnyH_done (by kernel_rfl) ?_ _
            refine NoOut.normal ?_
            gi_wp2_with fail
            refine ⟨fun i => i = w.heap.size + 2, ⟨(Turn.set (p := ⟨w.heap.size + 2, u, none⟩) (Turn.refl K X) (.inl ((HKK.out _).2 (.inl rfl))) _).bl ((Bl.refl _).drew_), fun i hi => .inl ((HKK.out i).2 (.inl hi))⟩, fun i => Iff.rfl, ?_⟩
            rw [SE.out]
            exact (HNM.out.set _).bl ((Bl.refl _).drew_)
          case done =>
            rintro D xs K X hD hall ⟨hk, hnum⟩ hT hKD hdef
            have HNM := Lib.hid hnum
            have HT := Lib.hid hT
            have HA := Lib.hid hall
            have HD := Lib.hid hdef
            have B3 := Lib.hid hb3
            have hD' := hD
            clear hk hnum hT hall hdef hs3 hb3 hin hn0
            gi_wp2_with fail
            gi_roundg (k - (t + 1))
            case rel =>
              refine ⟨t + 1, D :: Ds, minE F xs, ⟨by omega, rfl, by go_num⟩, ⟨?_, ?_⟩, ⟨HNM.out, Lib.hid ?_⟩, ?_⟩
              · have h1 := (MK.out.bl B3.out).turn HT.out (fun D hD e => by have := ML.out D hD; omega)
                exact h1.cons HD.out (fun h => by have := MK.out.lt D h; have := B3.out.size; omega)
              · intro E hE
                rcases List.mem_cons.1 hE with rfl | hE
                · have := B3.out.size; omega
                · exact ML.out E hE
              · rw [SN.out]
                exact minE_done HO.out HA.out FE.out
              · exact Turn.to_bl (HBQ.out.trans_ B3.out) HT.out (fun i hi => by rw [hi]; simp)
            case measure => omega
        · have FT := Lib.hid (show ∀ v : Nat, (v : Int) < N → F.getD v 0 = nearV N L (v : Int) V from fun v hv => by
            have := FE.out v hv
            rwa [List.take_of_length_le (by have := HK.out; omega)] at this)
          have hrb : wq.there (w.heap.size + 1) 0 24 := by
            refine there_of_cells fun i hi => ?_
            obtain ⟨y1, y2⟩ := bcell HBQ.out
            rw [y1 _ _ (by simp), y2 _ _ (by simp)]
            match i, hi with
            | 0, _ | 1, _ | 2, _ | 3, _ | 4, _ | 5, _ | 6, _ | 7, _ | 8, _ | 9, _ | 10, _ | 11, _ | 12, _ | 13, _ | 14, _ | 15, _ | 16, _ | 17, _ | 18, _ | 19, _ | 20, _ | 21, _ | 22, _ | 23, _ => simp [go_sem]
            | (k + 24), h => exact absurd h (by omega)
          have HRB := Lib.hid hrb
          have HSZ := Lib.hid (show (Try.prog.info? 34).map (·.size) = some 24 from by kernel_rfl)
          clear hrb hgd0 hgd1
          gi_wp2_with (first | (refine wpListIn_load_mid rfl 34 (.tmp 5) rfl (w.heap.size + 2) 0 rfl (csI F) _ NF.out.range Try.underlying34 rfl (by rw [csI_len, NF.out.len]; exact HSZ.out) ?_) | (refine wpListIn_store_mid rfl 34 (.tmp 4) (.tmp 37) rfl (w.heap.size + 1) 0 (csI F).toArray rfl rfl ?c1 ?c2 (csI_one _) ?_))
          case c1 => simpa [csI_len, NF.out.len] using HRB.out
          case c2 => simpa [csI_len, NF.out.len] using HSZ.out
          have hts : Turn (fun i => i = w.heap.size + 1) wq (wq.setCells (w.heap.size + 1) 0 (csI F)) := Turn.setCells_ (S := fun i => i = w.heap.size + 1) (w.heap.size + 1) rfl _ _ _ (Turn.refl _ _)
          refine leaves_marks Ds ds _ (MK.out.turn hts (fun D hD e => by have := ML.out D hD; omega)) fun w' t' => ?_
          have hnums := NumsAt.stored NF.out.len (show w.heap.size + 1 < wq.heap.size by omega) HRB.out
          have hnums2 := hnums.turn t' (fun h => by have := ML.out _ h; omega)
          refine ⟨_, results_cell_mid rfl _ _ (w.heap.size + 1) (csI F) _ rfl hnums2.range Try.underlying34 rfl (by rw [csI_len, NF.out.len]; exact HSZ.out), ?_⟩
          refine ⟨F, rfl, NF.out.len, FT.out, ?_⟩
          have h4 := Bl.setCells_ (w.heap.size + 1) (by omega) (csI F) 0 wq BW.out
          exact Turn.to_bl h4 t' (fun i hi => by have := ML.out i hi; omega)

set_option maxRecDepth 100000 in
set_option maxHeartbeats 4000000 in
theorem implFarthest_any (N : Int) (A : Option Addr) (n c : Nat) (L : List Arc3) (hn : n = L.length) (hc : n ≤ c) (A2 : Option Addr) (k c2 : Nat) (V : List Int) (hk : k = V.length) (w : World) (hm : n ≤ 1048576) (hkm : k ≤ 1048576) (H1 : ArcsAt w w.heap.size A L) (H2 : IntsAt w w.heap.size A2 V) :
    Calls Try.prog 6 #[.agg #[.int .i64 N, .slice A n c], .slice A2 k c2] w fun e w' => e = .returned (.int .i64 (farI N L V)) ∧ Bl w w' := by
  have K1 := Lib.hid H1
  have K2 := Lib.hid H2
  have HN := Lib.hid hn
  have HK := Lib.hid hk
  clear H1 H2 hn hk
  cases hh : hasUB N L V with
  | false =>
    have HH := Lib.hid hh
    clear hh
    go_enter Try.func6, Try.ntmps6
    go_wp2_with fail
    refine (hasUnlike_any N A n c L HN.out A2 k c2 V HK.out _ (by omega) hkm (K1.out.bl (by repeat' (first | exact Bl.refl _ | with_reducible assumption | with_reducible refine Bl.drew_ ?_ | with_reducible refine Bl.drewN_ ?_ _ | with_reducible refine Bl.alloc_ ?_ _ | with_reducible refine Bl.trans_ ?_ (by assumption) | with_reducible refine Bl.trans_ ?_ (And.left (by assumption))))) (K2.out.bl (by repeat' (first | exact Bl.refl _ | with_reducible assumption | with_reducible refine Bl.drew_ ?_ | with_reducible refine Bl.drewN_ ?_ _ | with_reducible refine Bl.alloc_ ?_ _ | with_reducible refine Bl.trans_ ?_ (by assumption) | with_reducible refine Bl.trans_ ?_ (And.left (by assumption)))))).mono ?_
    rintro e w1 ⟨rfl, hb1⟩
    rw [HH.out]
    go_wp2
    go_ret
    exact ⟨ret_int (show -1 = farI N L V from (if_neg (by rw [HH.out]; simp)).symm), (by repeat' (first | exact Bl.refl _ | with_reducible assumption | with_reducible refine Bl.drew_ ?_ | with_reducible refine Bl.drewN_ ?_ _ | with_reducible refine Bl.alloc_ ?_ _ | with_reducible refine Bl.trans_ ?_ (by assumption) | with_reducible refine Bl.trans_ ?_ (And.left (by assumption))))⟩
  | true =>
    have HH := Lib.hid hh
    obtain ⟨ho, hv, -⟩ := hasUB_iff.1 hh
    have hN1 := (okB_elim ho).1
    have hN24 := (okB_elim ho).2.1
    have HO := Lib.hid ho
    have HV := Lib.hid hv
    obtain ⟨q, rfl⟩ : ∃ q : Nat, N = q := ⟨N.toNat, by omega⟩
    clear hh ho hv
    go_enter Try.func6, Try.ntmps6
    go_wp2_with fail
    refine (hasUnlike_any q A n c L HN.out A2 k c2 V HK.out _ (by omega) hkm (K1.out.bl (by repeat' (first | exact Bl.refl _ | with_reducible assumption | with_reducible refine Bl.drew_ ?_ | with_reducible refine Bl.drewN_ ?_ _ | with_reducible refine Bl.alloc_ ?_ _ | with_reducible refine Bl.trans_ ?_ (by assumption) | with_reducible refine Bl.trans_ ?_ (And.left (by assumption))))) (K2.out.bl (by repeat' (first | exact Bl.refl _ | with_reducible assumption | with_reducible refine Bl.drew_ ?_ | with_reducible refine Bl.drewN_ ?_ _ | with_reducible refine Bl.alloc_ ?_ _ | with_reducible refine Bl.trans_ ?_ (by assumption) | with_reducible refine Bl.trans_ ?_ (And.left (by assumption)))))).mono ?_
    rintro e w1 ⟨rfl, hb1⟩
    rw [HH.out]
    obtain ⟨q0, q1⟩ := box2 hb1
    have BW1 := Lib.hid (show Bl w w1 from (Bl.alloc_ (Bl.refl w) _).trans_ hb1)
    have hsw : w.heap.size < w1.heap.size := by have := hb1.size; simp at this; omega
    clear hb1
    go_wp2_with fail
    refine (nearestOf_any q A n c L HN.out hc HO.out A2 k c2 V HK.out HV.out _ hkm (K1.out.bl BW1.out) (K2.out.bl BW1.out)).mono ?_
    rintro e w2 ⟨E, rfl, hE, hEd, hb2⟩
    have EL := Lib.hid hE
    have ED := Lib.hid hEd
    have r0 := ((bcell hb2).1 _ _ hsw).trans q0
    have s2 := hb2.size
    have B2 := Lib.hid (BW1.out.trans_ hb2)
    clear hE hEd q0 q1 hb2
    have NS := Lib.hid (NumsAt.stored EL.out (by simp) (there_new w2 34))
    have hbS := Bl.setCells_ w2.heap.size (Nat.le_refl _) (csI E) 0 _ ((Bl.refl w2).alloc_ (.cells #[.int .i64 0, .int .i64 0, .int .i64 0, .int .i64 0, .int .i64 0, .int .i64 0, .int .i64 0, .int .i64 0, .int .i64 0, .int .i64 0, .int .i64 0, .int .i64 0, .int .i64 0, .int .i64 0, .int .i64 0, .int .i64 0, .int .i64 0, .int .i64 0, .int .i64 0, .int .i64 0, .int .i64 0, .int .i64 0, .int .i64 0, .int .i64 0] 34))
    have HBS := Lib.hid hbS
    have r1 := ((bcell hbS).1 w.heap.size 0 (by omega)).trans r0
    clear hbS r0
    go_wp2_with (refine wpList_store_mid rfl 34 (.tmp 5) (.tmp 14) rfl w2.heap.size 0 (csI E).toArray rfl rfl ?c1 ?c2 (csI_one _) ?_)
    case c1 => simpa [csI_len, EL.out] using there_new w2 34
    case c2 => simpa [csI_len, EL.out] using size24
    obtain ⟨w5, hw5⟩ : ∃ w5, w5 = (w2.alloc (.cells #[.int .i64 0, .int .i64 0, .int .i64 0, .int .i64 0, .int .i64 0, .int .i64 0, .int .i64 0, .int .i64 0, .int .i64 0, .int .i64 0, .int .i64 0, .int .i64 0, .int .i64 0, .int .i64 0, .int .i64 0, .int .i64 0, .int .i64 0, .int .i64 0, .int .i64 0, .int .i64 0, .int .i64 0, .int .i64 0, .int .i64 0, .int .i64 0] 34)).setCells w2.heap.size 0 (csI E) := ⟨_, rfl⟩
    have NS5 := Lib.hid (show NumsAt w5 w2.heap.size E from by rw [hw5]; exact NS.out)
    have B5 := Lib.hid (show Bl w w5 from by rw [hw5]; exact B2.out.trans_ HBS.out)
    rw [← hw5] at r1 ⊢
    clear hw5 NS HBS
    go_wp2_with fail
    go_loopw [6, 17] (fun f i wr => ∃ j : Nat, j ≤ q ∧ i = .int .i64 j ∧ f = .int .i64 ((topK (nearF q L V) j : Nat) : Int) ∧ Bl w5 wr) (fun _ i _ => q - (intOf i).toNat)
    case atStart => exact ⟨0, by omega, rfl, rfl, Bl.refl _⟩
    case round =>
      obtain ⟨j, hj, rfl, rfl, hbl⟩ := hrel
      have BB := Lib.hid hbl
      have NR := Lib.hid (NS5.out.bl hbl)
      by_cases hlt : j < q
      · have hlt' : (j : Int) < (q : Int) := by omega
        have htk := topK_le (nearF q L V) j
        have e1 := ED.out j (by omega)
        have e2 := ED.out (topK (nearF q L V) j) (by omega)
        have EY := Lib.hid (show E.getD j 0 = nearF q L V j from e1)
        have ET := Lib.hid (show E.getD (topK (nearF q L V) j) 0 = nearF q L V (topK (nearF q L V) j) from e2)
        clear e1 e2
        have TY := Lib.hid (fun h => topK_yes (f := nearF q L V) (k := j) h)
        have TN := Lib.hid (fun h => topK_no (f := nearF q L V) (k := j) h)
        rw [← EY.out, ← ET.out] at TY TN
        obtain ⟨tk, htkk⟩ : ∃ tk, tk = topK (nearF q L V) j := ⟨_, rfl⟩
        have TK := Lib.hid htkk
        rw [← htkk] at htk TY TN ⊢
        clear htkk EY ET
        have c1 := NR.out.cell j (by rw [EL.out]; omega)
        have c2 := NR.out.cell tk (by rw [EL.out]; omega)
        have d1 : E.getD j 0 = E[j]'(by rw [EL.out]; omega) := by simp [EL.out, show j < 24 by omega]
        have d2 : E.getD tk 0 = E[tk]'(by rw [EL.out]; omega) := by simp [EL.out, show tk < 24 by omega]
        rw [d1, d2] at TY TN
        clear d1 d2
        generalize E[j]'(by rw [EL.out]; omega) = ej at *
        generalize E[tk]'(by rw [EL.out]; omega) = et at *
        have j0 : (0 : Int) ≤ (j : Int) := by omega
        have j1 : (j : Int) < 24 := by omega
        have k0 : (0 : Int) ≤ (tk : Int) := by omega
        have k1 : (tk : Int) < 24 := by omega
        by_cases hb : et < ej
        · have bd : decide (et < ej) = true := by simpa using hb
          have HY := Lib.hid (TY.out hb)
          clear TY TN
          go_wp2_with fail
          go_quiet (fail)
          go_wp2
          go_roundw
          case rel => exact ⟨j + 1, by omega, by go_num, by rw [HY.out], BB.out.trans_ (by repeat' (first | exact Bl.refl _ | with_reducible assumption | with_reducible refine Bl.drew_ ?_ | with_reducible refine Bl.drewN_ ?_ _ | with_reducible refine Bl.alloc_ ?_ _ | with_reducible refine Bl.trans_ ?_ (by assumption) | with_reducible refine Bl.trans_ ?_ (And.left (by assumption))))⟩
          case measure => simp [intOf]; omega
        · have bd : decide (et < ej) = false := by simpa using hb
          have HY := Lib.hid (TN.out hb)
          clear TY TN
          go_wp2_with fail
          go_quiet (fail)
          go_wp2
          go_roundw
          case rel => exact ⟨j + 1, by omega, by go_num, by rw [HY.out, TK.out], BB.out.trans_ (by repeat' (first | exact Bl.refl _ | with_reducible assumption | with_reducible refine Bl.drew_ ?_ | with_reducible refine Bl.drewN_ ?_ _ | with_reducible refine Bl.alloc_ ?_ _ | with_reducible refine Bl.trans_ ?_ (by assumption) | with_reducible refine Bl.trans_ ?_ (And.left (by assumption))))⟩
          case measure => simp [intOf]; omega
      · have HF := Lib.hid (show ((topK (nearF q L V) j : Nat) : Int) = farI q L V from by
          unfold farI
          rw [if_pos HH.out]
          congr 2
          simp
          omega)
        go_wp2
        go_ret
        exact ⟨ret_int HF.out, B5.out.trans_ BB.out⟩

end Go.Proofs.Ytndkdeiojkclbaa

set_option linter.unusedSimpArgs false
set_option linter.unusedVariables false
namespace Go.Proofs.Ytndkdeiojkclbaa
open Go.RowKit

def gtI (f : Nat → Int) (j : Nat) : Int := if j = 0 then -1 else f (topK f j)
def gtA (f : Nat → Int) (j : Nat) : Int := if j = 0 then -1 else ((topK f j : Nat) : Int)
theorem gt_yes {f : Nat → Int} {j : Nat} (h : gtI f j < f j) : gtI f (j + 1) = f j ∧ gtA f (j + 1) = (j : Int) := by
  unfold gtI at h
  unfold gtI gtA
  rw [if_neg (by omega), if_neg (by omega)]
  rcases Nat.eq_zero_or_pos j with rfl | hj
  · have : topK f 1 = 0 := by
      have := topK_lt f 1 (by omega)
      omega
    rw [this]
    exact ⟨rfl, rfl⟩
  · rw [if_neg (by omega)] at h
    rw [topK_yes h]
    exact ⟨rfl, rfl⟩
theorem gt_no {f : Nat → Int} {j : Nat} (h0 : 0 ≤ f j) (h : ¬ gtI f j < f j) : gtI f (j + 1) = gtI f j ∧ gtA f (j + 1) = gtA f j := by
  unfold gtI at h
  unfold gtI gtA
  rcases Nat.eq_zero_or_pos j with rfl | hj
  · rw [if_pos rfl] at h
    omega
  · rw [if_neg (by omega)] at h
    rw [if_neg (by omega), if_neg (by omega), if_neg (by omega), if_neg (by omega), topK_no h]
    exact ⟨rfl, rfl⟩
theorem farI_no {N : Int} {L : List Arc3} {V : List Int} (h : hasUB N L V = false) : farI N L V = -1 := if_neg (by rw [h]; simp)
theorem far_gt {N : Int} {L : List Arc3} {V : List Int} (h : hasUB N L V = true) : gtA (nearF N L V) N.toNat = farI N L V := by
  have hN := (okB_elim (hasUB_iff.1 h).1).1
  unfold gtA farI
  rw [if_neg (by omega), if_pos h]

set_option maxRecDepth 100000 in
set_option maxHeartbeats 4000000 in
theorem specFarthest_any (N : Int) (A : Option Addr) (n c : Nat) (L : List Arc3) (hn : n = L.length) (hc : n ≤ c) (A2 : Option Addr) (k c2 : Nat) (V : List Int) (hk : k = V.length) (hkc : k ≤ c2) (w : World) (hm : n ≤ 1048576) (hkm : k ≤ 1048576) (H1 : ArcsAt w w.heap.size A L) (H2 : IntsAt w w.heap.size A2 V) :
    Calls Try.prog 7 #[.agg #[.int .i64 N, .slice A n c], .slice A2 k c2] w fun e w' => e = .returned (.int .i64 (farI N L V)) ∧ Bl w w' := by
  have K1 := Lib.hid H1
  have K2 := Lib.hid H2
  have HN := Lib.hid hn
  have HK := Lib.hid hk
  clear H1 H2 hn hk
  cases ho : okB N L with
  | false =>
    have HO := Lib.hid ho
    clear ho
    go_enter Try.func7, Try.ntmps7
    go_wp2_with fail
    refine (specOk_any N A n c L HN.out _ (by omega) (K1.out.bl (by repeat' (first | exact Bl.refl _ | with_reducible assumption | with_reducible refine Bl.drew_ ?_ | with_reducible refine Bl.drewN_ ?_ _ | with_reducible refine Bl.alloc_ ?_ _ | with_reducible refine Bl.trans_ ?_ (by assumption) | with_reducible refine Bl.trans_ ?_ (And.left (by assumption)))))).mono ?_
    rintro e w1 ⟨rfl, hb1⟩
    rw [HO.out]
    go_wp2
    go_ret
    exact ⟨ret_int (farI_no (by unfold hasUB; rw [HO.out, Bool.false_and])).symm, (by repeat' (first | exact Bl.refl _ | with_reducible assumption | with_reducible refine Bl.drew_ ?_ | with_reducible refine Bl.drewN_ ?_ _ | with_reducible refine Bl.alloc_ ?_ _ | with_reducible refine Bl.trans_ ?_ (by assumption) | with_reducible refine Bl.trans_ ?_ (And.left (by assumption))))⟩
  | true =>
    have HO := Lib.hid ho
    have hN1 := (okB_elim ho).1
    have hN24 := (okB_elim ho).2.1
    clear ho
    cases hu : unB N V with
    | false =>
      have HU := Lib.hid hu
      clear hu
      go_enter Try.func7, Try.ntmps7
      go_wp2_with fail
      refine (specOk_any N A n c L HN.out _ (by omega) (K1.out.bl (by repeat' (first | exact Bl.refl _ | with_reducible assumption | with_reducible refine Bl.drew_ ?_ | with_reducible refine Bl.drewN_ ?_ _ | with_reducible refine Bl.alloc_ ?_ _ | with_reducible refine Bl.trans_ ?_ (by assumption) | with_reducible refine Bl.trans_ ?_ (And.left (by assumption)))))).mono ?_
      rintro e w1 ⟨rfl, hb1⟩
      rw [HO.out]
      obtain ⟨q0, q1⟩ := box2 hb1
      go_wp2_with fail
      refine (l6Nodes_any N A n c L HO.out A2 k c2 V HK.out hkc _ (by omega) (K2.out.bl (by repeat' (first | exact Bl.refl _ | with_reducible assumption | with_reducible refine Bl.drew_ ?_ | with_reducible refine Bl.drewN_ ?_ _ | with_reducible refine Bl.alloc_ ?_ _ | with_reducible refine Bl.trans_ ?_ (by assumption) | with_reducible refine Bl.trans_ ?_ (And.left (by assumption)))))).mono ?_
      rintro e w2 ⟨rfl, hb2⟩
      rw [HU.out]
      go_wp2
      go_ret
      exact ⟨ret_int (farI_no (by unfold hasUB; rw [HU.out, Bool.and_false])).symm, (by repeat' (first | exact Bl.refl _ | with_reducible assumption | with_reducible refine Bl.drew_ ?_ | with_reducible refine Bl.drewN_ ?_ _ | with_reducible refine Bl.alloc_ ?_ _ | with_reducible refine Bl.trans_ ?_ (by assumption) | with_reducible refine Bl.trans_ ?_ (And.left (by assumption))))⟩
    | true =>
      have HUB := Lib.hid (show hasUB N L V = true from by unfold hasUB; rw [HO.out, hu]; rfl)
      have HV := Lib.hid (hasUB_iff.1 HUB.out).2.1
      have HU := Lib.hid hu
      clear hu
      obtain ⟨q, rfl⟩ : ∃ q : Nat, N = q := ⟨N.toNat, by omega⟩
      go_enter Try.func7, Try.ntmps7
      go_wp2_with fail
      refine (specOk_any (q : Int) A n c L HN.out _ (by omega) (K1.out.bl (by repeat' (first | exact Bl.refl _ | with_reducible assumption | with_reducible refine Bl.drew_ ?_ | with_reducible refine Bl.drewN_ ?_ _ | with_reducible refine Bl.alloc_ ?_ _ | with_reducible refine Bl.trans_ ?_ (by assumption) | with_reducible refine Bl.trans_ ?_ (And.left (by assumption)))))).mono ?_
      rintro e w1 ⟨rfl, hb1⟩
      rw [HO.out]
      obtain ⟨q0, q1⟩ := box2 hb1
      go_wp2_with fail
      refine (l6Nodes_any (q : Int) A n c L HO.out A2 k c2 V HK.out hkc _ (by omega) (K2.out.bl (by repeat' (first | exact Bl.refl _ | with_reducible assumption | with_reducible refine Bl.drew_ ?_ | with_reducible refine Bl.drewN_ ?_ _ | with_reducible refine Bl.alloc_ ?_ _ | with_reducible refine Bl.trans_ ?_ (by assumption) | with_reducible refine Bl.trans_ ?_ (And.left (by assumption)))))).mono ?_
      rintro e w2 ⟨rfl, hb2⟩
      rw [HU.out]
      clear q0 q1
      have B2 := Lib.hid (hb1.trans_ hb2)
      clear hb1 hb2
      go_wp2_with fail
      go_loopw [5, 6, 7] (fun b a v wr => ∃ j : Nat, j ≤ q ∧ v = .int .i64 j ∧ b = .int .i64 (gtI (nearF q L V) j) ∧ a = .int .i64 (gtA (nearF q L V) j) ∧ Bl w2 wr) (fun _ _ v _ => q - (intOf v).toNat)
      case atStart => exact ⟨0, by omega, rfl, rfl, rfl, Bl.refl _⟩
      case round =>
        obtain ⟨j, hj, rfl, rfl, rfl, hbl⟩ := hrel
        obtain ⟨q0, q1⟩ := box2 (B2.out.trans_ hbl)
        have BB := Lib.hid hbl
        by_cases hlt : j < q
        · have hlt' : (j : Int) < (q : Int) := by omega
          obtain ⟨wo, hwo⟩ : ∃ wo, wo = wr := ⟨_, rfl⟩
          subst hwo
          have nb := nearV_bounds q L (j : Int) V
          have NBF := Lib.hid (show nearF q L V j = nearV q L (j : Int) V from rfl)
          have BY := Lib.hid (fun h => gt_yes (f := nearF q L V) (j := j) h)
          have BN := Lib.hid (fun h0 h => gt_no (f := nearF q L V) (j := j) h0 h)
          generalize gtI (nearF (q : Int) L V) j = bi at *
          generalize gtA (nearF (q : Int) L V) j = ba at *
          go_wp2_with fail
          clear q0 q1
          go_loopw [8, 9] (fun m i wr => ∃ t : Nat, t ≤ k ∧ i = .int .i64 t ∧ m = .int .i64 (nearV q L (j : Int) (V.take t)) ∧ Bl wo wr) (fun _ i _ => k - (intOf i).toNat)
          case atStart => exact ⟨0, by omega, rfl, rfl, Bl.refl _⟩
          case round =>
            obtain ⟨t, ht, rfl, rfl, hbl2⟩ := hrel
            by_cases hlt2 : t < k
            · have htl : t < V.length := by have := HK.out; omega
              obtain ⟨g2, o2, rfl, hg2, hc2⟩ := K2.out.cell (by omega)
              have p1 := hc2 t htl
              clear hc2
              have BT := Lib.hid (hbl.trans_ hbl2)
              have BX := Lib.hid hbl2
              obtain ⟨q0, q1⟩ := box2 (B2.out.trans_ BT.out)
              have BWR := Lib.hid (show Bl w wr from ((Bl.alloc_ (Bl.refl w) _).trans_ B2.out).trans_ BT.out)
              rw [← (bcell BWR.out).1 _ _ hg2] at p1
              have hv := HV.out V[t] (List.getElem_mem htl)
              have ST := Lib.hid (nearV_step q L (j : Int) htl)
              generalize V[t] = s at *
              generalize nearV (q : Int) L (j : Int) (V.take t) = m at *
              have hs0 := hv.1
              have hs1 := hv.2
              have i0 : (0 : Int) ≤ (t : Int) := by omega
              have i1 : (t : Int) < (k : Int) := by omega
              clear hv hbl2
              go_wp2_with fail
              have HSH := Lib.hid (show ∀ wx, Bl wr wx → Bl wr wx ∧ wx.cell? ⟨w.heap.size, 0, none⟩ = some (.int .i64 (q : Int)) ∧ wx.cell? ⟨w.heap.size, 1, none⟩ = some (.slice A n c) ∧ wx.cell? ⟨g2, o2 + t, none⟩ = some (.int .i64 s) from fun wx hb => by
                obtain ⟨y0, y1⟩ := box2 (B2.out.trans_ (BT.out.trans_ hb))
                exact ⟨hb, y0, y1, ((bcell hb).1 _ _ (Nat.lt_of_lt_of_le hg2 BWR.out.size)).trans p1⟩)
              clear q0 q1 p1
              refine wp_region_held_drew (S := fun wx => Bl wr wx ∧ wx.cell? ⟨w.heap.size, 0, none⟩ = some (.int .i64 (q : Int)) ∧ wx.cell? ⟨w.heap.size, 1, none⟩ = some (.slice A n c) ∧ wx.cell? ⟨g2, o2 + t, none⟩ = some (.int .i64 s)) (by kernel_rfl) ?_ (fun hHeld => ?_)
              · (exact HSH.out _ (by repeat' (first | exact Bl.refl _ | with_reducible assumption | with_reducible refine Bl.drew_ ?_ | with_reducible refine Bl.drewN_ ?_ _ | with_reducible refine Bl.alloc_ ?_ _ | with_reducible refine Bl.trans_ ?_ (by assumption) | with_reducible refine Bl.trans_ ?_ (And.left (by assumption)))))
              refine wpAnyH_take (i := 0) (v := ?_) rfl (by kernel_rfl) (by kernel_rfl) (by kernel_rfl) (fun _ _ _ h => h) (Or.inl ⟨by kernel_rfl, ?_⟩) (by assumption) ?_
              rotate_left
              · (intro wx hSw; (try dsimp only at hSw); go_simp; try (with_reducible rfl))
              try simp only [Act.put, List.getElem_toArray, List.getElem_cons_succ, List.getElem_cons_zero, List.setIfInBounds_toArray, List.set_cons_zero, List.set_cons_succ]
              refine wpAnyH_take (i := 1) (v := ?_) rfl (by kernel_rfl) (by kernel_rfl) (by kernel_rfl) (fun _ _ _ h => h) (Or.inl ⟨by kernel_rfl, ?_⟩) (by assumption) ?_
              rotate_left
              · (intro wx hSw; (try dsimp only at hSw); go_simp; try (with_reducible rfl))
              try simp only [Act.put, List.getElem_toArray, List.getElem_cons_succ, List.getElem_cons_zero, List.setIfInBounds_toArray, List.set_cons_zero, List.set_cons_succ]
              refine wpAnyH_take (i := 2) (v := ?_) rfl (by kernel_rfl) (by kernel_rfl) (by kernel_rfl) (fun _ _ _ h => h) (Or.inl ⟨by kernel_rfl, ?_⟩) (by assumption) ?_
              rotate_left
              · (intro wx hSw; (try dsimp only at hSw); go_simp; try (with_reducible rfl))
              try simp only [Act.put, List.getElem_toArray, List.getElem_cons_succ, List.getElem_cons_zero, List.setIfInBounds_toArray, List.set_cons_zero, List.set_cons_succ]
              refine wpAnyH_take (i := 3) (v := ?_) rfl (by kernel_rfl) (by kernel_rfl) (by kernel_rfl) (fun _ _ _ h => h) (Or.inl ⟨by kernel_rfl, ?_⟩) (by assumption) ?_
              rotate_left
              · (intro wx hSw; (try dsimp only at hSw); go_simp; try (with_reducible rfl))
              try simp only [Act.put, List.getElem_toArray, List.getElem_cons_succ, List.getElem_cons_zero, List.setIfInBounds_toArray, List.set_cons_zero, List.set_cons_succ]
              refine wpAnyH_take (i := 4) (v := ?_) rfl (by kernel_rfl) (by kernel_rfl) (by kernel_rfl) (fun _ _ _ h => h) (Or.inl ⟨by kernel_rfl, ?_⟩) (by assumption) ?_
              rotate_left
              · (intro wx hSw; (try dsimp only at hSw); go_simp; try (with_reducible rfl))
              try simp only [Act.put, List.getElem_toArray, List.getElem_cons_succ, List.getElem_cons_zero, List.setIfInBounds_toArray, List.set_cons_zero, List.set_cons_succ]
              refine wpAnyH_take (i := 6) (v := ?_) rfl (by kernel_rfl) (by kernel_rfl) (by kernel_rfl) (fun _ _ _ h => h) (Or.inl ⟨by kernel_rfl, ?_⟩) (by assumption) ?_
              rotate_left
              · (intro wx hSw; (try dsimp only at hSw); go_simp; try (with_reducible rfl))
              try simp only [Act.put, List.getElem_toArray, List.getElem_cons_succ, List.getElem_cons_zero, List.setIfInBounds_toArray, List.set_cons_zero, List.set_cons_succ]
              refine wpAnyH_ready (rs := [5]) (by kernel_rfl) (by simp) ?_
              refine AllReadyH.cons rfl (fun K hK => ?_) AllReadyH.nil
              go_simp
              (go_at_call 15; refine (l3Dist_any q s A n c L HN.out HO.out hs0 hs1 _ hm (K1.out.bl (BWR.out.trans_ (by repeat' (first | exact Bl.refl _ | with_reducible assumption | with_reducible refine Bl.drew_ ?_ | with_reducible refine Bl.drewN_ ?_ _ | with_reducible refine Bl.alloc_ ?_ _ | with_reducible refine Bl.trans_ ?_ (by assumption) | with_reducible refine Bl.trans_ ?_ (And.left (by assumption))))))).mono ?_; rintro e w4 ⟨v4, rfl, hv4, hb4⟩; have BQ := Lib.hid hb4; have hl : (distL q L s).length = q := (by rw [distL_len HO.out hs0 hs1]; simp); obtain ⟨A5, c5, rfl, hc5, hi5, -, -⟩ := OwnN.shape hv4; obtain ⟨g5, o5, rfl, hg5, hcell⟩ := hi5.cell (by omega); have p := hcell j (by omega); have e1 : (distL q L s)[j]'(by omega) = dAt (distL q L s) (j : Int) := (dAt_at (by omega)).symm; rw [e1] at p; clear hcell hv4 hi5 e1 hg5; rw [hl]; generalize dAt (distL (q : Int) L s) (j : Int) = d at *; have hj0 : (0 : Int) ≤ (j : Int) := (by omega); clear hl)
              try (go_wp2_with fail)
              refine hK.out _ _ ?_ (fun hHeld => ?_)
              · (exact HSH.out _ (by repeat' (first | exact Bl.refl _ | with_reducible assumption | with_reducible refine Bl.drew_ ?_ | with_reducible refine Bl.drewN_ ?_ _ | with_reducible refine Bl.alloc_ ?_ _ | with_reducible refine Bl.trans_ ?_ (by assumption) | with_reducible refine Bl.trans_ ?_ (And.left (by assumption)))))
              clear hK K
              try simp only [Act.put, List.getElem_toArray, List.getElem_cons_succ, List.getElem_cons_zero, List.setIfInBounds_toArray, List.set_cons_zero, List.set_cons_succ]
              refine wpAnyH_ready (rs := [7]) (by kernel_rfl) (by simp) ?_
              refine AllReadyH.cons rfl (fun K hK => ?_) AllReadyH.nil
              go_simp
              refine hK.out _ _ ?_ (fun hHeld => ?_)
              · (exact HSH.out _ (by repeat' (first | exact Bl.refl _ | with_reducible assumption | with_reducible refine Bl.drew_ ?_ | with_reducible refine Bl.drewN_ ?_ _ | with_reducible refine Bl.alloc_ ?_ _ | with_reducible refine Bl.trans_ ?_ (by assumption) | with_reducible refine Bl.trans_ ?_ (And.left (by assumption)))))
              clear hK K
              try simp only [Act.put, List.getElem_toArray, List.getElem_cons_succ, List.getElem_cons_zero, List.setIfInBounds_toArray, List.set_cons_zero, List.set_cons_succ]
              refine wpAnyH_ready (rs := [8]) (by kernel_rfl) (by simp) ?_
              refine AllReadyH.cons rfl (fun K hK => ?_) AllReadyH.nil
              go_simp
              refine hK.out _ _ ?_ (fun hHeld => ?_)
              · (exact HSH.out _ (by repeat' (first | exact Bl.refl _ | with_reducible assumption | with_reducible refine Bl.drew_ ?_ | with_reducible refine Bl.drewN_ ?_ _ | with_reducible refine Bl.alloc_ ?_ _ | with_reducible refine Bl.trans_ ?_ (by assumption) | with_reducible refine Bl.trans_ ?_ (And.left (by assumption)))))
              clear hK K
              try simp only [Act.put, List.getElem_toArray, List.getElem_cons_succ, List.getElem_cons_zero, List.setIfInBounds_toArray, List.set_cons_zero, List.set_cons_succ]
              refine wpAnyH_ready (rs := [9]) (by kernel_rfl) (by simp) ?_
              refine AllReadyH.cons rfl (fun K hK => ?_) AllReadyH.nil
              go_simp
              refine hK.out _ _ ?_ (fun hHeld => ?_)
              · (exact HSH.out _ (by repeat' (first | exact Bl.refl _ | with_reducible assumption | with_reducible refine Bl.drew_ ?_ | with_reducible refine Bl.drewN_ ?_ _ | with_reducible refine Bl.alloc_ ?_ _ | with_reducible refine Bl.trans_ ?_ (by assumption) | with_reducible refine Bl.trans_ ?_ (And.left (by assumption)))))
              clear hK K
              try simp only [Act.put, List.getElem_toArray, List.getElem_cons_succ, List.getElem_cons_zero, List.setIfInBounds_toArray, List.set_cons_zero, List.set_cons_succ]
              refine wpAnyH_done (by kernel_rfl) ?_ _
              have DB := Lib.hid (show Bl wo w4 from BX.out.trans_ (by repeat' (first | exact Bl.refl _ | with_reducible assumption | with_reducible refine Bl.drew_ ?_ | with_reducible refine Bl.drewN_ ?_ _ | with_reducible refine Bl.alloc_ ?_ _ | with_reducible refine Bl.trans_ ?_ (by assumption) | with_reducible refine Bl.trans_ ?_ (And.left (by assumption)))))
              by_cases hd : 0 ≤ d
              · have bd : decide (0 ≤ d) = true := by simpa using hd
                have HS := Lib.hid (ST.out.trans (minD_yes hd))
                clear ST
                go_wp2
                go_roundw
                case rel => exact ⟨t + 1, by omega, by go_num, by rw [HS.out], DB.out⟩
                case measure => simp [intOf]; omega
              · have bd : decide (0 ≤ d) = false := by simpa using hd
                have HS := Lib.hid (ST.out.trans (minD_no (by omega)))
                clear ST
                go_wp2
                go_roundw
                case rel => exact ⟨t + 1, by omega, by go_num, by rw [HS.out], DB.out⟩
                case measure => simp [intOf]; omega
            · have HT := Lib.hid (show nearV q L (j : Int) (V.take t) = nearV q L (j : Int) V from by rw [List.take_of_length_le (by have := HK.out; omega)])
              rw [HT.out]
              have DB := Lib.hid (hbl.trans_ hbl2)
              clear HT hbl2
              rw [NBF.out] at BY BN
              generalize nearV (q : Int) L (j : Int) V = m at *
              by_cases hb : bi < m
              · have bd : decide (bi < m) = true := by simpa using hb
                have HY := Lib.hid (BY.out hb)
                clear BY BN
                go_wp2
                go_roundw
                case rel => exact ⟨j + 1, by omega, by go_num, by rw [HY.out.1], by rw [HY.out.2], DB.out⟩
                case measure => simp [intOf]; omega
              · have bd : decide (bi < m) = false := by simpa using hb
                have HY := Lib.hid (BN.out nb.1 (by omega))
                clear BY BN
                go_wp2
                go_roundw
                case rel => exact ⟨j + 1, by omega, by go_num, by rw [HY.out.1], by rw [HY.out.2], DB.out⟩
                case measure => simp [intOf]; omega
        · have HF := Lib.hid (show gtA (nearF q L V) j = farI q L V from by rw [← far_gt HUB.out]; congr 1; simp; omega)
          go_wp2
          go_ret
          exact ⟨ret_int HF.out, ((Bl.alloc_ (Bl.refl w) _).trans_ B2.out).trans_ BB.out⟩

end Go.Proofs.Ytndkdeiojkclbaa

set_option linter.unusedSimpArgs false
set_option linter.unusedVariables false
namespace Go.Proofs.Ytndkdeiojkclbaa
open Go.RowKit

-- (sameInts_yes left out)

-- (sameArcs_yes left out)

-- (sameGraph_yes left out)

set_option maxHeartbeats 400000 in
theorem nodeLaw_any (N v : Int) (A : Option Addr) (n c : Nat) (L : List Arc3) (hn : n = L.length) (w : World) (hm : n ≤ 9223372036854775807) (H1 : ArcsAt w w.heap.size A L) :
    Calls Try.prog 9 #[.agg #[.int .i64 N, .slice A n c], .int .i64 v] w fun e w' => e = .returned (.bool (has1 N L v)) ∧ Bl w w' := by
  have K1 := Lib.hid H1
  have HN := Lib.hid hn
  clear H1 hn
  cases ho : okB N L with
  | false =>
    have HO := Lib.hid ho
    clear ho
    go_enter Try.func9, Try.ntmps9
    go_wp2_with fail
    refine (specOk_any N A n c L HN.out _ hm (K1.out.bl (by repeat' (first | exact Bl.refl _ | with_reducible assumption | with_reducible refine Bl.drew_ ?_ | with_reducible refine Bl.drewN_ ?_ _ | with_reducible refine Bl.alloc_ ?_ _ | with_reducible refine Bl.trans_ ?_ (by assumption) | with_reducible refine Bl.trans_ ?_ (And.left (by assumption)))))).mono ?_
    rintro e w1 ⟨rfl, hb1⟩
    rw [HO.out]
    go_wp2
    go_ret
    exact ⟨ret_bool (by unfold has1; rw [HO.out]; rfl), (Bl.alloc_ (Bl.refl w) _).trans_ hb1⟩
  | true =>
    have HO := Lib.hid ho
    clear ho
    by_cases h0 : 0 ≤ v
    · have b0 : decide (0 ≤ v) = true := by simpa using h0
      by_cases h1 : v < N
      · have b1 : decide (v < N) = true := by simpa using h1
        go_enter Try.func9, Try.ntmps9
        go_wp2_with fail
        refine (specOk_any N A n c L HN.out _ hm (K1.out.bl (by repeat' (first | exact Bl.refl _ | with_reducible assumption | with_reducible refine Bl.drew_ ?_ | with_reducible refine Bl.drewN_ ?_ _ | with_reducible refine Bl.alloc_ ?_ _ | with_reducible refine Bl.trans_ ?_ (by assumption) | with_reducible refine Bl.trans_ ?_ (And.left (by assumption)))))).mono ?_
        rintro e w1 ⟨rfl, hb1⟩
        rw [HO.out]
        obtain ⟨q0, q1⟩ := box2 hb1
        go_wp2
        go_ret
        exact ⟨ret_bool (by unfold has1; rw [HO.out, Bool.true_and]; symm; simp; omega), (Bl.alloc_ (Bl.refl w) _).trans_ hb1⟩
      · have b1 : decide (v < N) = false := by simpa using h1
        go_enter Try.func9, Try.ntmps9
        go_wp2_with fail
        refine (specOk_any N A n c L HN.out _ hm (K1.out.bl (by repeat' (first | exact Bl.refl _ | with_reducible assumption | with_reducible refine Bl.drew_ ?_ | with_reducible refine Bl.drewN_ ?_ _ | with_reducible refine Bl.alloc_ ?_ _ | with_reducible refine Bl.trans_ ?_ (by assumption) | with_reducible refine Bl.trans_ ?_ (And.left (by assumption)))))).mono ?_
        rintro e w1 ⟨rfl, hb1⟩
        rw [HO.out]
        obtain ⟨q0, q1⟩ := box2 hb1
        go_wp2
        go_ret
        exact ⟨ret_bool (by unfold has1; rw [HO.out, Bool.true_and]; symm; simp; omega), (Bl.alloc_ (Bl.refl w) _).trans_ hb1⟩
    · have b0 : decide (0 ≤ v) = false := by simpa using h0
      go_enter Try.func9, Try.ntmps9
      go_wp2_with fail
      refine (specOk_any N A n c L HN.out _ hm (K1.out.bl (by repeat' (first | exact Bl.refl _ | with_reducible assumption | with_reducible refine Bl.drew_ ?_ | with_reducible refine Bl.drewN_ ?_ _ | with_reducible refine Bl.alloc_ ?_ _ | with_reducible refine Bl.trans_ ?_ (by assumption) | with_reducible refine Bl.trans_ ?_ (And.left (by assumption)))))).mono ?_
      rintro e w1 ⟨rfl, hb1⟩
      rw [HO.out]
      obtain ⟨q0, q1⟩ := box2 hb1
      go_wp2
      go_ret
      exact ⟨ret_bool (by unfold has1; rw [HO.out, Bool.true_and]; symm; simp; omega), (Bl.alloc_ (Bl.refl w) _).trans_ hb1⟩

end Go.Proofs.Ytndkdeiojkclbaa
