/-
  What is proved here: plain facts: among the nodes that reaches leave it is as far from the one to the other; plain facts on the first arc by way of which it is no farther, and on paths that are gone step by step; plain facts on the first of the shortest paths, and on nodes by way of which it is at most so far; plain facts: the nodes that reaches leave hold those of the shortest paths, and among them it is as far; a graph in a box of its own that grows arc by arc; the reader of a code hands out numbers now and then outside of bounds, and nodes; the reader of a code draws a graph in new memory. No conditions beyond those that each theorem states.
-/
import Derived.Test.YtpbgnidjgmmebaaUSPN
import Derived.Test.YtpbgnidjgmmebaaUG12
import Derived.Test.YtpbgnidjgmmebaaUG11
import Derived.Lib.SlBy
import Derived.Test.YtpbgnidjgmmebaaUG14
import Derived.Test.YtpbgnidjgmmebaaURB
set_option linter.unusedSimpArgs false
set_option linter.unusedVariables false
namespace Go.Proofs.Ytpbgnidjgmmebaa
open Go.RowKit

/-- Does the arc lead from one of these nodes to another one? -/
def keepB (P : List Int) (a : Arc3) : Bool := decide (a.1 ∈ P) && decide (a.2.1 ∈ P)
def amongL (P : List Int) (L : List Arc3) : List Arc3 := L.filter (keepB P)
theorem amongL_ok {N : Int} {P : List Int} {L : List Arc3} (h : okB N L = true) : okB N (amongL P L) = true := by
  obtain ⟨h1, h2, h3, h4, h5⟩ := okB_elim h
  have hl : (amongL P L).length ≤ L.length := List.length_filter_le _ _
  exact okB_intro h1 h2 (by omega) (fun a ha => h4 a (List.mem_filter.1 ha).1) (h5.sublist (List.filter_sublist))
theorem mem_amongL {P : List Int} {L : List Arc3} {a : Arc3} : a ∈ amongL P L ↔ a ∈ L ∧ a.1 ∈ P ∧ a.2.1 ∈ P := by
  unfold amongL keepB
  rw [List.mem_filter, Bool.and_eq_true, decide_eq_true_eq, decide_eq_true_eq]
theorem mem_leftK {D E V : List Int} {k : Nat} {v : Int} : v ∈ leftK D E V k ↔ (0 ≤ v ∧ v < k) ∧ leftB D E V v = true := by
  unfold leftK
  rw [List.mem_filter, List.mem_map]
  constructor
  · rintro ⟨⟨j, hj, rfl⟩, h⟩
    rw [List.mem_range] at hj
    exact ⟨⟨Int.natCast_nonneg j, by show (j : Int) < (k : Int); omega⟩, h⟩
  · rintro ⟨⟨h0, h1⟩, h⟩
    exact ⟨⟨v.toNat, List.mem_range.2 (by omega), by show ((v.toNat : Nat) : Int) = v; omega⟩, h⟩

/-- A node on a shortest path is one of those that are left. -/
theorem on_left {N s t v : Int} {L : List Arc3} {V : List Int} (h : askB N L V s t = true) (hv : 0 ≤ v ∧ v < N) (ha : 0 ≤ dAt (distL N L s) v) (hb : 0 ≤ dAt (distL N (revL L) t) v) (hs : dAt (distL N L s) v + dAt (distL N (revL L) t) v = dAt (distL N L s) t) :
    v ∈ leftK (distL N L s) (distL N (revL L) t) V N.toNat := by
  obtain ⟨hr, hsN, htN⟩ := askB_elim h
  obtain ⟨ho, hVN⟩ := reachB_ok hr
  refine mem_leftK.2 ⟨⟨hv.1, by omega⟩, ?_⟩
  obtain ⟨q, rfl⟩ : ∃ q : Nat, N = q := ⟨N.toNat, by omega⟩
  obtain ⟨u, rfl⟩ : ∃ u : Nat, v = u := ⟨v.toNat, by omega⟩
  obtain ⟨s', rfl⟩ : ∃ s' : Nat, s = s' := ⟨s.toNat, by omega⟩
  obtain ⟨t', rfl⟩ : ∃ t' : Nat, t = t' := ⟨t.toNat, by omega⟩
  have hu : u < q := by omega
  have ht' := distL_of_turned (s := (u : Int)) (t := (t' : Int)) ho ⟨by omega, by omega⟩ htN
  have hm := (reach_max ho (v := u) (by omega)).2.2 (min (dAt (distL q L s') (u : Int)) (dAt (distL q L u) (t' : Int))) ⟨s', t', by simp; omega, by simp; omega, ha, by rw [← ht']; exact hb, by rw [← ht']; exact hs, rfl⟩
  have hn : notLess q L V (u + 1) = true := by
    cases e : notLess q L V (u + 1) with
    | true => rfl
    | false =>
      have := notLess_false e (V.length - (u + 1))
      rw [show u + 1 + (V.length - (u + 1)) = V.length from by omega] at this
      unfold reachB at hr
      rw [this, Bool.and_false] at hr
      cases hr
  rw [notLess_succ, Bool.and_eq_true, decide_eq_true_eq, reachL_ok ho] at hn
  simp only [Int.toNat_natCast] at hm
  unfold leftB
  rw [decide_eq_true_eq]
  refine ⟨ha, hb, ?_⟩
  rw [ht', Int.toNat_natCast]
  omega

theorem among_near {N s t : Int} {L : List Arc3} {V : List Int} (h : askB N L V s t = true) :
    ∀ (n : Nat) (v : Int), 0 ≤ v → v < N → (dAt (distL N L s) v).toNat = n → 0 ≤ dAt (distL N L s) v → 0 ≤ dAt (distL N (revL L) t) v → dAt (distL N L s) v + dAt (distL N (revL L) t) v = dAt (distL N L s) t →
      0 ≤ dAt (distL N (amongL (leftK (distL N L s) (distL N (revL L) t) V N.toNat) L) s) v ∧ dAt (distL N (amongL (leftK (distL N L s) (distL N (revL L) t) V N.toNat) L) s) v ≤ dAt (distL N L s) v := by
  obtain ⟨hr, hsN, htN⟩ := askB_elim h
  obtain ⟨ho, hVN⟩ := reachB_ok hr
  have hN24 := (okB_elim ho).2.1
  have hin := arcsIn_of_ok ho
  have hp := (okB_elim ho).2.2.2.2
  have hD := distL_is (s := s) hin hN24 hsN.1 hsN.2
  have hE := distL_is (s := t) (arcsIn_of_ok (revL_ok ho)) hN24 htN.1 htN.2
  have on := fun v hv ha hb hs => on_left (v := v) h hv ha hb hs
  obtain ⟨P, hP⟩ : ∃ P, P = leftK (distL N L s) (distL N (revL L) t) V N.toNat := ⟨_, rfl⟩
  rw [← hP] at on ⊢
  have hM := distL_is (s := s) (arcsIn_of_ok (amongL_ok (P := P) ho)) hN24 hsN.1 hsN.2
  intro n
  induction n using Nat.strongRecOn with
  | ind n ih =>
    intro v h0 h1 hn ha hb hs
    rcases hD.back v h0 h1 ha with rfl | ⟨a, haL, rfl, hu, he⟩
    · rw [hM.start, hD.start]; omega
    · obtain ⟨a0, a1, a2, a3, a4, a5⟩ := hin a haL
      have hrev : turnA a ∈ revL L := (revL_mem hp).2 (by show turnA (turnA a) ∈ L; exact haL)
      have e1 := hE.arc _ hrev (by show 0 ≤ dAt _ a.2.1; exact hb)
      have e2 : 0 ≤ dAt (distL N (revL L) t) a.1 ∧ dAt (distL N (revL L) t) a.1 ≤ dAt (distL N (revL L) t) a.2.1 + a.2.2 := e1
      have e3 := hD.tri ho hE _ a.1 a0 a1 rfl e2.1 hu
      have hs1 : dAt (distL N L s) a.1 + dAt (distL N (revL L) t) a.1 = dAt (distL N L s) t := by omega
      obtain ⟨x, y⟩ := ih (dAt (distL N L s) a.1).toNat (by omega) a.1 a0 a1 rfl hu e2.1 hs1
      have hin2 : a ∈ amongL P L := mem_amongL.2 ⟨haL, on a.1 ⟨a0, a1⟩ hu e2.1 hs1, on a.2.1 ⟨a2, a3⟩ ha hb hs⟩
      obtain ⟨z, z2⟩ := hM.arc a hin2 x
      omega

/-- Among the nodes that are left it is as far. -/
theorem among_dist {N s t : Int} {L : List Arc3} {V : List Int} (h : askB N L V s t = true) :
    dAt (distL N (amongL (leftK (distL N L s) (distL N (revL L) t) V N.toNat) L) s) t = dAt (distL N L s) t := by
  obtain ⟨hr, hsN, htN⟩ := askB_elim h
  obtain ⟨ho, hVN⟩ := reachB_ok hr
  have hN24 := (okB_elim ho).2.1
  have hin := arcsIn_of_ok ho
  have hD := distL_is (s := s) hin hN24 hsN.1 hsN.2
  have hE := distL_is (s := t) (arcsIn_of_ok (revL_ok ho)) hN24 htN.1 htN.2
  have near := fun p => among_near h _ t htN.1 htN.2 rfl p (by rw [hE.start]; omega) (by rw [hE.start]; omega)
  obtain ⟨P, hP⟩ : ∃ P, P = leftK (distL N L s) (distL N (revL L) t) V N.toNat := ⟨_, rfl⟩
  rw [← hP] at near ⊢
  have hM := distL_is (s := s) (arcsIn_of_ok (amongL_ok (P := P) ho)) hN24 hsN.1 hsN.2
  have low : ∀ (n : Nat) (v : Int), 0 ≤ v → v < N → (dAt (distL N (amongL P L) s) v).toNat = n → 0 ≤ dAt (distL N (amongL P L) s) v → 0 ≤ dAt (distL N L s) v ∧ dAt (distL N L s) v ≤ dAt (distL N (amongL P L) s) v := by
    intro n
    induction n using Nat.strongRecOn with
    | ind n ih =>
      intro v h0 h1 hn hp
      rcases hM.back v h0 h1 hp with rfl | ⟨a, ha, rfl, hu, he⟩
      · rw [hM.start, hD.start]; omega
      · have haL := (mem_amongL.1 ha).1
        obtain ⟨a0, a1, a2, a3, a4, a5⟩ := hin a haL
        obtain ⟨x, y⟩ := ih (dAt (distL N (amongL P L) s) a.1).toNat (by omega) a.1 a0 a1 rfl hu
        obtain ⟨z, z2⟩ := hD.arc a haL x
        omega
  have l1 := hD.low t
  have l2 := hM.low t
  by_cases p : 0 ≤ dAt (distL N L s) t
  · obtain ⟨x, y⟩ := near p
    obtain ⟨z, z2⟩ := low _ t htN.1 htN.2 rfl x
    omega
  · by_cases p2 : 0 ≤ dAt (distL N (amongL P L) s) t
    · obtain ⟨z, z2⟩ := low _ t htN.1 htN.2 rfl p2
      omega
    · omega

end Go.Proofs.Ytpbgnidjgmmebaa

set_option linter.unusedSimpArgs false
set_option linter.unusedVariables false
namespace Go.Proofs.Ytpbgnidjgmmebaa
open Go.RowKit



/-- k steps along a path, the node behind them being v, and what is still to come. -/
structure OnWay (L : List Arc3) (D : List Int) (s t : Int) (P : List Int) (v : Int) : Prop where
  all : P ++ stepsL L D t v = s :: stepsL L D t s
  last : ∃ Q, P = Q ++ [v]
  far : 0 ≤ dAt D v
theorem OnWay.start {L : List Arc3} {D : List Int} {s t : Int} (h : 0 ≤ dAt D s) : OnWay L D s t [s] s := ⟨rfl, ⟨[], rfl⟩, h⟩
theorem OnWay.next {L : List Arc3} {D : List Int} {s t v : Int} {P : List Int} (h : OnWay L D s t P v) (hv : v ≠ t) {a : Arc3} (hn : nextL L D v = some a) (h0 : 0 ≤ dAt D a.2.1) (hl : dAt D a.2.1 < dAt D v) : OnWay L D s t (P ++ [a.2.1]) a.2.1 := by
  refine ⟨?_, ⟨P, rfl⟩, h0⟩
  rw [← h.all, stepsL_next hv hn h0 hl, List.append_assoc]
  rfl
theorem OnWay.done {L : List Arc3} {D : List Int} {s t : Int} {P : List Int} (h : OnWay L D s t P t) : P = s :: stepsL L D t s := by
  have := h.all
  rwa [stepsL_end, List.append_nil] at this
theorem OnWay.len {L : List Arc3} {D : List Int} {s t v : Int} {P : List Int} (h : OnWay L D s t P v) (hd : dAt D s ≤ 23000) : P.length ≤ 23001 := by
  have h1 := congrArg List.length h.all
  have h2 := stepsL_len L D t _ s rfl
  simp only [List.length_append, List.length_cons] at h1
  omega

end Go.Proofs.Ytpbgnidjgmmebaa

set_option linter.unusedSimpArgs false
set_option linter.unusedVariables false
namespace Go.Proofs.Ytpbgnidjgmmebaa
open Go.RowKit

/-- The path from v down to t, by the next arcs. -/
inductive Way (N : Int) (L : List Arc3) (D : List Int) (t : Int) : Int → List Int → Prop
  | stop : Way N L D t t [t]
  | go {v : Int} {a : Arc3} {P : List Int} (hv : v ≠ t) (hr : 0 ≤ v ∧ v < N) (hn : nextL L D v = some a) (hL : a ∈ L) (h1 : a.1 = v) (h0 : 0 ≤ dAt D a.2.1) (hd : a.2.2 + dAt D a.2.1 = dAt D v) (hl : dAt D a.2.1 < dAt D v) (h : Way N L D t a.2.1 P) : Way N L D t v (v :: P)
section
variable {N t v : Int} {L : List Arc3} {D P : List Int}
theorem Way.pos (h : Way N L D t v P) : 0 < P.length := by cases h <;> simp
theorem Way.head (h : Way N L D t v P) (hp : 0 < P.length) : P[0] = v := by cases h <;> rfl
theorem Way.last (h : Way N L D t v P) : ∀ (hp : P.length - 1 < P.length), P[P.length - 1] = t := by
  induction h with
  | stop => intro _; rfl
  | go hv hr hn hL h1 h0 hd hl h ih =>
    intro hp
    have := h.pos
    have h2 := ih (by omega)
    simp only [List.length_cons]
    rw [List.getElem_cons]
    rw [dif_neg (by omega)]
    simpa using h2
theorem Way.nodes (h : Way N L D t v P) (ht : 0 ≤ t ∧ t < N) (hz : 0 ≤ dAt D t) : ∀ x ∈ P, (0 ≤ x ∧ x < N) ∧ 0 ≤ dAt D x ∧ dAt D x ≤ dAt D v := by
  induction h with
  | stop => intro x hx; simp at hx; subst hx; exact ⟨ht, hz, Int.le_refl _⟩
  | go hv hr hn hL h1 h0 hd hl h ih =>
    intro x hx
    rcases List.mem_cons.1 hx with rfl | hx
    · exact ⟨hr, by omega, Int.le_refl _⟩
    · obtain ⟨a, b, c⟩ := ih x hx
      exact ⟨a, b, by omega⟩
/-- Each step is the next arc. -/
theorem Way.step (h : Way N L D t v P) : ∀ i (hi : i + 1 < P.length), ∃ a, nextL L D (P[i]'(by omega)) = some a ∧ a ∈ L ∧ a.1 = P[i]'(by omega) ∧ a.2.1 = P[i + 1] ∧ a.2.2 + dAt D P[i + 1] = dAt D (P[i]'(by omega)) ∧ dAt D P[i + 1] < dAt D (P[i]'(by omega)) := by
  induction h with
  | stop => intro i hi; simp at hi
  | go hv hr hn hL h1 h0 hd hl h ih =>
    intro i hi
    rcases i with _ | i
    · have hp := h.pos
      have hh := h.head hp
      simp only [List.getElem_cons_zero, List.getElem_cons_succ]
      rw [hh]
      exact ⟨_, hn, hL, h1, rfl, hd, hl⟩
    · simpa using ih i (by simpa using hi)
/-- How far is left falls along the path. -/
theorem Way.falls (h : Way N L D t v P) : ∀ i j (hij : i < j) (hj : j < P.length), dAt D P[j] < dAt D (P[i]'(by omega)) := by
  intro i j hij
  induction j with
  | zero => omega
  | succ j ih =>
    intro hj
    obtain ⟨a, -, -, -, -, -, e⟩ := h.step j hj
    by_cases hh : i = j
    · subst hh; exact e
    · have := ih (by omega) (by omega)
      omega
theorem Way.nodup (h : Way N L D t v P) : ∀ i j (hij : i < j) (hj : j < P.length), P[i]'(by omega) ≠ P[j] := fun i j hij hj e => by
  have := h.falls i j hij hj
  rw [e] at this
  omega
end


/-- Which nodes are between two. -/
theorem distOfI_of {N s t : Int} {L : List Arc3} (ho : okB N L = true) (hs : 0 ≤ s ∧ s < N) (ht : 0 ≤ t ∧ t < N) : distOfI N L s t = dAt (distL N L s) t := by
  unfold distOfI
  rw [if_pos (by unfold has2; rw [ho, Bool.true_and, decide_eq_true_eq]; exact ⟨hs, ht⟩)]
theorem onL_mem {N s t v : Int} {L : List Arc3} (hh : has2 N L s t = true) (hv : 0 ≤ v ∧ v < N) :
    v ∈ onL N L s t ↔ 0 ≤ distOfI N L s v ∧ 0 ≤ distOfI N L v t ∧ distOfI N L s v + distOfI N L v t = distOfI N L s t := by
  obtain ⟨ho, hs, ht⟩ := has2_of hh
  unfold onL
  rw [if_pos hh]
  unfold withinL
  have hD := distL_is (s := s) (arcsIn_of_ok ho) (okB_elim ho).2.1 hs.1 hs.2
  have hE := distL_is (s := t) (arcsIn_of_ok (revL_ok ho)) (okB_elim ho).2.1 ht.1 ht.2
  have hb := byB_on ho hD hE hv.1 hv.2
  rw [distOfI_of ho hs hv, distOfI_of ho hv ht, distOfI_of ho hs ht, ← distL_of_turned ho hv ht]
  have hm : v ∈ withinD N (distL N L s) (distL N (revL L) t) (dAt (distL N L s) t) ↔ byB (distL N L s) (distL N (revL L) t) (dAt (distL N L s) t) v = true := by
    unfold withinD
    rw [List.mem_filter, mem_nodesL]
    constructor
    · exact fun h => h.2
    · exact fun h => ⟨hv, h⟩
  rw [hm, hb, decide_eq_true_eq]

end Go.Proofs.Ytpbgnidjgmmebaa

set_option linter.unusedSimpArgs false
set_option linter.unusedVariables false
namespace Go.Proofs.Ytpbgnidjgmmebaa
open Go.RowKit

theorem amongK_zero (P : List Int) (L : List Arc3) : amongL P (L.take 0) = [] := by simp [amongL]
theorem amongK_yes {P : List Int} {L : List Arc3} {i : Nat} (h : i < L.length) (hk : keepB P L[i] = true) : amongL P (L.take (i + 1)) = amongL P (L.take i) ++ [L[i]] := by
  unfold amongL
  rw [List.take_succ_eq_append_getElem h, List.filter_append, List.filter_cons, if_pos hk]
  rfl
theorem amongK_no {P : List Int} {L : List Arc3} {i : Nat} (h : i < L.length) (hk : keepB P L[i] = false) : amongL P (L.take (i + 1)) = amongL P (L.take i) := by
  unfold amongL
  rw [List.take_succ_eq_append_getElem h, List.filter_append, List.filter_cons, if_neg (by rw [hk]; simp)]
  simp
theorem amongK_len (P : List Int) (L : List Arc3) (i : Nat) : (amongL P (L.take i)).length ≤ i := by
  unfold amongL
  exact Nat.le_trans (List.length_filter_le _ _) (by simp; omega)
theorem amongK_all (P : List Int) (L : List Arc3) : amongL P (L.take L.length) = amongL P L := by rw [List.take_length]

theorem on_pruned {N s t v : Int} {L : List Arc3} {V : List Int} (h : askB N L V s t = true) (hv : v ∈ onL N L s t) : v ∈ prunedL N L V s t := by
  obtain ⟨hr, hsN, htN⟩ := askB_elim h
  obtain ⟨ho, hVN⟩ := reachB_ok hr
  have hh : has2 N L s t = true := by
    unfold has2
    rw [ho]
    simpa using ⟨hsN, htN⟩
  have hvN : 0 ≤ v ∧ v < N := by
    unfold onL at hv
    rw [if_pos hh] at hv
    unfold withinL withinD at hv
    exact mem_nodesL.1 (List.mem_filter.1 hv).1
  unfold prunedL
  rw [if_pos h]
  obtain ⟨a, b, c⟩ := (onL_mem hh hvN).1 hv
  rw [distOfI_of ho hsN hvN] at a c
  rw [distOfI_of ho hvN htN, ← distL_of_turned ho hvN htN] at b c
  rw [distOfI_of ho hsN htN] at c
  exact on_left h hvN a b c
theorem pruned_dist {N s t : Int} {L : List Arc3} {V : List Int} (h : askB N L V s t = true) : distOfI N (amongL (prunedL N L V s t) L) s t = distOfI N L s t := by
  obtain ⟨hr, hsN, htN⟩ := askB_elim h
  obtain ⟨ho, hVN⟩ := reachB_ok hr
  rw [distOfI_of (amongL_ok ho) hsN htN, distOfI_of ho hsN htN]
  unfold prunedL
  rw [if_pos h]
  exact among_dist h

end Go.Proofs.Ytpbgnidjgmmebaa

set_option linter.unusedSimpArgs false
set_option linter.unusedVariables false
namespace Go.Proofs.Ytpbgnidjgmmebaa
open Go.RowKit

/-- A graph of N nodes grows in the box pb. -/
structure PS (wb : World) (pb : Nat) (N : Int) (q : Value) (M : List Arc3) (wr : World) : Prop where
  box : Two wr pb (.int .i64 N) q
  own : OwnA wr (pb + 1) q M
  bl : Bl wb wr
  lo : wb.heap.size ≤ pb
section
variable {wb w2 wr : World} {pb : Nat} {N : Int} {q : Value} {M : List Arc3}
theorem PS.new (w : World) (N : Int) : PS w w.heap.size N (.slice none 0 0) [] (w.alloc (.cells #[.int .i64 N, .slice none 0 0] 26)) :=
  ⟨Two.new w _ _, OwnA.nil_ _ _, Bl.alloc_ (Bl.refl w) _, Nat.le_refl _⟩
theorem PS.bl_ (h : PS wb pb N q M wr) (hb : Bl wr w2) : PS wb pb N q M w2 :=
  ⟨h.box.bl hb, OwnA.bl h.own hb, h.bl.trans_ hb, h.lo⟩
theorem PS.grown_ (h : PS wb pb N q M wr) (hg : wr.grownBy w2 q.ownBlock) : Two w2 pb (.int .i64 N) q ∧ Bl wb w2 := by
  have l1 := h.lo
  exact ⟨h.box.grown_ hg (fun e => by have := (h.own.lt pb e.symm).1; omega), h.bl.grown_ hg (fun g e => by
    have := (h.own.lt g e).1
    omega)⟩
theorem PS.app (h : PS wb pb N q M wr) (hg : wr.grownBy w2 q.ownBlock) {q2 : Value} {M2 : List Arc3} (ho : OwnA w2 (pb + 1) q2 M2) : PS wb pb N q2 M2 (w2.setCell ⟨pb, 1, none⟩ q2) := by
  obtain ⟨a, b⟩ := h.grown_ hg
  have l1 := h.lo
  exact ⟨a.set1 q2, ho.set_ (by show pb < pb + 1; omega) q2, b.set_ (by show wb.heap.size ≤ pb; omega) q2, h.lo⟩
end

end Go.Proofs.Ytpbgnidjgmmebaa

set_option linter.unusedSimpArgs false
set_option linter.unusedVariables false
namespace Go.Proofs.Ytpbgnidjgmmebaa
open Go.RowKit



set_option maxHeartbeats 2000000 in
theorem node_any (N : Int) (v : Value) (rd : Nat) (A : Option Addr) (n c : Nat) (w : World) (hn : n ≤ 1099511627776) (h0 : -9223372036854775808 ≤ N) (h1 : N ≤ 9223372036854775807) (HR : RdAny w rd A n c) :
    Calls Try.prog 59 #[.pointer (some ⟨rd, 0, none⟩), .agg #[.int .i64 N, v]] w (RdPost In64 rd A n c w) := by
  have R := Lib.hid HR
  have hlt := HR.lt
  clear HR
  go_enter Try.func59, Try.ntmps59
  go_wp2_with fail
  refine (once_any 30 rd A n c _ hn (by omega) (by omega) (R.out.bl (Bl.alloc_ (Bl.refl w) _))).mono ?_
  rintro e w1 ⟨b, rfl, hr, hg⟩
  have R1 := Lib.hid hr
  have q0 : w1.cell? ⟨w.heap.size, 0, none⟩ = some (.int .i64 N) := hg.cell (by simp [go_sem]) (by simp; omega)
  have G1 := Lib.hid (grown_trans (bl_grown (Bl.alloc_ (Bl.refl w) _) _) hg)
  clear hr hg
  have hb := wrap64_bounds (N - 1)
  cases b with
  | true =>
    go_wp2_with fail
    refine (off_any 0 (wrap64 (N - 1)) rd A n c _ hn (by omega) (by omega) hb.1 hb.2 R1.out).mono ?_
    rintro e w2 ⟨d, hd, rfl, hr, hg⟩
    have HD := Lib.hid hd
    have R2 := Lib.hid hr
    have G2 := Lib.hid hg
    clear hr hg hd
    go_wp2
    go_ret
    exact ⟨d, HD.out, rfl, R2.out, grown_trans G1.out G2.out⟩
  | false =>
    go_wp2_with fail
    all_goals (refine (below_any _ rd A n c _ hn (by omega) R1.out).mono ?_; rintro e w2 ⟨d, hd, rfl, hr, hg⟩; have HD := Lib.hid (show In64 d from by unfold In64; omega); have R2 := Lib.hid hr; have G2 := Lib.hid hg; clear hr hg hd)
    all_goals (go_wp2; go_ret; exact ⟨d, HD.out, rfl, R2.out, grown_trans G1.out G2.out⟩)

end Go.Proofs.Ytpbgnidjgmmebaa

set_option linter.unusedSimpArgs false
set_option linter.unusedVariables false
namespace Go.Proofs.Ytpbgnidjgmmebaa
open Go.RowKit

/-- A drawn graph: some number of nodes, some arcs, in new memory. -/
def Drawn (B : Nat) (w' : World) (N : Int) (A' : Option Addr) (l c' : Nat) (L : List Arc3) : Prop :=
  l = L.length ∧ l ≤ 200 ∧ In64 N ∧ OwnA w' B (.slice A' l c') L
/-- What the drawing of a graph leaves. -/
def GraphDrawn (rd : Nat) (A : Option Addr) (n c : Nat) (w : World) (e : Ending) (w' : World) : Prop :=
  ∃ (N : Int) (A' : Option Addr) (l c' : Nat) (L : List Arc3), e = .returned (.agg #[.int .i64 N, .slice A' l c']) ∧ Drawn w.heap.size w' N A' l c' L ∧ RdAny w' rd A n c ∧ w.grownBy w' (some rd)

theorem RdAny.set_ {w : World} {rd : Nat} {A : Option Addr} {n c : Nat} (h : RdAny w rd A n c) {p : Addr} (hp : p.block ≠ rd) (hA : 0 < n → ∀ g off, A = some ⟨g, off, none⟩ → g ≠ p.block) (u : Value) : RdAny (w.setCell p u) rd A n c := by
  obtain ⟨q, hr, hq, hc⟩ := h
  refine ⟨q, World.rowIs.setOther hr (fun e => hp e.symm) u, hq, fun h0 => ?_⟩
  obtain ⟨g, off, e, hne, hlt, hcell⟩ := hc h0
  refine ⟨g, off, e, hne, by rw [World.size_setCell]; exact hlt, fun j hj => ?_⟩
  obtain ⟨b, h1, h2⟩ := hcell j hj
  exact ⟨b, by rw [World.cell?_setCell_other _ _ _ _ (fun e' => hA h0 g off e (by rw [e']))]; exact h1, h2⟩

/-- The state while a graph is drawn: the graph's box at gb, the result's box at g0. -/
structure GS (w : World) (rd : Nat) (A : Option Addr) (n c g0 gb : Nat) (N0 : Int) (q : Value) (L : List Arc3) (wr : World) : Prop where
  box : Two wr gb (.int .i64 N0) q
  res : Two wr g0 (.int .i64 0) (.slice none 0 0)
  own : OwnA wr (gb + 1) q L
  rdr : RdAny wr rd A n c
  grw : w.grownBy wr (some rd)
  lo1 : w.heap.size ≤ g0
  lo2 : g0 < gb
  rlt : rd < w.heap.size
  alt : 0 < n → ∀ g off, A = some ⟨g, off, none⟩ → g < w.heap.size
section
variable {w wr w2 : World} {rd : Nat} {A : Option Addr} {n c g0 gb : Nat} {N0 : Int} {q : Value} {L : List Arc3}
theorem GS.rd_ (h : GS w rd A n c g0 gb N0 q L wr) (hr : RdAny w2 rd A n c) (hg : wr.grownBy w2 (some rd)) : GS w rd A n c g0 gb N0 q L w2 := by
  have h1 := h.lo1; have h2 := h.lo2; have h3 := h.rlt
  exact ⟨h.box.grown_ hg (fun e => by injection e with e; omega), h.res.grown_ hg (fun e => by injection e with e; omega), h.own.grown_ hg (fun g e => by injection e with e; omega), hr, grown_trans h.grw hg, h1, h2, h3, h.alt⟩
theorem GS.bl_ (h : GS w rd A n c g0 gb N0 q L wr) (hb : Bl wr w2) : GS w rd A n c g0 gb N0 q L w2 :=
  ⟨h.box.bl hb, h.res.bl hb, h.own.bl hb, h.rdr.bl hb, grown_trans h.grw (bl_grown hb _), h.lo1, h.lo2, h.rlt, h.alt⟩
theorem GS.put (h : GS w rd A n c g0 gb N0 q L wr) {q2 : Value} {L2 : List Arc3} (ho : OwnA wr (gb + 1) q2 L2) : GS w rd A n c g0 gb N0 q2 L2 (wr.setCell ⟨gb, 1, none⟩ q2) := by
  have h1 := h.lo1; have h2 := h.lo2; have h3 := h.rlt
  exact ⟨h.box.set1 _, h.res.far (by show g0 ≠ gb; omega) _, ho.set_ (by show gb < gb + 1; omega) _, h.rdr.set_ (by show gb ≠ rd; omega) (fun h0 g off e => by have := h.alt h0 g off e; show g ≠ gb; omega) _,
    ⟨h.grw.os, h.grw.tape, h.grw.output, by rw [World.size_setCell]; exact h.grw.size, fun i hi hne => (Below.heap_setCell wr ⟨gb, 1, none⟩ q2 i (by show i ≠ gb; omega)).trans (h.grw.block i hi hne)⟩, h1, h2, h3, h.alt⟩
theorem GS.num (h : GS w rd A n c g0 gb N0 q L wr) (N1 : Int) : GS w rd A n c g0 gb N1 q L (wr.setCell ⟨gb, 0, none⟩ (.int .i64 N1)) := by
  have h1 := h.lo1; have h2 := h.lo2; have h3 := h.rlt
  exact ⟨h.box.set0 _, h.res.far (by show g0 ≠ gb; omega) _, h.own.set_ (by show gb < gb + 1; omega) _, h.rdr.set_ (by show gb ≠ rd; omega) (fun h0 g off e => by have := h.alt h0 g off e; show g ≠ gb; omega) _,
    ⟨h.grw.os, h.grw.tape, h.grw.output, by rw [World.size_setCell]; exact h.grw.size, fun i hi hne => (Below.heap_setCell wr ⟨gb, 0, none⟩ _ i (by show i ≠ gb; omega)).trans (h.grw.block i hi hne)⟩, h1, h2, h3, h.alt⟩
theorem GS.fin {A' : Option Addr} {l c' : Nat} (h : GS w rd A n c g0 gb N0 (.slice A' l c') L wr) (h0 : In64 N0) (hl : L.length ≤ 200) (x y : Value) :
    GraphDrawn rd A n c w (.returned (.agg #[.int .i64 N0, .slice A' l c'])) ((wr.setCell ⟨g0, 0, none⟩ x).setCell ⟨g0, 1, none⟩ y) := by
  have h1 := h.lo1; have h2 := h.lo2; have h3 := h.rlt
  obtain ⟨AA, cc, hq, _, _⟩ := h.own.shape
  injection hq with _ e2 _
  refine ⟨N0, A', l, c', L, rfl, ⟨e2, by omega, h0, ((h.own.set_ (by show g0 < gb + 1; omega) _).set_ (by show g0 < gb + 1; omega) _).low (by omega)⟩,
    (h.rdr.set_ (by show g0 ≠ rd; omega) (fun h0 g off e => by have := h.alt h0 g off e; show g ≠ g0; omega) _).set_ (by show g0 ≠ rd; omega) (fun h0 g off e => by have := h.alt h0 g off e; show g ≠ g0; omega) _,
    ⟨h.grw.os, h.grw.tape, h.grw.output, by rw [World.size_setCell, World.size_setCell]; exact h.grw.size, fun i hi hne => (Below.heap_setCell _ ⟨g0, 1, none⟩ y i (by show i ≠ g0; omega)).trans ((Below.heap_setCell wr ⟨g0, 0, none⟩ x i (by show i ≠ g0; omega)).trans (h.grw.block i hi hne))⟩⟩
end

set_option maxRecDepth 100000 in
set_option maxHeartbeats 8000000 in
theorem graph_any (most : Int) (rd : Nat) (A : Option Addr) (n c : Nat) (w : World) (hn : n ≤ 1099511627776) (m0 : 2 ≤ most) (m1 : most ≤ 16) (HR : RdAny w rd A n c) (HA : 0 < n → ∀ g off, A = some ⟨g, off, none⟩ → g < w.heap.size) :
    Calls Try.prog 58 #[.pointer (some ⟨rd, 0, none⟩), .int .i64 most] w (GraphDrawn rd A n c w) := by
  have R := Lib.hid HR
  have AL := Lib.hid HA
  have hlt := HR.lt
  clear HR HA
  go_enter Try.func58, Try.ntmps58
  go_wp2_with fail
  refine (below_any most rd A n c _ hn (by omega) (R.out.bl (Bl.alloc_ (Bl.refl w) _))).mono ?_
  rintro e w1 ⟨b, hb, rfl, hr, hg⟩
  have b0 : 0 ≤ b := hb.1
  have b1 : b < most := by omega
  have hs1 : w.heap.size + 1 ≤ w1.heap.size := by have := hg.size; simpa using this
  have GS0 := Lib.hid (show GS w rd A n c w.heap.size w1.heap.size (1 + b) (.slice none 0 0) [] (w1.alloc (.cells #[.int .i64 (1 + b), .slice none 0 0] 26)) from
    ⟨Two.new _ _ _, Two.bl ((Two.new w _ _).grown_ hg (fun e => by injection e with e; omega)) (Bl.alloc_ (Bl.refl _) _), OwnA.nil_ _ _, hr.bl (Bl.alloc_ (Bl.refl _) _),
      grown_trans (grown_trans (bl_grown (Bl.alloc_ (Bl.refl w) _) _) hg) (bl_grown (Bl.alloc_ (Bl.refl w1) _) _), Nat.le_refl _, by omega, hlt, AL.out⟩)
  obtain ⟨gb, hgb⟩ : ∃ gb, gb = w1.heap.size := ⟨_, rfl⟩
  clear hr hg hb
  go_wp2_with fail
  rw [← hgb] at GS0 ⊢
  refine (once_any 4 rd A n c _ hn (by omega) (by omega) GS0.out.rdr).mono ?_
  rintro e w2 ⟨tst, rfl, hr, hg⟩
  have GS1 := Lib.hid (GS0.out.rd_ hr hg)
  clear hr hg hgb hs1 GS0
  cases tst with
  | true =>
    have hL0 : ([] : List Arc3).length ≤ 32 := by simp
    obtain ⟨c0, c1, f0, f1⟩ := GS1.out.box.facts
    go_wp2_with fail
    refine (below_any 8 rd A n c _ hn (by omega) GS1.out.rdr).mono ?_
    rintro e w5 ⟨y, hy, rfl, hr, hg⟩
    have y0 : 0 ≤ y := hy.1
    have y1 : y < 8 := by have := hy.2; omega
    have T := Lib.hid (GS1.out.rd_ hr hg)
    clear hy hr hg c0 c1 f0 f1 GS1
    go_wp2_with fail
    go_loopw [9] (fun i wr => ∃ (m : Int) (q : Value) (L : List Arc3), 0 ≤ m ∧ m ≤ 7 ∧ i = .int .i64 m ∧ (L.length : Int) + m ≤ 40 ∧ GS w rd A n c w.heap.size gb (1 + b) q L wr) (fun i _ => (intOf i).toNat)
    case atStart => exact ⟨y, _, _, y0, by omega, rfl, by first | omega | (simp; omega), T.out⟩
    case round =>
      clear T hL0
      obtain ⟨m, q2, L2, mm0, m7, rfl, hL2, hS2⟩ := hrel
      have U := Lib.hid hS2
      clear hS2
      obtain ⟨c0, c1, f0, f1⟩ := U.out.box.facts
      by_cases e1 : 0 < m
      · by_cases e2 : 1 < 1 + b
        · go_wp2_with fail
          refine (below_any (1 + b) rd A n c _ hn (by omega) U.out.rdr).mono ?_
          rintro e w6 ⟨u, hu, rfl, hr, hg⟩
          have u0 : 0 ≤ u := hu.1
          have u1 : u < 16 := by have := hu.2; omega
          have U1 := Lib.hid (U.out.rd_ hr hg)
          clear hu hr hg c0 c1 f0 f1 U
          obtain ⟨c0, c1, f0, f1⟩ := U1.out.box.facts
          go_wp2_with fail
          refine (below_any (1 + b) rd A n c _ hn (by omega) U1.out.rdr).mono ?_
          rintro e w7 ⟨v, hv, rfl, hr, hg⟩
          have v0 : 0 ≤ v := hv.1
          have v1 : v < 16 := by have := hv.2; omega
          have U2 := Lib.hid (U1.out.rd_ hr hg)
          clear hv hr hg c0 c1 f0 f1 U1
          obtain ⟨AA, cc, rfl, hAA, _⟩ := U2.out.own.shape
          clear hAA
          obtain ⟨c0, c1, f0, f1⟩ := U2.out.box.facts
          by_cases e3 : (u != v) = true
          · go_wp2_with fail
            go_region_with (first
              | (go_at_call 74; refine (below_any 12 rd A n c _ hn (by omega) ((U2.out.bl_ (by repeat' (first | exact Bl.refl _ | with_reducible assumption | with_reducible refine Bl.drew_ ?_ | with_reducible refine Bl.drewN_ ?_ _ | with_reducible refine Bl.alloc_ ?_ _ | with_reducible refine Bl.trans_ ?_ (by assumption) | with_reducible refine Bl.trans_ ?_ (And.left (by assumption))))).rdr)).mono ?_; rintro e w8 ⟨z, hz, rfl, hr, hg⟩; have z0 : 0 ≤ z := hz.1; have z1 : z < 12 := (by have := hz.2; omega); have U3 := Lib.hid ((U2.out.bl_ (by repeat' (first | exact Bl.refl _ | with_reducible assumption | with_reducible refine Bl.drew_ ?_ | with_reducible refine Bl.drewN_ ?_ _ | with_reducible refine Bl.alloc_ ?_ _ | with_reducible refine Bl.trans_ ?_ (by assumption) | with_reducible refine Bl.trans_ ?_ (And.left (by assumption))))).rd_ hr hg); clear hz hr hg; obtain ⟨d0, d1, k0, k1⟩ := U3.out.box.facts)
              | (go_at_call 90; obtain ⟨_, _, hq, hAA, _⟩ := U3.out.own.shape; injection hq with q1 _ q3; subst q1; subst q3; refine (l1Put_any _ _ _ _ _ _ L2 rfl _ (by omega) hAA).mono ?_; rintro e w9 ⟨v4, rfl, ho, hb⟩; obtain ⟨AB, cb, rfl, _, _⟩ := ho.shape; have P := putL_len (u, v, 1 + z) L2; have U4 := Lib.hid ((U3.out.bl_ hb).put (ho.low (World.rowIs.lt U3.out.box))); clear d0 d1 k0 k1; obtain ⟨d0, d1, k0, k1⟩ := (U3.out.bl_ hb).box.facts; clear hAA ho hb))
            all_goals (go_wp2; go_roundw)
            all_goals (first | (case measure => (simp [intOf]; omega)) | skip)
            all_goals (refine ⟨m - 1, .slice AB (putL (u, v, 1 + z) L2).length cb, putL (u, v, 1 + z) L2, by omega, by omega, by go_num, by omega, by have hw : IntKind.i64.wrap (1 + z) = 1 + z := IntWalk.i64_in _ (by omega); have X := U4.out; rw [hw] at X; exact X⟩)
          · have e3' : (u != v) = false := by simpa using e3
            clear e3
            go_wp2_with fail
            go_roundw
            case rel => exact ⟨m - 1, _, L2, by omega, by omega, by go_num, by omega, U2.out⟩
            case measure => simp [intOf]; omega
        · skip
          obtain ⟨AV, cv, rfl, hAV, _⟩ := U.out.own.shape
          clear hAV
          go_wp2_with fail
          refine (once_any 60 rd A n c _ hn (by omega) (by omega) U.out.rdr).mono ?_
          rintro e w8 ⟨t3, rfl, hr, hg⟩
          have V := Lib.hid (U.out.rd_ hr hg)
          clear hr hg c0 c1 f0 f1 U
          cases t3 with
          | true =>
            go_wp2_with fail
            refine (off_any 1 24 rd A n c _ hn (by omega) (by omega) (by omega) (by omega) V.out.rdr).mono ?_
            rintro e w9 ⟨N9, hN9, rfl, hr, hg⟩
            have W := Lib.hid (V.out.rd_ hr hg)
            obtain ⟨c0, c1, f0, f1⟩ := W.out.box.facts
            obtain ⟨r0, r1, fr0, fr1⟩ := W.out.res.facts
            have nb : gb ≠ w.heap.size := by have := W.out.lo2; omega
            have nb' : w.heap.size ≠ gb := by omega
            go_wp2
            refine bodyPost_ret (v := .agg #[.int .i64 N9, .slice AV L2.length cv]) (by simp [results, Try.results58, go_sem, r0, r1, fr0, fr1, nb, nb']) rfl ?_
            exact GS.fin (W.out.num N9) hN9 (by omega) _ _
          | false =>
            obtain ⟨c0, c1, f0, f1⟩ := V.out.box.facts
            obtain ⟨r0, r1, fr0, fr1⟩ := V.out.res.facts
            have nb : gb ≠ w.heap.size := by have := V.out.lo2; omega
            have nb' : w.heap.size ≠ gb := by omega
            go_wp2
            refine bodyPost_ret (v := .agg #[.int .i64 (1 + b), .slice AV L2.length cv]) (by simp [results, Try.results58, go_sem, r0, r1, fr0, fr1, nb, nb']) rfl ?_
            exact GS.fin (V.out) ⟨by omega, by omega⟩ (by omega) _ _
      · skip
        obtain ⟨AV, cv, rfl, hAV, _⟩ := U.out.own.shape
        clear hAV
        go_wp2_with fail
        refine (once_any 60 rd A n c _ hn (by omega) (by omega) U.out.rdr).mono ?_
        rintro e w8 ⟨t3, rfl, hr, hg⟩
        have V := Lib.hid (U.out.rd_ hr hg)
        clear hr hg c0 c1 f0 f1 U
        cases t3 with
        | true =>
          go_wp2_with fail
          refine (off_any 1 24 rd A n c _ hn (by omega) (by omega) (by omega) (by omega) V.out.rdr).mono ?_
          rintro e w9 ⟨N9, hN9, rfl, hr, hg⟩
          have W := Lib.hid (V.out.rd_ hr hg)
          obtain ⟨c0, c1, f0, f1⟩ := W.out.box.facts
          obtain ⟨r0, r1, fr0, fr1⟩ := W.out.res.facts
          have nb : gb ≠ w.heap.size := by have := W.out.lo2; omega
          have nb' : w.heap.size ≠ gb := by omega
          go_wp2
          refine bodyPost_ret (v := .agg #[.int .i64 N9, .slice AV L2.length cv]) (by simp [results, Try.results58, go_sem, r0, r1, fr0, fr1, nb, nb']) rfl ?_
          exact GS.fin (W.out.num N9) hN9 (by omega) _ _
        | false =>
          obtain ⟨c0, c1, f0, f1⟩ := V.out.box.facts
          obtain ⟨r0, r1, fr0, fr1⟩ := V.out.res.facts
          have nb : gb ≠ w.heap.size := by have := V.out.lo2; omega
          have nb' : w.heap.size ≠ gb := by omega
          go_wp2
          refine bodyPost_ret (v := .agg #[.int .i64 (1 + b), .slice AV L2.length cv]) (by simp [results, Try.results58, go_sem, r0, r1, fr0, fr1, nb, nb']) rfl ?_
          exact GS.fin (V.out) ⟨by omega, by omega⟩ (by omega) _ _
  | false =>
    go_wp2_with fail
    go_loopw [7] (fun i wr => ∃ (k : Nat) (q : Value) (L : List Arc3), (k : Int) ≤ b ∧ i = .int .i64 k ∧ L.length ≤ 2 * k ∧ GS w rd A n c w.heap.size gb (1 + b) q L wr) (fun i _ => (16 - intOf i).toNat)
    case atStart => exact ⟨0, _, _, by omega, rfl, by simp, GS1.out⟩
    case round =>
      obtain ⟨k, q, L, hk, rfl, hL, hS⟩ := hrel
      have S := Lib.hid hS
      clear hS
      by_cases hlt : (k : Int) + 1 < 1 + b
      · skip
        obtain ⟨c0, c1, f0, f1⟩ := S.out.box.facts
        go_wp2_with fail
        refine (below_any 5 rd A n c _ hn (by omega) S.out.rdr).mono ?_
        rintro e w3 ⟨x, hx, rfl, hr, hg⟩
        have x0 : 0 ≤ x := hx.1
        have x1 : x < 5 := by have := hx.2; omega
        have S3 := Lib.hid (S.out.rd_ hr hg)
        clear c0 c1 f0 f1 hr hg S hx
        have P := Lib.hid (putL_len (k, k + 1, 1 + x) L)
        obtain ⟨AA1, cc1, rfl, hAA, _⟩ := S3.out.own.shape
        have HA := Lib.hid hAA
        clear hAA
        obtain ⟨c0, c1, f0, f1⟩ := S3.out.box.facts
        go_wp2_with fail
        refine (l1Put_any _ _ _ AA1 _ cc1 _ rfl _ (by omega) HA.out).mono ?_
        rintro e w4 ⟨v4, rfl, ho, hb⟩
        obtain ⟨AB1, cb1, rfl, _, _⟩ := ho.shape
        have S4 := Lib.hid ((S3.out.bl_ hb).put (ho.low (World.rowIs.lt S3.out.box)))
        clear c0 c1 f0 f1
        obtain ⟨c0, c1, f0, f1⟩ := (S3.out.bl_ hb).box.facts
        clear ho hb S3 HA
        go_wp2_with fail
        refine (once_any 2 rd A n c _ hn (by omega) (by omega) S4.out.rdr).mono ?_
        rintro e w5 ⟨tst, rfl, hr, hg⟩
        have S5 := Lib.hid (S4.out.rd_ hr hg)
        clear hr hg c0 c1 f0 f1 S4
        have P := P.out
        cases tst with
        | true =>
          have P2 := putL_len (k + 1, k, 1 + x) (putL (k, k + 1, 1 + x) L)
          obtain ⟨AA2, cc2, hq, hAA, _⟩ := S5.out.own.shape
          injection hq with e1 _ e3
          subst e1
          subst e3
          have HA := Lib.hid hAA
          clear hAA
          obtain ⟨c0, c1, f0, f1⟩ := S5.out.box.facts
          go_wp2_with fail
          refine (l1Put_any _ _ _ _ _ _ _ rfl _ (by omega) HA.out).mono ?_
          rintro e w6 ⟨v4, rfl, ho, hb⟩
          obtain ⟨AB2, cb2, rfl, _, _⟩ := ho.shape
          have S6 := Lib.hid ((S5.out.bl_ hb).put (ho.low (World.rowIs.lt S5.out.box)))
          clear c0 c1 f0 f1
          obtain ⟨c0, c1, f0, f1⟩ := (S5.out.bl_ hb).box.facts
          clear ho hb S5 HA
          go_wp2_with fail
          go_roundw
          case rel => exact ⟨k + 1, _, _, by omega, by go_num, by omega, S6.out⟩
          case measure => simp [intOf]; omega
        | false =>
          go_wp2_with fail
          go_roundw
          case rel => exact ⟨k + 1, _, _, by omega, by go_num, by omega, S5.out⟩
          case measure => simp [intOf]; omega
      · have hL0 : L.length ≤ 32 := by omega
        clear hL
        obtain ⟨c0, c1, f0, f1⟩ := S.out.box.facts
        go_wp2_with fail
        refine (below_any 8 rd A n c _ hn (by omega) S.out.rdr).mono ?_
        rintro e w5 ⟨y, hy, rfl, hr, hg⟩
        have y0 : 0 ≤ y := hy.1
        have y1 : y < 8 := by have := hy.2; omega
        have T := Lib.hid (S.out.rd_ hr hg)
        clear hy hr hg c0 c1 f0 f1 S
        go_wp2_with fail
        go_loopw [9] (fun i wr => ∃ (m : Int) (q : Value) (L : List Arc3), 0 ≤ m ∧ m ≤ 7 ∧ i = .int .i64 m ∧ (L.length : Int) + m ≤ 40 ∧ GS w rd A n c w.heap.size gb (1 + b) q L wr) (fun i _ => (intOf i).toNat)
        case atStart => exact ⟨y, _, _, y0, by omega, rfl, by first | omega | (simp; omega), T.out⟩
        case round =>
          clear T hL0
          obtain ⟨m, q2, L2, mm0, m7, rfl, hL2, hS2⟩ := hrel
          have U := Lib.hid hS2
          clear hS2
          obtain ⟨c0, c1, f0, f1⟩ := U.out.box.facts
          by_cases e1 : 0 < m
          · by_cases e2 : 1 < 1 + b
            · go_wp2_with fail
              refine (below_any (1 + b) rd A n c _ hn (by omega) U.out.rdr).mono ?_
              rintro e w6 ⟨u, hu, rfl, hr, hg⟩
              have u0 : 0 ≤ u := hu.1
              have u1 : u < 16 := by have := hu.2; omega
              have U1 := Lib.hid (U.out.rd_ hr hg)
              clear hu hr hg c0 c1 f0 f1 U
              obtain ⟨c0, c1, f0, f1⟩ := U1.out.box.facts
              go_wp2_with fail
              refine (below_any (1 + b) rd A n c _ hn (by omega) U1.out.rdr).mono ?_
              rintro e w7 ⟨v, hv, rfl, hr, hg⟩
              have v0 : 0 ≤ v := hv.1
              have v1 : v < 16 := by have := hv.2; omega
              have U2 := Lib.hid (U1.out.rd_ hr hg)
              clear hv hr hg c0 c1 f0 f1 U1
              obtain ⟨AA, cc, rfl, hAA, _⟩ := U2.out.own.shape
              clear hAA
              obtain ⟨c0, c1, f0, f1⟩ := U2.out.box.facts
              by_cases e3 : (u != v) = true
              · go_wp2_with fail
                go_region_with (first
                  | (go_at_call 74; refine (below_any 12 rd A n c _ hn (by omega) ((U2.out.bl_ (by repeat' (first | exact Bl.refl _ | with_reducible assumption | with_reducible refine Bl.drew_ ?_ | with_reducible refine Bl.drewN_ ?_ _ | with_reducible refine Bl.alloc_ ?_ _ | with_reducible refine Bl.trans_ ?_ (by assumption) | with_reducible refine Bl.trans_ ?_ (And.left (by assumption))))).rdr)).mono ?_; rintro e w8 ⟨z, hz, rfl, hr, hg⟩; have z0 : 0 ≤ z := hz.1; have z1 : z < 12 := (by have := hz.2; omega); have U3 := Lib.hid ((U2.out.bl_ (by repeat' (first | exact Bl.refl _ | with_reducible assumption | with_reducible refine Bl.drew_ ?_ | with_reducible refine Bl.drewN_ ?_ _ | with_reducible refine Bl.alloc_ ?_ _ | with_reducible refine Bl.trans_ ?_ (by assumption) | with_reducible refine Bl.trans_ ?_ (And.left (by assumption))))).rd_ hr hg); clear hz hr hg; obtain ⟨d0, d1, k0, k1⟩ := U3.out.box.facts)
                  | (go_at_call 90; obtain ⟨_, _, hq, hAA, _⟩ := U3.out.own.shape; injection hq with q1 _ q3; subst q1; subst q3; refine (l1Put_any _ _ _ _ _ _ L2 rfl _ (by omega) hAA).mono ?_; rintro e w9 ⟨v4, rfl, ho, hb⟩; obtain ⟨AB, cb, rfl, _, _⟩ := ho.shape; have P := putL_len (u, v, 1 + z) L2; have U4 := Lib.hid ((U3.out.bl_ hb).put (ho.low (World.rowIs.lt U3.out.box))); clear d0 d1 k0 k1; obtain ⟨d0, d1, k0, k1⟩ := (U3.out.bl_ hb).box.facts; clear hAA ho hb))
                all_goals (go_wp2; go_roundw)
                all_goals (first | (case measure => (simp [intOf]; omega)) | skip)
                all_goals (refine ⟨m - 1, .slice AB (putL (u, v, 1 + z) L2).length cb, putL (u, v, 1 + z) L2, by omega, by omega, by go_num, by omega, by have hw : IntKind.i64.wrap (1 + z) = 1 + z := IntWalk.i64_in _ (by omega); have X := U4.out; rw [hw] at X; exact X⟩)
              · have e3' : (u != v) = false := by simpa using e3
                clear e3
                go_wp2_with fail
                go_roundw
                case rel => exact ⟨m - 1, _, L2, by omega, by omega, by go_num, by omega, U2.out⟩
                case measure => simp [intOf]; omega
            · skip
              obtain ⟨AV, cv, rfl, hAV, _⟩ := U.out.own.shape
              clear hAV
              go_wp2_with fail
              refine (once_any 60 rd A n c _ hn (by omega) (by omega) U.out.rdr).mono ?_
              rintro e w8 ⟨t3, rfl, hr, hg⟩
              have V := Lib.hid (U.out.rd_ hr hg)
              clear hr hg c0 c1 f0 f1 U
              cases t3 with
              | true =>
                go_wp2_with fail
                refine (off_any 1 24 rd A n c _ hn (by omega) (by omega) (by omega) (by omega) V.out.rdr).mono ?_
                rintro e w9 ⟨N9, hN9, rfl, hr, hg⟩
                have W := Lib.hid (V.out.rd_ hr hg)
                obtain ⟨c0, c1, f0, f1⟩ := W.out.box.facts
                obtain ⟨r0, r1, fr0, fr1⟩ := W.out.res.facts
                have nb : gb ≠ w.heap.size := by have := W.out.lo2; omega
                have nb' : w.heap.size ≠ gb := by omega
                go_wp2
                refine bodyPost_ret (v := .agg #[.int .i64 N9, .slice AV L2.length cv]) (by simp [results, Try.results58, go_sem, r0, r1, fr0, fr1, nb, nb']) rfl ?_
                exact GS.fin (W.out.num N9) hN9 (by omega) _ _
              | false =>
                obtain ⟨c0, c1, f0, f1⟩ := V.out.box.facts
                obtain ⟨r0, r1, fr0, fr1⟩ := V.out.res.facts
                have nb : gb ≠ w.heap.size := by have := V.out.lo2; omega
                have nb' : w.heap.size ≠ gb := by omega
                go_wp2
                refine bodyPost_ret (v := .agg #[.int .i64 (1 + b), .slice AV L2.length cv]) (by simp [results, Try.results58, go_sem, r0, r1, fr0, fr1, nb, nb']) rfl ?_
                exact GS.fin (V.out) ⟨by omega, by omega⟩ (by omega) _ _
          · skip
            obtain ⟨AV, cv, rfl, hAV, _⟩ := U.out.own.shape
            clear hAV
            go_wp2_with fail
            refine (once_any 60 rd A n c _ hn (by omega) (by omega) U.out.rdr).mono ?_
            rintro e w8 ⟨t3, rfl, hr, hg⟩
            have V := Lib.hid (U.out.rd_ hr hg)
            clear hr hg c0 c1 f0 f1 U
            cases t3 with
            | true =>
              go_wp2_with fail
              refine (off_any 1 24 rd A n c _ hn (by omega) (by omega) (by omega) (by omega) V.out.rdr).mono ?_
              rintro e w9 ⟨N9, hN9, rfl, hr, hg⟩
              have W := Lib.hid (V.out.rd_ hr hg)
              obtain ⟨c0, c1, f0, f1⟩ := W.out.box.facts
              obtain ⟨r0, r1, fr0, fr1⟩ := W.out.res.facts
              have nb : gb ≠ w.heap.size := by have := W.out.lo2; omega
              have nb' : w.heap.size ≠ gb := by omega
              go_wp2
              refine bodyPost_ret (v := .agg #[.int .i64 N9, .slice AV L2.length cv]) (by simp [results, Try.results58, go_sem, r0, r1, fr0, fr1, nb, nb']) rfl ?_
              exact GS.fin (W.out.num N9) hN9 (by omega) _ _
            | false =>
              obtain ⟨c0, c1, f0, f1⟩ := V.out.box.facts
              obtain ⟨r0, r1, fr0, fr1⟩ := V.out.res.facts
              have nb : gb ≠ w.heap.size := by have := V.out.lo2; omega
              have nb' : w.heap.size ≠ gb := by omega
              go_wp2
              refine bodyPost_ret (v := .agg #[.int .i64 (1 + b), .slice AV L2.length cv]) (by simp [results, Try.results58, go_sem, r0, r1, fr0, fr1, nb, nb']) rfl ?_
              exact GS.fin (V.out) ⟨by omega, by omega⟩ (by omega) _ _

end Go.Proofs.Ytpbgnidjgmmebaa
