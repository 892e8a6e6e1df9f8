/-
  What is proved here: plain facts on the first arc by way of which it is no farther, and on paths that are gone step by step; plain facts on the first of the shortest paths, and on nodes by way of which it is at most so far; how long a path is, as the model and as the code reckon it; plain facts on pieces of the first of the shortest paths. No conditions beyond those that each theorem states.
-/
import Derived.Test.YtffjpfanmnkmgaaJG12
import Derived.Test.YtffjpfanmnkmgaaJG13
import Derived.Lib.SlBy
set_option linter.unusedSimpArgs false
set_option linter.unusedVariables false
namespace Go.Proofs.Ytffjpfanmnkmgaa
open Go.RowKit



/-- k steps along a path, the node behind them being v, and what is still to come. -/
structure OnWay (L : List Arc3) (D : List Int) (s t : Int) (P : List Int) (v : Int) : Prop where
  all : P ++ stepsL L D t v = s :: stepsL L D t s
  last : ∃ Q, P = Q ++ [v]
  far : 0 ≤ dAt D v
theorem OnWay.start {L : List Arc3} {D : List Int} {s t : Int} (h : 0 ≤ dAt D s) : OnWay L D s t [s] s := ⟨rfl, ⟨[], rfl⟩, h⟩
theorem OnWay.next {L : List Arc3} {D : List Int} {s t v : Int} {P : List Int} (h : OnWay L D s t P v) (hv : v ≠ t) {a : Arc3} (hn : nextL L D v = some a) (h0 : 0 ≤ dAt D a.2.1) (hl : dAt D a.2.1 < dAt D v) : OnWay L D s t (P ++ [a.2.1]) a.2.1 := by
  refine ⟨?_, ⟨P, rfl⟩, h0⟩
  rw [← h.all, stepsL_next hv hn h0 hl, List.append_assoc]
  rfl
theorem OnWay.done {L : List Arc3} {D : List Int} {s t : Int} {P : List Int} (h : OnWay L D s t P t) : P = s :: stepsL L D t s := by
  have := h.all
  rwa [stepsL_end, List.append_nil] at this
theorem OnWay.len {L : List Arc3} {D : List Int} {s t v : Int} {P : List Int} (h : OnWay L D s t P v) (hd : dAt D s ≤ 23000) : P.length ≤ 23001 := by
  have h1 := congrArg List.length h.all
  have h2 := stepsL_len L D t _ s rfl
  simp only [List.length_append, List.length_cons] at h1
  omega

end Go.Proofs.Ytffjpfanmnkmgaa

set_option linter.unusedSimpArgs false
set_option linter.unusedVariables false
namespace Go.Proofs.Ytffjpfanmnkmgaa
open Go.RowKit

/-- The path from v down to t, by the next arcs. -/
inductive Way (N : Int) (L : List Arc3) (D : List Int) (t : Int) : Int → List Int → Prop
  | stop : Way N L D t t [t]
  | go {v : Int} {a : Arc3} {P : List Int} (hv : v ≠ t) (hr : 0 ≤ v ∧ v < N) (hn : nextL L D v = some a) (hL : a ∈ L) (h1 : a.1 = v) (h0 : 0 ≤ dAt D a.2.1) (hd : a.2.2 + dAt D a.2.1 = dAt D v) (hl : dAt D a.2.1 < dAt D v) (h : Way N L D t a.2.1 P) : Way N L D t v (v :: P)
section
variable {N t v : Int} {L : List Arc3} {D P : List Int}
theorem Way.pos (h : Way N L D t v P) : 0 < P.length := by cases h <;> simp
theorem Way.head (h : Way N L D t v P) (hp : 0 < P.length) : P[0] = v := by cases h <;> rfl
theorem Way.last (h : Way N L D t v P) : ∀ (hp : P.length - 1 < P.length), P[P.length - 1] = t := by
  induction h with
  | stop => intro _; rfl
  | go hv hr hn hL h1 h0 hd hl h ih =>
    intro hp
    have := h.pos
    have h2 := ih (by omega)
    simp only [List.length_cons]
    rw [List.getElem_cons]
    rw [dif_neg (by omega)]
    simpa using h2
theorem Way.nodes (h : Way N L D t v P) (ht : 0 ≤ t ∧ t < N) (hz : 0 ≤ dAt D t) : ∀ x ∈ P, (0 ≤ x ∧ x < N) ∧ 0 ≤ dAt D x ∧ dAt D x ≤ dAt D v := by
  induction h with
  | stop => intro x hx; simp at hx; subst hx; exact ⟨ht, hz, Int.le_refl _⟩
  | go hv hr hn hL h1 h0 hd hl h ih =>
    intro x hx
    rcases List.mem_cons.1 hx with rfl | hx
    · exact ⟨hr, by omega, Int.le_refl _⟩
    · obtain ⟨a, b, c⟩ := ih x hx
      exact ⟨a, b, by omega⟩
/-- Each step is the next arc. -/
theorem Way.step (h : Way N L D t v P) : ∀ i (hi : i + 1 < P.length), ∃ a, nextL L D (P[i]'(by omega)) = some a ∧ a ∈ L ∧ a.1 = P[i]'(by omega) ∧ a.2.1 = P[i + 1] ∧ a.2.2 + dAt D P[i + 1] = dAt D (P[i]'(by omega)) ∧ dAt D P[i + 1] < dAt D (P[i]'(by omega)) := by
  induction h with
  | stop => intro i hi; simp at hi
  | go hv hr hn hL h1 h0 hd hl h ih =>
    intro i hi
    rcases i with _ | i
    · have hp := h.pos
      have hh := h.head hp
      simp only [List.getElem_cons_zero, List.getElem_cons_succ]
      rw [hh]
      exact ⟨_, hn, hL, h1, rfl, hd, hl⟩
    · simpa using ih i (by simpa using hi)
/-- How far is left falls along the path. -/
theorem Way.falls (h : Way N L D t v P) : ∀ i j (hij : i < j) (hj : j < P.length), dAt D P[j] < dAt D (P[i]'(by omega)) := by
  intro i j hij
  induction j with
  | zero => omega
  | succ j ih =>
    intro hj
    obtain ⟨a, -, -, -, -, -, e⟩ := h.step j hj
    by_cases hh : i = j
    · subst hh; exact e
    · have := ih (by omega) (by omega)
      omega
theorem Way.nodup (h : Way N L D t v P) : ∀ i j (hij : i < j) (hj : j < P.length), P[i]'(by omega) ≠ P[j] := fun i j hij hj e => by
  have := h.falls i j hij hj
  rw [e] at this
  omega
end


/-- Which nodes are between two. -/
theorem distOfI_of {N s t : Int} {L : List Arc3} (ho : okB N L = true) (hs : 0 ≤ s ∧ s < N) (ht : 0 ≤ t ∧ t < N) : distOfI N L s t = dAt (distL N L s) t := by
  unfold distOfI
  rw [if_pos (by unfold has2; rw [ho, Bool.true_and, decide_eq_true_eq]; exact ⟨hs, ht⟩)]

end Go.Proofs.Ytffjpfanmnkmgaa

set_option linter.unusedSimpArgs false
set_option linter.unusedVariables false
namespace Go.Proofs.Ytffjpfanmnkmgaa
open Go.RowKit

theorem sumW_bounds {N : Int} {L : List Arc3} (P : List Int) (ho : okB N L = true) : ∀ k : Nat, 0 ≤ sumW L P k ∧ sumW L P k ≤ 1000 * k
  | 0 => by simp [sumW]
  | k + 1 => by
    have h1 := sumW_bounds P ho k
    have h2 : 0 ≤ stepW L P k ∧ stepW L P k ≤ 1000 := wtL_bounds ho
    unfold sumW
    omega
theorem pathB_ok {N : Int} {L : List Arc3} {P : List Int} (ho : okB N L = false) : pathB N L P = false := by unfold pathB; rw [ho, Bool.false_and]
theorem pathB_long {N : Int} {L : List Arc3} {P : List Int} (h : 1000 < P.length) : pathB N L P = false := by
  unfold pathB
  rw [decide_eq_false (by omega), Bool.and_false]
theorem pathB_empty {N : Int} {L : List Arc3} {P : List Int} (h : P.length = 0) : pathB N L P = false := by
  unfold pathB
  rw [decide_eq_false (by omega), Bool.and_false]
theorem pathB_step {N : Int} {L : List Arc3} {P : List Int} {j : Nat} (h : j + 1 < P.length) (h0 : stepW L P j = 0) : pathB N L P = false := by
  unfold pathB
  rw [decide_eq_false (fun hc => hc.2.2.2 j (by omega) h0), Bool.and_false]
theorem pathB_first {N : Int} {L : List Arc3} {P : List Int} (h : ¬ (0 ≤ P.getD 0 0 ∧ P.getD 0 0 < N)) : pathB N L P = false := by
  unfold pathB
  rw [decide_eq_false (fun hc => h hc.2.2.1), Bool.and_false]
theorem pathB_yes {N : Int} {L : List Arc3} {P : List Int} (ho : okB N L = true) (h0 : 0 < P.length) (h1 : P.length ≤ 1000) (h2 : 0 ≤ P.getD 0 0 ∧ P.getD 0 0 < N) (h3 : ∀ j, j < P.length - 1 → stepW L P j ≠ 0) : pathB N L P = true := by
  unfold pathB
  rw [ho, Bool.true_and, decide_eq_true_eq]
  exact ⟨h0, h1, h2, h3⟩
theorem lenI_no {N : Int} {L : List Arc3} {P : List Int} (h : pathB N L P = false) : lenI N L P = 0 := by unfold lenI; rw [h]; rfl
theorem lenI_yes {N : Int} {L : List Arc3} {P : List Int} (h : pathB N L P = true) : lenI N L P = sumW L P (P.length - 1) := by unfold lenI; rw [if_pos h]
theorem getD_at {P : List Int} {k : Nat} (h : k < P.length) : P.getD k 0 = P[k] := by
  rw [List.getD_eq_getElem?_getD, List.getElem?_eq_getElem h]
  rfl

/-- What is left where a path is measured. -/
def LenLeft (N : Int) (L : List Arc3) (P : List Int) (w : World) (e : Ending) (w' : World) : Prop := e = .returned (.tuple #[.int .i64 (lenI N L P), .bool (pathB N L P)]) ∧ Bl w w'
theorem LenLeft.no {N : Int} {L : List Arc3} {P : List Int} {w w' : World} (h : pathB N L P = false) (hb : Bl w w') : LenLeft N L P w (.returned (.tuple #[.int .i64 0, .bool false])) w' :=
  ⟨by rw [lenI_no h, h], hb⟩



end Go.Proofs.Ytffjpfanmnkmgaa

set_option linter.unusedSimpArgs false
set_option linter.unusedVariables false
namespace Go.Proofs.Ytffjpfanmnkmgaa
open Go.RowKit

/-- A piece of a list: from place i to place k. -/
def pieceL (P : List Int) (i k : Nat) : List Int := (P.drop i).take (k + 1 - i)
theorem pieceL_at {P : List Int} {i k j : Nat} (hi : i ≤ k) (hk : k < P.length) (hj : j < k + 1 - i) : (pieceL P i k).getD j 0 = P[i + j]'(by omega) := by
  unfold pieceL
  rw [List.getD_eq_getElem?_getD, List.getElem?_take, if_pos hj, List.getElem?_drop, List.getElem?_eq_getElem (by omega)]
  rfl
theorem Way.short {N t v : Int} {L : List Arc3} {D P : List Int} (h : Way N L D t v P) (hN : N ≤ 24) (ht : 0 ≤ t ∧ t < N) (hz : 0 ≤ dAt D t) : P.length ≤ 24 := by
  have hn := h.nodes ht hz
  have h1 : (P.map Int.toNat).Nodup := by
    rw [List.Nodup, List.pairwise_map, List.pairwise_iff_getElem]
    intro i j hi hj hij
    have := h.nodup i j hij hj
    have a := (hn _ (List.getElem_mem hi)).1
    have b := (hn _ (List.getElem_mem hj)).1
    omega
  have h2 := nodup_len 24 _ h1 fun n hm => by
    obtain ⟨x, hx, rfl⟩ := List.mem_map.1 hm
    have := (hn x hx).1
    omega
  simpa using h2
section
variable {N s t : Int} {L : List Arc3} {E : List Int} {P : List Int}
/-- Along the path the weights are what falls. -/
theorem Way.weight (ho : okB N L = true) {v : Int} (h : Way N L E t v P) (i : Nat) (hi : i + 1 < P.length) : wtL (P[i]'(by omega)) P[i + 1] L = dAt E (P[i]'(by omega)) - dAt E P[i + 1] ∧ 0 < wtL (P[i]'(by omega)) P[i + 1] L := by
  obtain ⟨a, -, haL, h1, h2, h3, h4⟩ := h.step i hi
  have hw := wtL_mem (okB_elim ho).2.2.2.2 haL
  rw [h1, h2] at hw
  rw [hw]
  omega
theorem Way.sum (ho : okB N L = true) {v : Int} (h : Way N L E t v P) (i k : Nat) (hi : i ≤ k) (hk : k < P.length) : ∀ m : Nat, ∀ (hm : m ≤ k - i), sumW L (pieceL P i k) m = dAt E (P[i]'(by omega)) - dAt E (P[i + m]'(by omega))
  | 0, _ => by simp [sumW]
  | m + 1, hm => by
    have ih := h.sum ho i k hi hk m (by omega)
    have e : stepW L (pieceL P i k) m = wtL (P[i + m]'(by omega)) (P[i + m + 1]'(by omega)) L := by
      unfold stepW
      rw [pieceL_at hi hk (by omega), pieceL_at hi hk (by omega)]
      rfl
    have hw := (h.weight ho (i + m) (by omega)).1
    show sumW L (pieceL P i k) m + stepW L (pieceL P i k) m = _
    rw [ih, e, hw]
    have e2 : P[i + m + 1]'(by omega) = P[i + (m + 1)]'(by omega) := rfl
    rw [e2]
    omega
/-- From a node of the path to a later one it is as far as falls between them. -/
theorem Way.between (ho : okB N L = true) (ht : 0 ≤ t ∧ t < N) (hE : IsDist N (revL L) t E) {v : Int} (h : Way N L E t v P) (i k : Nat) (hi : i ≤ k) (hk : k < P.length) :
    distOfI N L (P[i]'(by omega)) P[k] = dAt E (P[i]'(by omega)) - dAt E P[k] := by
  have hz : 0 ≤ dAt E t := by rw [hE.start]; omega
  obtain ⟨hx, hx1, -⟩ := h.nodes ht hz _ (List.getElem_mem (show i < P.length by omega))
  obtain ⟨hy, hy1, -⟩ := h.nodes ht hz _ (List.getElem_mem hk)
  have hD := distL_is (s := P[i]'(by omega)) (arcsIn_of_ok ho) (okB_elim ho).2.1 hx.1 hx.2
  have up : ∀ m : Nat, ∀ (hm : i + m < P.length), 0 ≤ dAt (distL N L (P[i]'(by omega))) P[i + m] ∧ dAt (distL N L (P[i]'(by omega))) P[i + m] ≤ dAt E (P[i]'(by omega)) - dAt E P[i + m] := by
    intro m
    induction m with
    | zero =>
      intro hm
      have := hD.start
      simp only [Nat.add_zero]
      omega
    | succ m ih =>
      intro hm
      obtain ⟨h1, h2⟩ := ih (by omega)
      obtain ⟨a, -, haL, e1, e2, e3, e4⟩ := h.step (i + m) hm
      have := hD.arc a haL (by rw [e1]; exact h1)
      rw [e1, e2] at this
      have e5 : P[i + m + 1]'(by omega) = P[i + (m + 1)]'(by omega) := rfl
      rw [e5] at this e3
      omega
  obtain ⟨u1, u2⟩ := up (k - i) (by omega)
  have ek : P[i + (k - i)]'(by omega) = P[k] := by congr 1; omega
  rw [ek] at u1 u2
  have low := IsDist.tri ho hD hE _ P[k] hy.1 hy.2 rfl hy1 u1
  have tur := IsDist.turned ho hx ht hD hE
  rw [distOfI_of ho hx hy]
  omega
end


end Go.Proofs.Ytffjpfanmnkmgaa
