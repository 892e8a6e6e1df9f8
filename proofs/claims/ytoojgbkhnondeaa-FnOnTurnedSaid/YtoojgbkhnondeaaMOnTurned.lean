/-
  What is proved here: the laws' small functions that hold lists and graphs against each other, and ask for nodes; plain facts on distances there and back: by way of a third node it is no nearer; nodes by way of which it is at most so far; lengths of paths; plain facts on weights, on the nearest way over an arc, and on the arcs of all nodes, one behind the other; spec.Reversed turns the arcs of a right graph and puts them in order, as the model does; bounds of weights; the nodes by way of which it is at most so far, as the model tells them; What is stated here: of which functions and types of the program the library's sort of structs is made. No conditions; slices.SortFunc over arcs of which no two have the same ends puts them in order; impl.Reversed turns the arcs of a right graph and sorts them; the iterator over the nodes by way of which one comes from one node to another tells just these, rising; impl.within tells the nodes by way of which it is at most so far; impl.OnShortest and impl.Between answer as the plain lists of nodes say; the walk of the law FnOnTurned: at every code that can be read it returns true and leaves what was there as it was; at every code the law FnOnTurned returns true, and the argument reads as it did. No conditions. No conditions beyond those that each theorem states.
-/
import Derived.Test.YtoojgbkhnondeaaNS2
import Derived.Test.YtoojgbkhnondeaaDR
import Derived.Test.YtoojgbkhnondeaaNF4
import Derived.Test.YtoojgbkhnondeaaTW
import Derived.Shelf.SlLaysF0
import Derived.Shelf.SlGeneric
import Derived.Test.YtoojgbkhnondeaaProg
import Derived.Test.YtoojgbkhnondeaaPR
import Derived.Shelf.SlSortCmp.NoneTotal
import Derived.Test.YtoojgbkhnondeaaNF3
import Derived.Test.YtoojgbkhnondeaaNS1
import Derived.Test.YtoojgbkhnondeaaR9
set_option linter.unusedSimpArgs false
set_option linter.unusedVariables false
namespace Go.Proofs.Ytoojgbkhnondeaa
open Go.RowKit

set_option maxHeartbeats 400000 in
theorem sameInts_yes (A1 A2 : Option Addr) (c1 c2 : Nat) (V : List Int) (n : Nat) (hn : n = V.length) (w : World) (hm : n ≤ 9223372036854775807) (H1 : IntsAt w w.heap.size A1 V) (H2 : IntsAt w w.heap.size A2 V) :
    Calls Try.prog 10 #[.slice A1 n c1, .slice A2 n c2] w fun e w' => e = .returned (.bool true) ∧ Bl w w' := by
  have K1 := Lib.hid H1
  have K2 := Lib.hid H2
  have HN := Lib.hid hn
  have hnn : ((n : Int) != (n : Int)) = false := by simp
  clear H1 H2 hn
  go_enter Try.func10, Try.ntmps10
  go_wp2
  go_loopw [5] (fun i wr => ∃ k : Nat, k ≤ n ∧ i = .int .i64 k ∧ Bl w wr) (fun i _ => n - (intOf i).toNat)
  case atStart => exact ⟨0, by omega, rfl, Bl.refl w⟩
  case round =>
    obtain ⟨k, hk, rfl, hbl⟩ := hrel
    by_cases hlt : k < n
    · have hkl : k < V.length := by have := HN.out; omega
      obtain ⟨g1, o1, rfl, hg1, hc1⟩ := K1.out.cell (by omega)
      obtain ⟨g2, o2, rfl, hg2, hc2⟩ := K2.out.cell (by omega)
      have p1 := hc1 k hkl
      have p2 := hc2 k hkl
      clear hc1 hc2
      rw [← (bcell hbl).1 _ _ hg1] at p1
      rw [← (bcell hbl).1 _ _ hg2] at p2
      generalize V[k] = x at p1 p2
      have hxx : (x != x) = false := by simp
      have i1 : (0 : Int) ≤ (k : Int) := by omega
      have i2 : (k : Int) < (n : Int) := by omega
      go_wp2
      go_quiet (fail)
      go_wp2
      go_roundw
      case rel => exact ⟨k + 1, by omega, by go_num, (by repeat' (first | exact Bl.refl _ | with_reducible assumption | with_reducible refine Bl.drew_ ?_ | with_reducible refine Bl.drewN_ ?_ _ | with_reducible refine Bl.alloc_ ?_ _ | with_reducible refine Bl.trans_ ?_ (by assumption) | with_reducible refine Bl.trans_ ?_ (And.left (by assumption))))⟩
      case measure => simp [intOf]; omega
    · go_wp2
      go_ret
      exact ⟨rfl, hbl⟩

-- (sameArcs_yes left out)

-- (sameGraph_yes left out)

set_option maxHeartbeats 400000 in
theorem nodeLaw_any (N v : Int) (A : Option Addr) (n c : Nat) (L : List Arc3) (hn : n = L.length) (w : World) (hm : n ≤ 9223372036854775807) (H1 : ArcsAt w w.heap.size A L) :
    Calls Try.prog 16 #[.agg #[.int .i64 N, .slice A n c], .int .i64 v] w fun e w' => e = .returned (.bool (has1 N L v)) ∧ Bl w w' := by
  have K1 := Lib.hid H1
  have HN := Lib.hid hn
  clear H1 hn
  cases ho : okB N L with
  | false =>
    have HO := Lib.hid ho
    clear ho
    go_enter Try.func16, Try.ntmps16
    go_wp2_with fail
    refine (specOk_any N A n c L HN.out _ hm (K1.out.bl (by repeat' (first | exact Bl.refl _ | with_reducible assumption | with_reducible refine Bl.drew_ ?_ | with_reducible refine Bl.drewN_ ?_ _ | with_reducible refine Bl.alloc_ ?_ _ | with_reducible refine Bl.trans_ ?_ (by assumption) | with_reducible refine Bl.trans_ ?_ (And.left (by assumption)))))).mono ?_
    rintro e w1 ⟨rfl, hb1⟩
    rw [HO.out]
    go_wp2
    go_ret
    exact ⟨ret_bool (by unfold has1; rw [HO.out]; rfl), (Bl.alloc_ (Bl.refl w) _).trans_ hb1⟩
  | true =>
    have HO := Lib.hid ho
    clear ho
    by_cases h0 : 0 ≤ v
    · have b0 : decide (0 ≤ v) = true := by simpa using h0
      by_cases h1 : v < N
      · have b1 : decide (v < N) = true := by simpa using h1
        go_enter Try.func16, Try.ntmps16
        go_wp2_with fail
        refine (specOk_any N A n c L HN.out _ hm (K1.out.bl (by repeat' (first | exact Bl.refl _ | with_reducible assumption | with_reducible refine Bl.drew_ ?_ | with_reducible refine Bl.drewN_ ?_ _ | with_reducible refine Bl.alloc_ ?_ _ | with_reducible refine Bl.trans_ ?_ (by assumption) | with_reducible refine Bl.trans_ ?_ (And.left (by assumption)))))).mono ?_
        rintro e w1 ⟨rfl, hb1⟩
        rw [HO.out]
        obtain ⟨q0, q1⟩ := box2 hb1
        go_wp2
        go_ret
        exact ⟨ret_bool (by unfold has1; rw [HO.out, Bool.true_and]; symm; simp; omega), (Bl.alloc_ (Bl.refl w) _).trans_ hb1⟩
      · have b1 : decide (v < N) = false := by simpa using h1
        go_enter Try.func16, Try.ntmps16
        go_wp2_with fail
        refine (specOk_any N A n c L HN.out _ hm (K1.out.bl (by repeat' (first | exact Bl.refl _ | with_reducible assumption | with_reducible refine Bl.drew_ ?_ | with_reducible refine Bl.drewN_ ?_ _ | with_reducible refine Bl.alloc_ ?_ _ | with_reducible refine Bl.trans_ ?_ (by assumption) | with_reducible refine Bl.trans_ ?_ (And.left (by assumption)))))).mono ?_
        rintro e w1 ⟨rfl, hb1⟩
        rw [HO.out]
        obtain ⟨q0, q1⟩ := box2 hb1
        go_wp2
        go_ret
        exact ⟨ret_bool (by unfold has1; rw [HO.out, Bool.true_and]; symm; simp; omega), (Bl.alloc_ (Bl.refl w) _).trans_ hb1⟩
    · have b0 : decide (0 ≤ v) = false := by simpa using h0
      go_enter Try.func16, Try.ntmps16
      go_wp2_with fail
      refine (specOk_any N A n c L HN.out _ hm (K1.out.bl (by repeat' (first | exact Bl.refl _ | with_reducible assumption | with_reducible refine Bl.drew_ ?_ | with_reducible refine Bl.drewN_ ?_ _ | with_reducible refine Bl.alloc_ ?_ _ | with_reducible refine Bl.trans_ ?_ (by assumption) | with_reducible refine Bl.trans_ ?_ (And.left (by assumption)))))).mono ?_
      rintro e w1 ⟨rfl, hb1⟩
      rw [HO.out]
      obtain ⟨q0, q1⟩ := box2 hb1
      go_wp2
      go_ret
      exact ⟨ret_bool (by unfold has1; rw [HO.out, Bool.true_and]; symm; simp; omega), (Bl.alloc_ (Bl.refl w) _).trans_ hb1⟩

end Go.Proofs.Ytoojgbkhnondeaa

set_option linter.unusedSimpArgs false
set_option linter.unusedVariables false
namespace Go.Proofs.Ytoojgbkhnondeaa
open Go.RowKit

theorem IsDist.tri {N : Int} {L : List Arc3} {s t : Int} {D E : List Int} (ho : okB N L = true) (hD : IsDist N L s D) (hE : IsDist N (revL L) t E) :
    ∀ (n : Nat) (v : Int), 0 ≤ v → v < N → (dAt E v).toNat = n → 0 ≤ dAt E v → 0 ≤ dAt D v → 0 ≤ dAt D t ∧ dAt D t ≤ dAt D v + dAt E v := by
  have hp := (okB_elim ho).2.2.2.2
  have hin := arcsIn_of_ok ho
  intro n
  induction n using Nat.strongRecOn with
  | ind n ih =>
    intro v h0 h1 hn hb ha
    rcases hE.back v h0 h1 hb with rfl | ⟨r, hr, e1, e2, e3⟩
    · have := hE.start
      omega
    · have hm := (revL_mem hp).1 hr
      obtain ⟨a0, a1, a2, a3, a4, a5⟩ := hin _ hm
      simp only [turnA] at a0 a1 a2 a3 a4 a5
      have := hD.arc _ hm (by simp only [turnA]; rw [e1]; exact ha)
      simp only [turnA] at this
      rw [e1] at this
      obtain ⟨x, y⟩ := ih (dAt E r.1).toNat (by omega) r.1 a2 a3 rfl e2 this.1
      omega
/-- In the graph that is turned it is as far the other way round. -/
theorem IsDist.turned {N : Int} {L : List Arc3} {s t : Int} {D E : List Int} (ho : okB N L = true) (hs : 0 ≤ s ∧ s < N) (ht : 0 ≤ t ∧ t < N) (hD : IsDist N L s D) (hE : IsDist N (revL L) t E) : dAt E s = dAt D t := by
  have h1 := fun h => hD.tri ho hE _ s hs.1 hs.2 rfl h (by rw [hD.start]; omega)
  have hD' : IsDist N (revL (revL L)) s D := by rw [revL_revL ho]; exact hD
  have h2 := fun h => hE.tri (revL_ok ho) hD' _ t ht.1 ht.2 rfl h (by rw [hE.start]; omega)
  have e1 := hD.start
  have e2 := hE.start
  have l1 := hD.low t
  have l2 := hE.low s
  by_cases p : 0 ≤ dAt E s
  · obtain ⟨a, b⟩ := h1 p
    obtain ⟨c, d⟩ := h2 a
    omega
  · by_cases q : 0 ≤ dAt D t
    · obtain ⟨c, d⟩ := h2 q
      omega
    · omega

/-- The nodes of N, rising. -/
def nodesL (N : Int) : List Int := (List.range N.toNat).map Int.ofNat
/-- Is it by way of v at most so far? -/
def byB (D E : List Int) (m v : Int) : Bool := decide (0 ≤ dAt D v ∧ 0 ≤ dAt E v ∧ dAt D v + dAt E v ≤ m)
/-- The nodes by way of which it is at most so far. -/
def withinD (N : Int) (D E : List Int) (m : Int) : List Int := (nodesL N).filter (byB D E m)
def withinL (N : Int) (L : List Arc3) (s t m : Int) : List Int := withinD N (distL N L s) (distL N (revL L) t) m
theorem withinD_len (N : Int) (D E : List Int) (m : Int) : (withinD N D E m).length ≤ N.toNat := by
  unfold withinD
  exact Nat.le_trans (List.length_filter_le _ _) (by simp [nodesL])
/-- The first k of them. -/
def withinK (D E : List Int) (m : Int) (k : Nat) : List Int := ((List.range k).map Int.ofNat).filter (byB D E m)
theorem withinK_zero (D E : List Int) (m : Int) : withinK D E m 0 = [] := rfl
theorem withinK_yes {D E : List Int} {m : Int} {k : Nat} (h : byB D E m (k : Int) = true) : withinK D E m (k + 1) = withinK D E m k ++ [(k : Int)] := by
  unfold withinK
  rw [List.range_succ, List.map_append, List.filter_append]
  congr 1
  show List.filter _ [(k : Int)] = _
  rw [List.filter_cons, if_pos h]
  rfl
theorem withinK_no {D E : List Int} {m : Int} {k : Nat} (h : byB D E m (k : Int) = false) : withinK D E m (k + 1) = withinK D E m k := by
  unfold withinK
  rw [List.range_succ, List.map_append, List.filter_append]
  have : List.filter (byB D E m) (List.map Int.ofNat [k]) = [] := by
    show List.filter _ [(k : Int)] = _
    rw [List.filter_cons, if_neg (by rw [h]; simp)]
    rfl
  rw [this, List.append_nil]
theorem withinK_len (D E : List Int) (m : Int) (k : Nat) : (withinK D E m k).length ≤ k := by
  unfold withinK
  exact Nat.le_trans (List.length_filter_le _ _) (by simp)
theorem withinK_all (N : Int) (D E : List Int) (m : Int) : withinK D E m N.toNat = withinD N D E m := rfl
theorem mem_nodesL {N v : Int} : v ∈ nodesL N ↔ 0 ≤ v ∧ v < N := by
  unfold nodesL
  rw [List.mem_map]
  constructor
  · rintro ⟨k, hk, rfl⟩
    have := List.mem_range.1 hk
    simp
    omega
  · rintro ⟨h0, h1⟩
    exact ⟨v.toNat, List.mem_range.2 (by omega), by simp; omega⟩
theorem mem_withinD {N : Int} {D E : List Int} {m v : Int} : v ∈ withinD N D E m ↔ (0 ≤ v ∧ v < N) ∧ 0 ≤ dAt D v ∧ 0 ≤ dAt E v ∧ dAt D v + dAt E v ≤ m := by
  unfold withinD
  rw [List.mem_filter, mem_nodesL]
  simp [byB]

/-- The nodes of the shortest paths. -/
def onL (N : Int) (L : List Arc3) (s t : Int) : List Int := if has2 N L s t = true then withinL N L s t (dAt (distL N L s) t) else []
def betL (N : Int) (L : List Arc3) (s t m : Int) : List Int := if (has2 N L s t && decide (0 ≤ m ∧ m ≤ 24000)) = true then withinL N L s t m else []
theorem byB_on {N : Int} {L : List Arc3} {s t v : Int} {D E : List Int} (ho : okB N L = true) (hD : IsDist N L s D) (hE : IsDist N (revL L) t E) (h0 : 0 ≤ v) (h1 : v < N) : byB D E (dAt D t) v = decide (0 ≤ dAt D v ∧ 0 ≤ dAt E v ∧ dAt D v + dAt E v = dAt D t) := by
  unfold byB
  rw [Bool.eq_iff_iff]
  simp only [decide_eq_true_eq]
  constructor
  · rintro ⟨a, b, c⟩
    have := hD.tri ho hE _ v h0 h1 rfl b a
    omega
  · rintro ⟨a, b, c⟩
    omega
theorem byB_none {D E : List Int} {m v : Int} (h : m < 0) : byB D E m v = false := by
  unfold byB
  rw [decide_eq_false_iff_not]
  omega
theorem withinD_none {N : Int} {D E : List Int} {m : Int} (h : m < 0) : withinD N D E m = [] := by
  unfold withinD
  rw [List.filter_eq_nil_iff]
  intro v _
  rw [byB_none h]
  simp
theorem stepsL_len (L : List Arc3) (D : List Int) (t : Int) : ∀ (n : Nat) (v : Int), (dAt D v).toNat = n → (stepsL L D t v).length ≤ n := by
  intro n
  induction n using Nat.strongRecOn with
  | ind n ih =>
    intro v hn
    rw [stepsL]
    split
    · simp
    · split
      · simp
      · split
        · rename_i a _ h
          have := ih _ (by omega) a.2.1 rfl
          simp only [List.length_cons]
          omega
        · simp
theorem distL_of_turned {N s t : Int} {L : List Arc3} (ho : okB N L = true) (hs : 0 ≤ s ∧ s < N) (ht : 0 ≤ t ∧ t < N) : dAt (distL N (revL L) t) s = dAt (distL N L s) t :=
  IsDist.turned ho hs ht (distL_is (arcsIn_of_ok ho) (okB_elim ho).2.1 hs.1 hs.2) (distL_is (arcsIn_of_ok (revL_ok ho)) (okB_elim ho).2.1 ht.1 ht.2)

/-- The first of the shortest paths; none: there is none. -/
def pathL (N : Int) (L : List Arc3) (s t : Int) : List Int := if (has2 N L s t && decide (0 ≤ dAt (distL N (revL L) t) s)) = true then s :: stepsL L (distL N (revL L) t) t s else []

theorem onL_len (N : Int) (L : List Arc3) (s t : Int) : (onL N L s t).length ≤ 1048576 := by
  unfold onL
  split
  · rename_i h
    have := (okB_elim (has2_of h).1).2.1
    have := withinD_len N (distL N L s) (distL N (revL L) t) (dAt (distL N L s) t)
    unfold withinL
    omega
  · simp
theorem betL_len (N : Int) (L : List Arc3) (s t m : Int) : (betL N L s t m).length ≤ 1048576 := by
  unfold betL
  split
  · rename_i h
    rw [Bool.and_eq_true] at h
    have := (okB_elim (has2_of h.1).1).2.1
    have := withinD_len N (distL N L s) (distL N (revL L) t) m
    unfold withinL
    omega
  · simp
theorem pathL_len (N : Int) (L : List Arc3) (s t : Int) : (pathL N L s t).length ≤ 1048576 := by
  unfold pathL
  split
  · rename_i h
    rw [Bool.and_eq_true] at h
    obtain ⟨ho, h1, h2⟩ := has2_of h.1
    have := (distL_top (revL_ok ho) h2.1 h2.2 s).2
    have := stepsL_len L (distL N (revL L) t) t _ s rfl
    simp only [List.length_cons]
    omega
  · simp

/-- The weight of step k of a path; 0: it is none. -/
def stepW (L : List Arc3) (P : List Int) (k : Nat) : Int := wtL (P.getD k 0) (P.getD (k + 1) 0) L
/-- The first k steps together. -/
def sumW (L : List Arc3) (P : List Int) : Nat → Int
  | 0 => 0
  | k + 1 => sumW L P k + stepW L P k
theorem stepW_at {L : List Arc3} {P : List Int} {k : Nat} (h : k + 1 < P.length) : stepW L P k = wtL P[k] P[k + 1] L := by
  unfold stepW
  rw [List.getD_eq_getElem?_getD, List.getD_eq_getElem?_getD, List.getElem?_eq_getElem (by omega), List.getElem?_eq_getElem h]
  rfl
/-- Is it a path of a right graph? -/
def pathB (N : Int) (L : List Arc3) (P : List Int) : Bool := okB N L && decide (0 < P.length ∧ P.length ≤ 1000 ∧ (0 ≤ P.getD 0 0 ∧ P.getD 0 0 < N) ∧ ∀ j, j < P.length - 1 → stepW L P j ≠ 0)
def lenI (N : Int) (L : List Arc3) (P : List Int) : Int := if pathB N L P = true then sumW L P (P.length - 1) else 0

end Go.Proofs.Ytoojgbkhnondeaa

set_option linter.unusedSimpArgs false
set_option linter.unusedVariables false
namespace Go.Proofs.Ytoojgbkhnondeaa
open Go.RowKit

theorem wtL_mem {L : List Arc3} (hs : L.Pairwise AheadP) : ∀ {a : Arc3}, a ∈ L → wtL a.1 a.2.1 L = a.2.2 := by
  induction L with
  | nil => intro a ha; cases ha
  | cons b L ih =>
    intro a ha
    rw [List.pairwise_cons] at hs
    unfold wtL
    rcases List.mem_cons.1 ha with rfl | h
    · rw [if_pos (isEnds_iff.2 ⟨rfl, rfl⟩)]
    · rw [if_neg (fun he => ahead_ne (hs.1 a h) (isEnds_iff.1 he))]
      exact ih hs.2 h
theorem wtL_pos {u v : Int} : ∀ {L : List Arc3}, 0 < wtL u v L → (u, v, wtL u v L) ∈ L
  | [], h => by simp [wtL] at h
  | a :: l, h => by
    unfold wtL at h ⊢
    split
    · rename_i he
      obtain ⟨rfl, rfl⟩ := isEnds_iff.1 he
      exact List.mem_cons_self
    · rename_i he
      rw [if_neg he] at h
      exact List.mem_cons_of_mem _ (wtL_pos h)

/-- The least way over an arc from one of the first k nodes. -/
def leastSt (D : List Int) (L : List Arc3) (s v : Int) : Nat → Int
  | 0 => if v = s then 0 else -1
  | k + 1 => if 0 < wtL k v L ∧ 0 ≤ dAt D k ∧ (leastSt D L s v k < 0 ∨ dAt D k + wtL k v L < leastSt D L s v k) then dAt D k + wtL k v L else leastSt D L s v k
theorem leastSt_inv {N : Int} {L : List Arc3} {s v : Int} {D : List Int} (hD : IsDist N L s D) : ∀ k : Nat,
    -1 ≤ leastSt D L s v k ∧ (0 ≤ leastSt D L s v k → 0 ≤ dAt D v ∧ dAt D v ≤ leastSt D L s v k) ∧ (v = s → 0 ≤ leastSt D L s v k ∧ leastSt D L s v k ≤ 0) ∧
      ∀ u : Nat, u < k → 0 < wtL u v L → 0 ≤ dAt D u → 0 ≤ leastSt D L s v k ∧ leastSt D L s v k ≤ dAt D u + wtL u v L
  | 0 => by
    have hst := hD.start
    unfold leastSt
    split
    · rename_i e
      rw [e]
      exact ⟨by omega, fun _ => by omega, fun _ => by omega, fun u h => absurd h (by omega)⟩
    · rename_i e
      exact ⟨by omega, fun h => by omega, fun h => absurd h e, fun u h => absurd h (by omega)⟩
  | k + 1 => by
    obtain ⟨h1, h2, h3, h4⟩ := leastSt_inv (v := v) hD k
    have hst := hD.start
    unfold leastSt
    split
    · rename_i hc
      obtain ⟨c1, c2, c3⟩ := hc
      have ha := hD.arc _ (wtL_pos c1) (by simpa using c2)
      simp only at ha
      refine ⟨by omega, fun _ => ha, fun e => ?_, fun u hu p q => ?_⟩
      · have := h3 e
        rw [e] at ha
        omega
      · rcases Nat.lt_or_ge u k with h | h
        · have := h4 u h p q
          omega
        · obtain rfl : u = k := by omega
          omega
    · rename_i hc
      refine ⟨h1, h2, h3, fun u hu p q => ?_⟩
      rcases Nat.lt_or_ge u k with h | h
      · exact h4 u h p q
      · obtain rfl : u = k := by omega
        omega
theorem leastSt_all {N : Int} {L : List Arc3} {s v : Int} {D : List Int} (ho : okB N L = true) (hD : IsDist N L s D) (h0 : 0 ≤ v) (h1 : v < N) : leastSt D L s v N.toNat = dAt D v := by
  obtain ⟨a, b, c, d⟩ := leastSt_inv (v := v) hD N.toNat
  have hl := hD.low v
  by_cases hp : 0 ≤ dAt D v
  · rcases hD.back v h0 h1 hp with e | ⟨x, hx, e1, e2, e3⟩
    · subst e
      have h := c rfl
      have := b h.1
      have hst := hD.start
      omega
    · obtain ⟨a0, a1, a2, a3, a4, a5⟩ := arcsIn_of_ok ho x hx
      have hw := wtL_mem (okB_elim ho).2.2.2.2 hx
      rw [e1] at hw
      obtain ⟨u, hu⟩ : ∃ u : Nat, x.1 = u := ⟨x.1.toNat, by omega⟩
      rw [hu] at hw e2 e3
      have h := d u (by omega) (by omega) e2
      have := b h.1
      omega
  · have : ¬ 0 ≤ leastSt D L s v N.toNat := fun h => hp (b h).1
    omega

theorem triangle {N s t v : Int} {L : List Arc3} (h : has2 N L s t = true) (h0 : 0 ≤ v) (h1 : v < N) (ha : 0 ≤ distOfI N L s v) (hb : 0 ≤ distOfI N L v t) : 0 ≤ distOfI N L s t ∧ distOfI N L s t ≤ distOfI N L s v + distOfI N L v t := by
  obtain ⟨ho, hs, ht⟩ := has2_of h
  have e1 : distOfI N L s v = dAt (distL N L s) v := by
    unfold distOfI
    rw [if_pos (by unfold has2; rw [ho, Bool.true_and, decide_eq_true_eq]; omega)]
  have e2 : distOfI N L v t = dAt (distL N L v) t := by
    unfold distOfI
    rw [if_pos (by unfold has2; rw [ho, Bool.true_and, decide_eq_true_eq]; omega)]
  have e3 : distOfI N L s t = dAt (distL N L s) t := by unfold distOfI; rw [if_pos h]
  rw [e1] at ha ⊢
  rw [e2] at hb ⊢
  rw [e3]
  have e4 := distL_of_turned ho ⟨h0, h1⟩ ht
  rw [← e4] at hb ⊢
  have hD := distL_is (s := s) (arcsIn_of_ok ho) (okB_elim ho).2.1 hs.1 hs.2
  have hE := distL_is (s := t) (arcsIn_of_ok (revL_ok ho)) (okB_elim ho).2.1 ht.1 ht.2
  exact hD.tri ho hE _ v h0 h1 rfl hb ha
theorem distOfI_bounds {N s t : Int} {L : List Arc3} : -1 ≤ distOfI N L s t ∧ distOfI N L s t ≤ 23000 := by
  unfold distOfI
  split
  · rename_i h
    obtain ⟨ho, hs, ht⟩ := has2_of h
    exact distL_top ho hs.1 hs.2 t
  · omega

/-- The arcs of the first k nodes, one behind the other. -/
def catL (L : List Arc3) (k : Nat) : List Arc3 := L.filter fun a => decide (a.1 < (k : Int))
theorem catL_zero {L : List Arc3} (h : ∀ a ∈ L, 0 ≤ a.1) : catL L 0 = [] := by
  unfold catL
  rw [List.filter_eq_nil_iff]
  intro a ha
  have := h a ha
  simp
  omega
theorem catL_succ {L : List Arc3} (hs : L.Pairwise AheadP) (k : Nat) : catL L (k + 1) = catL L k ++ fromL k L := by
  induction L with
  | nil => rfl
  | cons a L ih =>
    rw [List.pairwise_cons] at hs
    have ih' := ih hs.2
    unfold catL fromL at ih' ⊢
    simp only [List.filter_cons]
    by_cases h1 : a.1 < (k : Int)
    · rw [if_pos (by simp; omega), if_pos (by simpa using h1), if_neg (by simp; omega), ih']
      rfl
    · by_cases h2 : a.1 = (k : Int)
      · have h3 : L.filter (fun a => decide (a.1 < (k : Int))) = [] := by
          rw [List.filter_eq_nil_iff]
          intro b hb hlt
          have := hs.1 b hb
          unfold AheadP at this
          simp only [aheadB, decide_eq_true_eq] at this hlt
          omega
        rw [h3, List.nil_append] at ih'
        rw [if_pos (by simp; omega), if_neg (by simpa using h1), if_pos (by simpa using h2), ih', h3]
        rfl
      · have h3 : L.filter (fun a => decide (a.1 < ((k + 1 : Nat) : Int))) = [] := by
          rw [List.filter_eq_nil_iff]
          intro b hb hlt
          have := hs.1 b hb
          unfold AheadP at this
          simp only [aheadB, decide_eq_true_eq] at this hlt
          omega
        rw [h3] at ih'
        rw [if_neg (by simp; omega), if_neg (by simpa using h1), if_neg (by simpa using h2), h3]
        exact ih'
theorem catL_all {N : Int} {L : List Arc3} (h : okB N L = true) : catL L N.toNat = L := by
  unfold catL
  rw [List.filter_eq_self]
  intro a ha
  have := arcsIn_of_ok h a ha
  simp
  omega
theorem catL_len (L : List Arc3) (k : Nat) : (catL L k).length ≤ L.length := List.length_filter_le _ _
theorem fromL_at {v : Int} {L : List Arc3} {k : Nat} (hs : L.Pairwise AheadP) (h : k < (fromL v L).length) : (fromL v L)[k].1 = v ∧ wtL v (fromL v L)[k].2.1 L = (fromL v L)[k].2.2 := by
  have hm : (fromL v L)[k] ∈ fromL v L := List.getElem_mem h
  generalize (fromL v L)[k] = a at hm
  unfold fromL at hm
  obtain ⟨h1, h2⟩ := List.mem_filter.1 hm
  have e : a.1 = v := by simpa using h2
  refine ⟨e, ?_⟩
  have := wtL_mem hs h1
  rwa [e] at this

/-- How many arcs come to a node. -/
def intoN (L : List Arc3) (v : Int) (k : Nat) : Nat := ((L.take k).filter fun a => a.2.1 == v).length
theorem intoN_all {L : List Arc3} (hs : L.Pairwise AheadP) (v : Int) : (fromL v (revL L)).length = intoN L v L.length := by
  unfold fromL intoN
  rw [List.take_length]
  have h := ((revL_sorted hs).2.filter fun a => a.1 == v).length_eq
  rw [h, List.filter_map, List.length_map]
  rfl

end Go.Proofs.Ytoojgbkhnondeaa

set_option linter.unusedSimpArgs false
set_option linter.unusedVariables false
namespace Go.Proofs.Ytoojgbkhnondeaa
open Go.RowKit

set_option maxRecDepth 100000 in
set_option maxHeartbeats 4000000 in
theorem l1Reverse_any (N : Int) (A : Option Addr) (n c : Nat) (L : List Arc3) (hn : n = L.length) (w : World) (hm : n ≤ 1048576) (H1 : ArcsAt w w.heap.size A L) :
    Calls Try.prog 33 #[.agg #[.int .i64 N, .slice A n c]] w (GraphMade1 N (revL L) w) := by
  have K1 := Lib.hid H1
  have HN := Lib.hid hn
  clear H1 hn
  have T0 := Lib.hid (show TS w (.cells #[.int .i64 N, .slice A n c] 26) (w.heap.size + 1) (w.heap.size + 2) N (.slice none 0 0) [] (((w.alloc (.cells #[.int .i64 N, .slice A n c] 26)).alloc (.cells #[.int .i64 0, .slice none 0 0] 26)).alloc (.cells #[.int .i64 N, .slice none 0 0] 26)) from by
    refine ⟨?_, ?_, OwnA.nil_ _ _, (by repeat' (first | exact Bl.refl _ | with_reducible assumption | with_reducible refine Bl.drew_ ?_ | with_reducible refine Bl.drewN_ ?_ _ | with_reducible refine Bl.alloc_ ?_ _ | with_reducible refine Bl.trans_ ?_ (by assumption) | with_reducible refine Bl.trans_ ?_ (And.left (by assumption)))), by omega, by omega⟩
    · have := Two.new ((w.alloc (.cells #[.int .i64 N, .slice A n c] 26)).alloc (.cells #[.int .i64 0, .slice none 0 0] 26)) (.int .i64 N) (.slice none 0 0)
      simpa using this
    · have := Two.new (w.alloc (.cells #[.int .i64 N, .slice A n c] 26)) (.int .i64 0) (.slice none 0 0)
      have := this.bl (Bl.alloc_ (Bl.refl _) (.cells #[.int .i64 N, .slice none 0 0] 26))
      simpa using this)
  go_enter Try.func33, Try.ntmps33
  go_wp2_with fail
  go_loopw [4] (fun i wr => ∃ (k : Nat) (q : Value), k ≤ n ∧ i = .int .i64 k ∧ TS w (.cells #[.int .i64 N, .slice A n c] 26) (w.heap.size + 1) (w.heap.size + 2) N q (revK L k) wr) (fun i _ => n - (intOf i).toNat)
  case atStart => exact ⟨0, _, by omega, rfl, T0.out⟩
  case round =>
    obtain ⟨k, q, hk, rfl, hT⟩ := hrel
    obtain ⟨h00, h01⟩ := box2 hT.bl
    obtain ⟨c0, c1, f0, f1⟩ := hT.box.facts
    obtain ⟨AQ, cq, rfl, hAQ, -⟩ := hT.own.shape
    have T := Lib.hid hT
    have Q := Lib.hid hAQ
    have hbw : Bl w wr := (Bl.alloc_ (Bl.refl w) _).trans_ hT.bl
    have HB := Lib.hid hbw
    clear hT hAQ T0
    by_cases hlt : k < n
    · have hkl : k < L.length := by have := HN.out; omega
      obtain ⟨g1, o1, rfl, hg1, hc1⟩ := K1.out (by omega)
      obtain ⟨p1, p2, p3⟩ := hc1 k hkl
      clear hc1
      rw [← (bcell hbw).1 _ _ hg1] at p1 p2 p3
      have RK := Lib.hid (revK_succ hkl)
      have hlen := revK_len L k (by omega)
      generalize hx : L[k].1 = x at p1
      generalize hy : L[k].2.1 = y at p2
      generalize hz : L[k].2.2 = z at p3
      have HE := Lib.hid (show turnA L[k] = (y, x, z) from by unfold turnA; rw [hx, hy, hz])
      clear hx hy hz hbw
      obtain ⟨l, hl⟩ : ∃ l, l = (revK L k).length := ⟨_, rfl⟩
      rw [← hl] at hlen c1 T
      have HL := Lib.hid hl
      clear hl
      have u1 : (0 : Int) ≤ (k : Int) := by omega
      have u2 : (k : Int) < (n : Int) := by omega
      go_wp2_with fail
      have TD := Lib.hid (T.out.bl_ (show Bl wr wr.drew from (by repeat' (first | exact Bl.refl _ | with_reducible assumption | with_reducible refine Bl.drew_ ?_ | with_reducible refine Bl.drewN_ ?_ _ | with_reducible refine Bl.alloc_ ?_ _ | with_reducible refine Bl.trans_ ?_ (by assumption) | with_reducible refine Bl.trans_ ?_ (And.left (by assumption))))))
      have e0 := (TD.out.box.facts).1
      go_still_tail 21, (by kernel_rfl)
      change wpList _ _ _ _ _ wr.drew
      go_wp2_with fail
      refine (l1Put_any y x z AQ l cq (revK L k) HL.out _ (by omega) (Q.out.bl (by repeat' (first | exact Bl.refl _ | with_reducible assumption | with_reducible refine Bl.drew_ ?_ | with_reducible refine Bl.drewN_ ?_ _ | with_reducible refine Bl.alloc_ ?_ _ | with_reducible refine Bl.trans_ ?_ (by assumption) | with_reducible refine Bl.trans_ ?_ (And.left (by assumption)))))).mono ?_
      rintro e w9 ⟨v4, rfl, ho, hb⟩
      obtain ⟨AB, cb, rfl, -, -⟩ := ho.shape
      have hlen2 := putL_len (y, x, z) (revK L k)
      have U4 := Lib.hid (TD.out.bl_ hb)
      have O4 := Lib.hid (U4.out.put (q2 := _) (L2 := putL (y, x, z) (revK L k)) (ho.low (World.rowIs.lt TD.out.box)))
      obtain ⟨d0, d1, k0, k1⟩ := U4.out.box.facts
      clear ho c0 c1 f0 f1 e0
      go_wp2
      go_roundw
      case rel => exact ⟨k + 1, _, by omega, by go_num, by rw [RK.out, HE.out]; exact O4.out⟩
      case measure => simp [intOf]; omega
    · obtain rfl : k = n := by omega
      have RA := Lib.hid (show revK L k = revL L from by rw [HN.out]; exact revK_all L)
      obtain ⟨r0, r1, fr0, fr1⟩ := T.out.res.facts
      go_wp2
      refine bodyPost_ret (v := .agg #[.int .i64 N, .slice AQ (revK L k).length cq]) (by simp [results, Try.results33, go_sem, r0, r1, fr0, fr1]) rfl ?_
      have := T.out.fin (.int .i64 N) (.slice AQ (revK L k).length cq)
      rw [RA.out] at this ⊢
      exact ⟨_, rfl, this.1, this.2⟩

-- (specReversed_any left out)

end Go.Proofs.Ytoojgbkhnondeaa

set_option linter.unusedSimpArgs false
set_option linter.unusedVariables false
namespace Go.Proofs.Ytoojgbkhnondeaa
open Go.RowKit

theorem wtL_bounds {N u v : Int} {L : List Arc3} (ho : okB N L = true) : 0 ≤ wtL u v L ∧ wtL u v L ≤ 1000 := by
  have h := arcsIn_of_ok ho
  have key : ∀ (M : List Arc3), (∀ a ∈ M, 1 ≤ a.2.2 ∧ a.2.2 ≤ 1000) → 0 ≤ wtL u v M ∧ wtL u v M ≤ 1000 := by
    intro M
    induction M with
    | nil => intro _; simp [wtL]
    | cons a M ih =>
      intro hM
      unfold wtL
      split
      · have := hM a (by simp); omega
      · exact ih fun b hb => hM b (by simp [hb])
  exact key L fun a ha => by have := h a ha; omega

theorem dAt_at {D : List Int} {k : Nat} (hk : k < D.length) : dAt D (k : Int) = D[k] := by simp [dAt, hk]

end Go.Proofs.Ytoojgbkhnondeaa

set_option linter.unusedSimpArgs false
set_option linter.unusedVariables false
namespace Go.Proofs.Ytoojgbkhnondeaa
open Go.RowKit

theorem cell_new_drewN (w : World) (n : Nat) (v : Value) (t : TypeId) : ((w.drewN n).alloc (.cells #[v] t)).cell? ⟨w.heap.size, 0, none⟩ = some v := by
  have h : ∀ wz : World, (wz.alloc (.cells #[v] t)).cell? ⟨wz.heap.size, 0, none⟩ = some v := fun wz => by simp [go_sem]
  exact h (w.drewN n)
theorem withinK_len' (D E : List Int) (m : Int) (k : Nat) : (withinK D E m k).length ≤ k := withinK_len D E m k
theorem byB_at {D E : List Int} {m : Int} {k : Nat} (h : k < D.length) (h' : k < E.length) : byB D E m (k : Int) = decide (0 ≤ D[k] ∧ 0 ≤ E[k] ∧ D[k] + E[k] ≤ m) := by
  unfold byB
  rw [dAt_at h, dAt_at h']

-- (specBetween_any left out)

set_option maxRecDepth 100000 in
set_option maxHeartbeats 4000000 in
theorem specOnShortest_any (N s t : Int) (A : Option Addr) (n c : Nat) (L : List Arc3) (hn : n = L.length) (hc : n ≤ c) (w : World) (hm : n ≤ 1048576) (H1 : ArcsAt w w.heap.size A L) :
    Calls Try.prog 19 #[.agg #[.int .i64 N, .slice A n c], .int .i64 s, .int .i64 t] w (NumsMade (onL N L s t) w) := by
  obtain ⟨i0, hi, hz0, hz1, hz2⟩ := info_parts infoInt
  have I0 := Lib.hid hi
  have I1 := Lib.hid hz0
  have I2 := Lib.hid hz1
  have I3 := Lib.hid hz2
  have K1 := Lib.hid H1
  have HN := Lib.hid hn
  have O0 := Lib.hid (show ∀ wx, Bl ((w.alloc (.cells #[.int .i64 N, .slice A n c] 26)).alloc (.cells #[] 2)) wx → OwnN wx (w.heap.size + 1) (.slice (some ⟨w.heap.size + 1, 0, none⟩) 0 0) [] from fun wx hb => by
    have h := World.ownsRow_made (base := w.heap.size + 1) (e := 2) (size := 1) (w.alloc (.cells #[.int .i64 N, .slice A n c] 26)) #[] 0 (by simp) (by unfold maxLen; omega) rfl
    rw [World.size_alloc] at h
    exact OwnN.bl h hb)
  have BX := Lib.hid (show ∀ wx, Bl ((w.alloc (.cells #[.int .i64 N, .slice A n c] 26)).alloc (.cells #[] 2)) wx → wx.cell? ⟨w.heap.size, 0, none⟩ = some (.int .i64 N) ∧ wx.cell? ⟨w.heap.size, 1, none⟩ = some (.slice A n c) from fun wx hb => box2 ((Bl.alloc_ (Bl.refl (w.alloc (.cells #[.int .i64 N, .slice A n c] 26))) _).trans_ hb))
  have BW := Lib.hid (show ∀ wx, Bl ((w.alloc (.cells #[.int .i64 N, .slice A n c] 26)).alloc (.cells #[] 2)) wx → Bl w wx from fun wx hb => (Bl.alloc_ (Bl.alloc_ (Bl.refl w) _) _).trans_ hb)
  clear H1 hn hi hz0 hz1 hz2
  cases ho : okB N L with
  | false =>
    have HO := Lib.hid ho
    clear ho
    go_enter Try.func19, Try.ntmps19
    go_wp2_with fail
    refine (specOk_any N A n c L HN.out _ (by omega) (K1.out.bl (by repeat' (first | exact Bl.refl _ | with_reducible assumption | with_reducible refine Bl.drew_ ?_ | with_reducible refine Bl.drewN_ ?_ _ | with_reducible refine Bl.alloc_ ?_ _ | with_reducible refine Bl.trans_ ?_ (by assumption) | with_reducible refine Bl.trans_ ?_ (And.left (by assumption)))))).mono ?_
    rintro e w1 ⟨rfl, hb1⟩
    rw [HO.out]
    go_wp2
    go_ret
    refine ⟨_, rfl, ?_, BW.out _ hb1⟩
    rw [show onL N L s t = [] from by unfold onL has2; rw [HO.out]; rfl]
    exact (O0.out _ hb1).low (by omega)
  | true =>
    have HO := Lib.hid ho
    have HNS := Lib.hid (nodeB_ok (v := s) ho)
    have HNT := Lib.hid (nodeB_ok (v := t) ho)
    by_cases hs : 0 ≤ s ∧ s < N
    · have hsd : decide (0 ≤ s ∧ s < N) = true := by simpa using hs
      have HS := Lib.hid hsd
      by_cases ht : 0 ≤ t ∧ t < N
      · have htd : decide (0 ≤ t ∧ t < N) = true := by simpa using ht
        have HT := Lib.hid htd
        clear hsd htd
        go_enter Try.func19, Try.ntmps19
        go_wp2_with fail
        refine (specOk_any N A n c L HN.out _ (by omega) (K1.out.bl (by repeat' (first | exact Bl.refl _ | with_reducible assumption | with_reducible refine Bl.drew_ ?_ | with_reducible refine Bl.drewN_ ?_ _ | with_reducible refine Bl.alloc_ ?_ _ | with_reducible refine Bl.trans_ ?_ (by assumption) | with_reducible refine Bl.trans_ ?_ (And.left (by assumption)))))).mono ?_
        rintro e w1 ⟨rfl, hb1⟩
        rw [HO.out]
        obtain ⟨q0, q1⟩ := BX.out _ hb1
        go_wp2_with fail
        refine (l1Node_any N s _ _).mono ?_
        rintro e w2 ⟨rfl, hb2⟩
        rw [HNS.out, HS.out]
        have hb2 := hb1.trans_ hb2
        obtain ⟨q0, q1⟩ := BX.out _ hb2
        go_wp2_with fail
        refine (l1Node_any N t _ _).mono ?_
        rintro e w3 ⟨rfl, hb3⟩
        rw [HNT.out, HT.out]
        have hb3 := hb2.trans_ hb3
        obtain ⟨q0, q1⟩ := BX.out _ hb3
        have hN24 := (okB_elim ho).2.1
        have hL150 := (okB_elim ho).2.2.1
        have HRO := Lib.hid (revL_ok ho)
        have HRL := Lib.hid (revL_len (okB_elim ho).2.2.2.2)
        have HD := Lib.hid (distL_is (s := s) (arcsIn_of_ok ho) hN24 hs.1 hs.2)
        have HE := Lib.hid (distL_is (s := t) (arcsIn_of_ok (revL_ok ho)) hN24 ht.1 ht.2)
        have HDT := Lib.hid (fun v => distL_top (s := s) ho hs.1 hs.2 v)
        have HET := Lib.hid (fun v => distL_top (s := t) (revL_ok ho) ht.1 ht.2 v)
        have HDl := Lib.hid (show (distL N L s).length = N.toNat from distL_len ho hs.1 hs.2)
        have HEl := Lib.hid (show (distL N (revL L) t).length = N.toNat from distL_len (revL_ok ho) ht.1 ht.2)
        have HV := Lib.hid (show onL N L s t = withinD N (distL N L s) (distL N (revL L) t) (dAt (distL N L s) t) from by
          unfold onL withinL
          rw [if_pos (by unfold has2; rw [HO.out, Bool.true_and, decide_eq_true_eq]; exact ⟨hs, ht⟩)])
        go_wp2_with fail
        refine (l3Dist_any N s A n c L HN.out HO.out hs.1 hs.2 _ hm (K1.out.bl (BW.out _ hb3))).mono ?_
        rintro e w4 ⟨v4, rfl, hv4, hb4⟩
        obtain ⟨A4, c4, rfl, -, hi4, -, lo4⟩ := OwnN.shape hv4
        have LO4 := Lib.hid (show ∀ g, blockOf A4 = some g → w.heap.size + 1 < g from fun g hg => by have := lo4 g hg; have := hb3.size; simp at this; omega)
        have J4 := Lib.hid hi4
        have hb4 := hb3.trans_ hb4
        obtain ⟨q0, q1⟩ := BX.out _ hb4
        clear hv4 hi4
        go_wp2_with fail
        refine (l1Reverse_any N A n c L HN.out _ hm (K1.out.bl (BW.out _ hb4))).mono ?_
        rintro e w5 ⟨v5, rfl, hv5, hb5⟩
        obtain ⟨A5, c5, rfl, ha5, -⟩ := hv5.shape
        have J5 := Lib.hid ha5
        have JJ5 := Lib.hid (J4.out.bl hb5)
        have hb5 := hb4.trans_ hb5
        clear hv5 ha5
        go_wp2_with fail
        refine (l3Dist_any N t A5 (revL L).length c5 (revL L) rfl HRO.out ht.1 ht.2 _ (by rw [HRL.out]; omega) J5.out).mono ?_
        rintro e w6 ⟨v6, rfl, hv6, hb6⟩
        obtain ⟨A6, c6, rfl, -, hi6, -, lo6⟩ := OwnN.shape hv6
        have LO6 := Lib.hid (show ∀ g, blockOf A6 = some g → w.heap.size + 1 < g from fun g hg => by have := lo6 g hg; have := hb5.size; simp at this; omega)
        have J6 := Lib.hid hi6
        have JJ6 := Lib.hid (JJ5.out.bl hb6)
        have hb6 := hb5.trans_ hb6
        have O6 := Lib.hid (O0.out _ hb6)
        have P6 := Lib.hid hb6
        clear hv6 hi6 q0 q1 hb1 hb2 hb3 hb4 hb5 hb6 ho
        obtain ⟨k, rfl⟩ : ∃ k : Nat, N = k := ⟨N.toNat, by omega⟩
        have hDl := HDl.out
        have hEl := HEl.out
        rw [Int.toNat_natCast] at hDl hEl
        obtain ⟨q, rfl⟩ : ∃ q : Nat, t = q := ⟨t.toNat, by omega⟩
        have hqk : q < k := by omega
        rw [hDl, hEl]
        generalize distL k L s = D at *
        generalize distL k (revL L) q = E at *
        have hqD : q < D.length := by omega
        have hdq := dAt_at hqD
        obtain ⟨dt, hdt'⟩ : ∃ dt, D[q] = dt := ⟨_, rfl⟩
        have hDT := Lib.hid hdt'
        rw [hdq, hdt'] at HV
        have BON := Lib.hid (show ∀ j : Nat, (j : Int) < (k : Int) → byB D E dt (j : Int) = decide (0 ≤ dAt D j ∧ 0 ≤ dAt E j ∧ dAt D j + dAt E j = dt) from fun j hj => by
          have := byB_on HO.out HD.out HE.out (v := (j : Int)) (by omega) hj
          rw [hdq, hdt'] at this
          exact this)
        clear hdq hdt'
        by_cases hdt : 0 ≤ dt
        · go_wp2_with fail
          go_loopw [7, 10] (fun vv i wr => ∃ (j : Nat) (v : Value), j ≤ k ∧ v = vv ∧ i = .int .i64 j ∧ OwnN wr (w.heap.size + 1) v (withinK D E dt j) ∧ Turn (fun i => i = w.heap.size + 1) w6 wr ∧ ∀ g, v.ownBlock = some g → g = w.heap.size + 1 ∨ w6.heap.size ≤ g) (fun _ i _ => k - (intOf i).toNat)
          case atStart => exact ⟨0, _, by omega, rfl, rfl, by rw [withinK_zero]; exact O6.out, Turn.refl _ _, fun g hg => by simp [Value.ownBlock] at hg; omega⟩
          case round =>
            obtain ⟨j, v, hj, rfl, rfl, hO, hT, hVO⟩ := hrel
            have O := Lib.hid hO
            have hG : Bl (w.alloc (.cells #[.int .i64 (k : Int), .slice A n c] 26)) wr := Turn.to_bl ((Bl.alloc_ (Bl.refl _) _).trans_ P6.out) hT (fun i e => by simp; omega)
            obtain ⟨q0, q1⟩ := box2 hG
            have T := Lib.hid hT
            have VO := Lib.hid hVO
            have hsz := hG.size
            simp only [World.size_alloc] at hsz
            have hszT := hT.size
            have hs6 := P6.out.size
            simp only [World.size_alloc] at hs6
            have hwl := withinK_len D E dt j
            clear hO
            by_cases hlt : j < k
            · have i1 : (j : Int) < (k : Int) := by omega
              have hjD : j < D.length := by omega
              have hjE : j < E.length := by omega
              obtain ⟨g1, o1, rfl, hg1, hc1⟩ := (show IntsAt wr w6.heap.size A4 D from CellsAt.turn JJ6.out (Nat.le_refl _) hT (fun g hg _ e => by have := LO4.out g hg; omega)).cell (by omega)
              obtain ⟨g2, o2, rfl, hg2, hc2⟩ := (show IntsAt wr w6.heap.size A6 E from CellsAt.turn J6.out (Nat.le_refl _) hT (fun g hg _ e => by have := LO6.out g hg; omega)).cell (by omega)
              have p1 := hc1 j hjD
              have p2 := hc2 j hjE
              have p3 := hc1 q hqD
              rw [hDT.out] at p3
              have BY := Lib.hid (show byB D E dt (j : Int) = decide (0 ≤ D[j] ∧ 0 ≤ E[j] ∧ D[j] + E[j] = dt) from by rw [BON.out j i1, dAt_at hjD, dAt_at hjE])
              clear hc1 hc2
              have YES := Lib.hid (fun h => withinK_yes (D := D) (E := E) (m := dt) (k := j) h)
              have NO := Lib.hid (fun h => withinK_no (D := D) (E := E) (m := dt) (k := j) h)
              have hd0 := HDT.out j
              have he0 := HET.out j
              rw [dAt_at hjD] at hd0
              rw [dAt_at hjE] at he0
              generalize D[j] = d at *
              generalize E[j] = e at *
              have j0 : (0 : Int) ≤ (j : Int) := by omega
              have q2 : (0 : Int) ≤ (q : Int) := by omega
              have q3 : (q : Int) < (k : Int) := by omega
              have q4 : q < k := by omega
              have bt : decide (0 ≤ dt) = true := by simpa using hdt
              have a1 : IntKind.i64.wrap (d + e) = d + e := IntWalk.i64_in _ (by omega)
              clear hd0 he0
              by_cases h1 : 0 ≤ d
              · have b1 : decide (0 ≤ d) = true := by simpa using h1
                by_cases h2 : 0 ≤ e
                · have b2 : decide (0 ≤ e) = true := by simpa using h2
                  by_cases h3 : d + e = dt
                  · have b3 : ((d + e) == dt) = true := by simpa using h3
                    have a2 : IntKind.i64.wrap dt = dt := by rw [← h3]; exact a1
                    have b4 : (dt == dt) = true := by simp
                    have HY := Lib.hid (YES.out (by rw [BY.out, decide_eq_true_eq]; exact ⟨h1, h2, h3⟩))
                    clear YES NO BY
                    go_wp2
                    go_quiet (fail)
                    go_wp2_with (at_builtin; refine wpList_append_any _ rfl (.tmp 76) (.tmp 78) _ rfl (w.heap.size + 1) 2 i0 _ 1 8 Try.underlying29 I0.out I1.out I2.out I3.out rfl (by decide) _ (withinK D E dt j).length (csI (withinK D E dt j)) rfl (World.ownsRow.alloc (OwnN.bl O.out (by first | exact Bl.refl _ | exact (Bl.refl _).drew_ | exact (Bl.refl _).drewN_ _)) _) (wr.heap.size + 1) (some ⟨wr.heap.size, 0, none⟩) 1 1 [.int .i64 (j : Int)] rfl ?c0 (by simp [Value.oneCell']) ?c3 ?c4 ?c5 ?_)
                    case c0 =>
                      refine ⟨rfl, fun _ => ⟨_, rfl, by show wr.heap.size < wr.heap.size + 1; omega, fun x u hj => ?_⟩⟩
                      match x, hj with
                      | 0, hj => simp at hj; subst hj; (try simp [Addr.add, go_sem]); (try exact cell_new_drewN _ _ _ _)
                      | (x + 1), hj => simp at hj
                    case c3 => unfold maxLen; omega
                    case c4 => omega
                    case c5 => simp; omega
                    intro v' w7 hown' hgrow hwh
                    have O7 := Lib.hid (OwnN.snoc (V := withinK D E dt j) (x := (j : Int)) (n := (withinK D E dt j).length) rfl (by simpa using hown'))
                    rw [← HY.out] at O7
                    have T7 : Hid (Turn (fun i => i = w.heap.size + 1) w6 w7) := by
                      refine Lib.hid (Turn.trans (T.out.bl ?_) (Turn.of_grown (S := fun i => v.ownBlock = some i) hgrow (fun i e => e)) (fun i hi e => by rcases VO.out i e with h | h; exact h; omega))
                      first | exact (Bl.refl wr).alloc_ _ | exact ((Bl.refl wr).alloc_ _).drew_ | exact ((Bl.refl wr).alloc_ _).drewN_ _
                    have VO7 := Lib.hid (show ∀ g, v'.ownBlock = some g → g = w.heap.size + 1 ∨ w6.heap.size ≤ g from fun g hg => by
                      rcases hwh with h | h
                      · exact VO.out g (by rw [← h]; exact hg)
                      · right; rw [h] at hg; injection hg with hg; have := T.out.size; (try simp only [World.size_alloc] at hg); first | omega | (have h2 : wr.heap.size + 1 = g := hg; omega))
                    clear hown' hgrow hwh
                    go_wp2
                    go_roundw
                    case rel => exact ⟨j + 1, _, by omega, rfl, by go_num, O7.out, T7.out, VO7.out⟩
                    case measure => simp [intOf]; omega
                  · have b3 : ((d + e) == dt) = false := by simpa using h3
                    have HY := Lib.hid (NO.out (by rw [BY.out, decide_eq_false_iff_not]; omega))
                    clear YES NO BY
                    go_wp2
                    go_quiet (fail)
                    go_wp2
                    go_roundw
                    case rel => exact ⟨j + 1, _, by omega, rfl, by go_num, by rw [HY.out]; exact OwnN.bl O.out (by repeat' (first | exact Bl.refl _ | with_reducible assumption | with_reducible refine Bl.drew_ ?_ | with_reducible refine Bl.drewN_ ?_ _ | with_reducible refine Bl.alloc_ ?_ _ | with_reducible refine Bl.trans_ ?_ (by assumption) | with_reducible refine Bl.trans_ ?_ (And.left (by assumption)))), T.out.bl (by repeat' (first | exact Bl.refl _ | with_reducible assumption | with_reducible refine Bl.drew_ ?_ | with_reducible refine Bl.drewN_ ?_ _ | with_reducible refine Bl.alloc_ ?_ _ | with_reducible refine Bl.trans_ ?_ (by assumption) | with_reducible refine Bl.trans_ ?_ (And.left (by assumption)))), VO.out⟩
                    case measure => simp [intOf]; omega
                · have b2 : decide (0 ≤ e) = false := by simpa using h2
                  have HY := Lib.hid (NO.out (by rw [BY.out, decide_eq_false_iff_not]; omega))
                  clear YES NO BY
                  go_wp2
                  go_quiet (fail)
                  go_wp2
                  go_roundw
                  case rel => exact ⟨j + 1, _, by omega, rfl, by go_num, by rw [HY.out]; exact OwnN.bl O.out (by repeat' (first | exact Bl.refl _ | with_reducible assumption | with_reducible refine Bl.drew_ ?_ | with_reducible refine Bl.drewN_ ?_ _ | with_reducible refine Bl.alloc_ ?_ _ | with_reducible refine Bl.trans_ ?_ (by assumption) | with_reducible refine Bl.trans_ ?_ (And.left (by assumption)))), T.out.bl (by repeat' (first | exact Bl.refl _ | with_reducible assumption | with_reducible refine Bl.drew_ ?_ | with_reducible refine Bl.drewN_ ?_ _ | with_reducible refine Bl.alloc_ ?_ _ | with_reducible refine Bl.trans_ ?_ (by assumption) | with_reducible refine Bl.trans_ ?_ (And.left (by assumption)))), VO.out⟩
                  case measure => simp [intOf]; omega
              · have b1 : decide (0 ≤ d) = false := by simpa using h1
                have HY := Lib.hid (NO.out (by rw [BY.out, decide_eq_false_iff_not]; omega))
                clear YES NO BY
                go_wp2
                go_quiet (fail)
                go_wp2
                go_roundw
                case rel => exact ⟨j + 1, _, by omega, rfl, by go_num, by rw [HY.out]; exact OwnN.bl O.out (by repeat' (first | exact Bl.refl _ | with_reducible assumption | with_reducible refine Bl.drew_ ?_ | with_reducible refine Bl.drewN_ ?_ _ | with_reducible refine Bl.alloc_ ?_ _ | with_reducible refine Bl.trans_ ?_ (by assumption) | with_reducible refine Bl.trans_ ?_ (And.left (by assumption)))), T.out.bl (by repeat' (first | exact Bl.refl _ | with_reducible assumption | with_reducible refine Bl.drew_ ?_ | with_reducible refine Bl.drewN_ ?_ _ | with_reducible refine Bl.alloc_ ?_ _ | with_reducible refine Bl.trans_ ?_ (by assumption) | with_reducible refine Bl.trans_ ?_ (And.left (by assumption)))), VO.out⟩
                case measure => simp [intOf]; omega
            · obtain rfl : j = k := by omega
              go_wp2
              go_ret
              refine ⟨_, rfl, ?_, (Bl.alloc_ (Bl.refl w) _).trans_ hG⟩
              rw [HV.out, show withinD (j : Int) D E dt = withinK D E dt j from by rw [← withinK_all]; simp]
              exact O.out.low (by omega)
        · have bt : decide (0 ≤ dt) = false := by simpa using hdt
          have HVN := Lib.hid (withinD_none (N := (k : Int)) (D := D) (E := E) (m := dt) (by omega))
          go_wp2_with fail
          go_loopw [7, 10] (fun vv i wr => vv = .slice (some ⟨w.heap.size + 1, 0, none⟩) 0 0 ∧ i = .int .i64 0 ∧ wr = w6) (fun _ i _ => k - (intOf i).toNat)
          case atStart => exact ⟨rfl, rfl, rfl⟩
          case round =>
            obtain ⟨rfl, rfl, rfl⟩ := hrel
            obtain ⟨q0, q1⟩ := BX.out _ P6.out
            obtain ⟨g1, o1, rfl, hg1, hc1⟩ := JJ6.out.cell (by omega)
            have p3 := hc1 q hqD
            rw [hDT.out] at p3
            clear hc1
            have i1 : (0 : Int) < (k : Int) := by omega
            have q2 : (0 : Int) ≤ (q : Int) := by omega
            have q3 : (q : Int) < (k : Int) := by omega
            have q4 : q < k := by omega
            go_wp2
            go_ret
            refine ⟨_, rfl, ?_, BW.out _ P6.out⟩
            rw [HV.out, HVN.out]
            exact (O0.out _ P6.out).low (by omega)
      · have htd : decide (0 ≤ t ∧ t < N) = false := by simpa using ht
        have HT := Lib.hid htd
        clear hsd htd
        go_enter Try.func19, Try.ntmps19
        go_wp2_with fail
        refine (specOk_any N A n c L HN.out _ (by omega) (K1.out.bl (by repeat' (first | exact Bl.refl _ | with_reducible assumption | with_reducible refine Bl.drew_ ?_ | with_reducible refine Bl.drewN_ ?_ _ | with_reducible refine Bl.alloc_ ?_ _ | with_reducible refine Bl.trans_ ?_ (by assumption) | with_reducible refine Bl.trans_ ?_ (And.left (by assumption)))))).mono ?_
        rintro e w1 ⟨rfl, hb1⟩
        rw [HO.out]
        obtain ⟨q0, q1⟩ := BX.out _ hb1
        go_wp2_with fail
        refine (l1Node_any N s _ _).mono ?_
        rintro e w2 ⟨rfl, hb2⟩
        rw [HNS.out, HS.out]
        have hb2 := hb1.trans_ hb2
        obtain ⟨q0, q1⟩ := BX.out _ hb2
        go_wp2_with fail
        refine (l1Node_any N t _ _).mono ?_
        rintro e w3 ⟨rfl, hb3⟩
        rw [HNT.out, HT.out]
        have hb3 := hb2.trans_ hb3
        obtain ⟨q0, q1⟩ := BX.out _ hb3
        go_wp2
        go_ret
        refine ⟨_, rfl, ?_, BW.out _ hb3⟩
        rw [show onL N L s t = [] from by unfold onL; rw [if_neg (by intro h; exact ht (has2_of h).2.2)]]
        exact (O0.out _ hb3).low (by omega)
    · have hsd : decide (0 ≤ s ∧ s < N) = false := by simpa using hs
      have HS := Lib.hid hsd
      clear hsd
      go_enter Try.func19, Try.ntmps19
      go_wp2_with fail
      refine (specOk_any N A n c L HN.out _ (by omega) (K1.out.bl (by repeat' (first | exact Bl.refl _ | with_reducible assumption | with_reducible refine Bl.drew_ ?_ | with_reducible refine Bl.drewN_ ?_ _ | with_reducible refine Bl.alloc_ ?_ _ | with_reducible refine Bl.trans_ ?_ (by assumption) | with_reducible refine Bl.trans_ ?_ (And.left (by assumption)))))).mono ?_
      rintro e w1 ⟨rfl, hb1⟩
      rw [HO.out]
      obtain ⟨q0, q1⟩ := BX.out _ hb1
      go_wp2_with fail
      refine (l1Node_any N s _ _).mono ?_
      rintro e w2 ⟨rfl, hb2⟩
      rw [HNS.out, HS.out]
      have hb2 := hb1.trans_ hb2
      obtain ⟨q0, q1⟩ := BX.out _ hb2
      go_wp2
      go_ret
      refine ⟨_, rfl, ?_, BW.out _ hb2⟩
      rw [show onL N L s t = [] from by unfold onL; rw [if_neg (by intro h; exact hs (has2_of h).2.1)]]
      exact (O0.out _ hb2).low (by omega)

end Go.Proofs.Ytoojgbkhnondeaa

namespace Go.Proofs.Ytoojgbkhnondeaa
open Go.Shelf

def sortArcs_ren : Go.Shelf.Ren := ⟨fun | 6 => 36 | 15 => 48 | 14 => 47 | 28 => 66 | 29 => 67 | 20 => 58 | 21 => 59 | 22 => 60 | 23 => 61 | 24 => 62 | 25 => 63 | 26 => 64 | 27 => 65 | 46 => 75 | 47 => 76 | 48 => 77 | 49 => 78 | 50 => 79 | 57 => 82 | n => n, fun | 22 => 24 | 24 => 49 | 25 => 53 | 3 => 3 | 39 => 75 | 0 => 0 | 53 => 92 | 55 => 94 | 4 => 4 | 46 => 86 | 45 => 85 | 50 => 66 | 5 => 5 | 9 => 9 | 66 => 108 | 70 => 111 | 76 => 114 | 77 => 115 | n => n, fun | n => n⟩
theorem sortArcs : Go.Proofs.SlLaysF0.n6 Try.prog sortArcs_ren := {
  mixed := by kernel_rfl
  f6 := ⟨Try.f36.name, by decide, Try.func36.trans (congrArg some (by kernel_rfl))⟩
  f14 := ⟨Try.f47.name, by decide, Try.func47.trans (congrArg some (by kernel_rfl))⟩
  f15 := Try.func48.trans (congrArg some (by kernel_rfl))
  f20 := ⟨Try.f58.name, by decide, Try.func58.trans (congrArg some (by kernel_rfl))⟩
  f21 := ⟨Try.f59.name, by decide, Try.func59.trans (congrArg some (by kernel_rfl))⟩
  f22 := ⟨Try.f60.name, by decide, Try.func60.trans (congrArg some (by kernel_rfl))⟩
  f23 := ⟨Try.f61.name, by decide, Try.func61.trans (congrArg some (by kernel_rfl))⟩
  f24 := ⟨Try.f62.name, by decide, Try.func62.trans (congrArg some (by kernel_rfl))⟩
  f25 := ⟨Try.f63.name, by decide, Try.func63.trans (congrArg some (by kernel_rfl))⟩
  f26 := ⟨Try.f64.name, by decide, Try.func64.trans (congrArg some (by kernel_rfl))⟩
  f27 := ⟨Try.f65.name, by decide, Try.func65.trans (congrArg some (by kernel_rfl))⟩
  f28 := Try.func66.trans (congrArg some (by kernel_rfl))
  f29 := Try.func67.trans (congrArg some (by kernel_rfl))
  f46 := ⟨Try.f75.name, by decide, Try.func75.trans (congrArg some (by kernel_rfl))⟩
  f47 := Try.func76.trans (congrArg some (by kernel_rfl))
  f48 := Try.func77.trans (congrArg some (by kernel_rfl))
  f49 := ⟨Try.f78.name, by decide, Try.func78.trans (congrArg some (by kernel_rfl))⟩
  f50 := ⟨Try.f79.name, by decide, Try.func79.trans (congrArg some (by kernel_rfl))⟩
  f57 := ⟨Try.f82.name, by decide, Try.func82.trans (congrArg some (by kernel_rfl))⟩
  t0 := Try.underlying0
  a0 := Try.isAgg0
  z0 := Try.sizeOf0
  v0 := Try.zeroValue0
  t3 := Try.underlying3
  a3 := Try.isAgg3
  z3 := Try.sizeOf3
  v3 := Try.zeroValue3
  t4 := Try.underlying4
  a4 := Try.isAgg4
  z4 := Try.sizeOf4
  v4 := Try.zeroValue4
  t5 := Try.underlying5
  a5 := Try.isAgg5
  z5 := Try.sizeOf5
  v5 := Try.zeroValue5
  t9 := Try.underlying9
  a9 := Try.isAgg9
  z9 := Try.sizeOf9
  v9 := Try.zeroValue9
  t22 := Try.underlying24
  a22 := Try.isAgg24
  z22 := Try.sizeOf24
  v22 := Try.zeroValue24
  t25 := Try.underlying53
  a25 := Try.isAgg53
  z25 := Try.sizeOf53
  v25 := Try.zeroValue53
  t39 := Try.underlying75
  a39 := Try.isAgg75
  z39 := Try.sizeOf75
  v39 := Try.zeroValue75
  t45 := Try.underlying85
  a45 := Try.isAgg85
  z45 := Try.sizeOf85
  v45 := Try.zeroValue85
  t46 := Try.underlying86
  a46 := Try.isAgg86
  z46 := Try.sizeOf86
  v46 := Try.zeroValue86
  t50 := Try.underlying66
  a50 := Try.isAgg66
  z50 := Try.sizeOf66
  v50 := Try.zeroValue66
  t53 := Try.underlying92
  a53 := Try.isAgg92
  z53 := Try.sizeOf92
  v53 := Try.zeroValue92
  t55 := Try.underlying94
  a55 := Try.isAgg94
  z55 := Try.sizeOf94
  v55 := Try.zeroValue94
  t66 := Try.underlying108
  a66 := Try.isAgg108
  z66 := Try.sizeOf108
  v66 := Try.zeroValue108
  t70 := Try.underlying111
  a70 := Try.isAgg111
  z70 := Try.sizeOf111
  v70 := Try.zeroValue111
  t76 := Try.underlying114
  a76 := Try.isAgg114
  z76 := Try.sizeOf114
  v76 := Try.zeroValue114
  t77 := Try.underlying115
  a77 := Try.isAgg115
  z77 := Try.sizeOf115
  v77 := Try.zeroValue115 }

end Go.Proofs.Ytoojgbkhnondeaa

set_option linter.unusedSimpArgs false
set_option linter.unusedVariables false
namespace Go.Proofs.Ytoojgbkhnondeaa
open Go.RowKit Go.Sort

/-- Draws and new blocks alone. -/
def Gr (w w' : World) : Prop := ∃ q os, w' = Sort.grow (w.drewN q) os
theorem Gr.refl (w : World) : Gr w w := ⟨0, #[], (grow_empty w).symm⟩
theorem Gr.alloc_ {w w' : World} (h : Gr w w') (o : Obj) : Gr w (w'.alloc o) := by
  obtain ⟨q, os, rfl⟩ := h
  exact ⟨q, os ++ #[o], by rw [alloc_eq_grow, grow_grow]⟩
theorem Gr.drew_ {w w' : World} (h : Gr w w') : Gr w w'.drew := by
  obtain ⟨q, os, rfl⟩ := h
  exact ⟨q + 1, os, rfl⟩
theorem Gr.drewN_ {w w' : World} (h : Gr w w') (n : Nat) : Gr w (w'.drewN n) := by
  obtain ⟨q, os, rfl⟩ := h
  exact ⟨q + n, os, by simp [Sort.grow, World.drewN, Nat.add_assoc]⟩
theorem Gr.trans_ {a b c : World} (h : Gr a b) (k : Gr b c) : Gr a c := by
  obtain ⟨q', os', rfl⟩ := k
  obtain ⟨q, os, h⟩ := h.drewN_ q'
  exact ⟨q, os ++ os', by rw [h, grow_grow]⟩
theorem Gr.bl {w w' : World} (h : Gr w w') : Bl w w' := by
  obtain ⟨q, os, rfl⟩ := h
  exact ⟨rfl, rfl, rfl, by rw [size_grow]; exact Nat.le_add_right _ _, fun i hi => heap_grow_old _ os hi⟩

theorem two_boxes_g {w wx : World} {a b x c d y : Int} (h : Gr ((w.alloc (.cells #[.int .i64 a, .int .i64 b, .int .i64 x] 49)).alloc (.cells #[.int .i64 c, .int .i64 d, .int .i64 y] 49)) wx) :
    Gr ((w.alloc (.cells #[.int .i64 a, .int .i64 b, .int .i64 x] 49)).alloc (.cells #[.int .i64 c, .int .i64 d, .int .i64 y] 49)) wx ∧ wx.cell? ⟨w.heap.size, 0, none⟩ = some (.int .i64 a) ∧ wx.cell? ⟨w.heap.size, 1, none⟩ = some (.int .i64 b) ∧ wx.cell? ⟨w.heap.size + 1, 0, none⟩ = some (.int .i64 c) ∧ wx.cell? ⟨w.heap.size + 1, 1, none⟩ = some (.int .i64 d) :=
  ⟨h, (two_boxes h.bl).2⟩

set_option maxHeartbeats 1000000 in
theorem ends_gr (a b x c d y : Int) (w : World) :
    Calls Try.prog 37 #[.agg #[.int .i64 a, .int .i64 b, .int .i64 x], .agg #[.int .i64 c, .int .i64 d, .int .i64 y]] w fun e w' => e = .returned (.int .i64 (endsI a b c d)) ∧ Gr w w' := by
  go_enter Try.func37, Try.ntmps37
  go_wp2
  go_region_held3 (fun wx => Gr ((w.alloc (.cells #[.int .i64 a, .int .i64 b, .int .i64 x] 49)).alloc (.cells #[.int .i64 c, .int .i64 d, .int .i64 y] 49)) wx ∧ wx.cell? ⟨w.heap.size, 0, none⟩ = some (.int .i64 a) ∧ wx.cell? ⟨w.heap.size, 1, none⟩ = some (.int .i64 b) ∧ wx.cell? ⟨w.heap.size + 1, 0, none⟩ = some (.int .i64 c) ∧ wx.cell? ⟨w.heap.size + 1, 1, none⟩ = some (.int .i64 d)) (exact two_boxes_g (by repeat' (first | exact Gr.refl _ | with_reducible assumption | with_reducible refine Gr.drew_ ?_ | with_reducible refine Gr.drewN_ ?_ _ | with_reducible refine Gr.alloc_ ?_ _ | with_reducible refine Gr.trans_ ?_ (by assumption) | with_reducible refine Gr.trans_ ?_ (And.left (by assumption))))) (first | (go_at_call 50; refine (cmp_any _ _ _).mono ?_; rintro e w' ⟨rfl, rfl⟩) | (go_at_call 49; refine (or_any (cmpI a c) (cmpI b d) _ _ _ ?_ ?_).mono ?_; (· go_simp); (· go_simp); rintro e w' ⟨rfl, rfl⟩))
  go_wp2
  go_ret
  exact ⟨ret_int rfl, (by repeat' (first | exact Gr.refl _ | with_reducible assumption | with_reducible refine Gr.drew_ ?_ | with_reducible refine Gr.drewN_ ?_ _ | with_reducible refine Gr.alloc_ ?_ _ | with_reducible refine Gr.trans_ ?_ (by assumption) | with_reducible refine Gr.trans_ ?_ (And.left (by assumption))))⟩

/-- An arc's cells. -/
def enc3 (a : Arc3) : List Value := [.int .i64 a.1, .int .i64 a.2.1, .int .i64 a.2.2]
/-- The order of two arcs by their ends, as a number. -/
def endsC (x y : Arc3) : Int := endsI x.1 x.2.1 y.1 y.2.1
theorem ltOf_ends (x y : Arc3) : ltOf endsC x y = aheadB x.1 x.2.1 y.1 y.2.1 := ends_neg _ _ _ _
theorem swo_ends : SWO (ltOf endsC) where
  irrefl x := by rw [ltOf_ends]; exact ahead_irrefl _ _
  trans x y z h1 h2 := by rw [ltOf_ends] at *; exact ahead_trans h1 h2
  ntrans x y z h1 h2 := by
    rw [ltOf_ends] at *
    simp only [aheadB, decide_eq_false_iff_not] at *
    omega
theorem cmp_lays (blk off size : Nat) (w : World) : CmpLays Try.prog 37 #[] enc3 3 endsC blk off size w := fun _ _ _ _ x y => ends_gr _ _ _ _ _ _ _

theorem sorted_turned {L : List Arc3} {d d' : Array Arc3} (hs : L.Pairwise AheadP) (hd : d.toList = L.map turnA) (hp : PermIn 0 d.size d d') (hso : SortedIn (ltOf endsC) 0 d.size d') : d'.toList = revL L := by
  obtain ⟨hsz, -, hperm⟩ := hp
  have e1 : d'.extract 0 d.size = d' := by rw [← hsz]; exact Array.extract_size
  rw [e1, Array.extract_size, hd] at hperm
  obtain ⟨r1, r2⟩ := revL_sorted hs
  have hne : (L.map turnA).Pairwise (fun a b => ¬ (a.1 = b.1 ∧ a.2.1 = b.2.1)) := by
    rw [List.pairwise_map]
    exact hs.imp fun {a b} h => fun hc => ahead_ne h ⟨hc.2, hc.1⟩
  have hne' := hperm.symm.pairwise hne (fun {x y} h => fun hc => h ⟨hc.1.symm, hc.2.symm⟩)
  refine sorted_uniq ?_ r1 (hperm.trans r2.symm)
  rw [List.pairwise_iff_getElem] at hne' ⊢
  intro i j hi hj hij
  have hi' : i < d'.size := by simpa using hi
  have hj' : j < d'.size := by simpa using hj
  have h1 := hso i j (Nat.zero_le _) hij (by omega)
  rw [getElem!_pos d' j hj', getElem!_pos d' i hi', ltOf_ends] at h1
  have h2 := hne' i j hi hj hij
  exact ahead_total (by simpa using h1) (fun hc => h2 ⟨hc.1.symm, hc.2.symm⟩)

theorem flat_arcs (T : List Arc3) : flatK enc3 3 T.toArray = (cs3 T).toArray := by
  refine ext_get! (by simp [cs3_length]) fun t ht => ?_
  have ht' : t < T.toArray.size * 3 := by simpa using ht
  have htl : t < T.length * 3 := by simpa using ht'
  rw [get_flatK _ _ _ _ ht']
  have hk : t / 3 < T.length := by omega
  obtain ⟨a, b, c⟩ := cs3_at T (t / 3) hk
  have e : t = t / 3 * 3 + t % 3 := by omega
  have h3 : t % 3 = 0 ∨ t % 3 = 1 ∨ t % 3 = 2 := by omega
  have hg : T.toArray[t / 3]! = T[t / 3] := by rw [getElem!_pos T.toArray (t / 3) (by simpa using hk)]; simp
  have key : ∀ r, t % 3 = r → (cs3 T).toArray[t]! = ((cs3 T)[t / 3 * 3 + r]?).getD default := fun r hr => by
    rw [← hr, ← e]
    simp
  rw [hg]
  rcases h3 with h3 | h3 | h3
  · rw [key 0 h3, Nat.add_zero, a, h3]; rfl
  · rw [key 1 h3, b, h3]; rfl
  · rw [key 2 h3, c, h3]; rfl

theorem holds_arcs {w : World} {B g c : Nat} {T : List Arc3} (h : OwnA w B (.slice (some ⟨g, 0, none⟩) T.length c) T) : HoldsK enc3 3 w g 0 T.toArray := by
  unfold HoldsK
  rw [flat_arcs]
  intro j hj
  have hj' : j < (cs3 T).length := by simpa using hj
  have h' : w.ownsRow B 49 3 (.slice (some ⟨g, 0, none⟩) T.length c) T.length (cs3 T) := h
  refine ⟨?_, by rw [Nat.zero_add]; exact World.ownsRow.frozenAt h' j⟩
  rw [Nat.zero_add, World.ownsRow.cellAt h' j (by rw [cs3_length] at hj'; exact hj'), getElem!_pos _ j hj]
  simp [hj']

theorem sorted_own {w : World} {B g c : Nat} {T T' : List Arc3} (h : OwnA w B (.slice (some ⟨g, 0, none⟩) T.length c) T) (hl : T'.length = T.length) (m : Nat) (os : Array Obj) :
    OwnA (sortWorldK enc3 3 w g 0 m T'.toArray os) B (.slice (some ⟨g, 0, none⟩) T.length c) T' ∧ w.grownBy (sortWorldK enc3 3 w g 0 m T'.toArray os) (some g) := by
  have h' : w.ownsRow B 49 3 (.slice (some ⟨g, 0, none⟩) T.length c) T.length (cs3 T) := h
  have hother : w.grownBy (sortWorldK enc3 3 w g 0 m T'.toArray os) (some g) := by
    refine ⟨rfl, rfl, rfl, ?_, fun i hi hne => ?_⟩
    · unfold sortWorldK
      rw [size_grow, size_putRowK]
      exact Nat.le_add_right _ _
    · have hne' : g ≠ i := fun e => hne (by rw [e])
      have hsz : i < (putRowK enc3 3 (Sort.ahead w m) g 0 T'.toArray).heap.size := by rw [size_putRowK]; exact hi
      unfold sortWorldK
      rw [heap_grow_old _ _ hsz]
      simp [putRowK, putRow, mapBlock, Sort.ahead, Array.getElem?_modify, hne']
  refine ⟨⟨by rw [cs3_length], ?_⟩, hother⟩
  rcases h'.2 with ⟨e, h0⟩ | ⟨g', cap, cur, e, hB, hg, hnc, hcm, hcs, htake⟩
  · injection e with e1 e2 e3
    cases e1
  · injection e with e1 e2 e3
    injection e1 with e1
    injection e1 with e1
    subst e1
    have hlt : g < w.heap.size := (Array.getElem?_eq_some_iff.1 hg).1
    have hsz : g < (putRowK enc3 3 (Sort.ahead w m) g 0 T'.toArray).heap.size := by rw [size_putRowK]; exact hlt
    refine .inr ⟨g, cap, putCells id 0 (flatK enc3 3 T'.toArray) cur, by rw [hl, e3], hB, ?_, by rw [hl]; exact hnc, hcm, by simp [putCells, hcs], ?_⟩
    · unfold sortWorldK
      rw [heap_grow_old _ _ hsz]
      simp [putRowK, putRow, mapBlock, Sort.ahead, Array.getElem?_modify, hg, onCells]
    · rw [flat_arcs]
      refine List.ext_getElem (by simp [putCells, hcs, cs3_length]; omega) fun i h1 h2 => ?_
      have hi : i < (cs3 T').length := h2
      simp [putCells, hi]

set_option maxHeartbeats 1000000 in
/-- The sort of arcs that are turned. -/
theorem sort_arcs (L T : List Arc3) (hs : L.Pairwise AheadP) (hT : T = L.map turnA) (B : Nat) (v : Value) (w : World) (hm : T.length ≤ 1048576) (h : OwnA w B v T) :
    Calls Try.prog 36 #[v, .func (.func 37) #[] #[]] w fun e w' => e = .returned (.tuple #[]) ∧ OwnA w' B v (revL L) ∧ w.grownBy w' v.ownBlock := by
  have h' : w.ownsRow B 49 3 v T.length (cs3 T) := h
  have hrl : (revL L).length = T.length := by rw [revL_len hs, hT, List.length_map]
  rcases h'.2 with ⟨rfl, h0⟩ | ⟨g, cap, cur, rfl, hB, hg, hnc, hcm, hcs, htake⟩
  · have hcon := AnyF.slices_SortFunc_none { sortArcs with } none 0 (.func (.func 37) #[] #[]) w
    change Calls Try.prog 36 _ _ _ at hcon
    refine hcon.mono ?_
    rintro e w' ⟨rfl, rfl⟩
    have e0 : revL L = [] := List.eq_nil_of_length_eq_zero (by omega)
    exact ⟨rfl, by rw [e0]; exact OwnA.nil_ _ _, World.grownBy.refl _ _⟩
  · have eg : ∀ args w, (callFunc 37 args).run Try.prog w = .ok (.enter 37 args) w := enters_of Try.func37 (by kernel_rfl) rfl
    have hcon := AnyQ.slices_SortFunc sortArcs 3 Try.isAgg49 Try.sizeOf49 enc3 (fun _ => rfl) (fun x v hv => by simp [enc3] at hv; rcases hv with rfl | rfl | rfl <;> rfl) endsC swo_ends 37 #[] g 0 cap T.toArray w eg (cmp_lays g 0 _ w) (holds_arcs h) (Array.getElem?_eq_some_iff.1 hg).1 (by simp; omega)
    change Calls Try.prog 36 _ _ _ at hcon
    refine hcon.mono ?_
    rintro e w' ⟨rfl, d', n, os, hp, hso, rfl⟩
    have e' : d' = (revL L).toArray := by
      have := sorted_turned hs (d := T.toArray) (by simpa using hT) hp hso
      rw [← this]
    rw [e']
    obtain ⟨o1, o2⟩ := sorted_own h hrl n os
    exact ⟨rfl, o1, o2⟩

end Go.Proofs.Ytoojgbkhnondeaa

set_option linter.unusedSimpArgs false
set_option linter.unusedVariables false
namespace Go.Proofs.Ytoojgbkhnondeaa
open Go.RowKit

set_option maxRecDepth 100000 in
set_option maxHeartbeats 4000000 in
theorem implReversed_any (N : Int) (A : Option Addr) (n c : Nat) (L : List Arc3) (hn : n = L.length) (w : World) (hm : n ≤ 1048576) (H1 : ArcsAt w w.heap.size A L) :
    Calls Try.prog 21 #[.agg #[.int .i64 N, .slice A n c]] w (GraphMade1 (revN N L) (revG N L) w) := by
  obtain ⟨i0, hi, hz0, hz1, hz2⟩ := info_parts infoArc
  have I0 := Lib.hid hi
  have I1 := Lib.hid hz0
  have I2 := Lib.hid hz1
  have I3 := Lib.hid hz2
  have K1 := Lib.hid H1
  have HN := Lib.hid hn
  clear H1 hn hi hz0 hz1 hz2
  cases ho : okB N L with
  | false =>
    have HO := Lib.hid ho
    clear ho
    go_enter Try.func21, Try.ntmps21
    go_wp2_with fail
    refine (implOk_any N A n c L HN.out _ (by omega) (K1.out.bl (by repeat' (first | exact Bl.refl _ | with_reducible assumption | with_reducible refine Bl.drew_ ?_ | with_reducible refine Bl.drewN_ ?_ _ | with_reducible refine Bl.alloc_ ?_ _ | with_reducible refine Bl.trans_ ?_ (by assumption) | with_reducible refine Bl.trans_ ?_ (And.left (by assumption)))))).mono ?_
    rintro e w1 ⟨rfl, hb1⟩
    rw [HO.out]
    obtain ⟨h00, h01, h10, h11, f10, f11, hsz⟩ := box22 hb1
    go_wp2
    refine bodyPost_ret (v := .agg #[.int .i64 0, .slice none 0 0]) (by simp [results, Try.results21, go_sem, h10, h11, f10, f11]) rfl ?_
    refine ⟨.slice none 0 0, by unfold revN; rw [HO.out]; rfl, by unfold revG; rw [HO.out, if_neg (by simp)]; exact OwnA.nil_ _ _, ?_⟩
    exact Bl.set_ (Bl.set_ ((Bl.alloc_ (Bl.alloc_ (Bl.refl w) _) _).trans_ hb1) (Nat.le_succ _) _) (Nat.le_succ _) _
  | true =>
    have HO := Lib.hid ho
    have HP := Lib.hid (okB_elim ho).2.2.2.2
    clear ho
    go_enter Try.func21, Try.ntmps21
    go_wp2_with fail
    refine (implOk_any N A n c L HN.out _ (by omega) (K1.out.bl (by repeat' (first | exact Bl.refl _ | with_reducible assumption | with_reducible refine Bl.drew_ ?_ | with_reducible refine Bl.drewN_ ?_ _ | with_reducible refine Bl.alloc_ ?_ _ | with_reducible refine Bl.trans_ ?_ (by assumption) | with_reducible refine Bl.trans_ ?_ (And.left (by assumption)))))).mono ?_
    rintro e w1 ⟨rfl, hb1⟩
    rw [HO.out]
    obtain ⟨h00, h01, h10, h11, f10, f11, hsz⟩ := box22 hb1
    have T0 := Lib.hid (show TS w (.cells #[.int .i64 N, .slice A n c] 26) (w.heap.size + 1) w1.heap.size N (.slice none 0 0) [] (w1.alloc (.cells #[.int .i64 N, .slice none 0 0] 26)) from by
      refine ⟨Two.new _ _ _, ?_, OwnA.nil_ _ _, ?_, by omega, hsz⟩
      · have := Two.new (w.alloc (.cells #[.int .i64 N, .slice A n c] 26)) (.int .i64 0) (.slice none 0 0)
        have := (this.bl hb1).bl (Bl.alloc_ (Bl.refl _) (.cells #[.int .i64 N, .slice none 0 0] 26))
        simpa using this
      · exact ((Bl.alloc_ (Bl.refl _) _).trans_ hb1).alloc_ _)
    clear h10 h11 f10 f11
    have hs1 : w.heap.size + 1 < w1.heap.size := hsz
    clear hsz
    obtain ⟨y0, y1⟩ := box2 T0.out.bl
    go_wp2_with fail
    clear y0 y1
    go_loopw [16] (fun i wr => ∃ (k : Nat) (q : Value), k ≤ n ∧ i = .int .i64 k ∧ TS w (.cells #[.int .i64 N, .slice A n c] 26) (w.heap.size + 1) w1.heap.size N q (turnK L k) wr) (fun i _ => n - (intOf i).toNat)
    case atStart => exact ⟨0, _, by omega, rfl, T0.out⟩
    case round =>
      obtain ⟨k, q, hk, rfl, hT⟩ := hrel
      obtain ⟨c0, c1, f0, f1⟩ := hT.box.facts
      obtain ⟨AQ, cq, rfl, hAQ, -⟩ := hT.own.shape
      have T := Lib.hid hT
      have hbw : Bl w wr := (Bl.alloc_ (Bl.refl w) _).trans_ hT.bl
      have hlt' := World.rowIs.lt hT.box
      clear hT hAQ T0
      by_cases hlt : k < n
      · have hkl : k < L.length := by have := HN.out; omega
        obtain ⟨g1, o1, rfl, hg1, hc1⟩ := K1.out (by omega)
        obtain ⟨p1, p2, p3⟩ := hc1 k hkl
        clear hc1
        rw [← (bcell hbw).1 _ _ hg1] at p1 p2 p3
        have TK := Lib.hid (turnK_succ hkl)
        have hlen := turnK_len L k
        generalize hx : L[k].1 = x at p1
        generalize hy : L[k].2.1 = y at p2
        generalize hz : L[k].2.2 = z at p3
        have HE := Lib.hid (show turnA L[k] = (y, x, z) from by unfold turnA; rw [hx, hy, hz])
        clear hx hy hz hbw
        obtain ⟨l, hl⟩ : ∃ l, l = (turnK L k).length := ⟨_, rfl⟩
        rw [← hl] at hlen c1 T
        have HL := Lib.hid hl
        clear hl
        have u1 : (0 : Int) ≤ (k : Int) := by omega
        have u2 : (k : Int) < (n : Int) := by omega
        have T2 := Lib.hid (T.out.bl_ (show Bl wr ((wr.alloc (.cells #[.int .i64 x, .int .i64 y, .int .i64 z] 49)).alloc (.cells #[.int .i64 y, .int .i64 x, .int .i64 z] 49)) from (by repeat' (first | exact Bl.refl _ | with_reducible assumption | with_reducible refine Bl.drew_ ?_ | with_reducible refine Bl.drewN_ ?_ _ | with_reducible refine Bl.alloc_ ?_ _ | with_reducible refine Bl.trans_ ?_ (by assumption) | with_reducible refine Bl.trans_ ?_ (And.left (by assumption))))))
        go_wp2_with (at_builtin; refine wpList_append_own _ rfl (.tmp 21) (.tmp 29) _ rfl (w1.heap.size + 1) 49 i0 _ 3 24 Try.underlying24 I0.out I1.out I2.out I3.out rfl (by decide) _ l (cs3 (turnK L k)) rfl ?c0 ⟨wr.heap.size + 1, 0, none⟩ 1 1 [.int .i64 y, .int .i64 x, .int .i64 z] rfl rfl ?c1 (one3 _ _ _) ?c3 ?c4 ?c5 ?_)
        case c0 => have := T2.out.own; rw [HL.out] at this ⊢; exact this
        case c1 => have := new3 (wr.alloc (.cells #[.int .i64 x, .int .i64 y, .int .i64 z] 49)) (.int .i64 y) (.int .i64 x) (.int .i64 z) 49; simpa using this
        case c3 => unfold maxLen; omega
        case c4 => omega
        case c5 => simp; omega
        intro v2 w2 hown2 hg2 _
        have O2 := Lib.hid (show OwnA w2 (w1.heap.size + 1) v2 (turnK L (k + 1)) from by
          rw [TK.out, HE.out]
          exact own_snoc (a := (y, x, z)) (by rw [← HL.out]; exact hown2))
        have G2 := Lib.hid hg2
        clear hown2 hg2
        have U := Lib.hid (T2.out.app G2.out O2.out)
        obtain ⟨b0, -, -⟩ := T2.out.grown_ G2.out O2.out
        obtain ⟨A2, c2, rfl, -, -⟩ := O2.out.shape
        obtain ⟨d0, d1, k0, k1⟩ := b0.facts
        clear b0 c0 c1 f0 f1
        go_wp2
        go_roundw
        case rel => exact ⟨k + 1, _, by omega, by go_num, U.out⟩
        case measure => simp [intOf]; omega
      · obtain rfl : k = n := by omega
        have TA := Lib.hid (show turnK L k = L.map turnA from by rw [HN.out]; exact turnK_all L)
        have hlen := turnK_len L k
        go_wp2_with fail
        refine (sort_arcs L (turnK L k) HP.out TA.out (w1.heap.size + 1) _ _ (by omega) T.out.own).mono ?_
        rintro e w2 ⟨rfl, ho, hg⟩
        have U := Lib.hid (T.out.same hg ho)
        clear ho hg c0 c1 f0 f1
        obtain ⟨c0, c1, f0, f1⟩ := U.out.box.facts
        obtain ⟨r0, r1, fr0, fr1⟩ := U.out.res.facts
        go_wp2
        refine bodyPost_ret (v := .agg #[.int .i64 N, .slice AQ (turnK L k).length cq]) (by simp [results, Try.results21, go_sem, r0, r1, fr0, fr1]) rfl ?_
        have := U.out.fin (.int .i64 N) (.slice AQ (turnK L k).length cq)
        exact ⟨_, by unfold revN; rw [HO.out]; rfl, by unfold revG; rw [HO.out, if_pos rfl]; exact this.1, this.2⟩

end Go.Proofs.Ytoojgbkhnondeaa

set_option linter.unusedSimpArgs false
set_option linter.unusedVariables false
namespace Go.Proofs.Ytoojgbkhnondeaa
open Go.RowKit Go.Shelf
attribute [local go_sem] Oper.semAt_some

/-- Nodes below k with a distance of both kinds, and these. -/
def bothB (D E : List Int) (v : Int) : Bool := decide (0 ≤ dAt D v ∧ 0 ≤ dAt E v)
def passK (D E : List Int) (k : Nat) : List Arc3 := (((List.range k).map Int.ofNat).filter (bothB D E)).map fun v => (v, dAt D v, dAt E v)
theorem passK_zero (D E : List Int) : passK D E 0 = [] := rfl
theorem passK_yes {D E : List Int} {k : Nat} (h : bothB D E (k : Int) = true) : passK D E (k + 1) = passK D E k ++ [((k : Int), dAt D (k : Int), dAt E (k : Int))] := by
  unfold passK
  rw [List.range_succ, List.map_append, List.filter_append, List.map_append]
  simp [h]
theorem passK_no {D E : List Int} {k : Nat} (h : bothB D E (k : Int) = false) : passK D E (k + 1) = passK D E k := by
  unfold passK
  rw [List.range_succ, List.map_append, List.filter_append, List.map_append]
  simp [h]
theorem passK_more (D E : List Int) (k : Nat) : ∀ m : Nat, ∃ Z, passK D E (k + m) = passK D E k ++ Z
  | 0 => ⟨[], by simp⟩
  | m + 1 => by
    obtain ⟨Z, hZ⟩ := passK_more D E k m
    rw [show k + (m + 1) = (k + m) + 1 from by omega]
    cases h : bothB D E ((k + m : Nat) : Int) with
    | true => exact ⟨Z ++ [(((k + m : Nat) : Int), dAt D ((k + m : Nat) : Int), dAt E ((k + m : Nat) : Int))], by rw [passK_yes h, hZ, List.append_assoc]⟩
    | false => exact ⟨Z, by rw [passK_no h, hZ]⟩
theorem passK_ids (D E : List Int) : ∀ (k : Nat) (x : Arc3), x ∈ passK D E k → (0 ≤ x.1 ∧ x.1 < k) ∧ x.2.1 = dAt D x.1 ∧ x.2.2 = dAt E x.1 ∧ 0 ≤ x.2.1 ∧ 0 ≤ x.2.2 := by
  intro k x hx
  unfold passK at hx
  obtain ⟨v, hv, rfl⟩ := List.mem_map.1 hx
  obtain ⟨hv, hb⟩ := List.mem_filter.1 hv
  obtain ⟨n, hn, rfl⟩ := List.mem_map.1 hv
  rw [List.mem_range] at hn
  simp only [bothB, decide_eq_true_eq] at hb
  refine ⟨⟨?_, ?_⟩, rfl, rfl, hb.1, hb.2⟩
  · show (0 : Int) ≤ (n : Int); omega
  · show (n : Int) < (k : Int); omega
def AllPass (D E : List Int) (n : Nat) (xs : List Arc3) : Prop := xs = passK D E n
def NextPass (D E : List Int) (n : Nat) (pre : List Arc3) (x : Arc3) : Prop := ∃ Z, passK D E n = pre ++ x :: Z
def PartPass (D E : List Int) (n : Nat) (pre : List Arc3) : Prop := ∃ Z, passK D E n = pre ++ Z
def encP (x : Arc3) : Array Value := #[.agg #[.int .i64 x.1, .int .i64 x.2.1, .int .i64 x.2.2]]

/-- What the iterator reads. -/
structure PIn (w : World) (nb fb tb : Nat) (n : Nat) (D E : List Int) : Prop where
  size : w.cell? ⟨nb, 0, none⟩ = some (.int .i64 (n : Int))
  from_ : NumsAt w fb D
  to_ : NumsAt w tb E
def passBlocks (nb fb tb i : Nat) : Prop := i = nb ∨ i = fb ∨ i = tb
theorem PIn.turn {w w' : World} {nb fb tb n : Nat} {D E : List Int} (h : PIn w nb fb tb n D E) {S : Nat → Prop} (t : Turn S w w') (hS : ∀ i, S i → ¬ passBlocks nb fb tb i) : PIn w' nb fb tb n D E :=
  ⟨(t.cells (World.block_lt_of_cell? _ _ h.size) (fun e => hS _ e (.inl rfl)) 0).1.trans h.size, h.from_.turn t (fun e => hS _ e (.inr (.inl rfl))), h.to_.turn t (fun e => hS _ e (.inr (.inr rfl)))⟩
theorem PIn.lt {w : World} {nb fb tb n : Nat} {D E : List Int} (h : PIn w nb fb tb n D E) {i : Nat} (hi : passBlocks nb fb tb i) : i < w.heap.size := by
  rcases hi with rfl | rfl | rfl
  · exact World.block_lt_of_cell? _ _ h.size
  · exact h.from_.lt
  · exact h.to_.lt

set_option maxRecDepth 100000 in
set_option maxHeartbeats 4000000 in
theorem pass_walk (n : Nat) (nb fb tb : Nat) (D E : List Int) (hn : n ≤ 24)
    (l : Nat) (J Jx : List Arc3 → (Nat → Prop) → World → Prop) (K0 : Nat → Prop) (W : World) (hI : PIn W nb fb tb n D E)
    (hJ : ∀ pre K A B, J pre K A → Turn (fun i => ¬ K i) A B → J pre K B) (hJx : ∀ pre K A B, Jx pre K A → Turn (fun i => ¬ K i) A B → Jx pre K B) (hlt : ∀ pre K A, J pre K A → ∀ i, K i → i < A.heap.size)
    (hK0 : ∀ i, K0 i → ¬ passBlocks nb fb tb i)
    (hY : ∀ pre x K W1, J pre K W1 → NextPass D E n pre x → YieldAt Fence.wide 0 Try.prog l (encP x) W1 fun e W' => ∃ K', Step K K' W1 W' ∧
      ((e = .returned (.bool true) ∧ J (pre ++ [x]) K' W') ∨ (e = .returned (.bool false) ∧ Jx (pre ++ [x]) K' W')))
    (hJ0 : J [] K0 W) :
    CallsIn Fence.wide 0 Try.prog 57 #[.func (.yield l) #[] #[], .pointer (some ⟨nb, 0, none⟩), .pointer (some ⟨fb, 0, none⟩), .pointer (some ⟨tb, 0, none⟩)] W fun e W' => (∃ v, e = .returned v) ∧ ∃ K', Step K0 K' W W' ∧
      ((∃ xs, AllPass D E n xs ∧ J xs K' W') ∨ (∃ pre, PartPass D E n pre ∧ Jx pre K' W')) := by
  have HI := Lib.hid hI
  have HJ := Lib.hid hJ
  have HK := Lib.hid hK0
  have HY := Lib.hid hY
  have HJ0 := Lib.hid hJ0
  have q0 := hI.size
  clear hJ hJx hlt hK0 hY hJ0 hI
  refine callsIn_of_wp Try.func57 rfl trivial ?_ rfl
  simp only [Try.ntmps57, List.size_toArray, List.length_cons, List.length_nil, Nat.reduceAdd, Nat.reduceSub, Array.replicate_succ, Array.replicate_zero, List.push_toArray, List.append_toArray, List.nil_append, List.cons_append]
  gi_wp2_with fail
  clear q0
  gi_loopw [7] (fun i wr => ∃ (k : Nat) (K : Nat → Prop), k ≤ n ∧ i = .int .i64 k ∧ J (passK D E k) K wr ∧ Step K0 K W wr) (fun i _ => n - (intOf i).toNat)
  case atStart => exact ⟨0, K0, by omega, rfl, by rw [passK_zero]; exact HJ0.out, Step.refl _ _⟩
  case round =>
    obtain ⟨k, K, hk, rfl, hj, hst⟩ := hrel
    have J1 := Lib.hid hj
    have ST := Lib.hid hst
    clear hj hst
    by_cases hlt : k < n
    · have in1 := HI.out.turn ST.out.1 (fun i hi => HK.out i hi)
      have hkD : k < D.length := by rw [in1.from_.len]; omega
      have hkE : k < E.length := by rw [in1.to_.len]; omega
      have q1 := in1.from_.cell k hkD
      have q2 := in1.to_.cell k hkE
      have hfl := in1.from_.lt
      have htl := in1.to_.lt
      have BB := Lib.hid (show bothB D E (k : Int) = decide (0 ≤ D[k] ∧ 0 ≤ E[k]) from by unfold bothB; rw [dAt_at hkD, dAt_at hkE])
      have YES := Lib.hid (fun (h : bothB D E (k : Int) = true) => (show passK D E (k + 1) = passK D E k ++ [((k : Int), D[k], E[k])] from by rw [passK_yes h, dAt_at hkD, dAt_at hkE]))
      have NO := Lib.hid (fun h => passK_no (D := D) (E := E) (k := k) h)
      generalize D[k] = d at *
      generalize E[k] = e at *
      have i0 : (0 : Int) ≤ (k : Int) := by omega
      have i1 : (k : Int) < (n : Int) := by omega
      have i2 : (k : Int) < 24 := by omega
      clear in1
      by_cases h1 : 0 ≤ d
      · have b1 : decide (0 ≤ d) = true := by simpa using h1
        by_cases h2 : 0 ≤ e
        · have b2 : decide (0 ≤ e) = true := by simpa using h2
          have HY1 := Lib.hid (YES.out (by rw [BB.out, decide_eq_true_eq]; exact ⟨h1, h2⟩))
          have hnext : NextPass D E n (passK D E k) ((k : Int), d, e) := by
            obtain ⟨Z, hZ⟩ := passK_more D E (k + 1) (n - (k + 1))
            rw [show k + 1 + (n - (k + 1)) = n from by omega, HY1.out] at hZ
            exact ⟨Z, by rw [hZ]; simp⟩
          obtain ⟨fn, tmps, assign, body, hy, hR⟩ := HY.out (passK D E k) ((k : Int), d, e) K _ (HJ.out _ _ _ _ J1.out (Turn.of_bl (Bl.drew_ (Bl.refl wr)))) hnext
          dsimp only [encP] at hy
          have HP := Lib.hid (show PartPass D E n (passK D E k ++ [((k : Int), d, e)]) from by obtain ⟨Z, hZ⟩ := hnext; exact ⟨Z, by rw [hZ]; simp⟩)
          clear YES NO BB hnext
          gi_wp2_with fail
          refine wpIn_region_any (by kernel_rfl) ?_
          try (change wpAnyIn _ _ _ _ _ _ _ _ _ (World.drew _))
          refine wpAnyIn_take (i := 0) (v := ?_) rfl rfl (by kernel_rfl) (by kernel_rfl) (by kernel_rfl) (fun _ _ _ h => h) ⟨Or.inl ⟨by kernel_rfl, ?_⟩, fun _ => rfl⟩ ?_
          rotate_left
          · (intro wx; go_simp; try (with_reducible rfl))
          try simp only [Act.put, List.getElem_toArray, List.getElem_cons_succ, List.getElem_cons_zero, List.setIfInBounds_toArray, List.set_cons_zero, List.set_cons_succ]
          refine wpAnyIn_take (i := 1) (v := ?_) rfl rfl (by kernel_rfl) (by kernel_rfl) (by kernel_rfl) (fun _ _ _ h => h) ⟨Or.inl ⟨by kernel_rfl, ?_⟩, fun _ => rfl⟩ ?_
          rotate_left
          · (intro wx; go_simp; try (with_reducible rfl))
          try simp only [Act.put, List.getElem_toArray, List.getElem_cons_succ, List.getElem_cons_zero, List.setIfInBounds_toArray, List.set_cons_zero, List.set_cons_succ]
          refine wpAnyIn_ready (rs := [2]) (by kernel_rfl) (by simp) ?_
          refine AllReadyIn.cons rfl (fun K hK => ?_) (AllReadyIn.nil)
          go_simp
          refine hK _ _ ?_
          clear hK K
          try simp only [Act.put, List.getElem_toArray, List.getElem_cons_succ, List.getElem_cons_zero, List.setIfInBounds_toArray, List.set_cons_zero, List.set_cons_succ]
          refine wpAnyIn_take (i := 3) (v := ?_) rfl rfl (by kernel_rfl) (by kernel_rfl) (by kernel_rfl) (fun _ _ _ h => h) ⟨Or.inl ⟨by kernel_rfl, ?_⟩, fun _ => rfl⟩ ?_
          rotate_left
          · (intro wx; go_simp; try (with_reducible rfl))
          try simp only [Act.put, List.getElem_toArray, List.getElem_cons_succ, List.getElem_cons_zero, List.setIfInBounds_toArray, List.set_cons_zero, List.set_cons_succ]
          refine wpAnyIn_take (i := 4) (v := ?_) rfl rfl (by kernel_rfl) (by kernel_rfl) (by kernel_rfl) (fun _ _ _ h => h) ⟨Or.inl ⟨by kernel_rfl, ?_⟩, fun _ => rfl⟩ ?_
          rotate_left
          · (intro wx; go_simp; try (with_reducible rfl))
          try simp only [Act.put, List.getElem_toArray, List.getElem_cons_succ, List.getElem_cons_zero, List.setIfInBounds_toArray, List.set_cons_zero, List.set_cons_succ]
          refine wpAnyIn_take (i := 5) (v := ?_) rfl rfl (by kernel_rfl) (by kernel_rfl) (by kernel_rfl) (fun _ _ _ h => h) ⟨Or.inl ⟨by kernel_rfl, ?_⟩, fun _ => rfl⟩ ?_
          rotate_left
          · (intro wx; go_simp; try (with_reducible rfl))
          try simp only [Act.put, List.getElem_toArray, List.getElem_cons_succ, List.getElem_cons_zero, List.setIfInBounds_toArray, List.set_cons_zero, List.set_cons_succ]
          refine wpAnyIn_take (i := 6) (v := ?_) rfl rfl (by kernel_rfl) (by kernel_rfl) (by kernel_rfl) (fun _ _ _ h => h) ⟨Or.inl ⟨by kernel_rfl, ?_⟩, fun _ => rfl⟩ ?_
          rotate_left
          · (intro wx; go_simp; try (with_reducible rfl))
          try simp only [Act.put, List.getElem_toArray, List.getElem_cons_succ, List.getElem_cons_zero, List.setIfInBounds_toArray, List.set_cons_zero, List.set_cons_succ]
          refine wpAnyIn_ready (rs := [7]) (by kernel_rfl) (by simp) ?_
          refine AllReadyIn.cons rfl (fun K hK => ?_) (AllReadyIn.nil)
          go_simp
          refine hK _ _ ?_
          clear hK K
          try simp only [Act.put, List.getElem_toArray, List.getElem_cons_succ, List.getElem_cons_zero, List.setIfInBounds_toArray, List.set_cons_zero, List.set_cons_succ]
          refine wpAnyIn_take (i := 8) (v := ?_) rfl rfl (by kernel_rfl) (by kernel_rfl) (by kernel_rfl) (fun _ _ _ h => h) ⟨Or.inl ⟨by kernel_rfl, ?_⟩, fun _ => rfl⟩ ?_
          rotate_left
          · (intro wx; go_simp; try (with_reducible rfl))
          try simp only [Act.put, List.getElem_toArray, List.getElem_cons_succ, List.getElem_cons_zero, List.setIfInBounds_toArray, List.set_cons_zero, List.set_cons_succ]
          refine wpAnyIn_take (i := 9) (v := ?_) rfl rfl (by kernel_rfl) (by kernel_rfl) (by kernel_rfl) (fun _ _ _ h => h) ⟨Or.inl ⟨by kernel_rfl, ?_⟩, fun _ => rfl⟩ ?_
          rotate_left
          · (intro wx; go_simp; try (with_reducible rfl))
          try simp only [Act.put, List.getElem_toArray, List.getElem_cons_succ, List.getElem_cons_zero, List.setIfInBounds_toArray, List.set_cons_zero, List.set_cons_succ]
          refine wpAnyIn_take (i := 10) (v := ?_) rfl rfl (by kernel_rfl) (by kernel_rfl) (by kernel_rfl) (fun _ _ _ h => h) ⟨Or.inl ⟨by kernel_rfl, ?_⟩, fun _ => rfl⟩ ?_
          rotate_left
          · (intro wx; go_simp; try (with_reducible rfl))
          try simp only [Act.put, List.getElem_toArray, List.getElem_cons_succ, List.getElem_cons_zero, List.setIfInBounds_toArray, List.set_cons_zero, List.set_cons_succ]
          refine wpAnyIn_take (i := 11) (v := ?_) rfl rfl (by kernel_rfl) (by kernel_rfl) (by kernel_rfl) (fun _ _ _ h => h) ⟨Or.inl ⟨by kernel_rfl, ?_⟩, fun _ => rfl⟩ ?_
          rotate_left
          · (intro wx; go_simp; try (with_reducible rfl))
          try simp only [Act.put, List.getElem_toArray, List.getElem_cons_succ, List.getElem_cons_zero, List.setIfInBounds_toArray, List.set_cons_zero, List.set_cons_succ]
          refine wpAnyIn_take (i := 12) (v := ?_) rfl rfl (by kernel_rfl) (by kernel_rfl) (by kernel_rfl) (fun _ _ _ h => h) ⟨Or.inl ⟨by kernel_rfl, ?_⟩, fun _ => rfl⟩ ?_
          rotate_left
          · (intro wx; go_simp; try (with_reducible rfl))
          try simp only [Act.put, List.getElem_toArray, List.getElem_cons_succ, List.getElem_cons_zero, List.setIfInBounds_toArray, List.set_cons_zero, List.set_cons_succ]
          refine wpAnyIn_take (i := 13) (v := ?_) rfl rfl (by kernel_rfl) (by kernel_rfl) (by kernel_rfl) (fun _ _ _ h => h) ⟨Or.inl ⟨by kernel_rfl, ?_⟩, fun _ => rfl⟩ ?_
          rotate_left
          · (intro wx; go_simp; try (with_reducible rfl))
          try simp only [Act.put, List.getElem_toArray, List.getElem_cons_succ, List.getElem_cons_zero, List.setIfInBounds_toArray, List.set_cons_zero, List.set_cons_succ]
          refine wpAnyIn_take (i := 14) (v := ?_) rfl rfl (by kernel_rfl) (by kernel_rfl) (by kernel_rfl) (fun _ _ _ h => h) ⟨Or.inl ⟨by kernel_rfl, ?_⟩, fun _ => rfl⟩ ?_
          rotate_left
          · (intro wx; go_simp; try (with_reducible rfl))
          try simp only [Act.put, List.getElem_toArray, List.getElem_cons_succ, List.getElem_cons_zero, List.setIfInBounds_toArray, List.set_cons_zero, List.set_cons_succ]
          refine wpAnyIn_take (i := 16) (v := ?_) rfl rfl (by kernel_rfl) (by kernel_rfl) (by kernel_rfl) (fun _ _ _ h => h) ⟨Or.inl ⟨by kernel_rfl, ?_⟩, fun _ => rfl⟩ ?_
          rotate_left
          · (intro wx; go_simp; try (with_reducible rfl))
          try simp only [Act.put, List.getElem_toArray, List.getElem_cons_succ, List.getElem_cons_zero, List.setIfInBounds_toArray, List.set_cons_zero, List.set_cons_succ]
          refine wpAnyIn_take (i := 17) (v := ?_) rfl rfl (by kernel_rfl) (by kernel_rfl) (by kernel_rfl) (fun _ _ _ h => h) ⟨Or.inl ⟨by kernel_rfl, ?_⟩, fun _ => rfl⟩ ?_
          rotate_left
          · (intro wx; go_simp; try (with_reducible rfl))
          try simp only [Act.put, List.getElem_toArray, List.getElem_cons_succ, List.getElem_cons_zero, List.setIfInBounds_toArray, List.set_cons_zero, List.set_cons_succ]
          refine wpAnyIn_ready (rs := [15, 18]) (by kernel_rfl) (by simp) ?_
          refine AllReadyIn.cons rfl (fun K hK => ?_) (AllReadyIn.cons rfl (fun K hK => ?_) (AllReadyIn.nil))
          · go_simp
            refine hK _ _ ?_
            clear hK K
            try simp only [Act.put, List.getElem_toArray, List.getElem_cons_succ, List.getElem_cons_zero, List.setIfInBounds_toArray, List.set_cons_zero, List.set_cons_succ]
            refine wpAnyIn_ready (rs := [18]) (by kernel_rfl) (by simp) ?_
            refine AllReadyIn.cons rfl (fun K hK => ?_) (AllReadyIn.nil)
            go_simp
            refine hK _ _ ?_
            clear hK K
            try simp only [Act.put, List.getElem_toArray, List.getElem_cons_succ, List.getElem_cons_zero, List.setIfInBounds_toArray, List.set_cons_zero, List.set_cons_succ]
            refine wpAnyIn_take (i := 19) (v := ?_) rfl rfl (by kernel_rfl) (by kernel_rfl) (by kernel_rfl) (fun _ _ _ h => h) ⟨Or.inl ⟨by kernel_rfl, ?_⟩, fun _ => rfl⟩ ?_
            rotate_left
            · (intro wx; go_simp; try (with_reducible rfl))
            try simp only [Act.put, List.getElem_toArray, List.getElem_cons_succ, List.getElem_cons_zero, List.setIfInBounds_toArray, List.set_cons_zero, List.set_cons_succ]
            refine wpAnyIn_ready (rs := [20]) (by kernel_rfl) (by simp) ?_
            refine AllReadyIn.cons rfl (fun K hK => ?_) (AllReadyIn.nil)
            gi_wp2
            refine ⟨by first | rfl | (intro h; simp [Fence.wide] at h), hR.mono ?_⟩
            rintro e4 W4 ⟨K', hs4, (⟨rfl, hj4⟩ | ⟨rfl, hj4⟩)⟩
            · have S5 := Lib.hid (ST.out.trans (Step.trans ⟨Turn.of_bl (Bl.drew_ (Bl.refl wr)), fun i h => .inl h⟩ hs4))
              have J5 := Lib.hid hj4
              clear hs4 hj4 hR hy q1 q2
              gi_wp2_with fail
              refine wpAnyIn_take (i := 21) (v := ?_) rfl rfl (by kernel_rfl) (by kernel_rfl) (by kernel_rfl) (fun _ _ _ h => h) ⟨Or.inl ⟨by kernel_rfl, ?_⟩, fun _ => rfl⟩ ?_
              rotate_left
              · (intro wx; go_simp; try (with_reducible rfl))
              try simp only [Act.put, List.getElem_toArray, List.getElem_cons_succ, List.getElem_cons_zero, List.setIfInBounds_toArray, List.set_cons_zero, List.set_cons_succ]
              refine wpAnyIn_take (i := 22) (v := ?_) rfl rfl (by kernel_rfl) (by kernel_rfl) (by kernel_rfl) (fun _ _ _ h => h) ⟨Or.inl ⟨by kernel_rfl, ?_⟩, fun _ => rfl⟩ ?_
              rotate_left
              · (intro wx; go_simp; try (with_reducible rfl))
              try simp only [Act.put, List.getElem_toArray, List.getElem_cons_succ, List.getElem_cons_zero, List.setIfInBounds_toArray, List.set_cons_zero, List.set_cons_succ]
              refine wpAnyIn_done (by kernel_rfl) ?_ _
              gi_wp2_with fail
              go_roundw
              case rel => exact ⟨k + 1, K', by omega, by go_num, by rw [HY1.out]; exact J5.out, S5.out⟩
              case measure => simp [intOf]; omega
            · have S5 := Lib.hid (ST.out.trans (Step.trans ⟨Turn.of_bl (Bl.drew_ (Bl.refl wr)), fun i h => .inl h⟩ hs4))
              have J5 := Lib.hid hj4
              clear hs4 hj4 hR hy q1 q2
              gi_wp2_with fail
              refine wpAnyIn_take (i := 21) (v := ?_) rfl rfl (by kernel_rfl) (by kernel_rfl) (by kernel_rfl) (fun _ _ _ h => h) ⟨Or.inl ⟨by kernel_rfl, ?_⟩, fun _ => rfl⟩ ?_
              rotate_left
              · (intro wx; go_simp; try (with_reducible rfl))
              try simp only [Act.put, List.getElem_toArray, List.getElem_cons_succ, List.getElem_cons_zero, List.setIfInBounds_toArray, List.set_cons_zero, List.set_cons_succ]
              refine wpAnyIn_take (i := 22) (v := ?_) rfl rfl (by kernel_rfl) (by kernel_rfl) (by kernel_rfl) (fun _ _ _ h => h) ⟨Or.inl ⟨by kernel_rfl, ?_⟩, fun _ => rfl⟩ ?_
              rotate_left
              · (intro wx; go_simp; try (with_reducible rfl))
              try simp only [Act.put, List.getElem_toArray, List.getElem_cons_succ, List.getElem_cons_zero, List.setIfInBounds_toArray, List.set_cons_zero, List.set_cons_succ]
              refine wpAnyIn_done (by kernel_rfl) ?_ _
              gi_wp2
              refine bodyPost_ret (results_none rfl _ _ _) rfl ?_
              exact ⟨⟨_, rfl⟩, K', S5.out, .inr ⟨_, HP.out, J5.out⟩⟩
          · go_simp
            refine hK _ _ ?_
            clear hK K
            try simp only [Act.put, List.getElem_toArray, List.getElem_cons_succ, List.getElem_cons_zero, List.setIfInBounds_toArray, List.set_cons_zero, List.set_cons_succ]
            refine wpAnyIn_ready (rs := [15]) (by kernel_rfl) (by simp) ?_
            refine AllReadyIn.cons rfl (fun K hK => ?_) (AllReadyIn.nil)
            go_simp
            refine hK _ _ ?_
            clear hK K
            try simp only [Act.put, List.getElem_toArray, List.getElem_cons_succ, List.getElem_cons_zero, List.setIfInBounds_toArray, List.set_cons_zero, List.set_cons_succ]
            refine wpAnyIn_take (i := 19) (v := ?_) rfl rfl (by kernel_rfl) (by kernel_rfl) (by kernel_rfl) (fun _ _ _ h => h) ⟨Or.inl ⟨by kernel_rfl, ?_⟩, fun _ => rfl⟩ ?_
            rotate_left
            · (intro wx; go_simp; try (with_reducible rfl))
            try simp only [Act.put, List.getElem_toArray, List.getElem_cons_succ, List.getElem_cons_zero, List.setIfInBounds_toArray, List.set_cons_zero, List.set_cons_succ]
            refine wpAnyIn_ready (rs := [20]) (by kernel_rfl) (by simp) ?_
            refine AllReadyIn.cons rfl (fun K hK => ?_) (AllReadyIn.nil)
            gi_wp2
            refine ⟨by first | rfl | (intro h; simp [Fence.wide] at h), hR.mono ?_⟩
            rintro e4 W4 ⟨K', hs4, (⟨rfl, hj4⟩ | ⟨rfl, hj4⟩)⟩
            · have S5 := Lib.hid (ST.out.trans (Step.trans ⟨Turn.of_bl (Bl.drew_ (Bl.refl wr)), fun i h => .inl h⟩ hs4))
              have J5 := Lib.hid hj4
              clear hs4 hj4 hR hy q1 q2
              gi_wp2_with fail
              refine wpAnyIn_take (i := 21) (v := ?_) rfl rfl (by kernel_rfl) (by kernel_rfl) (by kernel_rfl) (fun _ _ _ h => h) ⟨Or.inl ⟨by kernel_rfl, ?_⟩, fun _ => rfl⟩ ?_
              rotate_left
              · (intro wx; go_simp; try (with_reducible rfl))
              try simp only [Act.put, List.getElem_toArray, List.getElem_cons_succ, List.getElem_cons_zero, List.setIfInBounds_toArray, List.set_cons_zero, List.set_cons_succ]
              refine wpAnyIn_take (i := 22) (v := ?_) rfl rfl (by kernel_rfl) (by kernel_rfl) (by kernel_rfl) (fun _ _ _ h => h) ⟨Or.inl ⟨by kernel_rfl, ?_⟩, fun _ => rfl⟩ ?_
              rotate_left
              · (intro wx; go_simp; try (with_reducible rfl))
              try simp only [Act.put, List.getElem_toArray, List.getElem_cons_succ, List.getElem_cons_zero, List.setIfInBounds_toArray, List.set_cons_zero, List.set_cons_succ]
              refine wpAnyIn_done (by kernel_rfl) ?_ _
              gi_wp2_with fail
              go_roundw
              case rel => exact ⟨k + 1, K', by omega, by go_num, by rw [HY1.out]; exact J5.out, S5.out⟩
              case measure => simp [intOf]; omega
            · have S5 := Lib.hid (ST.out.trans (Step.trans ⟨Turn.of_bl (Bl.drew_ (Bl.refl wr)), fun i h => .inl h⟩ hs4))
              have J5 := Lib.hid hj4
              clear hs4 hj4 hR hy q1 q2
              gi_wp2_with fail
              refine wpAnyIn_take (i := 21) (v := ?_) rfl rfl (by kernel_rfl) (by kernel_rfl) (by kernel_rfl) (fun _ _ _ h => h) ⟨Or.inl ⟨by kernel_rfl, ?_⟩, fun _ => rfl⟩ ?_
              rotate_left
              · (intro wx; go_simp; try (with_reducible rfl))
              try simp only [Act.put, List.getElem_toArray, List.getElem_cons_succ, List.getElem_cons_zero, List.setIfInBounds_toArray, List.set_cons_zero, List.set_cons_succ]
              refine wpAnyIn_take (i := 22) (v := ?_) rfl rfl (by kernel_rfl) (by kernel_rfl) (by kernel_rfl) (fun _ _ _ h => h) ⟨Or.inl ⟨by kernel_rfl, ?_⟩, fun _ => rfl⟩ ?_
              rotate_left
              · (intro wx; go_simp; try (with_reducible rfl))
              try simp only [Act.put, List.getElem_toArray, List.getElem_cons_succ, List.getElem_cons_zero, List.setIfInBounds_toArray, List.set_cons_zero, List.set_cons_succ]
              refine wpAnyIn_done (by kernel_rfl) ?_ _
              gi_wp2
              refine bodyPost_ret (results_none rfl _ _ _) rfl ?_
              exact ⟨⟨_, rfl⟩, K', S5.out, .inr ⟨_, HP.out, J5.out⟩⟩
        · have b2 : decide (0 ≤ e) = false := by simpa using h2
          have HN := Lib.hid (NO.out (by rw [BB.out, decide_eq_false_iff_not]; exact fun h => h2 h.2))
          clear YES NO BB
          gi_wp2_with fail
          refine wpIn_region_any (by kernel_rfl) ?_
          try (change wpAnyIn _ _ _ _ _ _ _ _ _ (World.drew _))
          refine wpAnyIn_take (i := 0) (v := ?_) rfl rfl (by kernel_rfl) (by kernel_rfl) (by kernel_rfl) (fun _ _ _ h => h) ⟨Or.inl ⟨by kernel_rfl, ?_⟩, fun _ => rfl⟩ ?_
          rotate_left
          · (intro wx; go_simp; try (with_reducible rfl))
          try simp only [Act.put, List.getElem_toArray, List.getElem_cons_succ, List.getElem_cons_zero, List.setIfInBounds_toArray, List.set_cons_zero, List.set_cons_succ]
          refine wpAnyIn_take (i := 1) (v := ?_) rfl rfl (by kernel_rfl) (by kernel_rfl) (by kernel_rfl) (fun _ _ _ h => h) ⟨Or.inl ⟨by kernel_rfl, ?_⟩, fun _ => rfl⟩ ?_
          rotate_left
          · (intro wx; go_simp; try (with_reducible rfl))
          try simp only [Act.put, List.getElem_toArray, List.getElem_cons_succ, List.getElem_cons_zero, List.setIfInBounds_toArray, List.set_cons_zero, List.set_cons_succ]
          refine wpAnyIn_ready (rs := [2]) (by kernel_rfl) (by simp) ?_
          refine AllReadyIn.cons rfl (fun K hK => ?_) (AllReadyIn.nil)
          go_simp
          refine hK _ _ ?_
          clear hK K
          try simp only [Act.put, List.getElem_toArray, List.getElem_cons_succ, List.getElem_cons_zero, List.setIfInBounds_toArray, List.set_cons_zero, List.set_cons_succ]
          refine wpAnyIn_take (i := 3) (v := ?_) rfl rfl (by kernel_rfl) (by kernel_rfl) (by kernel_rfl) (fun _ _ _ h => h) ⟨Or.inl ⟨by kernel_rfl, ?_⟩, fun _ => rfl⟩ ?_
          rotate_left
          · (intro wx; go_simp; try (with_reducible rfl))
          try simp only [Act.put, List.getElem_toArray, List.getElem_cons_succ, List.getElem_cons_zero, List.setIfInBounds_toArray, List.set_cons_zero, List.set_cons_succ]
          refine wpAnyIn_take (i := 4) (v := ?_) rfl rfl (by kernel_rfl) (by kernel_rfl) (by kernel_rfl) (fun _ _ _ h => h) ⟨Or.inl ⟨by kernel_rfl, ?_⟩, fun _ => rfl⟩ ?_
          rotate_left
          · (intro wx; go_simp; try (with_reducible rfl))
          try simp only [Act.put, List.getElem_toArray, List.getElem_cons_succ, List.getElem_cons_zero, List.setIfInBounds_toArray, List.set_cons_zero, List.set_cons_succ]
          refine wpAnyIn_take (i := 5) (v := ?_) rfl rfl (by kernel_rfl) (by kernel_rfl) (by kernel_rfl) (fun _ _ _ h => h) ⟨Or.inl ⟨by kernel_rfl, ?_⟩, fun _ => rfl⟩ ?_
          rotate_left
          · (intro wx; go_simp; try (with_reducible rfl))
          try simp only [Act.put, List.getElem_toArray, List.getElem_cons_succ, List.getElem_cons_zero, List.setIfInBounds_toArray, List.set_cons_zero, List.set_cons_succ]
          refine wpAnyIn_take (i := 6) (v := ?_) rfl rfl (by kernel_rfl) (by kernel_rfl) (by kernel_rfl) (fun _ _ _ h => h) ⟨Or.inl ⟨by kernel_rfl, ?_⟩, fun _ => rfl⟩ ?_
          rotate_left
          · (intro wx; go_simp; try (with_reducible rfl))
          try simp only [Act.put, List.getElem_toArray, List.getElem_cons_succ, List.getElem_cons_zero, List.setIfInBounds_toArray, List.set_cons_zero, List.set_cons_succ]
          refine wpAnyIn_ready (rs := [7]) (by kernel_rfl) (by simp) ?_
          refine AllReadyIn.cons rfl (fun K hK => ?_) (AllReadyIn.nil)
          go_simp
          refine hK _ _ ?_
          clear hK K
          try simp only [Act.put, List.getElem_toArray, List.getElem_cons_succ, List.getElem_cons_zero, List.setIfInBounds_toArray, List.set_cons_zero, List.set_cons_succ]
          refine wpAnyIn_take (i := 8) (v := ?_) rfl rfl (by kernel_rfl) (by kernel_rfl) (by kernel_rfl) (fun _ _ _ h => h) ⟨Or.inl ⟨by kernel_rfl, ?_⟩, fun _ => rfl⟩ ?_
          rotate_left
          · (intro wx; go_simp; try (with_reducible rfl))
          try simp only [Act.put, List.getElem_toArray, List.getElem_cons_succ, List.getElem_cons_zero, List.setIfInBounds_toArray, List.set_cons_zero, List.set_cons_succ]
          refine wpAnyIn_take (i := 9) (v := ?_) rfl rfl (by kernel_rfl) (by kernel_rfl) (by kernel_rfl) (fun _ _ _ h => h) ⟨Or.inl ⟨by kernel_rfl, ?_⟩, fun _ => rfl⟩ ?_
          rotate_left
          · (intro wx; go_simp; try (with_reducible rfl))
          try simp only [Act.put, List.getElem_toArray, List.getElem_cons_succ, List.getElem_cons_zero, List.setIfInBounds_toArray, List.set_cons_zero, List.set_cons_succ]
          refine wpAnyIn_take (i := 10) (v := ?_) rfl rfl (by kernel_rfl) (by kernel_rfl) (by kernel_rfl) (fun _ _ _ h => h) ⟨Or.inl ⟨by kernel_rfl, ?_⟩, fun _ => rfl⟩ ?_
          rotate_left
          · (intro wx; go_simp; try (with_reducible rfl))
          try simp only [Act.put, List.getElem_toArray, List.getElem_cons_succ, List.getElem_cons_zero, List.setIfInBounds_toArray, List.set_cons_zero, List.set_cons_succ]
          refine wpAnyIn_take (i := 11) (v := undef) rfl rfl (by kernel_rfl) (by kernel_rfl) (by kernel_rfl) (fun _ _ _ h => h) ⟨Or.inr ⟨by kernel_rfl, rfl⟩, fun _ => rfl⟩ ?_
          try simp only [Act.put, List.getElem_toArray, List.getElem_cons_succ, List.getElem_cons_zero, List.setIfInBounds_toArray, List.set_cons_zero, List.set_cons_succ]
          refine wpAnyIn_take (i := 12) (v := undef) rfl rfl (by kernel_rfl) (by kernel_rfl) (by kernel_rfl) (fun _ _ _ h => h) ⟨Or.inr ⟨by kernel_rfl, rfl⟩, fun _ => rfl⟩ ?_
          try simp only [Act.put, List.getElem_toArray, List.getElem_cons_succ, List.getElem_cons_zero, List.setIfInBounds_toArray, List.set_cons_zero, List.set_cons_succ]
          refine wpAnyIn_take (i := 13) (v := undef) rfl rfl (by kernel_rfl) (by kernel_rfl) (by kernel_rfl) (fun _ _ _ h => h) ⟨Or.inr ⟨by kernel_rfl, rfl⟩, fun _ => rfl⟩ ?_
          try simp only [Act.put, List.getElem_toArray, List.getElem_cons_succ, List.getElem_cons_zero, List.setIfInBounds_toArray, List.set_cons_zero, List.set_cons_succ]
          refine wpAnyIn_take (i := 14) (v := undef) rfl rfl (by kernel_rfl) (by kernel_rfl) (by kernel_rfl) (fun _ _ _ h => h) ⟨Or.inr ⟨by kernel_rfl, rfl⟩, fun _ => rfl⟩ ?_
          try simp only [Act.put, List.getElem_toArray, List.getElem_cons_succ, List.getElem_cons_zero, List.setIfInBounds_toArray, List.set_cons_zero, List.set_cons_succ]
          refine wpAnyIn_take (i := 15) (v := undef) rfl rfl (by kernel_rfl) (by kernel_rfl) (by kernel_rfl) (fun _ _ _ h => h) ⟨Or.inr ⟨by kernel_rfl, rfl⟩, fun _ => rfl⟩ ?_
          try simp only [Act.put, List.getElem_toArray, List.getElem_cons_succ, List.getElem_cons_zero, List.setIfInBounds_toArray, List.set_cons_zero, List.set_cons_succ]
          refine wpAnyIn_take (i := 16) (v := undef) rfl rfl (by kernel_rfl) (by kernel_rfl) (by kernel_rfl) (fun _ _ _ h => h) ⟨Or.inr ⟨by kernel_rfl, rfl⟩, fun _ => rfl⟩ ?_
          try simp only [Act.put, List.getElem_toArray, List.getElem_cons_succ, List.getElem_cons_zero, List.setIfInBounds_toArray, List.set_cons_zero, List.set_cons_succ]
          refine wpAnyIn_take (i := 17) (v := undef) rfl rfl (by kernel_rfl) (by kernel_rfl) (by kernel_rfl) (fun _ _ _ h => h) ⟨Or.inr ⟨by kernel_rfl, rfl⟩, fun _ => rfl⟩ ?_
          try simp only [Act.put, List.getElem_toArray, List.getElem_cons_succ, List.getElem_cons_zero, List.setIfInBounds_toArray, List.set_cons_zero, List.set_cons_succ]
          refine wpAnyIn_take (i := 18) (v := undef) rfl rfl (by kernel_rfl) (by kernel_rfl) (by kernel_rfl) (fun _ _ _ h => h) ⟨Or.inr ⟨by kernel_rfl, rfl⟩, fun _ => rfl⟩ ?_
          try simp only [Act.put, List.getElem_toArray, List.getElem_cons_succ, List.getElem_cons_zero, List.setIfInBounds_toArray, List.set_cons_zero, List.set_cons_succ]
          refine wpAnyIn_take (i := 19) (v := undef) rfl rfl (by kernel_rfl) (by kernel_rfl) (by kernel_rfl) (fun _ _ _ h => h) ⟨Or.inr ⟨by kernel_rfl, rfl⟩, fun _ => rfl⟩ ?_
          try simp only [Act.put, List.getElem_toArray, List.getElem_cons_succ, List.getElem_cons_zero, List.setIfInBounds_toArray, List.set_cons_zero, List.set_cons_succ]
          refine wpAnyIn_take (i := 20) (v := undef) rfl rfl (by kernel_rfl) (by kernel_rfl) (by kernel_rfl) (fun _ _ _ h => h) ⟨Or.inr ⟨by kernel_rfl, rfl⟩, fun _ => rfl⟩ ?_
          try simp only [Act.put, List.getElem_toArray, List.getElem_cons_succ, List.getElem_cons_zero, List.setIfInBounds_toArray, List.set_cons_zero, List.set_cons_succ]
          refine wpAnyIn_take (i := 21) (v := undef) rfl rfl (by kernel_rfl) (by kernel_rfl) (by kernel_rfl) (fun _ _ _ h => h) ⟨Or.inr ⟨by kernel_rfl, rfl⟩, fun _ => rfl⟩ ?_
          try simp only [Act.put, List.getElem_toArray, List.getElem_cons_succ, List.getElem_cons_zero, List.setIfInBounds_toArray, List.set_cons_zero, List.set_cons_succ]
          refine wpAnyIn_take (i := 22) (v := ?_) rfl rfl (by kernel_rfl) (by kernel_rfl) (by kernel_rfl) (fun _ _ _ h => h) ⟨Or.inl ⟨by kernel_rfl, ?_⟩, fun _ => rfl⟩ ?_
          rotate_left
          · (intro wx; go_simp; try (with_reducible rfl))
          try simp only [Act.put, List.getElem_toArray, List.getElem_cons_succ, List.getElem_cons_zero, List.setIfInBounds_toArray, List.set_cons_zero, List.set_cons_succ]
          refine wpAnyIn_done (by kernel_rfl) ?_ _
          gi_wp2_with fail
          go_roundw
          case rel => exact ⟨k + 1, K, by omega, by go_num, by rw [HN.out]; exact HJ.out _ _ _ _ J1.out (Turn.of_bl (by repeat' (first | exact Bl.refl _ | with_reducible assumption | with_reducible refine Bl.drew_ ?_ | with_reducible refine Bl.drewN_ ?_ _ | with_reducible refine Bl.alloc_ ?_ _ | with_reducible refine Bl.trans_ ?_ (by assumption) | with_reducible refine Bl.trans_ ?_ (And.left (by assumption))))), ⟨ST.out.1.bl (by repeat' (first | exact Bl.refl _ | with_reducible assumption | with_reducible refine Bl.drew_ ?_ | with_reducible refine Bl.drewN_ ?_ _ | with_reducible refine Bl.alloc_ ?_ _ | with_reducible refine Bl.trans_ ?_ (by assumption) | with_reducible refine Bl.trans_ ?_ (And.left (by assumption)))), ST.out.2⟩⟩
          case measure => simp [intOf]; omega
      · have b1 : decide (0 ≤ d) = false := by simpa using h1
        have HN := Lib.hid (NO.out (by rw [BB.out, decide_eq_false_iff_not]; exact fun h => h1 h.1))
        clear YES NO BB
        gi_wp2_with fail
        refine wpIn_region_any (by kernel_rfl) ?_
        try (change wpAnyIn _ _ _ _ _ _ _ _ _ (World.drew _))
        refine wpAnyIn_take (i := 0) (v := ?_) rfl rfl (by kernel_rfl) (by kernel_rfl) (by kernel_rfl) (fun _ _ _ h => h) ⟨Or.inl ⟨by kernel_rfl, ?_⟩, fun _ => rfl⟩ ?_
        rotate_left
        · (intro wx; go_simp; try (with_reducible rfl))
        try simp only [Act.put, List.getElem_toArray, List.getElem_cons_succ, List.getElem_cons_zero, List.setIfInBounds_toArray, List.set_cons_zero, List.set_cons_succ]
        refine wpAnyIn_take (i := 1) (v := ?_) rfl rfl (by kernel_rfl) (by kernel_rfl) (by kernel_rfl) (fun _ _ _ h => h) ⟨Or.inl ⟨by kernel_rfl, ?_⟩, fun _ => rfl⟩ ?_
        rotate_left
        · (intro wx; go_simp; try (with_reducible rfl))
        try simp only [Act.put, List.getElem_toArray, List.getElem_cons_succ, List.getElem_cons_zero, List.setIfInBounds_toArray, List.set_cons_zero, List.set_cons_succ]
        refine wpAnyIn_ready (rs := [2]) (by kernel_rfl) (by simp) ?_
        refine AllReadyIn.cons rfl (fun K hK => ?_) (AllReadyIn.nil)
        go_simp
        refine hK _ _ ?_
        clear hK K
        try simp only [Act.put, List.getElem_toArray, List.getElem_cons_succ, List.getElem_cons_zero, List.setIfInBounds_toArray, List.set_cons_zero, List.set_cons_succ]
        refine wpAnyIn_take (i := 3) (v := ?_) rfl rfl (by kernel_rfl) (by kernel_rfl) (by kernel_rfl) (fun _ _ _ h => h) ⟨Or.inl ⟨by kernel_rfl, ?_⟩, fun _ => rfl⟩ ?_
        rotate_left
        · (intro wx; go_simp; try (with_reducible rfl))
        try simp only [Act.put, List.getElem_toArray, List.getElem_cons_succ, List.getElem_cons_zero, List.setIfInBounds_toArray, List.set_cons_zero, List.set_cons_succ]
        refine wpAnyIn_take (i := 4) (v := ?_) rfl rfl (by kernel_rfl) (by kernel_rfl) (by kernel_rfl) (fun _ _ _ h => h) ⟨Or.inl ⟨by kernel_rfl, ?_⟩, fun _ => rfl⟩ ?_
        rotate_left
        · (intro wx; go_simp; try (with_reducible rfl))
        try simp only [Act.put, List.getElem_toArray, List.getElem_cons_succ, List.getElem_cons_zero, List.setIfInBounds_toArray, List.set_cons_zero, List.set_cons_succ]
        refine wpAnyIn_take (i := 5) (v := undef) rfl rfl (by kernel_rfl) (by kernel_rfl) (by kernel_rfl) (fun _ _ _ h => h) ⟨Or.inr ⟨by kernel_rfl, rfl⟩, fun _ => rfl⟩ ?_
        try simp only [Act.put, List.getElem_toArray, List.getElem_cons_succ, List.getElem_cons_zero, List.setIfInBounds_toArray, List.set_cons_zero, List.set_cons_succ]
        refine wpAnyIn_take (i := 6) (v := undef) rfl rfl (by kernel_rfl) (by kernel_rfl) (by kernel_rfl) (fun _ _ _ h => h) ⟨Or.inr ⟨by kernel_rfl, rfl⟩, fun _ => rfl⟩ ?_
        try simp only [Act.put, List.getElem_toArray, List.getElem_cons_succ, List.getElem_cons_zero, List.setIfInBounds_toArray, List.set_cons_zero, List.set_cons_succ]
        refine wpAnyIn_take (i := 7) (v := undef) rfl rfl (by kernel_rfl) (by kernel_rfl) (by kernel_rfl) (fun _ _ _ h => h) ⟨Or.inr ⟨by kernel_rfl, rfl⟩, fun _ => rfl⟩ ?_
        try simp only [Act.put, List.getElem_toArray, List.getElem_cons_succ, List.getElem_cons_zero, List.setIfInBounds_toArray, List.set_cons_zero, List.set_cons_succ]
        refine wpAnyIn_take (i := 8) (v := undef) rfl rfl (by kernel_rfl) (by kernel_rfl) (by kernel_rfl) (fun _ _ _ h => h) ⟨Or.inr ⟨by kernel_rfl, rfl⟩, fun _ => rfl⟩ ?_
        try simp only [Act.put, List.getElem_toArray, List.getElem_cons_succ, List.getElem_cons_zero, List.setIfInBounds_toArray, List.set_cons_zero, List.set_cons_succ]
        refine wpAnyIn_take (i := 9) (v := ?_) rfl rfl (by kernel_rfl) (by kernel_rfl) (by kernel_rfl) (fun _ _ _ h => h) ⟨Or.inl ⟨by kernel_rfl, ?_⟩, fun _ => rfl⟩ ?_
        rotate_left
        · (intro wx; go_simp; try (with_reducible rfl))
        try simp only [Act.put, List.getElem_toArray, List.getElem_cons_succ, List.getElem_cons_zero, List.setIfInBounds_toArray, List.set_cons_zero, List.set_cons_succ]
        refine wpAnyIn_take (i := 10) (v := ?_) rfl rfl (by kernel_rfl) (by kernel_rfl) (by kernel_rfl) (fun _ _ _ h => h) ⟨Or.inl ⟨by kernel_rfl, ?_⟩, fun _ => rfl⟩ ?_
        rotate_left
        · (intro wx; go_simp; try (with_reducible rfl))
        try simp only [Act.put, List.getElem_toArray, List.getElem_cons_succ, List.getElem_cons_zero, List.setIfInBounds_toArray, List.set_cons_zero, List.set_cons_succ]
        refine wpAnyIn_take (i := 11) (v := undef) rfl rfl (by kernel_rfl) (by kernel_rfl) (by kernel_rfl) (fun _ _ _ h => h) ⟨Or.inr ⟨by kernel_rfl, rfl⟩, fun _ => rfl⟩ ?_
        try simp only [Act.put, List.getElem_toArray, List.getElem_cons_succ, List.getElem_cons_zero, List.setIfInBounds_toArray, List.set_cons_zero, List.set_cons_succ]
        refine wpAnyIn_take (i := 12) (v := undef) rfl rfl (by kernel_rfl) (by kernel_rfl) (by kernel_rfl) (fun _ _ _ h => h) ⟨Or.inr ⟨by kernel_rfl, rfl⟩, fun _ => rfl⟩ ?_
        try simp only [Act.put, List.getElem_toArray, List.getElem_cons_succ, List.getElem_cons_zero, List.setIfInBounds_toArray, List.set_cons_zero, List.set_cons_succ]
        refine wpAnyIn_take (i := 13) (v := undef) rfl rfl (by kernel_rfl) (by kernel_rfl) (by kernel_rfl) (fun _ _ _ h => h) ⟨Or.inr ⟨by kernel_rfl, rfl⟩, fun _ => rfl⟩ ?_
        try simp only [Act.put, List.getElem_toArray, List.getElem_cons_succ, List.getElem_cons_zero, List.setIfInBounds_toArray, List.set_cons_zero, List.set_cons_succ]
        refine wpAnyIn_take (i := 14) (v := undef) rfl rfl (by kernel_rfl) (by kernel_rfl) (by kernel_rfl) (fun _ _ _ h => h) ⟨Or.inr ⟨by kernel_rfl, rfl⟩, fun _ => rfl⟩ ?_
        try simp only [Act.put, List.getElem_toArray, List.getElem_cons_succ, List.getElem_cons_zero, List.setIfInBounds_toArray, List.set_cons_zero, List.set_cons_succ]
        refine wpAnyIn_take (i := 15) (v := undef) rfl rfl (by kernel_rfl) (by kernel_rfl) (by kernel_rfl) (fun _ _ _ h => h) ⟨Or.inr ⟨by kernel_rfl, rfl⟩, fun _ => rfl⟩ ?_
        try simp only [Act.put, List.getElem_toArray, List.getElem_cons_succ, List.getElem_cons_zero, List.setIfInBounds_toArray, List.set_cons_zero, List.set_cons_succ]
        refine wpAnyIn_take (i := 16) (v := undef) rfl rfl (by kernel_rfl) (by kernel_rfl) (by kernel_rfl) (fun _ _ _ h => h) ⟨Or.inr ⟨by kernel_rfl, rfl⟩, fun _ => rfl⟩ ?_
        try simp only [Act.put, List.getElem_toArray, List.getElem_cons_succ, List.getElem_cons_zero, List.setIfInBounds_toArray, List.set_cons_zero, List.set_cons_succ]
        refine wpAnyIn_take (i := 17) (v := undef) rfl rfl (by kernel_rfl) (by kernel_rfl) (by kernel_rfl) (fun _ _ _ h => h) ⟨Or.inr ⟨by kernel_rfl, rfl⟩, fun _ => rfl⟩ ?_
        try simp only [Act.put, List.getElem_toArray, List.getElem_cons_succ, List.getElem_cons_zero, List.setIfInBounds_toArray, List.set_cons_zero, List.set_cons_succ]
        refine wpAnyIn_take (i := 18) (v := undef) rfl rfl (by kernel_rfl) (by kernel_rfl) (by kernel_rfl) (fun _ _ _ h => h) ⟨Or.inr ⟨by kernel_rfl, rfl⟩, fun _ => rfl⟩ ?_
        try simp only [Act.put, List.getElem_toArray, List.getElem_cons_succ, List.getElem_cons_zero, List.setIfInBounds_toArray, List.set_cons_zero, List.set_cons_succ]
        refine wpAnyIn_take (i := 19) (v := undef) rfl rfl (by kernel_rfl) (by kernel_rfl) (by kernel_rfl) (fun _ _ _ h => h) ⟨Or.inr ⟨by kernel_rfl, rfl⟩, fun _ => rfl⟩ ?_
        try simp only [Act.put, List.getElem_toArray, List.getElem_cons_succ, List.getElem_cons_zero, List.setIfInBounds_toArray, List.set_cons_zero, List.set_cons_succ]
        refine wpAnyIn_take (i := 20) (v := undef) rfl rfl (by kernel_rfl) (by kernel_rfl) (by kernel_rfl) (fun _ _ _ h => h) ⟨Or.inr ⟨by kernel_rfl, rfl⟩, fun _ => rfl⟩ ?_
        try simp only [Act.put, List.getElem_toArray, List.getElem_cons_succ, List.getElem_cons_zero, List.setIfInBounds_toArray, List.set_cons_zero, List.set_cons_succ]
        refine wpAnyIn_take (i := 21) (v := undef) rfl rfl (by kernel_rfl) (by kernel_rfl) (by kernel_rfl) (fun _ _ _ h => h) ⟨Or.inr ⟨by kernel_rfl, rfl⟩, fun _ => rfl⟩ ?_
        try simp only [Act.put, List.getElem_toArray, List.getElem_cons_succ, List.getElem_cons_zero, List.setIfInBounds_toArray, List.set_cons_zero, List.set_cons_succ]
        refine wpAnyIn_take (i := 22) (v := ?_) rfl rfl (by kernel_rfl) (by kernel_rfl) (by kernel_rfl) (fun _ _ _ h => h) ⟨Or.inl ⟨by kernel_rfl, ?_⟩, fun _ => rfl⟩ ?_
        rotate_left
        · (intro wx; go_simp; try (with_reducible rfl))
        try simp only [Act.put, List.getElem_toArray, List.getElem_cons_succ, List.getElem_cons_zero, List.setIfInBounds_toArray, List.set_cons_zero, List.set_cons_succ]
        refine wpAnyIn_done (by kernel_rfl) ?_ _
        gi_wp2_with fail
        go_roundw
        case rel => exact ⟨k + 1, K, by omega, by go_num, by rw [HN.out]; exact HJ.out _ _ _ _ J1.out (Turn.of_bl (by repeat' (first | exact Bl.refl _ | with_reducible assumption | with_reducible refine Bl.drew_ ?_ | with_reducible refine Bl.drewN_ ?_ _ | with_reducible refine Bl.alloc_ ?_ _ | with_reducible refine Bl.trans_ ?_ (by assumption) | with_reducible refine Bl.trans_ ?_ (And.left (by assumption))))), ⟨ST.out.1.bl (by repeat' (first | exact Bl.refl _ | with_reducible assumption | with_reducible refine Bl.drew_ ?_ | with_reducible refine Bl.drewN_ ?_ _ | with_reducible refine Bl.alloc_ ?_ _ | with_reducible refine Bl.trans_ ?_ (by assumption) | with_reducible refine Bl.trans_ ?_ (And.left (by assumption)))), ST.out.2⟩⟩
        case measure => simp [intOf]; omega
    · obtain rfl : k = n := by omega
      gi_wp2_with fail
      go_end0
      exact ⟨⟨_, rfl⟩, K, ST.out, .inl ⟨_, rfl, J1.out⟩⟩

/-- The function that passings hands back keeps the contract of an iterator. -/
theorem pass_stops (n : Nat) (nb fb tb : Nat) (D E : List Int) (hn : n ≤ 24) (w : World) (hI : PIn w nb fb tb n D E) :
    SeqT Try.prog 57 #[.pointer (some ⟨nb, 0, none⟩), .pointer (some ⟨fb, 0, none⟩), .pointer (some ⟨tb, 0, none⟩)] encP (NextPass D E n) (AllPass D E n) (PartPass D E n) (passBlocks nb fb tb) w :=
  fun l J Jx K W hb hK hJ hJx hlt hY hJ0 => pass_walk n nb fb tb D E hn l J Jx K W (hI.turn (Turn.of_bl (S := fun _ => False) hb) (fun _ h => h.elim)) hJ hJx hlt hK hY hJ0

end Go.Proofs.Ytoojgbkhnondeaa

set_option linter.unusedSimpArgs false
set_option linter.unusedVariables false
namespace Go.Proofs.Ytoojgbkhnondeaa
open Go.RowKit Go.Shelf
attribute [local go_sem] Oper.semAt_some

theorem OwnA.cap' {w : World} {B : Nat} {v : Value} {L : List Arc3} (h : OwnA w B v L) : ∀ A l c, v = .slice A l c → L.length ≤ c := fun A l c ev => by
  subst ev
  have h' : w.ownsRow B 49 3 (.slice A l c) L.length (cs3 L) := h
  rcases h'.2 with ⟨e, h0⟩ | ⟨g, cap, cur, e, hB, hg, hnc, -⟩
  · injection e with e1 e2 e3
    omega
  · injection e with e1 e2 e3
    omega
theorem NumsAt.there_ {w : World} {b : Nat} {E : List Int} (h : NumsAt w b E) : w.there b 0 24 :=
  there_of_cells fun i hi => ⟨by rw [h.cell i (by rw [h.len]; exact hi)]; rfl, h.free i hi⟩
theorem nums_new (w : World) (t : TypeId) : NumsAt (w.alloc (.cells #[.int .i64 0, .int .i64 0, .int .i64 0, .int .i64 0, .int .i64 0, .int .i64 0, .int .i64 0, .int .i64 0, .int .i64 0, .int .i64 0, .int .i64 0, .int .i64 0, .int .i64 0, .int .i64 0, .int .i64 0, .int .i64 0, .int .i64 0, .int .i64 0, .int .i64 0, .int .i64 0, .int .i64 0, .int .i64 0, .int .i64 0, .int .i64 0] t)) w.heap.size (List.replicate 24 0) := by
  refine ⟨by simp, by simp, fun i hi => ?_, fun i hi => ?_⟩
  · have hi' : i < 24 := by simpa using hi
    rw [List.getElem_replicate]
    match i, hi' with
    | 0, _ => simp [go_sem]
    | 1, _ => simp [go_sem]
    | 2, _ => simp [go_sem]
    | 3, _ => simp [go_sem]
    | 4, _ => simp [go_sem]
    | 5, _ => simp [go_sem]
    | 6, _ => simp [go_sem]
    | 7, _ => simp [go_sem]
    | 8, _ => simp [go_sem]
    | 9, _ => simp [go_sem]
    | 10, _ => simp [go_sem]
    | 11, _ => simp [go_sem]
    | 12, _ => simp [go_sem]
    | 13, _ => simp [go_sem]
    | 14, _ => simp [go_sem]
    | 15, _ => simp [go_sem]
    | 16, _ => simp [go_sem]
    | 17, _ => simp [go_sem]
    | 18, _ => simp [go_sem]
    | 19, _ => simp [go_sem]
    | 20, _ => simp [go_sem]
    | 21, _ => simp [go_sem]
    | 22, _ => simp [go_sem]
    | 23, _ => simp [go_sem]
    | (j + 24), h => exact absurd h (by omega)
  · have := (there_new w t i hi).2
    rwa [Nat.zero_add] at this

theorem cell_new_drewN' (w : World) (n : Nat) (v : Value) (t : TypeId) : ((w.drewN n).alloc (.cells #[v] t)).cell? ⟨w.heap.size, 0, none⟩ = some v := by
  have h : ∀ wz : World, (wz.alloc (.cells #[v] t)).cell? ⟨wz.heap.size, 0, none⟩ = some v := fun wz => by simp [go_sem]
  exact h (w.drewN n)
theorem byB_at' {D E : List Int} {m : Int} {k : Nat} (h : k < D.length) (h' : k < E.length) : byB D E m (k : Int) = decide (0 ≤ D[k] ∧ 0 ≤ E[k] ∧ D[k] + E[k] ≤ m) := by
  unfold byB
  rw [dAt_at h, dAt_at h']

/-- The nodes of these by way of which it is at most so far. -/
def selP (m : Int) (pre : List Arc3) : List Int := (pre.filter fun x => decide (x.2.1 + x.2.2 ≤ m)).map (·.1)
theorem selP_yes {m : Int} {pre : List Arc3} {x : Arc3} (h : x.2.1 + x.2.2 ≤ m) : selP m (pre ++ [x]) = selP m pre ++ [x.1] := by
  unfold selP
  rw [List.filter_append, List.map_append]
  simp [h]
theorem selP_no {m : Int} {pre : List Arc3} {x : Arc3} (h : ¬ (x.2.1 + x.2.2 ≤ m)) : selP m (pre ++ [x]) = selP m pre := by
  unfold selP
  rw [List.filter_append, List.map_append]
  simp [h]
theorem selP_all (D E : List Int) (m : Int) : ∀ k : Nat, selP m (passK D E k) = withinK D E m k
  | 0 => rfl
  | k + 1 => by
    cases hb : bothB D E (k : Int) with
    | false =>
      rw [passK_no hb, selP_all D E m k, withinK_no]
      unfold bothB at hb
      unfold byB
      rw [decide_eq_false_iff_not] at hb ⊢
      exact fun h => hb ⟨h.1, h.2.1⟩
    | true =>
      rw [passK_yes hb]
      unfold bothB at hb
      rw [decide_eq_true_eq] at hb
      by_cases h : dAt D (k : Int) + dAt E (k : Int) ≤ m
      · rw [selP_yes h, selP_all D E m k, withinK_yes]
        unfold byB
        rw [decide_eq_true_eq]
        exact ⟨hb.1, hb.2, h⟩
      · rw [selP_no h, selP_all D E m k, withinK_no]
        unfold byB
        rw [decide_eq_false_iff_not]
        exact fun h' => h h'.2.2
theorem passK_len (D E : List Int) (k : Nat) : (passK D E k).length ≤ k := by
  unfold passK
  rw [List.length_map]
  have := List.length_filter_le (bothB D E) ((List.range k).map Int.ofNat)
  simp at this
  exact this
theorem selP_len (m : Int) (pre : List Arc3) : (selP m pre).length ≤ pre.length := by
  unfold selP
  rw [List.length_map]
  exact List.length_filter_le _ _
theorem withinK_same {D E D' E' : List Int} {m : Int} {k : Nat} (hD : ∀ v : Int, 0 ≤ v → v < k → dAt D v = dAt D' v) (hE : ∀ v : Int, 0 ≤ v → v < k → dAt E v = dAt E' v) : withinK D E m k = withinK D' E' m k := by
  unfold withinK
  refine List.filter_congr fun v hv => ?_
  obtain ⟨j, hj, rfl⟩ := List.mem_map.1 hv
  rw [List.mem_range] at hj
  have h0 : (0 : Int) ≤ Int.ofNat j := Int.natCast_nonneg j
  have h1 : Int.ofNat j < (k : Int) := by show (j : Int) < (k : Int); omega
  unfold byB
  rw [hD _ h0 h1, hE _ h0 h1]
theorem nums_box (w : World) (t : TypeId) (E : List Int) (hE : E.length = 24) : NumsAt (w.alloc (.cells (E.map (Value.int .i64)).toArray t)) w.heap.size E := by
  refine ⟨by simp, hE, fun i hi => ?_, fun i hi => ?_⟩
  · simp [go_sem, hi]
  · simp [go_sem]

set_option maxHeartbeats 400000 in
theorem passings_any (n : Int) (D E : List Int) (hD : D.length = 24) (hE : E.length = 24) (w : World) :
    Calls Try.prog 46 #[.int .i64 n, .agg (D.map (Value.int .i64)).toArray, .agg (E.map (Value.int .i64)).toArray] w fun e w' =>
      e = .returned (.func (.func 57) #[] #[.pointer (some ⟨w.heap.size, 0, none⟩), .pointer (some ⟨w.heap.size + 1, 0, none⟩), .pointer (some ⟨w.heap.size + 2, 0, none⟩)]) ∧
      w' = ((w.alloc (.cells #[.int .i64 n] 2)).alloc (.cells (D.map (Value.int .i64)).toArray 45)).alloc (.cells (E.map (Value.int .i64)).toArray 45) := by
  go_enter Try.func46, Try.ntmps46
  go_wp2
  go_ret
  exact ⟨rfl, rfl⟩

set_option maxRecDepth 100000 in
set_option maxHeartbeats 4000000 in
theorem within_any (k : Nat) (s t m : Int) (A : Option Addr) (n c : Nat) (L : List Arc3) (hn : n = L.length) (hc : n ≤ c) (ho : okB k L = true) (hs : 0 ≤ s ∧ s < k) (ht : 0 ≤ t ∧ t < k) (w : World) (hm : n ≤ 1048576) (H1 : ArcsAt w w.heap.size A L) :
    Calls Try.prog 32 #[.agg #[.int .i64 k, .slice A n c], .int .i64 s, .int .i64 t, .int .i64 m] w (NumsMade (withinL k L s t m) w) := by
  obtain ⟨i0, hi, hz0, hz1, hz2⟩ := info_parts infoInt
  have I0 := Lib.hid hi
  have I1 := Lib.hid hz0
  have I2 := Lib.hid hz1
  have I3 := Lib.hid hz2
  have K1 := Lib.hid H1
  have HN := Lib.hid hn
  have HO := Lib.hid ho
  have HRO := Lib.hid (revL_ok ho)
  have HRL := Lib.hid (revL_len (okB_elim ho).2.2.2.2)
  have hN24 := (okB_elim ho).2.1
  clear H1 hn hi hz0 hz1 hz2
  refine (callsIn_wide (n := 0)).1 ?_
  refine callsIn_of_wp_marks Try.func32 rfl trivial ?_ rfl
  simp only [Try.ntmps32, List.size_toArray, List.length_cons, List.length_nil, Nat.reduceAdd, Nat.reduceSub, Array.replicate_succ, Array.replicate_zero, List.push_toArray, List.append_toArray, List.nil_append, List.cons_append]
  gi_wp2_with fail
  obtain ⟨W, hW⟩ : ∃ W, W = (((w.alloc (.cells #[.int .i64 k, .slice A n c] 26)).alloc (.cells #[.int .i64 m] 2)).alloc (.cells #[.slice none 0 0] 29)) := ⟨_, rfl⟩
  have HBW := Lib.hid (show Bl w W from by rw [hW]; exact ((Bl.alloc_ (Bl.refl w) _).alloc_ _).alloc_ _)
  have HSH := Lib.hid (show ∀ wx, Bl W wx → wx.cell? ⟨w.heap.size, 0, none⟩ = some (.int .i64 k) ∧ wx.cell? ⟨w.heap.size, 1, none⟩ = some (.slice A n c) from fun wx hb => by rw [hW] at hb; exact box2 ((Bl.alloc_ (Bl.alloc_ (Bl.refl _) _) _).trans_ hb))
  have HMX := Lib.hid (show ∀ wx, Bl W wx → wx.cell? ⟨w.heap.size + 1, 0, none⟩ = some (.int .i64 m) ∧ wx.cell? ⟨w.heap.size + 2, 0, none⟩ = some (.slice none 0 0) ∧ wx.frozen? ⟨w.heap.size + 2, 0, none⟩ = false from fun wx hb => by
    obtain ⟨h1, h2⟩ := bcell hb
    have hs : W.heap.size = w.heap.size + 3 := by rw [hW]; simp
    rw [h1 _ _ (by omega), h1 _ _ (by omega), h2 _ _ (by omega), hW]
    exact ⟨by simp [go_sem], by simp [go_sem], by simp [go_sem]⟩)
  have hs0 : W.heap.size = w.heap.size + 3 := by rw [hW]; simp
  rw [← hW]
  clear hW ho
  refine wpIn_region_held (S := fun wx => wx.cell? ⟨w.heap.size, 0, none⟩ = some (.int .i64 k) ∧ wx.cell? ⟨w.heap.size, 1, none⟩ = some (.slice A n c)) (by kernel_rfl) ?_ (fun hHeld => ?_)
  · (exact HSH.out _ (by repeat' (first | exact Bl.refl _ | with_reducible assumption | with_reducible refine Bl.drew_ ?_ | with_reducible refine Bl.drewN_ ?_ _ | with_reducible refine Bl.alloc_ ?_ _ | with_reducible refine Bl.trans_ ?_ (by assumption) | with_reducible refine Bl.trans_ ?_ (And.left (by assumption)))))
  refine wpAnyH_take (i := 0) (v := ?_) rfl (by kernel_rfl) (by kernel_rfl) (by kernel_rfl) (fun _ _ _ h => h) (Or.inl ⟨by kernel_rfl, ?_⟩) (by assumption) ?_
  rotate_left
  · (intro wx hSw; (try dsimp only at hSw); go_simp; try (with_reducible rfl))
  try simp only [Act.put, List.getElem_toArray, List.getElem_cons_succ, List.getElem_cons_zero, List.setIfInBounds_toArray, List.set_cons_zero, List.set_cons_succ]
  refine wpAnyH_take (i := 1) (v := ?_) rfl (by kernel_rfl) (by kernel_rfl) (by kernel_rfl) (fun _ _ _ h => h) (Or.inl ⟨by kernel_rfl, ?_⟩) (by assumption) ?_
  rotate_left
  · (intro wx hSw; (try dsimp only at hSw); go_simp; try (with_reducible rfl))
  try simp only [Act.put, List.getElem_toArray, List.getElem_cons_succ, List.getElem_cons_zero, List.setIfInBounds_toArray, List.set_cons_zero, List.set_cons_succ]
  refine wpAnyH_take (i := 2) (v := ?_) rfl (by kernel_rfl) (by kernel_rfl) (by kernel_rfl) (fun _ _ _ h => h) (Or.inl ⟨by kernel_rfl, ?_⟩) (by assumption) ?_
  rotate_left
  · (intro wx hSw; (try dsimp only at hSw); go_simp; try (with_reducible rfl))
  try simp only [Act.put, List.getElem_toArray, List.getElem_cons_succ, List.getElem_cons_zero, List.setIfInBounds_toArray, List.set_cons_zero, List.set_cons_succ]
  refine wpAnyH_take (i := 3) (v := ?_) rfl (by kernel_rfl) (by kernel_rfl) (by kernel_rfl) (fun _ _ _ h => h) (Or.inl ⟨by kernel_rfl, ?_⟩) (by assumption) ?_
  rotate_left
  · (intro wx hSw; (try dsimp only at hSw); go_simp; try (with_reducible rfl))
  try simp only [Act.put, List.getElem_toArray, List.getElem_cons_succ, List.getElem_cons_zero, List.setIfInBounds_toArray, List.set_cons_zero, List.set_cons_succ]
  refine wpAnyH_take (i := 5) (v := ?_) rfl (by kernel_rfl) (by kernel_rfl) (by kernel_rfl) (fun _ _ _ h => h) (Or.inl ⟨by kernel_rfl, ?_⟩) (by assumption) ?_
  rotate_left
  · (intro wx hSw; (try dsimp only at hSw); go_simp; try (with_reducible rfl))
  try simp only [Act.put, List.getElem_toArray, List.getElem_cons_succ, List.getElem_cons_zero, List.setIfInBounds_toArray, List.set_cons_zero, List.set_cons_succ]
  refine wpAnyH_take (i := 7) (v := ?_) rfl (by kernel_rfl) (by kernel_rfl) (by kernel_rfl) (fun _ _ _ h => h) (Or.inl ⟨by kernel_rfl, ?_⟩) (by assumption) ?_
  rotate_left
  · (intro wx hSw; (try dsimp only at hSw); go_simp; try (with_reducible rfl))
  try simp only [Act.put, List.getElem_toArray, List.getElem_cons_succ, List.getElem_cons_zero, List.setIfInBounds_toArray, List.set_cons_zero, List.set_cons_succ]
  refine wpAnyH_ready (rs := [4]) (by kernel_rfl) (by simp) ?_
  refine AllReadyH.cons rfl (fun K hK => ?_) AllReadyH.nil
  go_simp
  (go_at_call 27; refine (distances_any k s A n c L HN.out hc HO.out hs.1 hs.2 _ (K1.out.bl (HBW.out.trans_ (by repeat' (first | exact Bl.refl _ | with_reducible assumption | with_reducible refine Bl.drew_ ?_ | with_reducible refine Bl.drewN_ ?_ _ | with_reducible refine Bl.alloc_ ?_ _ | with_reducible refine Bl.trans_ ?_ (by assumption) | with_reducible refine Bl.trans_ ?_ (And.left (by assumption))))))).mono ?_; rintro e w_1 ⟨E, rfl, hE, hEd, hb1⟩)
  try (go_wp2_with fail)
  refine hK.out _ _ ?_ (fun hHeld => ?_)
  · (exact HSH.out _ (by repeat' (first | exact Bl.refl _ | with_reducible assumption | with_reducible refine Bl.drew_ ?_ | with_reducible refine Bl.drewN_ ?_ _ | with_reducible refine Bl.alloc_ ?_ _ | with_reducible refine Bl.trans_ ?_ (by assumption) | with_reducible refine Bl.trans_ ?_ (And.left (by assumption)))))
  clear hK K
  try simp only [Act.put, List.getElem_toArray, List.getElem_cons_succ, List.getElem_cons_zero, List.setIfInBounds_toArray, List.set_cons_zero, List.set_cons_succ]
  refine wpAnyH_ready (rs := [6]) (by kernel_rfl) (by simp) ?_
  refine AllReadyH.cons rfl (fun K hK => ?_) AllReadyH.nil
  go_simp
  (go_at_call 21; refine (implReversed_any k A n c L HN.out _ hm (K1.out.bl (HBW.out.trans_ (by repeat' (first | exact Bl.refl _ | with_reducible assumption | with_reducible refine Bl.drew_ ?_ | with_reducible refine Bl.drewN_ ?_ _ | with_reducible refine Bl.alloc_ ?_ _ | with_reducible refine Bl.trans_ ?_ (by assumption) | with_reducible refine Bl.trans_ ?_ (And.left (by assumption))))))).mono ?_; rintro e w_2 ⟨v6, rfl, hv6, hb2⟩; rw [show revN (k : Int) L = (k : Int) from if_pos HO.out]; rw [show revG (k : Int) L = revL L from if_pos HO.out] at hv6; have hcap := OwnA.cap' hv6; obtain ⟨A6, c6, rfl, ha6, -⟩ := hv6.shape; have V_2 := Lib.hid ha6; have HC6 := Lib.hid (hcap _ _ _ rfl); clear hv6 hcap ha6)
  try (go_wp2_with fail)
  refine hK.out _ _ ?_ (fun hHeld => ?_)
  · (exact HSH.out _ (by repeat' (first | exact Bl.refl _ | with_reducible assumption | with_reducible refine Bl.drew_ ?_ | with_reducible refine Bl.drewN_ ?_ _ | with_reducible refine Bl.alloc_ ?_ _ | with_reducible refine Bl.trans_ ?_ (by assumption) | with_reducible refine Bl.trans_ ?_ (And.left (by assumption)))))
  clear hK K
  try simp only [Act.put, List.getElem_toArray, List.getElem_cons_succ, List.getElem_cons_zero, List.setIfInBounds_toArray, List.set_cons_zero, List.set_cons_succ]
  refine wpAnyH_ready (rs := [8]) (by kernel_rfl) (by simp) ?_
  refine AllReadyH.cons rfl (fun K hK => ?_) AllReadyH.nil
  go_simp
  (go_at_call 27; refine (distances_any k t A6 (revL L).length c6 (revL L) rfl HC6.out HRO.out ht.1 ht.2 _ V_2.out).mono ?_; rintro e w_3 ⟨F, rfl, hF, hFd, hb3⟩)
  try (go_wp2_with fail)
  refine hK.out _ _ ?_ (fun hHeld => ?_)
  · (exact HSH.out _ (by repeat' (first | exact Bl.refl _ | with_reducible assumption | with_reducible refine Bl.drew_ ?_ | with_reducible refine Bl.drewN_ ?_ _ | with_reducible refine Bl.alloc_ ?_ _ | with_reducible refine Bl.trans_ ?_ (by assumption) | with_reducible refine Bl.trans_ ?_ (And.left (by assumption)))))
  clear hK K
  try simp only [Act.put, List.getElem_toArray, List.getElem_cons_succ, List.getElem_cons_zero, List.setIfInBounds_toArray, List.set_cons_zero, List.set_cons_succ]
  refine wpAnyH_ready (rs := [9]) (by kernel_rfl) (by simp) ?_
  refine AllReadyH.cons rfl (fun K hK => ?_) AllReadyH.nil
  go_simp
  (go_at_call 46; refine (passings_any k E F hE hF _).mono ?_; rintro e w_4 ⟨rfl, hw4⟩; have hb4 : Bl w_3 w_4 := (by rw [hw4]; exact ((Bl.alloc_ (Bl.refl _) _).alloc_ _).alloc_ _); have HW4 := Lib.hid hw4; clear hw4)
  try (go_wp2_with fail)
  refine hK.out _ _ ?_ (fun hHeld => ?_)
  · (exact HSH.out _ (by repeat' (first | exact Bl.refl _ | with_reducible assumption | with_reducible refine Bl.drew_ ?_ | with_reducible refine Bl.drewN_ ?_ _ | with_reducible refine Bl.alloc_ ?_ _ | with_reducible refine Bl.trans_ ?_ (by assumption) | with_reducible refine Bl.trans_ ?_ (And.left (by assumption)))))
  clear hK K
  try simp only [Act.put, List.getElem_toArray, List.getElem_cons_succ, List.getElem_cons_zero, List.setIfInBounds_toArray, List.set_cons_zero, List.set_cons_succ]
  refine wpAnyH_done (by kernel_rfl) ?_ _
  refine NoOut.normal ?_
  clear hHeld
  gi_wp2_with fail
  have B3 := Lib.hid (show Bl W w_3 from (by repeat' (first | exact Bl.refl _ | with_reducible assumption | with_reducible refine Bl.drew_ ?_ | with_reducible refine Bl.drewN_ ?_ _ | with_reducible refine Bl.alloc_ ?_ _ | with_reducible refine Bl.trans_ ?_ (by assumption) | with_reducible refine Bl.trans_ ?_ (And.left (by assumption)))))
  have B4 := Lib.hid (B3.out.trans_ hb4)
  have hin : PIn w_4 w_3.heap.size (w_3.heap.size + 1) (w_3.heap.size + 2) k E F := by
    rw [HW4.out]
    refine ⟨by simp [go_sem], ?_, ?_⟩
    · have h := (nums_box (w_3.alloc (.cells #[.int .i64 (k : Int)] 2)) 45 E hE).bl (Bl.alloc_ (Bl.refl _) (.cells (F.map (Value.int .i64)).toArray 45))
      rw [World.size_alloc] at h
      exact h
    · have h := nums_box ((w_3.alloc (.cells #[.int .i64 (k : Int)] 2)).alloc (.cells (E.map (Value.int .i64)).toArray 45)) 45 F hF
      rw [World.size_alloc, World.size_alloc] at h
      exact h
  have PIN := Lib.hid hin
  have hs4 : w_4.heap.size = w_3.heap.size + 3 := by rw [HW4.out]; simp
  have hs3 := B3.out.size
  have DE := Lib.hid (show E.take k = distL k L s from hEd)
  have DF := Lib.hid (show F.take k = distL k (revL L) t from hFd)
  have hBd := Lib.hid (fun v => distL_top (s := s) HO.out hs.1 hs.2 v)
  have hBe := Lib.hid (fun v => distL_top (s := t) HRO.out ht.1 ht.2 v)
  have DTK := Lib.hid (show ∀ (X : List Int) (v : Int), X.length = 24 → 0 ≤ v → v < (k : Int) → dAt (X.take k) v = dAt X v from fun X v hX h0 h1 => by
    unfold dAt
    simp only [List.getD_eq_getElem?_getD]
    rw [List.getElem?_take, if_pos (by omega)])
  have EL := Lib.hid hE
  have FL := Lib.hid hF
  obtain ⟨m0, m1, m2⟩ := HMX.out _ B4.out
  clear hb4 hb1 hb2 hb3 hE hF hEd hFd hin
  have hvb : w.heap.size + 1 + 1 = w.heap.size + 2 := rfl
  have hfin : PIn w_4 w_3.heap.size (w_3.heap.size + 1) (w_3.heap.size + 2) k E F := PIN.out
  refine wpIn_range (gf := 57) (lb := #[.pointer (some ⟨w_3.heap.size, 0, none⟩), .pointer (some ⟨w_3.heap.size + 1, 0, none⟩), .pointer (some ⟨w_3.heap.size + 2, 0, none⟩)]) ?e1 ?e2
    (pass_stops k w_3.heap.size (w_3.heap.size + 1) (w_3.heap.size + 2) E F (by omega) w_4 hfin) (Bl.refl _) (fun i hi => hfin.lt hi) ?e3
    (fun pre K W' => ∃ v, (∀ i, K i ↔ (i = w.heap.size + 2 ∨ i = w.heap.size + 1 ∨ v.ownBlock = some i)) ∧ (W'.cell? ⟨w.heap.size + 2, 0, none⟩ = some v ∧ W'.frozen? ⟨w.heap.size + 2, 0, none⟩ = false) ∧ W'.cell? ⟨w.heap.size + 1, 0, none⟩ = some (.int .i64 m) ∧ OwnN W' (w.heap.size + 3) v (selP m pre))
    (fun _ _ _ _ => False)
    (fun pre x a K W' => ∃ xb v, (∀ i, K i ↔ (i = w.heap.size + 2 ∨ i = w.heap.size + 1 ∨ v.ownBlock = some i ∨ i = xb)) ∧ (W'.cell? ⟨w.heap.size + 2, 0, none⟩ = some v ∧ W'.frozen? ⟨w.heap.size + 2, 0, none⟩ = false) ∧ W'.cell? ⟨w.heap.size + 1, 0, none⟩ = some (.int .i64 m) ∧ OwnN W' (w.heap.size + 3) v (selP m pre) ∧
      (xb ≠ w.heap.size + 2 ∧ xb ≠ w.heap.size + 1 ∧ v.ownBlock ≠ some xb ∧ W'.cell? ⟨xb, 0, none⟩ = some (.int .i64 x.1) ∧ W'.cell? ⟨xb, 1, none⟩ = some (.int .i64 x.2.1) ∧ W'.cell? ⟨xb, 2, none⟩ = some (.int .i64 x.2.2)) ∧
      a = { tmps := #[.agg #[.int .i64 k, .slice A n c], .int .i64 s, .int .i64 t, .int .i64 m, .pointer (some ⟨w.heap.size, 0, none⟩), undef, undef, .pointer (some ⟨w.heap.size + 1, 0, none⟩), .slice none 0 0, .pointer (some ⟨w.heap.size + 1 + 1, 0, none⟩), .pointer (some ⟨xb, 0, none⟩), .pointer (some ⟨w.heap.size, 0, none⟩), .int .i64 k, .agg #[.int .i64 k, .slice A n c], .int .i64 s, .agg (E.map (Value.int .i64)).toArray, .agg #[.int .i64 k, .slice A n c], .agg #[.int .i64 k, .slice A6 (revL L).length c6], .int .i64 t, .agg (F.map (Value.int .i64)).toArray,
            .func (.func 57) #[] #[.pointer (some ⟨w_3.heap.size, 0, none⟩), .pointer (some ⟨w_3.heap.size + 1, 0, none⟩), .pointer (some ⟨w_3.heap.size + 2, 0, none⟩)], .agg #[.int .i64 x.1, .int .i64 x.2.1, .int .i64 x.2.2], undef, undef, undef, undef, undef, undef, undef, undef, undef, undef, undef, undef, undef], defers := [] })
    (fun i => i = w.heap.size + 2 ∨ i = w.heap.size + 1) ?hK0 ?hI (fun _ _ _ _ _ h _ => h) ?hM ?hlt ⟨.slice none 0 0, fun i => by simp [Value.ownBlock], ⟨m1, m2⟩, m0, OwnN.nil_ _ _⟩ ?assign ?body ?done (fun _ _ _ _ _ _ _ h _ _ _ => h.elim)
  case e1 => rfl
  case e2 => exact enters_of Try.func57 (by kernel_rfl) rfl
  case e3 => exact fun x => rfl
  case hK0 =>
    rintro i hi hp
    rcases hp with h | h | h <;> (rcases hi with h' | h' <;> omega)
  case hI =>
    rintro pre K X Y ⟨v, hk, ⟨h1, h2⟩, h3, h4⟩ ht
    have l1 := World.block_lt_of_cell? _ _ h1
    have l3 := World.block_lt_of_cell? _ _ h3
    simp only at l1 l3
    obtain ⟨e1, e2⟩ := ht.cells l1 (fun h => h ((hk _).2 (.inl rfl))) 0
    exact ⟨v, hk, ⟨e1.trans h1, e2.trans h2⟩, (ht.cells l3 (fun h => h ((hk _).2 (.inr (.inl rfl)))) 0).1.trans h3, Owns.turn h4 ht (fun g hg h => h ((hk g).2 (.inr (.inr hg))))⟩
  case hM =>
    rintro pre x a K X Y ⟨xb, v, hk, ⟨h1, h2⟩, h3, h4, ⟨n1, n2, n3, c0, c1, c2⟩, he⟩ ht
    have l1 := World.block_lt_of_cell? _ _ h1
    have l3 := World.block_lt_of_cell? _ _ h3
    have lx := World.block_lt_of_cell? _ _ c0
    simp only at l1 l3 lx
    obtain ⟨e1, e2⟩ := ht.cells l1 (fun h => h ((hk _).2 (.inl rfl))) 0
    have hs := fun o => (ht.cells lx (fun h => h ((hk _).2 (.inr (.inr (.inr rfl))))) o).1
    exact ⟨xb, v, hk, ⟨e1.trans h1, e2.trans h2⟩, (ht.cells l3 (fun h => h ((hk _).2 (.inr (.inl rfl)))) 0).1.trans h3, Owns.turn h4 ht (fun g hg h => h ((hk g).2 (.inr (.inr (.inl hg))))), ⟨n1, n2, n3, (hs 0).trans c0, (hs 1).trans c1, (hs 2).trans c2⟩, he⟩
  case hlt =>
    rintro pre K X ⟨v, hk, ⟨h1, h2⟩, h3, h4⟩ i hi
    rcases (hk i).1 hi with rfl | rfl | h
    · exact World.block_lt_of_cell? _ _ h1
    · exact World.block_lt_of_cell? _ _ h3
    · exact (Owns.lt h4 i h).2
  case assign =>
    rintro l pre ⟨x, y, z⟩ K X R ⟨v, hk, ⟨h1, h2⟩, h3, h4⟩ hpre hR
    have HKK := Lib.hid hk
    have HC1 := Lib.hid h1
    have HC2 := Lib.hid h2
    have HC3 := Lib.hid h3
    have HC4 := Lib.hid h4
    have HR := Lib.hid hR
    have l1 := World.block_lt_of_cell? _ _ h1
    simp only at l1
    clear hk h1 h2 h3 h4 hpre hR m0 m1 m2 hfin
    dsimp only [encP]
    gi_wp2_with fail
    have hx := bcell (show Bl X (X.alloc (.cells #[.int .i64 x, .int .i64 y, .int .i64 z] 72)) from (by repeat' (first | exact Bl.refl _ | with_reducible assumption | with_reducible refine Bl.drew_ ?_ | with_reducible refine Bl.drewN_ ?_ _ | with_reducible refine Bl.alloc_ ?_ _ | with_reducible refine Bl.trans_ ?_ (by assumption) | with_reducible refine Bl.trans_ ?_ (And.left (by assumption)))))
    refine HR.out _ (fun i => i = w.heap.size + 2 ∨ i = w.heap.size + 1 ∨ v.ownBlock = some i ∨ i = X.heap.size) _ ⟨Turn.of_bl (by repeat' (first | exact Bl.refl _ | with_reducible assumption | with_reducible refine Bl.drew_ ?_ | with_reducible refine Bl.drewN_ ?_ _ | with_reducible refine Bl.alloc_ ?_ _ | with_reducible refine Bl.trans_ ?_ (by assumption) | with_reducible refine Bl.trans_ ?_ (And.left (by assumption)))), fun i hi => ?_⟩ ⟨X.heap.size, v, fun i => Iff.rfl, ⟨(hx.1 _ _ l1).trans HC1.out, (hx.2 _ _ l1).trans HC2.out⟩, (hx.1 _ _ (by omega)).trans HC3.out, OwnN.bl HC4.out (by repeat' (first | exact Bl.refl _ | with_reducible assumption | with_reducible refine Bl.drew_ ?_ | with_reducible refine Bl.drewN_ ?_ _ | with_reducible refine Bl.alloc_ ?_ _ | with_reducible refine Bl.trans_ ?_ (by assumption) | with_reducible refine Bl.trans_ ?_ (And.left (by assumption)))),
      ⟨by omega, by omega, fun h => by have := (Owns.lt HC4.out _ h).2; omega, by simp [go_sem], by simp [go_sem], by simp [go_sem]⟩, rfl⟩
    rcases hi with h | h | h | h
    · exact .inl ((HKK.out i).2 (.inl h))
    · exact .inl ((HKK.out i).2 (.inr (.inl h)))
    · exact .inl ((HKK.out i).2 (.inr (.inr h)))
    · exact .inr (by omega)
  case body =>
    rintro l pre ⟨x, y, z⟩ a₁ K X ⟨xb, v, hk, ⟨h1, h2⟩, h3, h4, ⟨n1, n2, n3, c0, c1, c2⟩, rfl⟩ ⟨Z, hZ⟩
    have hp := passK_ids E F k (x, y, z) (by rw [hZ]; simp)
    obtain ⟨⟨p0, p1⟩, p2, p3, p4, p5⟩ := hp
    simp only at p0 p1 p2 p3 p4 p5 c0 c1 c2
    have hyb : y ≤ 23000 := by rw [p2, ← DTK.out E x EL.out p0 p1, DE.out]; exact (hBd.out x).2
    have hzb : z ≤ 23000 := by rw [p3, ← DTK.out F x FL.out p0 p1, DF.out]; exact (hBe.out x).2
    have a1 : IntKind.i64.wrap (y + z) = y + z := IntWalk.i64_in _ (by omega)
    have l1 := World.block_lt_of_cell? _ _ h1
    simp only at l1
    have HKK := Lib.hid hk
    have OW := Lib.hid h4
    have hlen : (selP m pre).length ≤ 24 := by
      have h1 := selP_len m pre
      have h2 := passK_len E F k
      have h3 := congrArg List.length hZ
      simp only [List.length_append, List.length_cons] at h3
      omega
    clear hk hZ m0 m1 m2 hfin p2 p3 h4
    by_cases hle : y + z ≤ m
    · have b1 : decide (y + z ≤ m) = true := by simpa using hle
      gi_wp2_with (refine wpListIn_append_any _ rfl (.tmp 29) (.tmp 32) 29 rfl (w.heap.size + 3) 2 i0 _ 1 8 Try.underlying29 I0.out I1.out I2.out I3.out rfl (by decide) v (selP m pre).length (csI (selP m pre)) rfl (World.ownsRow.alloc OW.out _) (X.heap.size + 1) (some ⟨X.heap.size, 0, none⟩) 1 1 [.int .i64 x] rfl ?c0 (by simp [Value.oneCell']) ?c3 ?c4 ?c5 ?_)
      case c0 =>
        refine ⟨rfl, fun _ => ⟨_, rfl, by show X.heap.size < X.heap.size + 1; omega, fun j u hj => ?_⟩⟩
        match j, hj with
        | 0, hj => simp at hj; subst hj; simp [Addr.add, go_sem]
        | (j + 1), hj => simp at hj
      case c3 => unfold maxLen; omega
      case c4 => omega
      case c5 => first | omega | (simp; omega)
      intro v' w7 hown' hgrow hwh
      have O7 := Lib.hid (OwnN.snoc (V := selP m pre) (x := x) (n := (selP m pre).length) rfl (by simpa using hown'))
      rw [← show selP m (pre ++ [(x, y, z)]) = selP m pre ++ [x] from selP_yes (x := (x, y, z)) (by show y + z ≤ m; omega)] at O7
      have hvb : v.ownBlock ≠ some (w.heap.size + 2) := fun h => by have := (Owns.lt OW.out _ h).1; omega
      have hmb : v.ownBlock ≠ some (w.heap.size + 1) := fun h => by have := (Owns.lt OW.out _ h).1; omega
      have l3 := World.block_lt_of_cell? _ _ h3
      simp only at l3
      have hb7 := hgrow.block (w.heap.size + 2) (by simp; omega) (fun h => hvb h.symm)
      have hc7 := (bcell (show Bl X (X.alloc (.cells #[.int .i64 x] 2)) from (by repeat' (first | exact Bl.refl _ | with_reducible assumption | with_reducible refine Bl.drew_ ?_ | with_reducible refine Bl.drewN_ ?_ _ | with_reducible refine Bl.alloc_ ?_ _ | with_reducible refine Bl.trans_ ?_ (by assumption) | with_reducible refine Bl.trans_ ?_ (And.left (by assumption))))))
      have r1 : w7.cell? ⟨w.heap.size + 2, 0, none⟩ = some v := (World.cell?_of_block (a := ⟨w.heap.size + 2, 0, none⟩) hb7).trans ((hc7.1 _ _ l1).trans h1)
      have r2 : w7.frozen? ⟨w.heap.size + 2, 0, none⟩ = false := (World.frozen?_of_block (a := ⟨w.heap.size + 2, 0, none⟩) hb7).trans ((hc7.2 _ _ l1).trans h2)
      have r3 := (World.cell?_of_block (a := ⟨w.heap.size + 1, 0, none⟩) (hgrow.block (w.heap.size + 1) (by simp; omega) (fun h => hmb h.symm))).trans ((hc7.1 _ _ l3).trans h3)
      have hv'b : ∀ g, v'.ownBlock = some g → g ≠ w.heap.size + 2 := fun g hg e => by have := (Owns.lt O7.out g hg).1; omega
      have GR := Lib.hid hgrow
      have WH := Lib.hid hwh
      obtain ⟨A9, c9, hv9, -⟩ := OwnN.shape O7.out
      obtain ⟨z9, hz9⟩ : ∃ z9, z9 = (selP m (pre ++ [(x, y, z)])).length := ⟨_, rfl⟩
      rw [← hz9] at hv9
      subst hv9
      clear hown' hgrow hwh hb7 hc7 hz9
      gi_wp2_with fail
      refine ⟨fun i => i = w.heap.size + 2 ∨ i = w.heap.size + 1 ∨ (Value.slice A9 z9 c9).ownBlock = some i, ⟨?_, fun i hi => ?_⟩, .slice A9 z9 c9, fun i => Iff.rfl, ⟨?_, ?_⟩, ?_, ?_⟩
      · refine Turn.set (p := ⟨w.heap.size + 2, 0, none⟩) ((Turn.of_bl (S := K) (show Bl X (X.alloc (.cells #[.int .i64 x] 2)) from (by repeat' (first | exact Bl.refl _ | with_reducible assumption | with_reducible refine Bl.drew_ ?_ | with_reducible refine Bl.drewN_ ?_ _ | with_reducible refine Bl.alloc_ ?_ _ | with_reducible refine Bl.trans_ ?_ (by assumption) | with_reducible refine Bl.trans_ ?_ (And.left (by assumption)))))).trans (Turn.of_grown (S := fun i => v.ownBlock = some i) GR.out (fun i e => e)) (fun i _ e => (HKK.out i).2 (.inr (.inr (.inl e))))) (.inl ((HKK.out _).2 (.inl rfl))) _
      · rcases hi with h | h | h
        · exact .inl ((HKK.out i).2 (.inl h))
        · exact .inl ((HKK.out i).2 (.inr (.inl h)))
        · rcases WH.out with e | e
          · exact .inl ((HKK.out i).2 (.inr (.inr (.inl (by rw [← e]; exact h)))))
          · rw [e] at h
            injection h with h
            first
              | exact .inr (by omega)
              | (simp at h; exact .inr (by omega))
      · exact World.cell?_setCell_same' _ _ _ (by rw [r1]; rfl)
      · rw [World.frozen?_setCell]; exact r2
      · rw [World.cell?_setCell_other _ _ _ _ (by intro e; injection e with e; omega)]; exact r3
      · exact Owns.setOther O7.out (fun g hg => hv'b g hg) _
    · have b1 : decide (y + z ≤ m) = false := by simpa using hle
      gi_wp2_with fail
      exact ⟨fun i => i = w.heap.size + 2 ∨ i = w.heap.size + 1 ∨ v.ownBlock = some i, ⟨Turn.refl _ _, fun i hi => .inl ((HKK.out i).2 (by rcases hi with h | h | h; exact .inl h; exact .inr (.inl h); exact .inr (.inr (.inl h))))⟩, v, fun i => Iff.rfl, ⟨h1, h2⟩, h3, by rw [selP_no (m := m) (pre := pre) (x := (x, y, z)) (by show ¬ (y + z ≤ m); omega)]; exact OW.out⟩
  case done =>
    rintro D xs K X hD rfl ⟨v, hk, ⟨h1, h2⟩, h3, h4⟩ hT hKD hdef
    have HKK := Lib.hid hk
    have OW := Lib.hid h4
    have HT := Lib.hid hT
    have HD := Lib.hid hdef
    have HKD := Lib.hid hKD
    clear hk h2 h3 h4 hT hKD hdef m0 m1 m2 hfin
    gi_wp2_with fail
    refine ⟨by simp, .inl ⟨_, _, rfl, run_takeDeferred HD.out, ?_⟩⟩
    refine ⟨v, by simp [results, Try.results32, go_sem], v, rfl, ?_, ?_⟩
    · have hput := Owns.turn OW.out (turn_put (fun i => i = D) X (.deferred none) rfl) (fun g hg e => HKD.out (by rw [← e]; exact (HKK.out g).2 (.inr (.inr hg))))
      have hsel : selP m (passK E F k) = withinL k L s t m := by
        rw [selP_all]
        unfold withinL
        rw [← withinK_all, Int.toNat_natCast]
        refine withinK_same (fun v h0 h1 => ?_) (fun v h0 h1 => ?_)
        · rw [← DTK.out E v EL.out h0 h1, DE.out]
        · rw [← DTK.out F v FL.out h0 h1, DF.out]
      rw [← hsel]
      exact Owns.low hput (by omega)
    · exact Turn.to_bl (Turn.to_bl (HBW.out.trans_ B4.out) HT.out (fun i hi => by rcases hi with h | h <;> omega)) (turn_put (fun i => i = D) X (.deferred none) rfl) (fun i hi => by rw [hi]; omega)

end Go.Proofs.Ytoojgbkhnondeaa

set_option linter.unusedSimpArgs false
set_option linter.unusedVariables false
namespace Go.Proofs.Ytoojgbkhnondeaa
open Go.RowKit

-- (implBetween_any left out)

set_option maxRecDepth 100000 in
set_option maxHeartbeats 2000000 in
theorem implOnShortest_any (N s t : Int) (A : Option Addr) (n c : Nat) (L : List Arc3) (hn : n = L.length) (hc : n ≤ c) (w : World) (hm : n ≤ 1048576) (H1 : ArcsAt w w.heap.size A L) :
    Calls Try.prog 18 #[.agg #[.int .i64 N, .slice A n c], .int .i64 s, .int .i64 t] w (NumsMade (onL N L s t) w) := by
  have K1 := Lib.hid H1
  have HN := Lib.hid hn
  clear H1 hn
  cases hh : has2 N L s t with
  | false =>
    have HH := Lib.hid hh
    clear hh
    go_enter Try.func18, Try.ntmps18
    go_wp2_with fail
    refine (hasNodes_2 N s t A n c L HN.out (w.heap.size + 1) 2 _ (by omega) (K1.out.bl (by repeat' (first | exact Bl.refl _ | with_reducible assumption | with_reducible refine Bl.drew_ ?_ | with_reducible refine Bl.drewN_ ?_ _ | with_reducible refine Bl.alloc_ ?_ _ | with_reducible refine Bl.trans_ ?_ (by assumption) | with_reducible refine Bl.trans_ ?_ (And.left (by assumption))))) (by simp) (by simp [go_sem]) (by simp [go_sem])).mono ?_
    rintro e w1 ⟨rfl, hb1⟩
    rw [HH.out]
    go_wp2
    go_ret
    exact ⟨_, rfl, by unfold onL; rw [HH.out]; exact OwnN.nil_ _ _, (by repeat' (first | exact Bl.refl _ | with_reducible assumption | with_reducible refine Bl.drew_ ?_ | with_reducible refine Bl.drewN_ ?_ _ | with_reducible refine Bl.alloc_ ?_ _ | with_reducible refine Bl.trans_ ?_ (by assumption) | with_reducible refine Bl.trans_ ?_ (And.left (by assumption))))⟩
  | true =>
    have HH := Lib.hid hh
    obtain ⟨ho, hs, ht⟩ := has2_of hh
    have hN1 := (okB_elim ho).1
    have hN24 := (okB_elim ho).2.1
    have HO := Lib.hid ho
    obtain ⟨k, rfl⟩ : ∃ k : Nat, N = k := ⟨N.toNat, by omega⟩
    obtain ⟨u, rfl⟩ : ∃ u : Nat, t = u := ⟨t.toNat, by omega⟩
    clear hh ho
    have HB := Lib.hid (show onL k L s u = withinL k L s u (dAt (distL k L s) u) from by unfold onL; rw [if_pos HH.out])
    have HIX := Lib.hid (show ∀ E : List Int, E.length = 24 → E.take (k : Int).toNat = distL k L s → dAt E (u : Int) = dAt (distL k L s) u from fun E _ hEd => by
      rw [← hEd]
      unfold dAt
      simp only [List.getD_eq_getElem?_getD]
      rw [List.getElem?_take, if_pos (by omega)])
    go_enter Try.func18, Try.ntmps18
    go_wp2_with fail
    refine (hasNodes_2 k s u A n c L HN.out (w.heap.size + 1) 2 _ (by omega) (K1.out.bl (by repeat' (first | exact Bl.refl _ | with_reducible assumption | with_reducible refine Bl.drew_ ?_ | with_reducible refine Bl.drewN_ ?_ _ | with_reducible refine Bl.alloc_ ?_ _ | with_reducible refine Bl.trans_ ?_ (by assumption) | with_reducible refine Bl.trans_ ?_ (And.left (by assumption))))) (by simp) (by simp [go_sem]) (by simp [go_sem])).mono ?_
    rintro e w1 ⟨rfl, hb1⟩
    rw [HH.out]
    have HSH := Lib.hid (show ∀ wx, Bl w1 wx → wx.cell? ⟨w.heap.size, 0, none⟩ = some (.int .i64 k) ∧ wx.cell? ⟨w.heap.size, 1, none⟩ = some (.slice A n c) from fun wx hb => by
      have hx := (bcell (hb1.trans_ hb)).1
      exact ⟨(hx _ _ (by simp; omega)).trans (by simp [go_sem]), (hx _ _ (by simp; omega)).trans (by simp [go_sem])⟩)
    have HBW := Lib.hid (show Bl w w1 from (((Bl.refl w).alloc_ _).alloc_ _).trans_ hb1)
    clear hb1
    generalize dAt (distL k L s) u = dt at *
    go_wp2_with fail
    refine wp_region_held_drew (S := fun wx => wx.cell? ⟨w.heap.size, 0, none⟩ = some (.int .i64 k) ∧ wx.cell? ⟨w.heap.size, 1, none⟩ = some (.slice A n c)) (by kernel_rfl) ?_ (fun hHeld => ?_)
    · (exact HSH.out _ (by repeat' (first | exact Bl.refl _ | with_reducible assumption | with_reducible refine Bl.drew_ ?_ | with_reducible refine Bl.drewN_ ?_ _ | with_reducible refine Bl.alloc_ ?_ _ | with_reducible refine Bl.trans_ ?_ (by assumption) | with_reducible refine Bl.trans_ ?_ (And.left (by assumption)))))
    refine wpAnyH_take (i := 0) (v := ?_) rfl (by kernel_rfl) (by kernel_rfl) (by kernel_rfl) (fun _ _ _ h => h) (Or.inl ⟨by kernel_rfl, ?_⟩) (by assumption) ?_
    rotate_left
    · (intro wx hSw; (try dsimp only at hSw); go_simp; try (with_reducible rfl))
    try simp only [Act.put, List.getElem_toArray, List.getElem_cons_succ, List.getElem_cons_zero, List.setIfInBounds_toArray, List.set_cons_zero, List.set_cons_succ]
    refine wpAnyH_take (i := 1) (v := ?_) rfl (by kernel_rfl) (by kernel_rfl) (by kernel_rfl) (fun _ _ _ h => h) (Or.inl ⟨by kernel_rfl, ?_⟩) (by assumption) ?_
    rotate_left
    · (intro wx hSw; (try dsimp only at hSw); go_simp; try (with_reducible rfl))
    try simp only [Act.put, List.getElem_toArray, List.getElem_cons_succ, List.getElem_cons_zero, List.setIfInBounds_toArray, List.set_cons_zero, List.set_cons_succ]
    refine wpAnyH_take (i := 2) (v := ?_) rfl (by kernel_rfl) (by kernel_rfl) (by kernel_rfl) (fun _ _ _ h => h) (Or.inl ⟨by kernel_rfl, ?_⟩) (by assumption) ?_
    rotate_left
    · (intro wx hSw; (try dsimp only at hSw); go_simp; try (with_reducible rfl))
    try simp only [Act.put, List.getElem_toArray, List.getElem_cons_succ, List.getElem_cons_zero, List.setIfInBounds_toArray, List.set_cons_zero, List.set_cons_succ]
    refine wpAnyH_take (i := 3) (v := ?_) rfl (by kernel_rfl) (by kernel_rfl) (by kernel_rfl) (fun _ _ _ h => h) (Or.inl ⟨by kernel_rfl, ?_⟩) (by assumption) ?_
    rotate_left
    · (intro wx hSw; (try dsimp only at hSw); go_simp; try (with_reducible rfl))
    try simp only [Act.put, List.getElem_toArray, List.getElem_cons_succ, List.getElem_cons_zero, List.setIfInBounds_toArray, List.set_cons_zero, List.set_cons_succ]
    refine wpAnyH_take (i := 4) (v := ?_) rfl (by kernel_rfl) (by kernel_rfl) (by kernel_rfl) (fun _ _ _ h => h) (Or.inl ⟨by kernel_rfl, ?_⟩) (by assumption) ?_
    rotate_left
    · (intro wx hSw; (try dsimp only at hSw); go_simp; try (with_reducible rfl))
    try simp only [Act.put, List.getElem_toArray, List.getElem_cons_succ, List.getElem_cons_zero, List.setIfInBounds_toArray, List.set_cons_zero, List.set_cons_succ]
    refine wpAnyH_take (i := 6) (v := ?_) rfl (by kernel_rfl) (by kernel_rfl) (by kernel_rfl) (fun _ _ _ h => h) (Or.inl ⟨by kernel_rfl, ?_⟩) (by assumption) ?_
    rotate_left
    · (intro wx hSw; (try dsimp only at hSw); go_simp; try (with_reducible rfl))
    try simp only [Act.put, List.getElem_toArray, List.getElem_cons_succ, List.getElem_cons_zero, List.setIfInBounds_toArray, List.set_cons_zero, List.set_cons_succ]
    refine wpAnyH_ready (rs := [5]) (by kernel_rfl) (by simp) ?_
    refine AllReadyH.cons rfl (fun K hK => ?_) AllReadyH.nil
    go_simp
    (go_at_call 27; refine (distances_any k s A n c L HN.out hc HO.out hs.1 hs.2 _ (K1.out.bl (HBW.out.trans_ (by repeat' (first | exact Bl.refl _ | with_reducible assumption | with_reducible refine Bl.drew_ ?_ | with_reducible refine Bl.drewN_ ?_ _ | with_reducible refine Bl.alloc_ ?_ _ | with_reducible refine Bl.trans_ ?_ (by assumption) | with_reducible refine Bl.trans_ ?_ (And.left (by assumption))))))).mono ?_; rintro e w2 ⟨E, rfl, hE, hEd, hb2⟩; have hix := fun wx => (by have h := index24 E hE u (by omega) wx; rw [HIX.out E hE hEd] at h; exact h))
    try (go_wp2_with fail)
    refine hK.out _ _ ?_ (fun hHeld => ?_)
    · (exact HSH.out _ (by repeat' (first | exact Bl.refl _ | with_reducible assumption | with_reducible refine Bl.drew_ ?_ | with_reducible refine Bl.drewN_ ?_ _ | with_reducible refine Bl.alloc_ ?_ _ | with_reducible refine Bl.trans_ ?_ (by assumption) | with_reducible refine Bl.trans_ ?_ (And.left (by assumption)))))
    clear hK K
    try simp only [Act.put, List.getElem_toArray, List.getElem_cons_succ, List.getElem_cons_zero, List.setIfInBounds_toArray, List.set_cons_zero, List.set_cons_succ]
    refine wpAnyH_take (i := 7) (v := ?_) rfl (by kernel_rfl) (by kernel_rfl) (by kernel_rfl) (fun _ _ _ h => h) (Or.inl ⟨by kernel_rfl, ?_⟩) (by assumption) ?_
    rotate_left
    · (intro wx hSw; (try dsimp only at hSw); go_simp; try (with_reducible rfl))
    try simp only [Act.put, List.getElem_toArray, List.getElem_cons_succ, List.getElem_cons_zero, List.setIfInBounds_toArray, List.set_cons_zero, List.set_cons_succ]
    refine wpAnyH_ready (rs := [8]) (by kernel_rfl) (by simp) ?_
    refine AllReadyH.cons rfl (fun K hK => ?_) AllReadyH.nil
    go_simp
    (go_at_call 32; refine (within_any k s u dt A n c L HN.out hc HO.out hs ht _ hm (K1.out.bl (HBW.out.trans_ (by repeat' (first | exact Bl.refl _ | with_reducible assumption | with_reducible refine Bl.drew_ ?_ | with_reducible refine Bl.drewN_ ?_ _ | with_reducible refine Bl.alloc_ ?_ _ | with_reducible refine Bl.trans_ ?_ (by assumption) | with_reducible refine Bl.trans_ ?_ (And.left (by assumption))))))).mono ?_; rintro e w3 ⟨v, rfl, hv, hb3⟩)
    try (go_wp2_with fail)
    refine hK.out _ _ ?_ (fun hHeld => ?_)
    · (exact HSH.out _ (by repeat' (first | exact Bl.refl _ | with_reducible assumption | with_reducible refine Bl.drew_ ?_ | with_reducible refine Bl.drewN_ ?_ _ | with_reducible refine Bl.alloc_ ?_ _ | with_reducible refine Bl.trans_ ?_ (by assumption) | with_reducible refine Bl.trans_ ?_ (And.left (by assumption)))))
    clear hK K
    try simp only [Act.put, List.getElem_toArray, List.getElem_cons_succ, List.getElem_cons_zero, List.setIfInBounds_toArray, List.set_cons_zero, List.set_cons_succ]
    refine wpAnyH_take (i := 9) (v := ?_) rfl (by kernel_rfl) (by kernel_rfl) (by kernel_rfl) (fun _ _ _ h => h) (Or.inl ⟨by kernel_rfl, ?_⟩) (by assumption) ?_
    rotate_left
    · (intro wx hSw; (try dsimp only at hSw); go_simp; try (with_reducible rfl))
    try simp only [Act.put, List.getElem_toArray, List.getElem_cons_succ, List.getElem_cons_zero, List.setIfInBounds_toArray, List.set_cons_zero, List.set_cons_succ]
    refine wpAnyH_done (by kernel_rfl) ?_ _
    go_wp2
    go_ret
    exact ⟨v, rfl, by rw [HB.out]; exact hv.low (HBW.out.trans_ (by repeat' (first | exact Bl.refl _ | with_reducible assumption | with_reducible refine Bl.drew_ ?_ | with_reducible refine Bl.drewN_ ?_ _ | with_reducible refine Bl.alloc_ ?_ _ | with_reducible refine Bl.trans_ ?_ (by assumption) | with_reducible refine Bl.trans_ ?_ (And.left (by assumption))))).size, HBW.out.trans_ (by repeat' (first | exact Bl.refl _ | with_reducible assumption | with_reducible refine Bl.drew_ ?_ | with_reducible refine Bl.drewN_ ?_ _ | with_reducible refine Bl.alloc_ ?_ _ | with_reducible refine Bl.trans_ ?_ (by assumption) | with_reducible refine Bl.trans_ ?_ (And.left (by assumption))))⟩

end Go.Proofs.Ytoojgbkhnondeaa

set_option linter.unusedSimpArgs false
set_option linter.unusedVariables false
namespace Go.Proofs.Ytoojgbkhnondeaa
open Go.RowKit

theorem onL_turned {N s t : Int} {L : List Arc3} (ho : okB N L = true) : onL N (revL L) t s = onL N L s t := by
  have e : has2 N (revL L) t s = has2 N L s t := by
    unfold has2
    rw [ho, revL_ok ho]
    simp [and_comm]
  unfold onL
  rw [e]
  by_cases h : has2 N L s t = true
  · rw [if_pos h, if_pos h]
    obtain ⟨-, hs, ht⟩ := has2_of h
    unfold withinL withinD
    rw [revL_revL ho, distL_of_turned ho hs ht]
    congr 1
    funext v
    unfold byB
    rw [decide_eq_decide]
    constructor <;> (intro h; omega)
  · rw [if_neg h, if_neg h]

set_option maxHeartbeats 400000 in
theorem has_yes (A : Option Addr) (c : Nat) (V : List Int) (n : Nat) (hn : n = V.length) (x : Int) (hx : x ∈ V) (w : World) (hm : n ≤ 9223372036854775807) (H1 : IntsAt w w.heap.size A V) :
    Calls Try.prog 22 #[.slice A n c, .int .i64 x] w fun e w' => e = .returned (.bool true) ∧ Bl w w' := by
  have K1 := Lib.hid H1
  have HN := Lib.hid hn
  have HX := Lib.hid hx
  clear H1 hn hx
  go_enter Try.func22, Try.ntmps22
  go_wp2
  go_loopw [5] (fun i wr => ∃ k : Nat, k ≤ n ∧ i = .int .i64 k ∧ Bl w wr ∧ Hid (∀ j (h : j < V.length), j < k → V[j] ≠ x)) (fun i _ => n - (intOf i).toNat)
  case atStart => exact ⟨0, by omega, rfl, Bl.refl w, Lib.hid (fun j _ h => by omega)⟩
  case round =>
    obtain ⟨k, hk, rfl, hbl, hno⟩ := hrel
    by_cases hlt : k < n
    · have hkl : k < V.length := by have := HN.out; omega
      obtain ⟨g1, o1, rfl, hg1, hc1⟩ := K1.out.cell (by omega)
      have p1 := hc1 k hkl
      clear hc1
      rw [← (bcell hbl).1 _ _ hg1] at p1
      have HY := Lib.hid (fun h : V[k] ≠ x => (show ∀ j (h : j < V.length), j < k + 1 → V[j] ≠ x from fun j hj hjk => by
        by_cases e : j = k
        · subst e; exact h
        · exact hno.out j hj (by omega)))
      generalize V[k] = y at p1 HY
      have i1 : (0 : Int) ≤ (k : Int) := by omega
      have i2 : (k : Int) < (n : Int) := by omega
      by_cases e : y = x
      · have b1 : (y == x) = true := by simpa using e
        clear e HY
        go_wp2
        go_ret
        exact ⟨rfl, hbl⟩
      · have b1 : (y == x) = false := by simpa using e
        have HZ := Lib.hid (HY.out e)
        clear e HY
        go_wp2
        go_roundw
        case rel => exact ⟨k + 1, by omega, by go_num, hbl, HZ⟩
        case measure => simp [intOf]; omega
    · obtain ⟨j, hj, e⟩ := List.getElem_of_mem HX.out
      exact absurd e (hno.out j hj (by have := HN.out; omega))

set_option maxRecDepth 100000 in
set_option maxHeartbeats 1000000 in
theorem drawOnShortest_any (A : Option Addr) (n c : Nat) (w : World) (hn : n ≤ 1099511627776) (H : BytesAt w A n) :
    Calls Try.prog 17 #[.slice A n c] w (DrawnG2 w) := by
  have K := Lib.hid H
  clear H
  go_enter Try.func17, Try.ntmps17
  go_wp2_with fail
  refine (drawDistOf_any A n c _ hn (K.out.bl (by repeat' (first | exact Bl.refl _ | with_reducible assumption | with_reducible refine Bl.drew_ ?_ | with_reducible refine Bl.drewN_ ?_ _ | with_reducible refine Bl.alloc_ ?_ _ | with_reducible refine Bl.trans_ ?_ (by assumption) | with_reducible refine Bl.trans_ ?_ (And.left (by assumption)))))).mono ?_
  rintro e w1 ⟨N, A', l, c', L, s, t, rfl, hd, hs, ht, hb⟩
  have D := Lib.hid hd
  have S1 := Lib.hid hs
  have S2 := Lib.hid ht
  have B := Lib.hid hb
  obtain ⟨r0, r1, fr0, fr1⟩ := Two.facts ((Two.new w (.int .i64 0) (.slice none 0 0)).bl hb)
  have sz := hb.size
  simp only [World.size_alloc] at sz
  clear hd hs ht hb
  go_wp2
  refine bodyPost_ret (v := .tuple #[.agg #[.int .i64 N, .slice A' l c'], .int .i64 s, .int .i64 t]) (by simp [results, Try.results17, go_sem, r0, r1, fr0, fr1]) rfl ?_
  have DD := D.out
  rw [World.size_alloc] at DD
  exact ⟨N, A', l, c', L, s, t, rfl, ⟨DD.1, DD.2.1, DD.2.2.1, ((DD.2.2.2.set_ (by show w.heap.size < w.heap.size + 1; omega) _).set_ (by show w.heap.size < w.heap.size + 1; omega) _).low (by omega)⟩, S1.out, S2.out, (((Bl.alloc_ (Bl.refl w) _).trans_ B.out).set_ (Nat.le_refl _) _).set_ (Nat.le_refl _) _⟩

set_option maxRecDepth 100000 in
set_option maxHeartbeats 4000000 in
theorem lawOnTurned_any (A : Option Addr) (n c : Nat) (w : World) (H : BytesAt w A n) :
    Calls Try.prog 5 #[.slice A n c] w fun e w' => e = .returned (.bool true) ∧ Bl w w' := by
  have K := Lib.hid H
  clear H
  by_cases hbig : (1048576 : Int) < (n : Int)
  · have hb : decide ((1048576 : Int) < (n : Int)) = true := by simpa using hbig
    clear hbig
    go_enter Try.func5, Try.ntmps5
    go_wp2_with (go_at_call 7; refine (big_any _ _ _ _).mono ?_; rintro e w' ⟨rfl, rfl⟩)
    go_ret
    exact ⟨rfl, (by repeat' (first | exact Bl.refl _ | with_reducible assumption | with_reducible refine Bl.drew_ ?_ | with_reducible refine Bl.drewN_ ?_ _ | with_reducible refine Bl.alloc_ ?_ _ | with_reducible refine Bl.trans_ ?_ (by assumption) | with_reducible refine Bl.trans_ ?_ (And.left (by assumption))))⟩
  · have hb : decide ((1048576 : Int) < (n : Int)) = false := by simpa using hbig
    have hn : n ≤ 1099511627776 := by omega
    clear hbig
    go_enter Try.func5, Try.ntmps5
    go_wp2_with fail
    refine (big_any _ _ _ _).mono ?_
    rintro e w1 ⟨rfl, rfl⟩
    go_wp2_with fail
    refine (drawOnShortest_any A n c _ hn K.out).mono ?_
    rintro e w1 ⟨N, A', l, c', L, s, t, rfl, hd, hs, ht, hb1⟩
    obtain ⟨ha, hlc⟩ := hd.arcs
    have HL := Lib.hid hd.1
    have hl200 := hd.2.1
    have HA := Lib.hid (ha.bl (Bl.alloc_ (Bl.refl w1) (.cells #[.int .i64 N, .slice A' l c'] 26)))
    have B1 := Lib.hid (hb1.alloc_ (.cells #[.int .i64 N, .slice A' l c'] 26))
    clear hd hs ht hb1 ha
    go_wp2_with fail
    refine (implOnShortest_any N s t A' l c' L HL.out hlc _ (by omega) HA.out).mono ?_
    rintro e w2 ⟨v2, rfl, hv2, hb2⟩
    obtain ⟨A2, c2, rfl, -, hi2, -, -⟩ := OwnN.shape hv2
    have I2 := Lib.hid hi2
    obtain ⟨k, hk⟩ : ∃ k, k = (onL N L s t).length := ⟨_, rfl⟩
    have hk20 : k ≤ 1048576 := by rw [hk]; exact onL_len N L s t
    rw [← hk]
    have HK := Lib.hid hk
    obtain ⟨q0, q1⟩ := box2 hb2
    clear hv2 hi2 hk
    go_wp2_with fail
    refine (specOnShortest_any N s t A' l c' L HL.out hlc _ (by omega) (HA.out.bl hb2)).mono ?_
    rintro e w3 ⟨v3, rfl, hv3, hb3⟩
    obtain ⟨A3, c3, rfl, -, hi3, -, -⟩ := OwnN.shape hv3
    have I3 := Lib.hid hi3
    rw [← HK.out]
    clear hv3 hi3 q0 q1
    go_wp2_with fail
    refine (sameInts_yes A2 A3 c2 c3 _ k HK.out _ (by omega) (I2.out.bl hb3) I3.out).mono ?_
    rintro e w4 ⟨rfl, hb4⟩
    have P4 := Lib.hid (hb2.trans_ (hb3.trans_ hb4))
    have I4 := Lib.hid (I2.out.bl (hb3.trans_ hb4))
    clear hb2 hb3 hb4
    obtain ⟨q0, q1⟩ := box2 P4.out
    go_wp2_with fail
    refine (specOk_any N A' l c' L HL.out _ (by omega) (HA.out.bl P4.out)).mono ?_
    rintro e w5 ⟨rfl, hb5⟩
    have P5 := Lib.hid (P4.out.trans_ hb5)
    have I5 := Lib.hid (I4.out.bl hb5)
    obtain ⟨q0, q1⟩ := box2 P5.out
    cases ho : okB N L with
    | false =>
      have HO := Lib.hid ho
      clear ho hb5
      go_wp2_with fail
      refine (specOnShortest_any N s t A' l c' L HL.out hlc _ (by omega) (HA.out.bl P5.out)).mono ?_
      rintro e w6 ⟨v6, rfl, hv6, hb6⟩
      obtain ⟨A6, c6, rfl, -, hi6, -, -⟩ := OwnN.shape hv6
      have I6 := Lib.hid hi6
      rw [← HK.out]
      clear hv6 hi6
      go_wp2_with fail
      refine (sameInts_yes A2 A6 c2 c6 _ k HK.out _ (by omega) (I5.out.bl hb6) I6.out).mono ?_
      rintro e w7 ⟨rfl, hb7⟩
      go_wp2
      go_ret
      exact ⟨rfl, B1.out.trans_ (P5.out.trans_ (hb6.trans_ hb7))⟩
    | true =>
      have HO := Lib.hid ho
      have HRL := Lib.hid (revL_len (okB_elim ho).2.2.2.2)
      have HT := Lib.hid (onL_turned (s := s) (t := t) ho)
      clear ho hb5
      go_wp2_with fail
      refine (implReversed_any N A' l c' L HL.out _ (by omega) (HA.out.bl P5.out)).mono ?_
      rintro e w6 ⟨v6, rfl, hv6, hb6⟩
      rw [show revN N L = N from if_pos HO.out]
      rw [show revG N L = revL L from if_pos HO.out] at hv6
      have hcap := OwnA.cap' hv6
      obtain ⟨A6, c6, rfl, ha6, -⟩ := hv6.shape
      have V6 := Lib.hid ha6
      have HC6 := Lib.hid (hcap _ _ _ rfl)
      clear hv6 hcap ha6 q0 q1
      go_wp2_with fail
      refine (implOnShortest_any N t s A6 (revL L).length c6 (revL L) rfl HC6.out _ (by rw [HRL.out]; have := HL.out; omega) V6.out).mono ?_
      rintro e w7 ⟨v7, rfl, hv7, hb7⟩
      rw [HT.out] at hv7
      obtain ⟨A7, c7, rfl, -, hi7, -, -⟩ := OwnN.shape hv7
      have I7 := Lib.hid hi7
      have P7 := Lib.hid (P5.out.trans_ (hb6.trans_ hb7))
      have J7 := Lib.hid (I5.out.bl (hb6.trans_ hb7))
      rw [← HK.out]
      clear hv7 hi7 hb6 hb7
      generalize onL N L s t = V at *
      have hkk : ((k : Int) == (k : Int)) = true := by simp
      go_wp2_with fail
      go_loopw [8] (fun i wr => ∃ j : Nat, j ≤ k ∧ i = .int .i64 j ∧ Bl w7 wr) (fun i _ => k - (intOf i).toNat)
      case atStart => exact ⟨0, by omega, rfl, Bl.refl _⟩
      case round =>
        obtain ⟨j, hj, rfl, hbl⟩ := hrel
        by_cases hlt : j < k
        · have hjl : j < V.length := by have := HK.out; omega
          obtain ⟨g1, o1, rfl, hg1, hc1⟩ := (I7.out.bl hbl).cell (by omega)
          have p1 := hc1 j hjl
          clear hc1
          have HM := Lib.hid (List.getElem_mem hjl)
          generalize V[j] = x at p1 HM
          have i1 : (0 : Int) ≤ (j : Int) := by omega
          have i2 : (j : Int) < (k : Int) := by omega
          go_wp2_with fail
          refine (has_yes A2 c2 V k HK.out x HM.out _ (by omega) (J7.out.bl hbl)).mono ?_
          rintro e w8 ⟨rfl, hb8⟩
          go_wp2
          go_roundw
          case rel => exact ⟨j + 1, by omega, by go_num, hbl.trans_ hb8⟩
          case measure => simp [intOf]; omega
        · obtain rfl : j = k := by omega
          go_wp2
          go_ret
          exact ⟨rfl, B1.out.trans_ (P7.out.trans_ hbl)⟩

end Go.Proofs.Ytoojgbkhnondeaa

set_option linter.unusedSimpArgs false
set_option linter.unusedVariables false
namespace Go.Proofs.Ytoojgbkhnondeaa
open Go.ChangeShapes Go.WideShapes Go.ChangeAt Go.RowKit

set_option maxRecDepth 100000 in
theorem fnOnTurned_lifted (os : Os) (started : os.Started) (H : Type) (enc : TypeId × Value → H) :
    ReturnsInHanded {} Try.checked os 5 .any (Rows.fnOnTurnedSpec.pre6 enc Try.prog Try.f5 Rows.fnOnTurnedRow.domain false) (Rows.fnOnTurnedSpec.post enc Try.prog Try.f5 false true false false) := by
  refine returnsInHanded_of_change (C := Try.checked) Try.own_ started (by kernel_rfl) Try.func5
    (ChangeSpec.witness6 (enc := enc) (C := Try.checked) false ⟨#[], #[.slice none 0 0], []⟩ 8 (by kernel_rfl) (by kernel_rfl) (by kernel_rfl) (by kernel_rfl)) ?_
  intro W base args ds gs before hval0 hW hcnd _
  have hval : ∀ (j : Nat) t v, Try.f5.params[j]? = some t → args[j]? = some v → Value.okWide Try.prog W .any base t v := hval0
  have hW' := hW
  obtain ⟨p, q, hA0, hV, rfl, hfz, hnd⟩ := hW
  have hA : DataW.TrodAll enc Try.prog W 0 (fun _ => true) true Try.f5.params.toList args.toList ds p := hA0
  rw [Try.params5] at hA hval
  obtain ⟨v0, vs0, d0, ds0, p0, q0, hargs, rfl, rfl, h0, r0⟩ := trodAll_cons hA
  obtain ⟨rfl, rfl, rfl⟩ := trodAll_nil r0
  obtain rfl : args = #[v0] := by cases args; simp_all
  obtain ⟨rfl, rfl⟩ := trodVars_none hV
  have k0 := h0
  have lt0 : ∀ x ∈ p0, x.block < W.heap.size := by obtain ⟨m, hm⟩ := k0; exact DataW.trod_lt m _ _ _ hm
  obtain ⟨A, n, c, rfl, hb, hg⟩ := open_bytes (hval 0 22 v0 rfl rfl) h0
  clear hA0 hval0
  refine (lawOnTurned_any A n c W hb).mono fun e W' ⟨he, bel0⟩ => ?_
  have bel : Below W.heap.size W W' := bel0
  subst he
  exact ⟨_, rfl, _, _, _, [], _, [], hW', trodAll_mk1 (shut_bool Try.underlying4 _), (trodAll_cons_mk (Below.trod Try.laidOut_ (by kernel_rfl) (of_decide_eq_true (by kernel_rfl)) k0 bel lt0) trodAll_mk0), rfl, bel.frame _, fun h => by cases h⟩

theorem fnOnTurned_holds : Rows.FnOnTurnedSaid :=
  OpenClaim.holds_of_wide 5 Try.f5 rfl rfl rfl rfl rfl rfl rfl ⟨rfl, rfl, rfl, rfl, rfl⟩ rfl rfl rfl rfl rfl (by kernel_rfl) Try.func5 (by kernel_rfl)
    (of_decide_eq_true (by kernel_rfl)) (by unfold Func.isWrapper; first | (rw [if_pos (by decide +kernel)]; kernel_rfl) | (rw [if_neg (by decide +kernel)]; exact ⟨rfl, rfl⟩))
    (fun os started H enc _ => fnOnTurned_lifted os started H enc)

end Go.Proofs.Ytoojgbkhnondeaa
