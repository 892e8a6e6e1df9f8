/-
  What is proved here: the laws' small functions that hold lists and graphs against each other, and ask for nodes; plain facts on distances there and back: by way of a third node it is no nearer; nodes by way of which it is at most so far; lengths of paths; plain facts on weights, on the nearest way over an arc, and on the arcs of all nodes, one behind the other; plain facts on arcs that are given a weight once and again; spec.Weighed answers as the code does; the walk of the law FnWeighedTwice: at every code that can be read it returns true and leaves what was there as it was; at every code the law FnWeighedTwice returns true, and the argument reads as it did. No conditions. No conditions beyond those that each theorem states.
-/
import Derived.Test.YtkfladkncfbgmaaNS2
import Derived.Test.YtkfladkncfbgmaaDR
import Derived.Test.YtkfladkncfbgmaaNF4
import Derived.Test.YtkfladkncfbgmaaG2
import Derived.Test.YtkfladkncfbgmaaG3
import Derived.Test.YtkfladkncfbgmaaDW
import Derived.Test.YtkfladkncfbgmaaG2w
import Derived.Test.YtkfladkncfbgmaaR9
set_option linter.unusedSimpArgs false
set_option linter.unusedVariables false
namespace Go.Proofs.Ytkfladkncfbgmaa
open Go.RowKit

set_option maxHeartbeats 400000 in
theorem sameInts_yes (A1 A2 : Option Addr) (c1 c2 : Nat) (V : List Int) (n : Nat) (hn : n = V.length) (w : World) (hm : n ≤ 9223372036854775807) (H1 : IntsAt w w.heap.size A1 V) (H2 : IntsAt w w.heap.size A2 V) :
    Calls Try.prog 18 #[.slice A1 n c1, .slice A2 n c2] w fun e w' => e = .returned (.bool true) ∧ Bl w w' := by
  have K1 := Lib.hid H1
  have K2 := Lib.hid H2
  have HN := Lib.hid hn
  have hnn : ((n : Int) != (n : Int)) = false := by simp
  clear H1 H2 hn
  go_enter Try.func18, Try.ntmps18
  go_wp2
  go_loopw [5] (fun i wr => ∃ k : Nat, k ≤ n ∧ i = .int .i64 k ∧ Bl w wr) (fun i _ => n - (intOf i).toNat)
  case atStart => exact ⟨0, by omega, rfl, Bl.refl w⟩
  case round =>
    obtain ⟨k, hk, rfl, hbl⟩ := hrel
    by_cases hlt : k < n
    · have hkl : k < V.length := by have := HN.out; omega
      obtain ⟨g1, o1, rfl, hg1, hc1⟩ := K1.out.cell (by omega)
      obtain ⟨g2, o2, rfl, hg2, hc2⟩ := K2.out.cell (by omega)
      have p1 := hc1 k hkl
      have p2 := hc2 k hkl
      clear hc1 hc2
      rw [← (bcell hbl).1 _ _ hg1] at p1
      rw [← (bcell hbl).1 _ _ hg2] at p2
      generalize V[k] = x at p1 p2
      have hxx : (x != x) = false := by simp
      have i1 : (0 : Int) ≤ (k : Int) := by omega
      have i2 : (k : Int) < (n : Int) := by omega
      go_wp2
      go_quiet (fail)
      go_wp2
      go_roundw
      case rel => exact ⟨k + 1, by omega, by go_num, (by repeat' (first | exact Bl.refl _ | with_reducible assumption | with_reducible refine Bl.drew_ ?_ | with_reducible refine Bl.drewN_ ?_ _ | with_reducible refine Bl.alloc_ ?_ _ | with_reducible refine Bl.trans_ ?_ (by assumption) | with_reducible refine Bl.trans_ ?_ (And.left (by assumption))))⟩
      case measure => simp [intOf]; omega
    · go_wp2
      go_ret
      exact ⟨rfl, hbl⟩

set_option maxHeartbeats 400000 in
theorem sameArcs_yes (A1 A2 : Option Addr) (c1 c2 : Nat) (L : List Arc3) (n : Nat) (hn : n = L.length) (w : World) (hm : n ≤ 9223372036854775807) (H1 : ArcsAt w w.heap.size A1 L) (H2 : ArcsAt w w.heap.size A2 L) :
    Calls Try.prog 27 #[.slice A1 n c1, .slice A2 n c2] w fun e w' => e = .returned (.bool true) ∧ Bl w w' := by
  have K1 := Lib.hid H1
  have K2 := Lib.hid H2
  have HN := Lib.hid hn
  have hnn : ((n : Int) != (n : Int)) = false := by simp
  clear H1 H2 hn
  go_enter Try.func27, Try.ntmps27
  go_wp2
  go_loopw [5] (fun i wr => ∃ k : Nat, k ≤ n ∧ i = .int .i64 k ∧ Bl w wr) (fun i _ => n - (intOf i).toNat)
  case atStart => exact ⟨0, by omega, rfl, Bl.refl w⟩
  case round =>
    obtain ⟨k, hk, rfl, hbl⟩ := hrel
    by_cases hlt : k < n
    · have hkl : k < L.length := by have := HN.out; omega
      obtain ⟨g1, o1, rfl, hg1, hc1⟩ := K1.out (by omega)
      obtain ⟨g2, o2, rfl, hg2, hc2⟩ := K2.out (by omega)
      obtain ⟨p1, p2, p3⟩ := hc1 k hkl
      obtain ⟨q1, q2, q3⟩ := hc2 k hkl
      clear hc1 hc2
      rw [← (bcell hbl).1 _ _ hg1] at p1 p2 p3
      rw [← (bcell hbl).1 _ _ hg2] at q1 q2 q3
      generalize L[k].1 = x at p1 q1
      generalize L[k].2.1 = y at p2 q2
      generalize L[k].2.2 = z at p3 q3
      have e1 : (x == x) = true := by simp
      have e2 : (y == y) = true := by simp
      have e3 : (z == z) = true := by simp
      have i1 : (0 : Int) ≤ (k : Int) := by omega
      have i2 : (k : Int) < (n : Int) := by omega
      go_wp2
      go_quiet (fail)
      go_wp2
      go_roundw
      case rel => exact ⟨k + 1, by omega, by go_num, (by repeat' (first | exact Bl.refl _ | with_reducible assumption | with_reducible refine Bl.drew_ ?_ | with_reducible refine Bl.drewN_ ?_ _ | with_reducible refine Bl.alloc_ ?_ _ | with_reducible refine Bl.trans_ ?_ (by assumption) | with_reducible refine Bl.trans_ ?_ (And.left (by assumption))))⟩
      case measure => simp [intOf]; omega
    · go_wp2
      go_ret
      exact ⟨rfl, hbl⟩

set_option maxHeartbeats 400000 in
theorem sameGraph_yes (N : Int) (A1 A2 : Option Addr) (c1 c2 : Nat) (L : List Arc3) (n : Nat) (hn : n = L.length) (w : World) (hm : n ≤ 9223372036854775807) (H1 : ArcsAt w w.heap.size A1 L) (H2 : ArcsAt w w.heap.size A2 L) :
    Calls Try.prog 34 #[.agg #[.int .i64 N, .slice A1 n c1], .agg #[.int .i64 N, .slice A2 n c2]] w fun e w' => e = .returned (.bool true) ∧ Bl w w' := by
  have K1 := Lib.hid H1
  have K2 := Lib.hid H2
  have HN := Lib.hid hn
  have hnn : (N == N) = true := by simp
  clear H1 H2 hn
  go_enter Try.func34, Try.ntmps34
  go_wp2_with fail
  refine (sameArcs_yes A1 A2 c1 c2 L n HN.out _ hm (K1.out.bl (by repeat' (first | exact Bl.refl _ | with_reducible assumption | with_reducible refine Bl.drew_ ?_ | with_reducible refine Bl.drewN_ ?_ _ | with_reducible refine Bl.alloc_ ?_ _ | with_reducible refine Bl.trans_ ?_ (by assumption) | with_reducible refine Bl.trans_ ?_ (And.left (by assumption))))) (K2.out.bl (by repeat' (first | exact Bl.refl _ | with_reducible assumption | with_reducible refine Bl.drew_ ?_ | with_reducible refine Bl.drewN_ ?_ _ | with_reducible refine Bl.alloc_ ?_ _ | with_reducible refine Bl.trans_ ?_ (by assumption) | with_reducible refine Bl.trans_ ?_ (And.left (by assumption)))))).mono ?_
  rintro e w1 ⟨rfl, hb1⟩
  go_wp2
  go_ret
  exact ⟨rfl, (Bl.alloc_ (Bl.alloc_ (Bl.refl w) _) _).trans_ hb1⟩

set_option maxHeartbeats 400000 in
theorem nodeLaw_any (N v : Int) (A : Option Addr) (n c : Nat) (L : List Arc3) (hn : n = L.length) (w : World) (hm : n ≤ 9223372036854775807) (H1 : ArcsAt w w.heap.size A L) :
    Calls Try.prog 23 #[.agg #[.int .i64 N, .slice A n c], .int .i64 v] w fun e w' => e = .returned (.bool (has1 N L v)) ∧ Bl w w' := by
  have K1 := Lib.hid H1
  have HN := Lib.hid hn
  clear H1 hn
  cases ho : okB N L with
  | false =>
    have HO := Lib.hid ho
    clear ho
    go_enter Try.func23, Try.ntmps23
    go_wp2_with fail
    refine (specOk_any N A n c L HN.out _ hm (K1.out.bl (by repeat' (first | exact Bl.refl _ | with_reducible assumption | with_reducible refine Bl.drew_ ?_ | with_reducible refine Bl.drewN_ ?_ _ | with_reducible refine Bl.alloc_ ?_ _ | with_reducible refine Bl.trans_ ?_ (by assumption) | with_reducible refine Bl.trans_ ?_ (And.left (by assumption)))))).mono ?_
    rintro e w1 ⟨rfl, hb1⟩
    rw [HO.out]
    go_wp2
    go_ret
    exact ⟨ret_bool (by unfold has1; rw [HO.out]; rfl), (Bl.alloc_ (Bl.refl w) _).trans_ hb1⟩
  | true =>
    have HO := Lib.hid ho
    clear ho
    by_cases h0 : 0 ≤ v
    · have b0 : decide (0 ≤ v) = true := by simpa using h0
      by_cases h1 : v < N
      · have b1 : decide (v < N) = true := by simpa using h1
        go_enter Try.func23, Try.ntmps23
        go_wp2_with fail
        refine (specOk_any N A n c L HN.out _ hm (K1.out.bl (by repeat' (first | exact Bl.refl _ | with_reducible assumption | with_reducible refine Bl.drew_ ?_ | with_reducible refine Bl.drewN_ ?_ _ | with_reducible refine Bl.alloc_ ?_ _ | with_reducible refine Bl.trans_ ?_ (by assumption) | with_reducible refine Bl.trans_ ?_ (And.left (by assumption)))))).mono ?_
        rintro e w1 ⟨rfl, hb1⟩
        rw [HO.out]
        obtain ⟨q0, q1⟩ := box2 hb1
        go_wp2
        go_ret
        exact ⟨ret_bool (by unfold has1; rw [HO.out, Bool.true_and]; symm; simp; omega), (Bl.alloc_ (Bl.refl w) _).trans_ hb1⟩
      · have b1 : decide (v < N) = false := by simpa using h1
        go_enter Try.func23, Try.ntmps23
        go_wp2_with fail
        refine (specOk_any N A n c L HN.out _ hm (K1.out.bl (by repeat' (first | exact Bl.refl _ | with_reducible assumption | with_reducible refine Bl.drew_ ?_ | with_reducible refine Bl.drewN_ ?_ _ | with_reducible refine Bl.alloc_ ?_ _ | with_reducible refine Bl.trans_ ?_ (by assumption) | with_reducible refine Bl.trans_ ?_ (And.left (by assumption)))))).mono ?_
        rintro e w1 ⟨rfl, hb1⟩
        rw [HO.out]
        obtain ⟨q0, q1⟩ := box2 hb1
        go_wp2
        go_ret
        exact ⟨ret_bool (by unfold has1; rw [HO.out, Bool.true_and]; symm; simp; omega), (Bl.alloc_ (Bl.refl w) _).trans_ hb1⟩
    · have b0 : decide (0 ≤ v) = false := by simpa using h0
      go_enter Try.func23, Try.ntmps23
      go_wp2_with fail
      refine (specOk_any N A n c L HN.out _ hm (K1.out.bl (by repeat' (first | exact Bl.refl _ | with_reducible assumption | with_reducible refine Bl.drew_ ?_ | with_reducible refine Bl.drewN_ ?_ _ | with_reducible refine Bl.alloc_ ?_ _ | with_reducible refine Bl.trans_ ?_ (by assumption) | with_reducible refine Bl.trans_ ?_ (And.left (by assumption)))))).mono ?_
      rintro e w1 ⟨rfl, hb1⟩
      rw [HO.out]
      obtain ⟨q0, q1⟩ := box2 hb1
      go_wp2
      go_ret
      exact ⟨ret_bool (by unfold has1; rw [HO.out, Bool.true_and]; symm; simp; omega), (Bl.alloc_ (Bl.refl w) _).trans_ hb1⟩

end Go.Proofs.Ytkfladkncfbgmaa

set_option linter.unusedSimpArgs false
set_option linter.unusedVariables false
namespace Go.Proofs.Ytkfladkncfbgmaa
open Go.RowKit

theorem IsDist.tri {N : Int} {L : List Arc3} {s t : Int} {D E : List Int} (ho : okB N L = true) (hD : IsDist N L s D) (hE : IsDist N (revL L) t E) :
    ∀ (n : Nat) (v : Int), 0 ≤ v → v < N → (dAt E v).toNat = n → 0 ≤ dAt E v → 0 ≤ dAt D v → 0 ≤ dAt D t ∧ dAt D t ≤ dAt D v + dAt E v := by
  have hp := (okB_elim ho).2.2.2.2
  have hin := arcsIn_of_ok ho
  intro n
  induction n using Nat.strongRecOn with
  | ind n ih =>
    intro v h0 h1 hn hb ha
    rcases hE.back v h0 h1 hb with rfl | ⟨r, hr, e1, e2, e3⟩
    · have := hE.start
      omega
    · have hm := (revL_mem hp).1 hr
      obtain ⟨a0, a1, a2, a3, a4, a5⟩ := hin _ hm
      simp only [turnA] at a0 a1 a2 a3 a4 a5
      have := hD.arc _ hm (by simp only [turnA]; rw [e1]; exact ha)
      simp only [turnA] at this
      rw [e1] at this
      obtain ⟨x, y⟩ := ih (dAt E r.1).toNat (by omega) r.1 a2 a3 rfl e2 this.1
      omega
/-- In the graph that is turned it is as far the other way round. -/
theorem IsDist.turned {N : Int} {L : List Arc3} {s t : Int} {D E : List Int} (ho : okB N L = true) (hs : 0 ≤ s ∧ s < N) (ht : 0 ≤ t ∧ t < N) (hD : IsDist N L s D) (hE : IsDist N (revL L) t E) : dAt E s = dAt D t := by
  have h1 := fun h => hD.tri ho hE _ s hs.1 hs.2 rfl h (by rw [hD.start]; omega)
  have hD' : IsDist N (revL (revL L)) s D := by rw [revL_revL ho]; exact hD
  have h2 := fun h => hE.tri (revL_ok ho) hD' _ t ht.1 ht.2 rfl h (by rw [hE.start]; omega)
  have e1 := hD.start
  have e2 := hE.start
  have l1 := hD.low t
  have l2 := hE.low s
  by_cases p : 0 ≤ dAt E s
  · obtain ⟨a, b⟩ := h1 p
    obtain ⟨c, d⟩ := h2 a
    omega
  · by_cases q : 0 ≤ dAt D t
    · obtain ⟨c, d⟩ := h2 q
      omega
    · omega

/-- The nodes of N, rising. -/
def nodesL (N : Int) : List Int := (List.range N.toNat).map Int.ofNat
/-- Is it by way of v at most so far? -/
def byB (D E : List Int) (m v : Int) : Bool := decide (0 ≤ dAt D v ∧ 0 ≤ dAt E v ∧ dAt D v + dAt E v ≤ m)
/-- The nodes by way of which it is at most so far. -/
def withinD (N : Int) (D E : List Int) (m : Int) : List Int := (nodesL N).filter (byB D E m)
def withinL (N : Int) (L : List Arc3) (s t m : Int) : List Int := withinD N (distL N L s) (distL N (revL L) t) m
theorem withinD_len (N : Int) (D E : List Int) (m : Int) : (withinD N D E m).length ≤ N.toNat := by
  unfold withinD
  exact Nat.le_trans (List.length_filter_le _ _) (by simp [nodesL])
/-- The first k of them. -/
def withinK (D E : List Int) (m : Int) (k : Nat) : List Int := ((List.range k).map Int.ofNat).filter (byB D E m)
theorem withinK_zero (D E : List Int) (m : Int) : withinK D E m 0 = [] := rfl
theorem withinK_yes {D E : List Int} {m : Int} {k : Nat} (h : byB D E m (k : Int) = true) : withinK D E m (k + 1) = withinK D E m k ++ [(k : Int)] := by
  unfold withinK
  rw [List.range_succ, List.map_append, List.filter_append]
  congr 1
  show List.filter _ [(k : Int)] = _
  rw [List.filter_cons, if_pos h]
  rfl
theorem withinK_no {D E : List Int} {m : Int} {k : Nat} (h : byB D E m (k : Int) = false) : withinK D E m (k + 1) = withinK D E m k := by
  unfold withinK
  rw [List.range_succ, List.map_append, List.filter_append]
  have : List.filter (byB D E m) (List.map Int.ofNat [k]) = [] := by
    show List.filter _ [(k : Int)] = _
    rw [List.filter_cons, if_neg (by rw [h]; simp)]
    rfl
  rw [this, List.append_nil]
theorem withinK_len (D E : List Int) (m : Int) (k : Nat) : (withinK D E m k).length ≤ k := by
  unfold withinK
  exact Nat.le_trans (List.length_filter_le _ _) (by simp)
theorem withinK_all (N : Int) (D E : List Int) (m : Int) : withinK D E m N.toNat = withinD N D E m := rfl
theorem mem_nodesL {N v : Int} : v ∈ nodesL N ↔ 0 ≤ v ∧ v < N := by
  unfold nodesL
  rw [List.mem_map]
  constructor
  · rintro ⟨k, hk, rfl⟩
    have := List.mem_range.1 hk
    simp
    omega
  · rintro ⟨h0, h1⟩
    exact ⟨v.toNat, List.mem_range.2 (by omega), by simp; omega⟩
theorem mem_withinD {N : Int} {D E : List Int} {m v : Int} : v ∈ withinD N D E m ↔ (0 ≤ v ∧ v < N) ∧ 0 ≤ dAt D v ∧ 0 ≤ dAt E v ∧ dAt D v + dAt E v ≤ m := by
  unfold withinD
  rw [List.mem_filter, mem_nodesL]
  simp [byB]

/-- The nodes of the shortest paths. -/
def onL (N : Int) (L : List Arc3) (s t : Int) : List Int := if has2 N L s t = true then withinL N L s t (dAt (distL N L s) t) else []
def betL (N : Int) (L : List Arc3) (s t m : Int) : List Int := if (has2 N L s t && decide (0 ≤ m ∧ m ≤ 24000)) = true then withinL N L s t m else []
theorem byB_on {N : Int} {L : List Arc3} {s t v : Int} {D E : List Int} (ho : okB N L = true) (hD : IsDist N L s D) (hE : IsDist N (revL L) t E) (h0 : 0 ≤ v) (h1 : v < N) : byB D E (dAt D t) v = decide (0 ≤ dAt D v ∧ 0 ≤ dAt E v ∧ dAt D v + dAt E v = dAt D t) := by
  unfold byB
  rw [Bool.eq_iff_iff]
  simp only [decide_eq_true_eq]
  constructor
  · rintro ⟨a, b, c⟩
    have := hD.tri ho hE _ v h0 h1 rfl b a
    omega
  · rintro ⟨a, b, c⟩
    omega
theorem byB_none {D E : List Int} {m v : Int} (h : m < 0) : byB D E m v = false := by
  unfold byB
  rw [decide_eq_false_iff_not]
  omega
theorem withinD_none {N : Int} {D E : List Int} {m : Int} (h : m < 0) : withinD N D E m = [] := by
  unfold withinD
  rw [List.filter_eq_nil_iff]
  intro v _
  rw [byB_none h]
  simp
theorem stepsL_len (L : List Arc3) (D : List Int) (t : Int) : ∀ (n : Nat) (v : Int), (dAt D v).toNat = n → (stepsL L D t v).length ≤ n := by
  intro n
  induction n using Nat.strongRecOn with
  | ind n ih =>
    intro v hn
    rw [stepsL]
    split
    · simp
    · split
      · simp
      · split
        · rename_i a _ h
          have := ih _ (by omega) a.2.1 rfl
          simp only [List.length_cons]
          omega
        · simp
theorem distL_of_turned {N s t : Int} {L : List Arc3} (ho : okB N L = true) (hs : 0 ≤ s ∧ s < N) (ht : 0 ≤ t ∧ t < N) : dAt (distL N (revL L) t) s = dAt (distL N L s) t :=
  IsDist.turned ho hs ht (distL_is (arcsIn_of_ok ho) (okB_elim ho).2.1 hs.1 hs.2) (distL_is (arcsIn_of_ok (revL_ok ho)) (okB_elim ho).2.1 ht.1 ht.2)

/-- The first of the shortest paths; none: there is none. -/
def pathL (N : Int) (L : List Arc3) (s t : Int) : List Int := if (has2 N L s t && decide (0 ≤ dAt (distL N (revL L) t) s)) = true then s :: stepsL L (distL N (revL L) t) t s else []

theorem onL_len (N : Int) (L : List Arc3) (s t : Int) : (onL N L s t).length ≤ 1048576 := by
  unfold onL
  split
  · rename_i h
    have := (okB_elim (has2_of h).1).2.1
    have := withinD_len N (distL N L s) (distL N (revL L) t) (dAt (distL N L s) t)
    unfold withinL
    omega
  · simp
theorem betL_len (N : Int) (L : List Arc3) (s t m : Int) : (betL N L s t m).length ≤ 1048576 := by
  unfold betL
  split
  · rename_i h
    rw [Bool.and_eq_true] at h
    have := (okB_elim (has2_of h.1).1).2.1
    have := withinD_len N (distL N L s) (distL N (revL L) t) m
    unfold withinL
    omega
  · simp
theorem pathL_len (N : Int) (L : List Arc3) (s t : Int) : (pathL N L s t).length ≤ 1048576 := by
  unfold pathL
  split
  · rename_i h
    rw [Bool.and_eq_true] at h
    obtain ⟨ho, h1, h2⟩ := has2_of h.1
    have := (distL_top (revL_ok ho) h2.1 h2.2 s).2
    have := stepsL_len L (distL N (revL L) t) t _ s rfl
    simp only [List.length_cons]
    omega
  · simp

/-- The weight of step k of a path; 0: it is none. -/
def stepW (L : List Arc3) (P : List Int) (k : Nat) : Int := wtL (P.getD k 0) (P.getD (k + 1) 0) L
/-- The first k steps together. -/
def sumW (L : List Arc3) (P : List Int) : Nat → Int
  | 0 => 0
  | k + 1 => sumW L P k + stepW L P k
theorem stepW_at {L : List Arc3} {P : List Int} {k : Nat} (h : k + 1 < P.length) : stepW L P k = wtL P[k] P[k + 1] L := by
  unfold stepW
  rw [List.getD_eq_getElem?_getD, List.getD_eq_getElem?_getD, List.getElem?_eq_getElem (by omega), List.getElem?_eq_getElem h]
  rfl
/-- Is it a path of a right graph? -/
def pathB (N : Int) (L : List Arc3) (P : List Int) : Bool := okB N L && decide (0 < P.length ∧ P.length ≤ 1000 ∧ (0 ≤ P.getD 0 0 ∧ P.getD 0 0 < N) ∧ ∀ j, j < P.length - 1 → stepW L P j ≠ 0)
def lenI (N : Int) (L : List Arc3) (P : List Int) : Int := if pathB N L P = true then sumW L P (P.length - 1) else 0

end Go.Proofs.Ytkfladkncfbgmaa

set_option linter.unusedSimpArgs false
set_option linter.unusedVariables false
namespace Go.Proofs.Ytkfladkncfbgmaa
open Go.RowKit

theorem wtL_mem {L : List Arc3} (hs : L.Pairwise AheadP) : ∀ {a : Arc3}, a ∈ L → wtL a.1 a.2.1 L = a.2.2 := by
  induction L with
  | nil => intro a ha; cases ha
  | cons b L ih =>
    intro a ha
    rw [List.pairwise_cons] at hs
    unfold wtL
    rcases List.mem_cons.1 ha with rfl | h
    · rw [if_pos (isEnds_iff.2 ⟨rfl, rfl⟩)]
    · rw [if_neg (fun he => ahead_ne (hs.1 a h) (isEnds_iff.1 he))]
      exact ih hs.2 h
theorem wtL_pos {u v : Int} : ∀ {L : List Arc3}, 0 < wtL u v L → (u, v, wtL u v L) ∈ L
  | [], h => by simp [wtL] at h
  | a :: l, h => by
    unfold wtL at h ⊢
    split
    · rename_i he
      obtain ⟨rfl, rfl⟩ := isEnds_iff.1 he
      exact List.mem_cons_self
    · rename_i he
      rw [if_neg he] at h
      exact List.mem_cons_of_mem _ (wtL_pos h)

/-- The least way over an arc from one of the first k nodes. -/
def leastSt (D : List Int) (L : List Arc3) (s v : Int) : Nat → Int
  | 0 => if v = s then 0 else -1
  | k + 1 => if 0 < wtL k v L ∧ 0 ≤ dAt D k ∧ (leastSt D L s v k < 0 ∨ dAt D k + wtL k v L < leastSt D L s v k) then dAt D k + wtL k v L else leastSt D L s v k
theorem leastSt_inv {N : Int} {L : List Arc3} {s v : Int} {D : List Int} (hD : IsDist N L s D) : ∀ k : Nat,
    -1 ≤ leastSt D L s v k ∧ (0 ≤ leastSt D L s v k → 0 ≤ dAt D v ∧ dAt D v ≤ leastSt D L s v k) ∧ (v = s → 0 ≤ leastSt D L s v k ∧ leastSt D L s v k ≤ 0) ∧
      ∀ u : Nat, u < k → 0 < wtL u v L → 0 ≤ dAt D u → 0 ≤ leastSt D L s v k ∧ leastSt D L s v k ≤ dAt D u + wtL u v L
  | 0 => by
    have hst := hD.start
    unfold leastSt
    split
    · rename_i e
      rw [e]
      exact ⟨by omega, fun _ => by omega, fun _ => by omega, fun u h => absurd h (by omega)⟩
    · rename_i e
      exact ⟨by omega, fun h => by omega, fun h => absurd h e, fun u h => absurd h (by omega)⟩
  | k + 1 => by
    obtain ⟨h1, h2, h3, h4⟩ := leastSt_inv (v := v) hD k
    have hst := hD.start
    unfold leastSt
    split
    · rename_i hc
      obtain ⟨c1, c2, c3⟩ := hc
      have ha := hD.arc _ (wtL_pos c1) (by simpa using c2)
      simp only at ha
      refine ⟨by omega, fun _ => ha, fun e => ?_, fun u hu p q => ?_⟩
      · have := h3 e
        rw [e] at ha
        omega
      · rcases Nat.lt_or_ge u k with h | h
        · have := h4 u h p q
          omega
        · obtain rfl : u = k := by omega
          omega
    · rename_i hc
      refine ⟨h1, h2, h3, fun u hu p q => ?_⟩
      rcases Nat.lt_or_ge u k with h | h
      · exact h4 u h p q
      · obtain rfl : u = k := by omega
        omega
theorem leastSt_all {N : Int} {L : List Arc3} {s v : Int} {D : List Int} (ho : okB N L = true) (hD : IsDist N L s D) (h0 : 0 ≤ v) (h1 : v < N) : leastSt D L s v N.toNat = dAt D v := by
  obtain ⟨a, b, c, d⟩ := leastSt_inv (v := v) hD N.toNat
  have hl := hD.low v
  by_cases hp : 0 ≤ dAt D v
  · rcases hD.back v h0 h1 hp with e | ⟨x, hx, e1, e2, e3⟩
    · subst e
      have h := c rfl
      have := b h.1
      have hst := hD.start
      omega
    · obtain ⟨a0, a1, a2, a3, a4, a5⟩ := arcsIn_of_ok ho x hx
      have hw := wtL_mem (okB_elim ho).2.2.2.2 hx
      rw [e1] at hw
      obtain ⟨u, hu⟩ : ∃ u : Nat, x.1 = u := ⟨x.1.toNat, by omega⟩
      rw [hu] at hw e2 e3
      have h := d u (by omega) (by omega) e2
      have := b h.1
      omega
  · have : ¬ 0 ≤ leastSt D L s v N.toNat := fun h => hp (b h).1
    omega

theorem triangle {N s t v : Int} {L : List Arc3} (h : has2 N L s t = true) (h0 : 0 ≤ v) (h1 : v < N) (ha : 0 ≤ distOfI N L s v) (hb : 0 ≤ distOfI N L v t) : 0 ≤ distOfI N L s t ∧ distOfI N L s t ≤ distOfI N L s v + distOfI N L v t := by
  obtain ⟨ho, hs, ht⟩ := has2_of h
  have e1 : distOfI N L s v = dAt (distL N L s) v := by
    unfold distOfI
    rw [if_pos (by unfold has2; rw [ho, Bool.true_and, decide_eq_true_eq]; omega)]
  have e2 : distOfI N L v t = dAt (distL N L v) t := by
    unfold distOfI
    rw [if_pos (by unfold has2; rw [ho, Bool.true_and, decide_eq_true_eq]; omega)]
  have e3 : distOfI N L s t = dAt (distL N L s) t := by unfold distOfI; rw [if_pos h]
  rw [e1] at ha ⊢
  rw [e2] at hb ⊢
  rw [e3]
  have e4 := distL_of_turned ho ⟨h0, h1⟩ ht
  rw [← e4] at hb ⊢
  have hD := distL_is (s := s) (arcsIn_of_ok ho) (okB_elim ho).2.1 hs.1 hs.2
  have hE := distL_is (s := t) (arcsIn_of_ok (revL_ok ho)) (okB_elim ho).2.1 ht.1 ht.2
  exact hD.tri ho hE _ v h0 h1 rfl hb ha
theorem distOfI_bounds {N s t : Int} {L : List Arc3} : -1 ≤ distOfI N L s t ∧ distOfI N L s t ≤ 23000 := by
  unfold distOfI
  split
  · rename_i h
    obtain ⟨ho, hs, ht⟩ := has2_of h
    exact distL_top ho hs.1 hs.2 t
  · omega

/-- The arcs of the first k nodes, one behind the other. -/
def catL (L : List Arc3) (k : Nat) : List Arc3 := L.filter fun a => decide (a.1 < (k : Int))
theorem catL_zero {L : List Arc3} (h : ∀ a ∈ L, 0 ≤ a.1) : catL L 0 = [] := by
  unfold catL
  rw [List.filter_eq_nil_iff]
  intro a ha
  have := h a ha
  simp
  omega
theorem catL_succ {L : List Arc3} (hs : L.Pairwise AheadP) (k : Nat) : catL L (k + 1) = catL L k ++ fromL k L := by
  induction L with
  | nil => rfl
  | cons a L ih =>
    rw [List.pairwise_cons] at hs
    have ih' := ih hs.2
    unfold catL fromL at ih' ⊢
    simp only [List.filter_cons]
    by_cases h1 : a.1 < (k : Int)
    · rw [if_pos (by simp; omega), if_pos (by simpa using h1), if_neg (by simp; omega), ih']
      rfl
    · by_cases h2 : a.1 = (k : Int)
      · have h3 : L.filter (fun a => decide (a.1 < (k : Int))) = [] := by
          rw [List.filter_eq_nil_iff]
          intro b hb hlt
          have := hs.1 b hb
          unfold AheadP at this
          simp only [aheadB, decide_eq_true_eq] at this hlt
          omega
        rw [h3, List.nil_append] at ih'
        rw [if_pos (by simp; omega), if_neg (by simpa using h1), if_pos (by simpa using h2), ih', h3]
        rfl
      · have h3 : L.filter (fun a => decide (a.1 < ((k + 1 : Nat) : Int))) = [] := by
          rw [List.filter_eq_nil_iff]
          intro b hb hlt
          have := hs.1 b hb
          unfold AheadP at this
          simp only [aheadB, decide_eq_true_eq] at this hlt
          omega
        rw [h3] at ih'
        rw [if_neg (by simp; omega), if_neg (by simpa using h1), if_neg (by simpa using h2), h3]
        exact ih'
theorem catL_all {N : Int} {L : List Arc3} (h : okB N L = true) : catL L N.toNat = L := by
  unfold catL
  rw [List.filter_eq_self]
  intro a ha
  have := arcsIn_of_ok h a ha
  simp
  omega
theorem catL_len (L : List Arc3) (k : Nat) : (catL L k).length ≤ L.length := List.length_filter_le _ _
theorem fromL_at {v : Int} {L : List Arc3} {k : Nat} (hs : L.Pairwise AheadP) (h : k < (fromL v L).length) : (fromL v L)[k].1 = v ∧ wtL v (fromL v L)[k].2.1 L = (fromL v L)[k].2.2 := by
  have hm : (fromL v L)[k] ∈ fromL v L := List.getElem_mem h
  generalize (fromL v L)[k] = a at hm
  unfold fromL at hm
  obtain ⟨h1, h2⟩ := List.mem_filter.1 hm
  have e : a.1 = v := by simpa using h2
  refine ⟨e, ?_⟩
  have := wtL_mem hs h1
  rwa [e] at this

/-- How many arcs come to a node. -/
def intoN (L : List Arc3) (v : Int) (k : Nat) : Nat := ((L.take k).filter fun a => a.2.1 == v).length
theorem intoN_all {L : List Arc3} (hs : L.Pairwise AheadP) (v : Int) : (fromL v (revL L)).length = intoN L v L.length := by
  unfold fromL intoN
  rw [List.take_length]
  have h := ((revL_sorted hs).2.filter fun a => a.1 == v).length_eq
  rw [h, List.filter_map, List.length_map]
  rfl

end Go.Proofs.Ytkfladkncfbgmaa

set_option linter.unusedSimpArgs false
set_option linter.unusedVariables false
namespace Go.Proofs.Ytkfladkncfbgmaa
open Go.RowKit

theorem restL_sorted {L : List Arc3} (u v : Int) (hs : L.Pairwise AheadP) : (restL u v L).Pairwise AheadP := hs.filter _
theorem restL_ends {L : List Arc3} {u v : Int} : ∀ b ∈ restL u v L, isEnds u v b = false := fun b hb => by
  have := (List.mem_filter.1 hb).2
  simpa using this
theorem restL_same {M : List Arc3} {u v : Int} (hE : ∀ b ∈ M, isEnds u v b = false) : restL u v M = M :=
  List.filter_eq_self.2 fun b hb => by simp [hE b hb]
theorem restL_put {M : List Arc3} {u v y : Int} (hs : M.Pairwise AheadP) (hE : ∀ b ∈ M, isEnds u v b = false) : restL u v (putL (u, v, y) M) = M := by
  obtain ⟨p1, p2⟩ := putL_sorted (u, v, y) M hs hE
  refine sorted_uniq (restL_sorted u v p1) hs ((p2.filter _).trans ?_)
  have e : ((u, v, y) :: M).filter (fun a => !(isEnds u v a)) = restL u v M := by
    rw [List.filter_cons_of_neg (by simp [isEnds])]
    rfl
  rw [e, restL_same hE]
theorem restL_weighed {L : List Arc3} {u v y : Int} (hs : L.Pairwise AheadP) : restL u v (weighedL u v y L) = restL u v L := by
  unfold weighedL
  split
  · exact restL_put (restL_sorted u v hs) restL_ends
  · exact restL_same restL_ends
/-- A weight that is given again is as if it were given once. -/
theorem weighed_twice {L : List Arc3} {u v x y : Int} (hs : L.Pairwise AheadP) : weighedL u v x (weighedL u v y L) = weighedL u v x L := by
  show (if 0 < x then putL (u, v, x) (restL u v (weighedL u v y L)) else restL u v (weighedL u v y L)) = _
  rw [restL_weighed hs]
  rfl
theorem weighedB_twice {N : Int} {L : List Arc3} {u v x y : Int} (h1 : weighedB N L u v x = true) (h2 : weighedB N L u v y = true) : weighedB N (weighedL u v y L) u v x = true := by
  unfold weighedB at *
  simp only [Bool.and_eq_true] at *
  obtain ⟨⟨⟨a1, a2⟩, a3⟩, a4⟩ := h1
  obtain ⟨⟨⟨b1, b2⟩, b3⟩, b4⟩ := h2
  exact ⟨⟨⟨b4, a2⟩, a3⟩, by rw [weighed_twice (okB_elim a1).2.2.2.2]; exact a4⟩
theorem ends_one {L : List Arc3} {u v : Int} (hs : L.Pairwise AheadP) {a : Arc3} (ha : a ∈ L) (he : isEnds u v a = true) : L.filter (isEnds u v) = [a] := by
  have hp := hs.filter (isEnds u v)
  have hm : a ∈ L.filter (isEnds u v) := List.mem_filter.2 ⟨ha, he⟩
  have hall : ∀ b ∈ L.filter (isEnds u v), isEnds u v b = true := fun b hb => (List.mem_filter.1 hb).2
  generalize L.filter (isEnds u v) = M at *
  match M, hm, hp, hall with
  | [], hm, _, _ => cases hm
  | [b], hm, _, _ => rw [List.mem_singleton] at hm; rw [hm]
  | b :: d :: r, hm, hp, hall =>
    have h1 := isEnds_iff.1 (hall b (by simp))
    have h2 := isEnds_iff.1 (hall d (by simp))
    have h3 := List.rel_of_pairwise_cons hp (show d ∈ d :: r by simp)
    unfold AheadP at h3
    rw [h1.1, h1.2, h2.1, h2.2, ahead_irrefl] at h3
    cases h3
theorem wtL_has {L : List Arc3} {u v : Int} : 0 < wtL u v L → ∃ a ∈ L, isEnds u v a = true ∧ wtL u v L = a.2.2 := by
  induction L with
  | nil => intro h; exact absurd h (by simp [wtL])
  | cons b L ih =>
    intro h
    unfold wtL at h ⊢
    split at h
    · rename_i e
      rw [if_pos e]
      exact ⟨b, by simp, e, rfl⟩
    · rename_i e
      rw [if_neg e]
      obtain ⟨a, h1, h2, h3⟩ := ih h
      exact ⟨a, by simp [h1], h2, h3⟩
theorem wtL_ends {L : List Arc3} {u v : Int} (h : ∀ a ∈ L, isEnds u v a = false) : wtL u v L = 0 :=
  wtL_none fun k hk => h _ (List.getElem_mem hk)
theorem weighed_back {L : List Arc3} {u v : Int} (hs : L.Pairwise AheadP) (hw : ∀ a ∈ L, 1 ≤ a.2.2) : weighedL u v (wtL u v L) L = L := by
  have hperm : (L.filter (isEnds u v) ++ restL u v L).Perm L := List.filter_append_perm _ _
  unfold weighedL
  split
  · rename_i h
    obtain ⟨a, hm, he, e⟩ := wtL_has h
    have h1 := ends_one hs hm he
    obtain ⟨e1, e2⟩ := isEnds_iff.1 he
    have ea : (u, v, wtL u v L) = a := by rw [e, ← e1, ← e2]
    rw [ea]
    obtain ⟨p1, p2⟩ := putL_sorted a (restL u v L) (restL_sorted u v hs) (by rw [e1, e2]; exact restL_ends)
    refine sorted_uniq p1 hs (p2.trans ?_)
    rw [h1] at hperm
    exact hperm
  · rename_i h
    refine restL_same fun b hb => ?_
    cases hc : isEnds u v b with
    | false => rfl
    | true =>
      obtain ⟨e1, e2⟩ := isEnds_iff.1 hc
      have h3 := wtL_mem hs hb
      rw [e1, e2] at h3
      have := hw b hb
      omega
/-- A weight that was given is the arc's; no other is another. -/
theorem wtL_weighed {L : List Arc3} {u v x s t : Int} (hs : L.Pairwise AheadP) (hx : 0 ≤ x) : wtL s t (weighedL u v x L) = if s = u ∧ t = v then x else wtL s t L := by
  have hr := restL_sorted u v hs
  have hin : ∀ a : Arc3, a ∈ restL u v L ↔ a ∈ L ∧ isEnds u v a = false := fun a => by
    unfold restL
    rw [List.mem_filter]
    simp
  have hne : ∀ a : Arc3, isEnds s t a = true → ¬ (s = u ∧ t = v) → isEnds u v a = false := fun a h h' => by
    cases hc : isEnds u v a with
    | false => rfl
    | true =>
      obtain ⟨a1, a2⟩ := isEnds_iff.1 h
      obtain ⟨b1, b2⟩ := isEnds_iff.1 hc
      exact absurd ⟨a1.symm.trans b1, a2.symm.trans b2⟩ h'
  -- two sorted lists with the same arcs of these ends weigh the same
  have key : ∀ (X Y : List Arc3), X.Pairwise AheadP → Y.Pairwise AheadP → (∀ a : Arc3, isEnds s t a = true → (a ∈ X ↔ a ∈ Y)) → wtL s t X = wtL s t Y := fun X Y hX hY h => by
    by_cases hc : ∃ a ∈ X, isEnds s t a = true
    · obtain ⟨a, ha, he⟩ := hc
      obtain ⟨e1, e2⟩ := isEnds_iff.1 he
      have h1 := wtL_mem hX ha
      have h2 := wtL_mem hY ((h a he).1 ha)
      rw [e1, e2] at h1 h2
      rw [h1, h2]
    · rw [wtL_ends (fun a ha => by cases hq : isEnds s t a with
        | false => rfl
        | true => exact absurd ⟨a, ha, hq⟩ hc), wtL_ends (fun a ha => by cases hq : isEnds s t a with
        | false => rfl
        | true => exact absurd ⟨a, (h a hq).2 ha, hq⟩ hc)]
  unfold weighedL
  split
  · rename_i h
    obtain ⟨p1, p2⟩ := putL_sorted (u, v, x) (restL u v L) hr restL_ends
    split
    · rename_i e
      obtain ⟨rfl, rfl⟩ := e
      exact wtL_mem p1 (a := (s, t, x)) (p2.mem_iff.2 (by simp))
    · rename_i e
      refine key _ _ p1 hs fun a ha => ?_
      rw [p2.mem_iff, List.mem_cons, hin]
      constructor
      · rintro (rfl | h1)
        · obtain ⟨e1, e2⟩ := isEnds_iff.1 ha
          exact absurd ⟨e1.symm, e2.symm⟩ e
        · exact h1.1
      · exact fun h1 => .inr ⟨h1, hne a ha e⟩
  · rename_i h
    split
    · rename_i e
      obtain ⟨rfl, rfl⟩ := e
      rw [wtL_ends restL_ends]
      omega
    · rename_i e
      exact key _ _ hr hs fun a ha => by rw [hin]; exact ⟨fun h1 => h1.1, fun h1 => ⟨h1, hne a ha e⟩⟩

end Go.Proofs.Ytkfladkncfbgmaa

set_option linter.unusedSimpArgs false
set_option linter.unusedVariables false
namespace Go.Proofs.Ytkfladkncfbgmaa
open Go.RowKit

theorem pair_eq {N u v : Int} {L : List Arc3} (h : okB N L = true) : pairB N u v = (nodeB N u && nodeB N v && !(u == v)) := by
  obtain ⟨h1, h2, _⟩ := okB_elim h
  have hw : wrap64 (N - 1) = N - 1 := IntWalk.wrap64_in _ (by omega)
  unfold pairB nodeB inB
  rw [hw, Bool.eq_iff_iff]
  simp
  omega
theorem weighed_len (u v x : Int) (L : List Arc3) : (weighedL u v x L).length ≤ L.length + 1 := by
  have h : (restL u v L).length ≤ L.length := by unfold restL; exact List.length_filter_le _ _
  unfold weighedL
  split
  · exact Nat.le_trans (putL_len _ _) (by omega)
  · omega

set_option maxRecDepth 100000 in
set_option maxHeartbeats 8000000 in
theorem specWeighed_any (N u v x : Int) (A : Option Addr) (n c : Nat) (L : List Arc3) (hn : n = L.length) (w : World) (hm : n ≤ 1048576) (H1 : ArcsAt w w.heap.size A L) :
    Calls Try.prog 33 #[.agg #[.int .i64 N, .slice A n c], .int .i64 u, .int .i64 v, .int .i64 x] w (WRes (weighedB N L u v x) N (weighedL u v x L) w) := by
  have K1 := Lib.hid H1
  have HN := Lib.hid hn
  clear H1 hn
  by_cases b1 : okB N L = true
  · have PE := Lib.hid (pair_eq (u := u) (v := v) b1)
    by_cases b2 : nodeB N u = true
    · by_cases b3 : nodeB N v = true
      · by_cases b4 : (u == v) = true
        · skip
          go_enter Try.func33, Try.ntmps33
          go_wp2_with fail
          refine (specOk_any N A n c L HN.out _ (by omega) (K1.out.bl (by repeat' (first | exact Bl.refl _ | with_reducible assumption | with_reducible refine Bl.drew_ ?_ | with_reducible refine Bl.drewN_ ?_ _ | with_reducible refine Bl.alloc_ ?_ _ | with_reducible refine Bl.trans_ ?_ (by assumption) | with_reducible refine Bl.trans_ ?_ (And.left (by assumption)))))).mono ?_
          rintro e w1 ⟨rfl, hb1⟩
          obtain ⟨h00, h01, h10, h11, f10, f11, hsz⟩ := box22 hb1
          go_wp2_with fail
          refine (l1Node_any N u _ _).mono ?_
          rintro e w2 ⟨rfl, hb2⟩
          have hb2 := hb1.trans_ hb2
          clear h00 h01 h10 h11 f10 f11 hsz
          obtain ⟨h00, h01, h10, h11, f10, f11, hsz⟩ := box22 hb2
          go_wp2_with fail
          refine (l1Node_any N v _ _).mono ?_
          rintro e w3 ⟨rfl, hb3⟩
          have hb3 := hb2.trans_ hb3
          clear h00 h01 h10 h11 f10 f11 hsz
          obtain ⟨h00, h01, h10, h11, f10, f11, hsz⟩ := box22 hb3
          go_wp2
          refine bodyPost_ret (v := .tuple #[.agg #[.int .i64 0, .slice none 0 0], .bool false]) (by simp [results, Try.results33, go_sem, h10, h11, f10, f11]) rfl (WRes.no (by unfold weighedB; rw [PE.out, b2, b3, b4]; simp) ?_)
          exact Bl.set_ (Bl.set_ ((Bl.alloc_ (Bl.alloc_ (Bl.refl w) _) _).trans_ hb3) (Nat.le_succ _) _) (Nat.le_succ _) _
        · have b4' : (u == v) = false := by simpa using b4
          clear b4
          by_cases b5 : inB x 0 1000 = true
          · have HWL := weighed_len u v x L
            have hlm : (weighedL u v x L).length ≤ 1048577 := by have := HN.out; omega
            clear HWL
            by_cases b6 : okB N (weighedL u v x L) = true
            · have HW := Lib.hid (show weighedB N L u v x = true from by unfold weighedB; rw [PE.out, b1, b2, b3, b4', b5, b6]; rfl)
              go_enter Try.func33, Try.ntmps33
              go_wp2_with fail
              refine (specOk_any N A n c L HN.out _ (by omega) (K1.out.bl (by repeat' (first | exact Bl.refl _ | with_reducible assumption | with_reducible refine Bl.drew_ ?_ | with_reducible refine Bl.drewN_ ?_ _ | with_reducible refine Bl.alloc_ ?_ _ | with_reducible refine Bl.trans_ ?_ (by assumption) | with_reducible refine Bl.trans_ ?_ (And.left (by assumption)))))).mono ?_
              rintro e w1 ⟨rfl, hb1⟩
              obtain ⟨h00, h01, h10, h11, f10, f11, hsz⟩ := box22 hb1
              go_wp2_with fail
              refine (l1Node_any N u _ _).mono ?_
              rintro e w2 ⟨rfl, hb2⟩
              have hb2 := hb1.trans_ hb2
              clear h00 h01 h10 h11 f10 f11 hsz
              obtain ⟨h00, h01, h10, h11, f10, f11, hsz⟩ := box22 hb2
              go_wp2_with fail
              refine (l1Node_any N v _ _).mono ?_
              rintro e w3 ⟨rfl, hb3⟩
              have hb3 := hb2.trans_ hb3
              clear h00 h01 h10 h11 f10 f11 hsz
              obtain ⟨h00, h01, h10, h11, f10, f11, hsz⟩ := box22 hb3
              go_wp2_with (go_at_call 58; refine (l1In_any _ _ _ _).mono ?_; rintro e w' ⟨rfl, rfl⟩)
              refine (l1Weigh_any N u v x A n c L HN.out _ hm (K1.out.bl (by repeat' (first | exact Bl.refl _ | with_reducible assumption | with_reducible refine Bl.drew_ ?_ | with_reducible refine Bl.drewN_ ?_ _ | with_reducible refine Bl.alloc_ ?_ _ | with_reducible refine Bl.trans_ ?_ (by assumption) | with_reducible refine Bl.trans_ ?_ (And.left (by assumption)))))).mono ?_
              rintro e w4 ⟨vv, rfl, hv, hb4⟩
              obtain ⟨AA, cc, rfl, hAA, _⟩ := hv.shape
              have V := Lib.hid (hv.low (B := w.heap.size + 2) (by have := hsz; omega))
              have HA := Lib.hid hAA
              clear hv hAA
              have hb4 := hb3.trans_ hb4
              clear h00 h01 h10 h11 f10 f11 hsz
              obtain ⟨h00, h01, h10, h11, f10, f11, hsz⟩ := box22 hb4
              go_wp2_with fail
              refine (specOk_any N AA _ cc (weighedL u v x L) rfl _ (by omega) (HA.out.bl (by repeat' (first | exact Bl.refl _ | with_reducible assumption | with_reducible refine Bl.drew_ ?_ | with_reducible refine Bl.drewN_ ?_ _ | with_reducible refine Bl.alloc_ ?_ _ | with_reducible refine Bl.trans_ ?_ (by assumption) | with_reducible refine Bl.trans_ ?_ (And.left (by assumption)))))).mono ?_
              rintro e w5 ⟨rfl, hb5⟩
              obtain ⟨x0, x1⟩ := box2 hb5
              have B5 : Bl w4 w5 := (Bl.alloc_ (Bl.refl w4) _).trans_ hb5
              have hb5' := hb4.trans_ B5
              clear h00 h01 h10 h11 f10 f11 hsz
              obtain ⟨h00, h01, h10, h11, f10, f11, hsz⟩ := box22 hb5'
              have Q5 : Bl w w5 := (Bl.alloc_ (Bl.alloc_ (Bl.refl w) _) _).trans_ hb5'
              go_wp2
              refine bodyPost_ret (v := .tuple #[.agg #[.int .i64 N, .slice AA (weighedL u v x L).length cc], .bool true]) (by simp [results, Try.results33, go_sem, h10, h11, f10, f11]) rfl ?_
              refine ⟨_, by rw [HW.out]; rfl, ?_, Bl.set_ (Bl.set_ Q5 (Nat.le_succ _) _) (Nat.le_succ _) _⟩
              rw [HW.out, if_pos rfl]
              exact (OwnA.set_ (OwnA.set_ (V.out.bl B5) (by show w.heap.size + 1 < _; omega) _) (by show w.heap.size + 1 < _; omega) _).low (by omega)
            · have b6' : okB N (weighedL u v x L) = false := by simpa using b6
              clear b6
              have HW := Lib.hid (show weighedB N L u v x = false from by unfold weighedB; rw [b6', Bool.and_false])
              go_enter Try.func33, Try.ntmps33
              go_wp2_with fail
              refine (specOk_any N A n c L HN.out _ (by omega) (K1.out.bl (by repeat' (first | exact Bl.refl _ | with_reducible assumption | with_reducible refine Bl.drew_ ?_ | with_reducible refine Bl.drewN_ ?_ _ | with_reducible refine Bl.alloc_ ?_ _ | with_reducible refine Bl.trans_ ?_ (by assumption) | with_reducible refine Bl.trans_ ?_ (And.left (by assumption)))))).mono ?_
              rintro e w1 ⟨rfl, hb1⟩
              obtain ⟨h00, h01, h10, h11, f10, f11, hsz⟩ := box22 hb1
              go_wp2_with fail
              refine (l1Node_any N u _ _).mono ?_
              rintro e w2 ⟨rfl, hb2⟩
              have hb2 := hb1.trans_ hb2
              clear h00 h01 h10 h11 f10 f11 hsz
              obtain ⟨h00, h01, h10, h11, f10, f11, hsz⟩ := box22 hb2
              go_wp2_with fail
              refine (l1Node_any N v _ _).mono ?_
              rintro e w3 ⟨rfl, hb3⟩
              have hb3 := hb2.trans_ hb3
              clear h00 h01 h10 h11 f10 f11 hsz
              obtain ⟨h00, h01, h10, h11, f10, f11, hsz⟩ := box22 hb3
              go_wp2_with (go_at_call 58; refine (l1In_any _ _ _ _).mono ?_; rintro e w' ⟨rfl, rfl⟩)
              refine (l1Weigh_any N u v x A n c L HN.out _ hm (K1.out.bl (by repeat' (first | exact Bl.refl _ | with_reducible assumption | with_reducible refine Bl.drew_ ?_ | with_reducible refine Bl.drewN_ ?_ _ | with_reducible refine Bl.alloc_ ?_ _ | with_reducible refine Bl.trans_ ?_ (by assumption) | with_reducible refine Bl.trans_ ?_ (And.left (by assumption)))))).mono ?_
              rintro e w4 ⟨vv, rfl, hv, hb4⟩
              obtain ⟨AA, cc, rfl, hAA, _⟩ := hv.shape
              have V := Lib.hid (hv.low (B := w.heap.size + 2) (by have := hsz; omega))
              have HA := Lib.hid hAA
              clear hv hAA
              have hb4 := hb3.trans_ hb4
              clear h00 h01 h10 h11 f10 f11 hsz
              obtain ⟨h00, h01, h10, h11, f10, f11, hsz⟩ := box22 hb4
              go_wp2_with fail
              refine (specOk_any N AA _ cc (weighedL u v x L) rfl _ (by omega) (HA.out.bl (by repeat' (first | exact Bl.refl _ | with_reducible assumption | with_reducible refine Bl.drew_ ?_ | with_reducible refine Bl.drewN_ ?_ _ | with_reducible refine Bl.alloc_ ?_ _ | with_reducible refine Bl.trans_ ?_ (by assumption) | with_reducible refine Bl.trans_ ?_ (And.left (by assumption)))))).mono ?_
              rintro e w5 ⟨rfl, hb5⟩
              obtain ⟨x0, x1⟩ := box2 hb5
              have B5 : Bl w4 w5 := (Bl.alloc_ (Bl.refl w4) _).trans_ hb5
              have hb5' := hb4.trans_ B5
              clear h00 h01 h10 h11 f10 f11 hsz
              obtain ⟨h00, h01, h10, h11, f10, f11, hsz⟩ := box22 hb5'
              have Q5 : Bl w w5 := (Bl.alloc_ (Bl.alloc_ (Bl.refl w) _) _).trans_ hb5'
              go_wp2
              refine bodyPost_ret (v := .tuple #[.agg #[.int .i64 0, .slice none 0 0], .bool false]) (by simp [results, Try.results33, go_sem, h10, h11, f10, f11]) rfl (WRes.no HW.out ?_)
              exact Bl.set_ (Bl.set_ Q5 (Nat.le_succ _) _) (Nat.le_succ _) _
          · have b5' : inB x 0 1000 = false := by simpa using b5
            clear b5
            go_enter Try.func33, Try.ntmps33
            go_wp2_with fail
            refine (specOk_any N A n c L HN.out _ (by omega) (K1.out.bl (by repeat' (first | exact Bl.refl _ | with_reducible assumption | with_reducible refine Bl.drew_ ?_ | with_reducible refine Bl.drewN_ ?_ _ | with_reducible refine Bl.alloc_ ?_ _ | with_reducible refine Bl.trans_ ?_ (by assumption) | with_reducible refine Bl.trans_ ?_ (And.left (by assumption)))))).mono ?_
            rintro e w1 ⟨rfl, hb1⟩
            obtain ⟨h00, h01, h10, h11, f10, f11, hsz⟩ := box22 hb1
            go_wp2_with fail
            refine (l1Node_any N u _ _).mono ?_
            rintro e w2 ⟨rfl, hb2⟩
            have hb2 := hb1.trans_ hb2
            clear h00 h01 h10 h11 f10 f11 hsz
            obtain ⟨h00, h01, h10, h11, f10, f11, hsz⟩ := box22 hb2
            go_wp2_with fail
            refine (l1Node_any N v _ _).mono ?_
            rintro e w3 ⟨rfl, hb3⟩
            have hb3 := hb2.trans_ hb3
            clear h00 h01 h10 h11 f10 f11 hsz
            obtain ⟨h00, h01, h10, h11, f10, f11, hsz⟩ := box22 hb3
            go_wp2_with (go_at_call 58; refine (l1In_any _ _ _ _).mono ?_; rintro e w' ⟨rfl, rfl⟩)
            refine bodyPost_ret (v := .tuple #[.agg #[.int .i64 0, .slice none 0 0], .bool false]) (by simp [results, Try.results33, go_sem, h10, h11, f10, f11]) rfl (WRes.no (by unfold weighedB; rw [b5', Bool.and_false, Bool.false_and]) ?_)
            exact Bl.set_ (Bl.set_ ((Bl.alloc_ (Bl.alloc_ (Bl.refl w) _) _).trans_ hb3) (Nat.le_succ _) _) (Nat.le_succ _) _
      · have b3' : nodeB N v = false := by simpa using b3
        clear b3
        go_enter Try.func33, Try.ntmps33
        go_wp2_with fail
        refine (specOk_any N A n c L HN.out _ (by omega) (K1.out.bl (by repeat' (first | exact Bl.refl _ | with_reducible assumption | with_reducible refine Bl.drew_ ?_ | with_reducible refine Bl.drewN_ ?_ _ | with_reducible refine Bl.alloc_ ?_ _ | with_reducible refine Bl.trans_ ?_ (by assumption) | with_reducible refine Bl.trans_ ?_ (And.left (by assumption)))))).mono ?_
        rintro e w1 ⟨rfl, hb1⟩
        obtain ⟨h00, h01, h10, h11, f10, f11, hsz⟩ := box22 hb1
        go_wp2_with fail
        refine (l1Node_any N u _ _).mono ?_
        rintro e w2 ⟨rfl, hb2⟩
        have hb2 := hb1.trans_ hb2
        clear h00 h01 h10 h11 f10 f11 hsz
        obtain ⟨h00, h01, h10, h11, f10, f11, hsz⟩ := box22 hb2
        go_wp2_with fail
        refine (l1Node_any N v _ _).mono ?_
        rintro e w3 ⟨rfl, hb3⟩
        have hb3 := hb2.trans_ hb3
        clear h00 h01 h10 h11 f10 f11 hsz
        obtain ⟨h00, h01, h10, h11, f10, f11, hsz⟩ := box22 hb3
        go_wp2
        refine bodyPost_ret (v := .tuple #[.agg #[.int .i64 0, .slice none 0 0], .bool false]) (by simp [results, Try.results33, go_sem, h10, h11, f10, f11]) rfl (WRes.no (by unfold weighedB; rw [PE.out, b3']; simp) ?_)
        exact Bl.set_ (Bl.set_ ((Bl.alloc_ (Bl.alloc_ (Bl.refl w) _) _).trans_ hb3) (Nat.le_succ _) _) (Nat.le_succ _) _
    · have b2' : nodeB N u = false := by simpa using b2
      clear b2
      go_enter Try.func33, Try.ntmps33
      go_wp2_with fail
      refine (specOk_any N A n c L HN.out _ (by omega) (K1.out.bl (by repeat' (first | exact Bl.refl _ | with_reducible assumption | with_reducible refine Bl.drew_ ?_ | with_reducible refine Bl.drewN_ ?_ _ | with_reducible refine Bl.alloc_ ?_ _ | with_reducible refine Bl.trans_ ?_ (by assumption) | with_reducible refine Bl.trans_ ?_ (And.left (by assumption)))))).mono ?_
      rintro e w1 ⟨rfl, hb1⟩
      obtain ⟨h00, h01, h10, h11, f10, f11, hsz⟩ := box22 hb1
      go_wp2_with fail
      refine (l1Node_any N u _ _).mono ?_
      rintro e w2 ⟨rfl, hb2⟩
      have hb2 := hb1.trans_ hb2
      clear h00 h01 h10 h11 f10 f11 hsz
      obtain ⟨h00, h01, h10, h11, f10, f11, hsz⟩ := box22 hb2
      go_wp2
      refine bodyPost_ret (v := .tuple #[.agg #[.int .i64 0, .slice none 0 0], .bool false]) (by simp [results, Try.results33, go_sem, h10, h11, f10, f11]) rfl (WRes.no (by unfold weighedB; rw [PE.out, b2']; simp) ?_)
      exact Bl.set_ (Bl.set_ ((Bl.alloc_ (Bl.alloc_ (Bl.refl w) _) _).trans_ hb2) (Nat.le_succ _) _) (Nat.le_succ _) _
  · have b1' : okB N L = false := by simpa using b1
    clear b1
    go_enter Try.func33, Try.ntmps33
    go_wp2_with fail
    refine (specOk_any N A n c L HN.out _ (by omega) (K1.out.bl (by repeat' (first | exact Bl.refl _ | with_reducible assumption | with_reducible refine Bl.drew_ ?_ | with_reducible refine Bl.drewN_ ?_ _ | with_reducible refine Bl.alloc_ ?_ _ | with_reducible refine Bl.trans_ ?_ (by assumption) | with_reducible refine Bl.trans_ ?_ (And.left (by assumption)))))).mono ?_
    rintro e w1 ⟨rfl, hb1⟩
    obtain ⟨h00, h01, h10, h11, f10, f11, hsz⟩ := box22 hb1
    go_wp2
    refine bodyPost_ret (v := .tuple #[.agg #[.int .i64 0, .slice none 0 0], .bool false]) (by simp [results, Try.results33, go_sem, h10, h11, f10, f11]) rfl (WRes.no (by unfold weighedB; rw [b1']; simp) ?_)
    exact Bl.set_ (Bl.set_ ((Bl.alloc_ (Bl.alloc_ (Bl.refl w) _) _).trans_ hb1) (Nat.le_succ _) _) (Nat.le_succ _) _

end Go.Proofs.Ytkfladkncfbgmaa

set_option linter.unusedSimpArgs false
set_option linter.unusedVariables false
namespace Go.Proofs.Ytkfladkncfbgmaa
open Go.RowKit

theorem OwnA.caps {w : World} {B : Nat} {v : Value} {L : List Arc3} (h : OwnA w B v L) : ∀ A l c, v = .slice A l c → L.length ≤ c ∧ c ≤ 9223372036854775807 := fun A l c ev => by
  subst ev
  have h' : w.ownsRow B 40 3 (.slice A l c) L.length (cs3 L) := h
  rcases h'.2 with ⟨e, h0⟩ | ⟨g, cap, cur, e, hB, hg, hnc, hcm, -⟩
  · injection e with e1 e2 e3
    omega
  · injection e with e1 e2 e3
    unfold maxLen at hcm
    omega
theorem WRes.yes {N : Int} {M : List Arc3} {w w' : World} {e : Ending} (h : WRes true N M w e w') : ∃ v, e = .returned (.tuple #[.agg #[.int .i64 N, v], .bool true]) ∧ OwnA w' w.heap.size v M ∧ Bl w w' := by
  obtain ⟨v, h1, h2, h3⟩ := h
  exact ⟨v, h1, h2, h3⟩
theorem WRes.nay {N : Int} {M : List Arc3} {w w' : World} {e : Ending} (h : WRes false N M w e w') : ∃ v, e = .returned (.tuple #[.agg #[.int .i64 0, v], .bool false]) ∧ OwnA w' w.heap.size v [] ∧ Bl w w' := by
  obtain ⟨v, h1, h2, h3⟩ := h
  exact ⟨v, h1, h2, h3⟩

set_option maxRecDepth 100000 in
set_option maxHeartbeats 4000000 in
theorem lawWeighedTwice_any (A : Option Addr) (n c : Nat) (w : World) (H : BytesAt w A n) :
    Calls Try.prog 8 #[.slice A n c] w fun e w' => e = .returned (.bool true) ∧ Bl w w' := by
  have K := Lib.hid H
  clear H
  by_cases hbig : (1048576 : Int) < (n : Int)
  · have hb : decide ((1048576 : Int) < (n : Int)) = true := by simpa using hbig
    clear hbig
    go_enter Try.func8, Try.ntmps8
    go_wp2_with (go_at_call 15; refine (big_any _ _ _ _).mono ?_; rintro e w' ⟨rfl, rfl⟩)
    go_ret
    exact ⟨rfl, (by repeat' (first | exact Bl.refl _ | with_reducible assumption | with_reducible refine Bl.drew_ ?_ | with_reducible refine Bl.drewN_ ?_ _ | with_reducible refine Bl.alloc_ ?_ _ | with_reducible refine Bl.trans_ ?_ (by assumption) | with_reducible refine Bl.trans_ ?_ (And.left (by assumption))))⟩
  · have hb : decide ((1048576 : Int) < (n : Int)) = false := by simpa using hbig
    have hn : n ≤ 1099511627776 := by omega
    clear hbig
    go_enter Try.func8, Try.ntmps8
    go_wp2_with fail
    refine (big_any _ _ _ _).mono ?_
    rintro e w1 ⟨rfl, rfl⟩
    go_wp2_with fail
    refine (drawWeighed_any A n c _ hn K.out).mono ?_
    rintro e w1 ⟨N, A', l, c', L, u, v, x, rfl, hd, hx, hb1⟩
    obtain ⟨ha, -⟩ := hd.arcs
    obtain ⟨hlc', hcm⟩ := hd.2.2.2.caps _ _ _ rfl
    have HL := Lib.hid hd.1
    have hlc : l ≤ c' := by have := hd.1; omega
    have hl200 := hd.2.1
    have HA := Lib.hid (ha.bl (Bl.alloc_ (Bl.refl w1) (.cells #[.int .i64 N, .slice A' l c'] 26)))
    have B1 := Lib.hid (hb1.alloc_ (.cells #[.int .i64 N, .slice A' l c'] 26))
    clear hd hx hb1 ha hlc'
    go_wp2_with fail
    refine (implWeighedW_any N u v x A' l c' L HL.out hlc hcm _ (by omega) HA.out).mono ?_
    cases hok : weighedB N L u v x with
    | false =>
      have OK := Lib.hid hok
      clear hok
      intro e w2 hres
      obtain ⟨v2, rfl, hv2, hb2⟩ := hres.nay
      obtain ⟨A2, c2, rfl, ha2, -⟩ := hv2.shape
      have V2 := Lib.hid ha2
      rw [List.length_nil]
      have X2 := Lib.hid (hb2.alloc_ (.cells #[.int .i64 0, .slice A2 0 c2] 26))
      obtain ⟨q0, q1⟩ := box2 X2.out
      clear hres hv2 ha2 hb2
      go_wp2_with fail
      refine (specWeighed_any N u v x A' l c' L HL.out _ (by omega) (HA.out.bl X2.out)).mono ?_
      rw [OK.out]
      intro e w3 hres
      obtain ⟨v3, rfl, hv3, hb3⟩ := hres.nay
      obtain ⟨A3, c3, rfl, ha3, -⟩ := hv3.shape
      have V3 := Lib.hid (ha3.bl (Bl.alloc_ (Bl.refl w3) (.cells #[.int .i64 0, .slice A3 0 c3] 26)))
      rw [List.length_nil]
      have X3 := Lib.hid (hb3.alloc_ (.cells #[.int .i64 0, .slice A3 0 c3] 26))
      have V2' := Lib.hid (V2.out.bl ((Bl.alloc_ (Bl.refl w2) (.cells #[.int .i64 0, .slice A2 0 c2] 26)).trans_ X3.out))
      clear hres hv3 ha3 hb3 q0 q1
      obtain ⟨q0, q1⟩ := box2 (X2.out.trans_ X3.out)
      obtain ⟨r0, r1⟩ := box2 X3.out
      go_wp2_with fail
      refine (sameGraph_yes 0 A2 A3 c2 c3 [] 0 rfl _ (by omega) V2'.out V3.out).mono ?_
      rintro e w4 ⟨rfl, hb4⟩
      have V2b := Lib.hid (V2'.out.bl hb4)
      have V3b := Lib.hid (V3.out.bl hb4)
      clear q0 q1 r0 r1
      obtain ⟨q0, q1⟩ := box2 ((X2.out.trans_ X3.out).trans_ hb4)
      obtain ⟨r0, r1⟩ := box2 (X3.out.trans_ hb4)
      obtain ⟨t0, t1⟩ := box2 hb4
      go_wp2_with fail
      refine (sameGraph_yes 0 A2 A3 c2 c3 [] 0 rfl _ (by omega) V2b.out V3b.out).mono ?_
      rintro e w5 ⟨rfl, hb5⟩
      go_wp2
      go_ret
      exact ⟨rfl, B1.out.trans_ (X2.out.trans_ (X3.out.trans_ (hb4.trans_ hb5)))⟩
    | true =>
      have OK := Lib.hid hok
      have ho : okB N L = true := by unfold weighedB at hok; simp only [Bool.and_eq_true] at hok; exact hok.1.1.1
      have HP := Lib.hid (okB_elim ho).2.2.2.2
      obtain ⟨k, hk⟩ : ∃ k, k = (weighedL u v x L).length := ⟨_, rfl⟩
      have hk2 : k ≤ 201 := by rw [hk]; have := weighed_len u v x L; have := HL.out; omega
      have HK := Lib.hid hk
      clear hok ho
      intro e w2 hres
      obtain ⟨v2, rfl, hv2, hb2⟩ := hres.yes
      obtain ⟨A2, c2, rfl, ha2, -⟩ := hv2.shape
      have V2 := Lib.hid ha2
      rw [← hk]
      have X2 := Lib.hid (hb2.alloc_ (.cells #[.int .i64 N, .slice A2 k c2] 26))
      obtain ⟨q0, q1⟩ := box2 X2.out
      clear hres hv2 ha2 hb2 hk
      go_wp2_with fail
      refine (specWeighed_any N u v x A' l c' L HL.out _ (by omega) (HA.out.bl X2.out)).mono ?_
      rw [OK.out]
      intro e w3 hres
      obtain ⟨v3, rfl, hv3, hb3⟩ := hres.yes
      obtain ⟨A3, c3, rfl, ha3, -⟩ := hv3.shape
      have V3 := Lib.hid (ha3.bl (Bl.alloc_ (Bl.refl w3) (.cells #[.int .i64 N, .slice A3 k c3] 26)))
      rw [← HK.out]
      have X3 := Lib.hid (hb3.alloc_ (.cells #[.int .i64 N, .slice A3 k c3] 26))
      have V2' := Lib.hid (V2.out.bl ((Bl.alloc_ (Bl.refl w2) (.cells #[.int .i64 N, .slice A2 k c2] 26)).trans_ X3.out))
      clear hres hv3 ha3 hb3 q0 q1
      obtain ⟨q0, q1⟩ := box2 (X2.out.trans_ X3.out)
      obtain ⟨r0, r1⟩ := box2 X3.out
      go_wp2_with fail
      refine (sameGraph_yes N A2 A3 c2 c3 _ k HK.out _ (by omega) V2'.out V3.out).mono ?_
      rintro e w4 ⟨rfl, hb4⟩
      have V2b := Lib.hid (V2'.out.bl hb4)
      have P4 := Lib.hid ((X2.out.trans_ X3.out).trans_ hb4)
      have Q4 := Lib.hid (X3.out.trans_ hb4)
      clear q0 q1 r0 r1 hb4
      obtain ⟨q0, q1⟩ := box2 P4.out
      go_wp2_with fail
      refine (implWeighedW_any N u v 7 A' l c' L HL.out hlc hcm _ (by omega) (HA.out.bl P4.out)).mono ?_
      cases hok7 : weighedB N L u v 7 with
      | false =>
        clear hok7
        intro e w5 hres
        obtain ⟨v5, rfl, hv5, hb5⟩ := hres.nay
        obtain ⟨A5, c5, rfl, -, -⟩ := hv5.shape
        rw [List.length_nil]
        clear hres hv5
        go_wp2
        go_ret
        exact ⟨rfl, B1.out.trans_ (P4.out.trans_ (hb5.alloc_ _))⟩
      | true =>
        have OK2 := Lib.hid (weighedB_twice OK.out hok7)
        have W2 := Lib.hid (weighed_twice (u := u) (v := v) (x := x) (y := 7) HP.out)
        obtain ⟨k7, hk7⟩ : ∃ k7, k7 = (weighedL u v 7 L).length := ⟨_, rfl⟩
        have hk72 : k7 ≤ 201 := by rw [hk7]; have := weighed_len u v 7 L; have := HL.out; omega
        have HK7 := Lib.hid hk7
        clear hok7
        intro e w5 hres
        obtain ⟨v5, rfl, hv5, hb5⟩ := hres.yes
        have hcaps := hv5.caps
        obtain ⟨A5, c5, rfl, ha5, -⟩ := hv5.shape
        obtain ⟨hc5, hm5⟩ := hcaps _ _ _ rfl
        have V5 := Lib.hid (ha5.bl (Bl.alloc_ (Bl.refl w5) (.cells #[.int .i64 N, .slice A5 k7 c5] 26)))
        rw [← hk7]
        rw [← hk7] at hc5
        have X5 := Lib.hid (hb5.alloc_ (.cells #[.int .i64 N, .slice A5 k7 c5] 26))
        clear hres hv5 ha5 hb5 hcaps q0 q1 hk7
        go_wp2_with fail
        refine (implWeighedW_any N u v x A5 k7 c5 (weighedL u v 7 L) HK7.out hc5 hm5 _ (by omega) V5.out).mono ?_
        rw [OK2.out, W2.out]
        intro e w6 hres
        obtain ⟨v6, rfl, hv6, hb6⟩ := hres.yes
        obtain ⟨A6, c6, rfl, ha6, -⟩ := hv6.shape
        have V6 := Lib.hid (ha6.bl (Bl.alloc_ (Bl.refl w6) (.cells #[.int .i64 N, .slice A6 k c6] 26)))
        rw [← HK.out]
        have X6 := Lib.hid (hb6.alloc_ (.cells #[.int .i64 N, .slice A6 k c6] 26))
        have V2c := Lib.hid (V2b.out.bl (X5.out.trans_ X6.out))
        clear hres hv6 ha6 hb6
        obtain ⟨r0, r1⟩ := box2 (Q4.out.trans_ (X5.out.trans_ X6.out))
        go_wp2_with fail
        refine (sameGraph_yes N A6 A2 c6 c2 _ k HK.out _ (by omega) V6.out V2c.out).mono ?_
        rintro e w7 ⟨rfl, hb7⟩
        go_wp2
        go_ret
        exact ⟨rfl, B1.out.trans_ (P4.out.trans_ (X5.out.trans_ (X6.out.trans_ hb7)))⟩

end Go.Proofs.Ytkfladkncfbgmaa

set_option linter.unusedSimpArgs false
set_option linter.unusedVariables false
namespace Go.Proofs.Ytkfladkncfbgmaa
open Go.ChangeShapes Go.WideShapes Go.ChangeAt Go.RowKit

set_option maxRecDepth 100000 in
theorem fnWeighedTwice_lifted (os : Os) (started : os.Started) (H : Type) (enc : TypeId × Value → H) :
    ReturnsInHanded {} Try.checked os 8 .any (Rows.fnWeighedTwiceSpec.pre6 enc Try.prog Try.f8 Rows.fnWeighedTwiceRow.domain false) (Rows.fnWeighedTwiceSpec.post enc Try.prog Try.f8 false true false false) := by
  refine returnsInHanded_of_change (C := Try.checked) Try.own_ started (by kernel_rfl) Try.func8
    (ChangeSpec.witness6 (enc := enc) (C := Try.checked) false ⟨#[], #[.slice none 0 0], []⟩ 8 (by kernel_rfl) (by kernel_rfl) (by kernel_rfl) (by kernel_rfl)) ?_
  intro W base args ds gs before hval0 hW hcnd _
  have hval : ∀ (j : Nat) t v, Try.f8.params[j]? = some t → args[j]? = some v → Value.okWide Try.prog W .any base t v := hval0
  have hW' := hW
  obtain ⟨p, q, hA0, hV, rfl, hfz, hnd⟩ := hW
  have hA : DataW.TrodAll enc Try.prog W 0 (fun _ => true) true Try.f8.params.toList args.toList ds p := hA0
  rw [Try.params8] at hA hval
  obtain ⟨v0, vs0, d0, ds0, p0, q0, hargs, rfl, rfl, h0, r0⟩ := trodAll_cons hA
  obtain ⟨rfl, rfl, rfl⟩ := trodAll_nil r0
  obtain rfl : args = #[v0] := by cases args; simp_all
  obtain ⟨rfl, rfl⟩ := trodVars_none hV
  have k0 := h0
  have lt0 : ∀ x ∈ p0, x.block < W.heap.size := by obtain ⟨m, hm⟩ := k0; exact DataW.trod_lt m _ _ _ hm
  obtain ⟨A, n, c, rfl, hb, hg⟩ := open_bytes (hval 0 22 v0 rfl rfl) h0
  clear hA0 hval0
  refine (lawWeighedTwice_any A n c W hb).mono fun e W' ⟨he, bel0⟩ => ?_
  have bel : Below W.heap.size W W' := bel0
  subst he
  exact ⟨_, rfl, _, _, _, [], _, [], hW', trodAll_mk1 (shut_bool Try.underlying4 _), (trodAll_cons_mk (Below.trod Try.laidOut_ (by kernel_rfl) (of_decide_eq_true (by kernel_rfl)) k0 bel lt0) trodAll_mk0), rfl, bel.frame _, fun h => by cases h⟩

theorem fnWeighedTwice_holds : Rows.FnWeighedTwiceSaid :=
  OpenClaim.holds_of_wide 8 Try.f8 rfl rfl rfl rfl rfl rfl rfl ⟨rfl, rfl, rfl, rfl, rfl⟩ rfl rfl rfl rfl rfl (by kernel_rfl) Try.func8 (by kernel_rfl)
    (of_decide_eq_true (by kernel_rfl)) (by unfold Func.isWrapper; first | (rw [if_pos (by decide +kernel)]; kernel_rfl) | (rw [if_neg (by decide +kernel)]; exact ⟨rfl, rfl⟩))
    (fun os started H enc _ => fnWeighedTwice_lifted os started H enc)

end Go.Proofs.Ytkfladkncfbgmaa
