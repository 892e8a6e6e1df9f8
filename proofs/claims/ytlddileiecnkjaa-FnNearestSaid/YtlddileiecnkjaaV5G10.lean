/-
  What is proved here: contracts of the laws' small functions on slices of numbers; DistFrom and DistOf, on both sides; plain facts on distances there and back: by way of a third node it is no nearer; nodes by way of which it is at most so far; lengths of paths; plain facts on weights, on the nearest way over an arc, and on the arcs of all nodes, one behind the other; bounds of weights; plain facts on lists without two alike, on the nearest of some nodes, and on the first of the greatest. No conditions beyond those that each theorem states.
-/
import Derived.Test.YtlddileiecnkjaaV5G02
import Derived.Test.YtlddileiecnkjaaV5G09
import Derived.Test.YtlddileiecnkjaaV5G04
set_option linter.unusedSimpArgs false
set_option linter.unusedVariables false
namespace Go.Proofs.Ytlddileiecnkjaa
open Go.RowKit

theorem infoInt : (Try.prog.info? 2).map (fun i => (i.zero, i.size, i.bytes)) = some (some (.int .i64 0), 1, 8) := by kernel_rfl

/-- The slice at A reads as the numbers V, below block B. -/
def IntsAt (w : World) (B : Nat) (A : Option Addr) (V : List Int) : Prop := CellsAt w B A (csI V)
theorem IntsAt.cell {w : World} {B : Nat} {A : Option Addr} {V : List Int} (h : IntsAt w B A V) (h0 : 0 < V.length) :
    ∃ g off, A = some ⟨g, off, none⟩ ∧ g < B ∧ ∀ k (hk : k < V.length), w.cell? ⟨g, off + k, none⟩ = some (.int .i64 V[k]) := by
  obtain ⟨g, off, e, hg, hc⟩ := h (by rw [csI_len]; omega)
  exact ⟨g, off, e, hg, fun k hk => by rw [hc k (by rw [csI_len]; exact hk), csI_at]⟩
theorem IntsAt.bl {w w' : World} {A : Option Addr} {V : List Int} (h : IntsAt w w.heap.size A V) (hb : Bl w w') : IntsAt w' w'.heap.size A V := CellsAt.bl h hb
theorem IntsAt.more {w : World} {B B' : Nat} {A : Option Addr} {V : List Int} (h : IntsAt w B A V) (hB : B ≤ B') : IntsAt w B' A V := CellsAt.more h hB
theorem IntsAt.grown_ {w w' : World} {B : Nat} {A : Option Addr} {V : List Int} {row : Option Nat} (h : IntsAt w B A V) (hB : B ≤ w.heap.size) (hg : w.grownBy w' row)
    (hne : ∀ g, blockOf A = some g → g < B → some g ≠ row) : IntsAt w' B A V := CellsAt.grown_ h hB hg hne
/-- The value v owns the numbers V, in blocks from B on. -/
def OwnN (w : World) (B : Nat) (v : Value) (V : List Int) : Prop := Owns 2 1 w B v V.length (csI V)
theorem OwnN.nil_ (w : World) (B : Nat) : OwnN w B (.slice none 0 0) [] := Owns.nil_ _ _ _ _
theorem OwnN.bl {w w' : World} {B : Nat} {v : Value} {V : List Int} (h : OwnN w B v V) (hb : Bl w w') : OwnN w' B v V := Owns.bl h hb
theorem OwnN.low {w : World} {B B' : Nat} {v : Value} {V : List Int} (h : OwnN w B' v V) (hB : B ≤ B') : OwnN w B v V := Owns.low h hB
theorem OwnN.shape {w : World} {B : Nat} {v : Value} {V : List Int} (h : OwnN w B v V) :
    ∃ A c, v = .slice A V.length c ∧ V.length ≤ c ∧ IntsAt w w.heap.size A V ∧ RowsW 2 1 w A V.length ∧ ∀ g, blockOf A = some g → B ≤ g ∧ g < w.heap.size := by
  have h' := h
  obtain ⟨A, c, rfl, hc, h1, h2, h3⟩ := Owns.shape h
  refine ⟨A, c, rfl, ?_, h1, h2, Owns.lt_ h⟩
  rcases h'.2 with ⟨e, h0⟩ | ⟨g, cap, cur, e, _, _, hnc, _⟩
  · omega
  · injection e with e1 e2 e3
    omega
/-- A new list of numbers is left. -/
def NumsMade (V : List Int) (w : World) (e : Ending) (w' : World) : Prop := ∃ v, e = .returned v ∧ OwnN w' w.heap.size v V ∧ Bl w w'







end Go.Proofs.Ytlddileiecnkjaa

set_option linter.unusedSimpArgs false
set_option linter.unusedVariables false
namespace Go.Proofs.Ytlddileiecnkjaa
open Go.RowKit

def distOfI (N : Int) (L : List Arc3) (s t : Int) : Int := if has2 N L s t = true then dAt (distL N L s) t else -1
theorem has1_of {N s : Int} {L : List Arc3} (h : has1 N L s = true) : okB N L = true ∧ 0 ≤ s ∧ s < N := by simpa [has1] using h
theorem has2_of {N s t : Int} {L : List Arc3} (h : has2 N L s t = true) : okB N L = true ∧ (0 ≤ s ∧ s < N) ∧ (0 ≤ t ∧ t < N) := by simpa [has2] using h
theorem distL_len {N s : Int} {L : List Arc3} (ho : okB N L = true) (h0 : 0 ≤ s) (h1 : s < N) : (distL N L s).length = N.toNat :=
  (distL_is (arcsIn_of_ok ho) (okB_elim ho).2.1 h0 h1).len



theorem index24 (E : List Int) (hE : E.length = 24) (u : Nat) (hu : u < 24) (w : World) : (Instr.index 114 (.agg (E.map (Value.int .i64)).toArray) (.int .i64 (u : Int))).run Try.prog w = .ok (.int .i64 (dAt E u)) w := by
  have h1 : (0 : Int) ≤ (u : Int) ∧ (u : Int) < 24 := by omega
  have hz : (Go.sizeOf 2).run Try.prog w = .ok 1 w := by kernel_rfl
  have ha : (Go.isAgg 2).run Try.prog w = .ok false w := by kernel_rfl
  have hg : E[u]?.getD (-1) = E[u] := by simp [hE, hu]
  unfold Instr.index
  simp [Sem.run_bind, asIntOf, run_underlying Try.underlying114, Result.andThen, h1, hz, ha, part, dAt, hE, hu]

set_option maxRecDepth 100000 in
set_option maxHeartbeats 1000000 in
theorem implDistOf_any (N s t : Int) (A : Option Addr) (n c : Nat) (L : List Arc3) (hn : n = L.length) (hc : n ≤ c) (w : World) (hm : n ≤ 1048576) (H1 : ArcsAt w w.heap.size A L) :
    Calls Try.prog 23 #[.agg #[.int .i64 N, .slice A n c], .int .i64 s, .int .i64 t] w fun e w' => e = .returned (.int .i64 (distOfI N L s t)) ∧ Bl w w' := by
  have K1 := Lib.hid H1
  have HN := Lib.hid hn
  clear H1 hn
  cases hh : has2 N L s t with
  | false =>
    have HH := Lib.hid hh
    clear hh
    go_enter Try.func23, Try.ntmps23
    go_wp2_with fail
    refine (hasNodes_2 N s t A n c L HN.out (w.heap.size + 1) 2 _ (by omega) (K1.out.bl (by repeat' (first | exact Bl.refl _ | with_reducible assumption | with_reducible refine Bl.drew_ ?_ | with_reducible refine Bl.drewN_ ?_ _ | with_reducible refine Bl.alloc_ ?_ _ | with_reducible refine Bl.trans_ ?_ (by assumption) | with_reducible refine Bl.trans_ ?_ (And.left (by assumption))))) (by simp) (by simp [go_sem]) (by simp [go_sem])).mono ?_
    rintro e w1 ⟨rfl, hb1⟩
    rw [HH.out]
    go_wp2
    go_ret
    exact ⟨ret_int (by unfold distOfI; rw [if_neg (by rw [HH.out]; simp)]), (by repeat' (first | exact Bl.refl _ | with_reducible assumption | with_reducible refine Bl.drew_ ?_ | with_reducible refine Bl.drewN_ ?_ _ | with_reducible refine Bl.alloc_ ?_ _ | with_reducible refine Bl.trans_ ?_ (by assumption) | with_reducible refine Bl.trans_ ?_ (And.left (by assumption))))⟩
  | true =>
    have HH := Lib.hid hh
    obtain ⟨ho, ⟨hs0, hs1⟩, ht0, ht1⟩ := has2_of hh
    have hN24 := (okB_elim ho).2.1
    have HO := Lib.hid ho
    obtain ⟨u, rfl⟩ : ∃ u : Nat, t = u := ⟨t.toNat, by omega⟩
    clear hh ho
    go_enter Try.func23, Try.ntmps23
    go_wp2_with fail
    refine (hasNodes_2 N s u A n c L HN.out (w.heap.size + 1) 2 _ (by omega) (K1.out.bl (by repeat' (first | exact Bl.refl _ | with_reducible assumption | with_reducible refine Bl.drew_ ?_ | with_reducible refine Bl.drewN_ ?_ _ | with_reducible refine Bl.alloc_ ?_ _ | with_reducible refine Bl.trans_ ?_ (by assumption) | with_reducible refine Bl.trans_ ?_ (And.left (by assumption))))) (by simp) (by simp [go_sem]) (by simp [go_sem])).mono ?_
    rintro e w1 ⟨rfl, hb1⟩
    rw [HH.out]
    have hx := (bcell hb1).1
    have q0 : w1.cell? ⟨w.heap.size, 0, none⟩ = some (.int .i64 N) := (hx _ _ (by simp; omega)).trans (by simp [go_sem])
    have q1 : w1.cell? ⟨w.heap.size, 1, none⟩ = some (.slice A n c) := (hx _ _ (by simp; omega)).trans (by simp [go_sem])
    have hbw : Bl w w1 := (((Bl.refl w).alloc_ _).alloc_ _).trans_ hb1
    clear hx hb1
    go_wp2_with fail
    refine (distances_any N s A n c L HN.out hc HO.out hs0 hs1 _ (K1.out.bl hbw)).mono ?_
    rintro e w2 ⟨E, rfl, hE, hEd, hb2⟩
    have EL := Lib.hid hE
    have ED := Lib.hid hEd
    clear hE hEd q0 q1
    have hix := index24 E EL.out u (by omega) w2
    have hd : dAt E (u : Int) = distOfI N L s u := by
      unfold distOfI
      rw [if_pos HH.out, ← ED.out]
      unfold dAt
      simp only [List.getD_eq_getElem?_getD]
      rw [List.getElem?_take, if_pos (by omega)]
    rw [hd] at hix
    clear hd
    go_wp2
    go_ret
    exact ⟨ret_int rfl, hbw.trans_ hb2⟩


end Go.Proofs.Ytlddileiecnkjaa

set_option linter.unusedSimpArgs false
set_option linter.unusedVariables false
namespace Go.Proofs.Ytlddileiecnkjaa
open Go.RowKit

theorem IsDist.tri {N : Int} {L : List Arc3} {s t : Int} {D E : List Int} (ho : okB N L = true) (hD : IsDist N L s D) (hE : IsDist N (revL L) t E) :
    ∀ (n : Nat) (v : Int), 0 ≤ v → v < N → (dAt E v).toNat = n → 0 ≤ dAt E v → 0 ≤ dAt D v → 0 ≤ dAt D t ∧ dAt D t ≤ dAt D v + dAt E v := by
  have hp := (okB_elim ho).2.2.2.2
  have hin := arcsIn_of_ok ho
  intro n
  induction n using Nat.strongRecOn with
  | ind n ih =>
    intro v h0 h1 hn hb ha
    rcases hE.back v h0 h1 hb with rfl | ⟨r, hr, e1, e2, e3⟩
    · have := hE.start
      omega
    · have hm := (revL_mem hp).1 hr
      obtain ⟨a0, a1, a2, a3, a4, a5⟩ := hin _ hm
      simp only [turnA] at a0 a1 a2 a3 a4 a5
      have := hD.arc _ hm (by simp only [turnA]; rw [e1]; exact ha)
      simp only [turnA] at this
      rw [e1] at this
      obtain ⟨x, y⟩ := ih (dAt E r.1).toNat (by omega) r.1 a2 a3 rfl e2 this.1
      omega
/-- In the graph that is turned it is as far the other way round. -/
theorem IsDist.turned {N : Int} {L : List Arc3} {s t : Int} {D E : List Int} (ho : okB N L = true) (hs : 0 ≤ s ∧ s < N) (ht : 0 ≤ t ∧ t < N) (hD : IsDist N L s D) (hE : IsDist N (revL L) t E) : dAt E s = dAt D t := by
  have h1 := fun h => hD.tri ho hE _ s hs.1 hs.2 rfl h (by rw [hD.start]; omega)
  have hD' : IsDist N (revL (revL L)) s D := by rw [revL_revL ho]; exact hD
  have h2 := fun h => hE.tri (revL_ok ho) hD' _ t ht.1 ht.2 rfl h (by rw [hE.start]; omega)
  have e1 := hD.start
  have e2 := hE.start
  have l1 := hD.low t
  have l2 := hE.low s
  by_cases p : 0 ≤ dAt E s
  · obtain ⟨a, b⟩ := h1 p
    obtain ⟨c, d⟩ := h2 a
    omega
  · by_cases q : 0 ≤ dAt D t
    · obtain ⟨c, d⟩ := h2 q
      omega
    · omega






end Go.Proofs.Ytlddileiecnkjaa

set_option linter.unusedSimpArgs false
set_option linter.unusedVariables false
namespace Go.Proofs.Ytlddileiecnkjaa
open Go.RowKit






end Go.Proofs.Ytlddileiecnkjaa

set_option linter.unusedSimpArgs false
set_option linter.unusedVariables false
namespace Go.Proofs.Ytlddileiecnkjaa
open Go.RowKit



end Go.Proofs.Ytlddileiecnkjaa

set_option linter.unusedSimpArgs false
set_option linter.unusedVariables false
namespace Go.Proofs.Ytlddileiecnkjaa

/-- Are all of these nodes of N, no two alike? -/
def unB (N : Int) (V : List Int) : Bool := decide ((∀ v ∈ V, 0 ≤ v ∧ v < N) ∧ V.Nodup)
/-- Is the graph right, are all of these nodes of it, and no two alike? -/
def hasUB (N : Int) (L : List Arc3) (V : List Int) : Bool := okB N L && unB N V
theorem hasB_iff {N : Int} {L : List Arc3} {V : List Int} : hasB N L V = true ↔ okB N L = true ∧ ∀ v ∈ V, 0 ≤ v ∧ v < N := by
  unfold hasB
  rw [Bool.and_eq_true, List.all_eq_true]
  simp
theorem hasUB_no {N : Int} {L : List Arc3} {V : List Int} (h : hasB N L V = false) : hasUB N L V = false := by
  unfold hasUB unB
  rcases Bool.eq_false_or_eq_true (okB N L) with ho | ho
  · rw [ho, Bool.true_and, decide_eq_false_iff_not]
    intro hx
    have := hasB_iff.2 ⟨ho, hx.1⟩
    rw [this] at h
    exact absurd h (by simp)
  · rw [ho]; rfl
theorem hasUB_yes {N : Int} {L : List Arc3} {V : List Int} (h : hasB N L V = true) : hasUB N L V = decide V.Nodup := by
  obtain ⟨h1, h2⟩ := hasB_iff.1 h
  unfold hasUB unB
  rw [h1, Bool.true_and]
  by_cases hn : V.Nodup
  · rw [decide_eq_true hn]; exact decide_eq_true ⟨h2, hn⟩
  · rw [decide_eq_false hn]; exact decide_eq_false fun hx => hn hx.2
theorem hasUB_iff {N : Int} {L : List Arc3} {V : List Int} : hasUB N L V = true ↔ okB N L = true ∧ (∀ v ∈ V, 0 ≤ v ∧ v < N) ∧ V.Nodup := by
  unfold hasUB unB
  rw [Bool.and_eq_true, decide_eq_true_eq]

/-- Numbers as items. -/
def itV (V : List Int) : List It := V.map fun v => (0, v)
theorem told_itV {V : List Int} {v : Int} : toldB (itV V) v = decide (v ∈ V) := by
  rw [Bool.eq_iff_iff, toldB_iff, decide_eq_true_eq]
  constructor
  · rintro ⟨y, hy, rfl⟩
    obtain ⟨u, hu, rfl⟩ := List.mem_map.1 hy
    exact hu
  · intro h
    exact ⟨(0, v), List.mem_map.2 ⟨v, h, rfl⟩, rfl⟩
theorem itV_snoc (V : List Int) (v : Int) : itV (V ++ [v]) = itV V ++ [(0, v)] := by simp [itV]
theorem take_snocI {V : List Int} {j : Nat} (h : j < V.length) : V.take (j + 1) = V.take j ++ [V[j]] := by
  rw [List.take_succ_eq_append_getElem h]
theorem nodup_step {V : List Int} {j : Nat} (h : j < V.length) (hn : (V.take j).Nodup) (hv : V[j] ∉ V.take j) : (V.take (j + 1)).Nodup := by
  rw [take_snocI h, List.nodup_append]
  refine ⟨hn, by simp, fun a ha b hb => ?_⟩
  have : b = V[j] := by simpa using hb
  subst this
  intro e
  subst e
  exact hv ha
theorem nodup_hurt {V : List Int} {j : Nat} (h : j < V.length) (hv : V[j] ∈ V.take j) : ¬ V.Nodup := by
  intro hn
  obtain ⟨i, hi, e⟩ := List.mem_iff_getElem.1 hv
  rw [List.length_take] at hi
  rw [List.getElem_take] at e
  have := (List.nodup_iff_pairwise_ne.1 hn)
  exact (List.pairwise_iff_getElem.1 this) i j (by omega) h (by omega) e





end Go.Proofs.Ytlddileiecnkjaa
