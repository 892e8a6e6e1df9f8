/-
  What is proved here: DistFrom and DistOf, on both sides; DistFrom and DistOf of the model; toInt64S makes new memory that reads as what it is handed; what a slice of numbers that comes in is made of; words on memory that reads as a list of lists of numbers; the laws' small functions on halves; the laws' small functions on lists of rows: sizes, copies, comparisons; plain words on the rows of all distances; plain facts on distances there and back: by way of a third node it is no nearer; nodes by way of which it is at most so far; lengths of paths; bounds of weights. No conditions beyond those that each theorem states.
-/
import Derived.Test.YtpbgnidjgmmebaaUG10
import Derived.Test.YtpbgnidjgmmebaaUG06
import Derived.Test.YtpbgnidjgmmebaaUZ0
import Derived.Outline
set_option linter.unusedSimpArgs false
set_option linter.unusedVariables false
namespace Go.Proofs.Ytpbgnidjgmmebaa
open Go.RowKit

def distOfI (N : Int) (L : List Arc3) (s t : Int) : Int := if has2 N L s t = true then dAt (distL N L s) t else -1
theorem has1_of {N s : Int} {L : List Arc3} (h : has1 N L s = true) : okB N L = true ∧ 0 ≤ s ∧ s < N := by simpa [has1] using h
theorem has2_of {N s t : Int} {L : List Arc3} (h : has2 N L s t = true) : okB N L = true ∧ (0 ≤ s ∧ s < N) ∧ (0 ≤ t ∧ t < N) := by simpa [has2] using h
theorem distL_len {N s : Int} {L : List Arc3} (ho : okB N L = true) (h0 : 0 ≤ s) (h1 : s < N) : (distL N L s).length = N.toNat :=
  (distL_is (arcsIn_of_ok ho) (okB_elim ho).2.1 h0 h1).len
theorem distL_top {N s : Int} {L : List Arc3} (ho : okB N L = true) (h0 : 0 ≤ s) (h1 : s < N) (v : Int) : -1 ≤ dAt (distL N L s) v ∧ dAt (distL N L s) v ≤ 23000 := by
  have h := distL_is (arcsIn_of_ok ho) (okB_elim ho).2.1 h0 h1
  exact ⟨h.low v, h.top (arcsIn_of_ok ho) (okB_elim ho).2.1 h0 h1 v⟩



theorem index24 (E : List Int) (hE : E.length = 24) (u : Nat) (hu : u < 24) (w : World) : (Instr.index 75 (.agg (E.map (Value.int .i64)).toArray) (.int .i64 (u : Int))).run Try.prog w = .ok (.int .i64 (dAt E u)) w := by
  have h1 : (0 : Int) ≤ (u : Int) ∧ (u : Int) < 24 := by omega
  have hz : (Go.sizeOf 2).run Try.prog w = .ok 1 w := by kernel_rfl
  have ha : (Go.isAgg 2).run Try.prog w = .ok false w := by kernel_rfl
  have hg : E[u]?.getD (-1) = E[u] := by simp [hE, hu]
  unfold Instr.index
  simp [Sem.run_bind, asIntOf, run_underlying Try.underlying75, Result.andThen, h1, hz, ha, part, dAt, hE, hu]

set_option maxRecDepth 100000 in
set_option maxHeartbeats 1000000 in
theorem implDistOf_any (N s t : Int) (A : Option Addr) (n c : Nat) (L : List Arc3) (hn : n = L.length) (hc : n ≤ c) (w : World) (hm : n ≤ 1048576) (H1 : ArcsAt w w.heap.size A L) :
    Calls Try.prog 31 #[.agg #[.int .i64 N, .slice A n c], .int .i64 s, .int .i64 t] w fun e w' => e = .returned (.int .i64 (distOfI N L s t)) ∧ Bl w w' := by
  have K1 := Lib.hid H1
  have HN := Lib.hid hn
  clear H1 hn
  cases hh : has2 N L s t with
  | false =>
    have HH := Lib.hid hh
    clear hh
    go_enter Try.func31, Try.ntmps31
    go_wp2_with fail
    refine (hasNodes_2 N s t A n c L HN.out (w.heap.size + 1) 2 _ (by omega) (K1.out.bl (by repeat' (first | exact Bl.refl _ | with_reducible assumption | with_reducible refine Bl.drew_ ?_ | with_reducible refine Bl.drewN_ ?_ _ | with_reducible refine Bl.alloc_ ?_ _ | with_reducible refine Bl.trans_ ?_ (by assumption) | with_reducible refine Bl.trans_ ?_ (And.left (by assumption))))) (by simp) (by simp [go_sem]) (by simp [go_sem])).mono ?_
    rintro e w1 ⟨rfl, hb1⟩
    rw [HH.out]
    go_wp2
    go_ret
    exact ⟨ret_int (by unfold distOfI; rw [if_neg (by rw [HH.out]; simp)]), (by repeat' (first | exact Bl.refl _ | with_reducible assumption | with_reducible refine Bl.drew_ ?_ | with_reducible refine Bl.drewN_ ?_ _ | with_reducible refine Bl.alloc_ ?_ _ | with_reducible refine Bl.trans_ ?_ (by assumption) | with_reducible refine Bl.trans_ ?_ (And.left (by assumption))))⟩
  | true =>
    have HH := Lib.hid hh
    obtain ⟨ho, ⟨hs0, hs1⟩, ht0, ht1⟩ := has2_of hh
    have hN24 := (okB_elim ho).2.1
    have HO := Lib.hid ho
    obtain ⟨u, rfl⟩ : ∃ u : Nat, t = u := ⟨t.toNat, by omega⟩
    clear hh ho
    go_enter Try.func31, Try.ntmps31
    go_wp2_with fail
    refine (hasNodes_2 N s u A n c L HN.out (w.heap.size + 1) 2 _ (by omega) (K1.out.bl (by repeat' (first | exact Bl.refl _ | with_reducible assumption | with_reducible refine Bl.drew_ ?_ | with_reducible refine Bl.drewN_ ?_ _ | with_reducible refine Bl.alloc_ ?_ _ | with_reducible refine Bl.trans_ ?_ (by assumption) | with_reducible refine Bl.trans_ ?_ (And.left (by assumption))))) (by simp) (by simp [go_sem]) (by simp [go_sem])).mono ?_
    rintro e w1 ⟨rfl, hb1⟩
    rw [HH.out]
    have hx := (bcell hb1).1
    have q0 : w1.cell? ⟨w.heap.size, 0, none⟩ = some (.int .i64 N) := (hx _ _ (by simp; omega)).trans (by simp [go_sem])
    have q1 : w1.cell? ⟨w.heap.size, 1, none⟩ = some (.slice A n c) := (hx _ _ (by simp; omega)).trans (by simp [go_sem])
    have hbw : Bl w w1 := (((Bl.refl w).alloc_ _).alloc_ _).trans_ hb1
    clear hx hb1
    go_wp2_with fail
    refine (distances_any N s A n c L HN.out hc HO.out hs0 hs1 _ (K1.out.bl hbw)).mono ?_
    rintro e w2 ⟨E, rfl, hE, hEd, hb2⟩
    have EL := Lib.hid hE
    have ED := Lib.hid hEd
    clear hE hEd q0 q1
    have hix := index24 E EL.out u (by omega) w2
    have hd : dAt E (u : Int) = distOfI N L s u := by
      unfold distOfI
      rw [if_pos HH.out, ← ED.out]
      unfold dAt
      simp only [List.getD_eq_getElem?_getD]
      rw [List.getElem?_take, if_pos (by omega)]
    rw [hd] at hix
    clear hd
    go_wp2
    go_ret
    exact ⟨ret_int rfl, hbw.trans_ hb2⟩


end Go.Proofs.Ytpbgnidjgmmebaa

set_option linter.unusedSimpArgs false
set_option linter.unusedVariables false
namespace Go.Proofs.Ytpbgnidjgmmebaa
open Go.RowKit

theorem nodeB_ok {N v : Int} {L : List Arc3} (ho : okB N L = true) : nodeB N v = decide (0 ≤ v ∧ v < N) := by
  obtain ⟨h1, h2, -⟩ := okB_elim ho
  unfold nodeB inB
  have : wrap64 (N - 1) = N - 1 := by unfold wrap64; omega
  rw [this, Bool.eq_iff_iff]
  simp only [decide_eq_true_eq]
  omega



end Go.Proofs.Ytpbgnidjgmmebaa

set_option linter.unusedSimpArgs false
set_option linter.unusedVariables false
namespace Go.Proofs.Ytpbgnidjgmmebaa
open Go.ChangeShapes Go.WideShapes Go.ChangeAt Go.RowKit

/-- The cells of n new numbers. -/
def mk1 (n : Nat) : Array Value := madeCells #[.int .i64 0] (n * 1)
theorem size_mk1 (n : Nat) : (mk1 n).size = n := by unfold mk1; rw [size_madeCells, Nat.mul_one]
theorem make_nums (n : Nat) (hn : n ≤ 1048576) (w : World) : (Instr.makeSlice 37 (.int .i64 (n : Int)) (.int .i64 (n : Int))).run Try.prog w = .ok (.slice (some ⟨w.heap.size, 0, none⟩) n n) (w.alloc (.cells (mk1 n) 2)) := make_ints n hn w



end Go.Proofs.Ytpbgnidjgmmebaa

set_option linter.unusedSimpArgs false
set_option linter.unusedVariables false
namespace Go.Proofs.Ytpbgnidjgmmebaa
open Go.RowKit

/-- From A on slices lie one behind the other, and each reads as its list of numbers; all of them lie in blocks from b on, below B. -/
def RowsAt (w : World) (b B : Nat) (A : Option Addr) (R : List (List Int)) : Prop :=
  0 < R.length → ∃ g off, A = some ⟨g, off, none⟩ ∧ (b ≤ g ∧ g < B) ∧ ∀ j (h : j < R.length), ∃ A' c', w.cell? ⟨g, off + j, none⟩ = some (.slice A' R[j].length c') ∧ IntsAt w B A' R[j] ∧ ∀ g', blockOf A' = some g' → 0 < R[j].length → b ≤ g'
theorem RowsAt.keep {w w' : World} {b B : Nat} {A : Option Addr} {R : List (List Int)} (h : RowsAt w b B A R) (hk : ∀ k o, b ≤ k → k < B → w'.cell? ⟨k, o, none⟩ = w.cell? ⟨k, o, none⟩) : RowsAt w' b B A R := fun h0 => by
  obtain ⟨g, off, e, hg, hc⟩ := h h0
  refine ⟨g, off, e, hg, fun j hj => ?_⟩
  obtain ⟨A', c', h1, h2, h3⟩ := hc j hj
  refine ⟨A', c', by rw [hk _ _ hg.1 hg.2]; exact h1, fun hp => ?_, h3⟩
  obtain ⟨g', off', rfl, hg', hc'⟩ := h2 hp
  exact ⟨g', off', rfl, hg', fun i hi => by rw [hk _ _ (h3 g' rfl (by rw [csI_len] at hp; exact hp)) hg']; exact hc' i hi⟩
theorem RowsAt.more {w : World} {b B B' : Nat} {A : Option Addr} {R : List (List Int)} (h : RowsAt w b B A R) (hB : B ≤ B') : RowsAt w b B' A R := fun h0 => by
  obtain ⟨g, off, e, hg, hc⟩ := h h0
  refine ⟨g, off, e, ⟨hg.1, by omega⟩, fun j hj => ?_⟩
  obtain ⟨A', c', h1, h2, h3⟩ := hc j hj
  exact ⟨A', c', h1, h2.more hB, h3⟩
theorem RowsAt.low {w : World} {b b' B : Nat} {A : Option Addr} {R : List (List Int)} (h : RowsAt w b B A R) (hb : b' ≤ b) : RowsAt w b' B A R := fun h0 => by
  obtain ⟨g, off, e, hg, hc⟩ := h h0
  refine ⟨g, off, e, ⟨by omega, hg.2⟩, fun j hj => ?_⟩
  obtain ⟨A', c', h1, h2, h3⟩ := hc j hj
  exact ⟨A', c', h1, h2, fun g' e' hp => Nat.le_trans hb (h3 g' e' hp)⟩
theorem RowsAt.bl {w w' : World} {b : Nat} {A : Option Addr} {R : List (List Int)} (h : RowsAt w b w.heap.size A R) (hb : Bl w w') : RowsAt w' b w'.heap.size A R :=
  (h.keep fun k o _ hk => (bcell hb).1 k o hk).more hb.size
theorem RowsAt.nil_ (w : World) (b B : Nat) (A : Option Addr) : RowsAt w b B A [] := fun h => absurd h (by simp)
theorem RowsAt.turn {w w' : World} {b B : Nat} {A : Option Addr} {R : List (List Int)} {S : Nat → Prop} (h : RowsAt w b B A R) (hB : B ≤ w.heap.size) (k : Turn S w w') (hS : ∀ g, b ≤ g → g < B → ¬ S g) : RowsAt w' b B A R :=
  h.keep fun g o h1 h2 => k.cell (by omega) (hS g h1 h2) o
/-- One of the rows. -/
theorem RowsAt.row {w : World} {b B : Nat} {A : Option Addr} {R : List (List Int)} (h : RowsAt w b B A R) {j : Nat} (hj : j < R.length) :
    ∃ g off A' c', A = some ⟨g, off, none⟩ ∧ g < B ∧ w.cell? ⟨g, off + j, none⟩ = some (.slice A' R[j].length c') ∧ IntsAt w B A' R[j] := by
  obtain ⟨g, off, e, hg, hc⟩ := h (by omega)
  obtain ⟨A', c', h1, h2, -⟩ := hc j hj
  exact ⟨g, off, A', c', e, hg.2, h1, h2⟩

end Go.Proofs.Ytpbgnidjgmmebaa

set_option linter.unusedSimpArgs false
set_option linter.unusedVariables false
namespace Go.Proofs.Ytpbgnidjgmmebaa
open Go.ChangeShapes Go.WideShapes Go.ChangeAt Go.RowKit


theorem IntsAt.set_ {w : World} {B : Nat} {A : Option Addr} {V : List Int} (h : IntsAt w B A V) {p : Addr} (hp : ∀ g, blockOf A = some g → p.block ≠ g) (v : Value) : IntsAt (w.setCell p v) B A V := fun h0 => by
  obtain ⟨g, off, rfl, hg, hc⟩ := h h0
  exact ⟨g, off, rfl, hg, fun k hk => by rw [World.cell?_setCell_other _ _ _ _ (fun e => hp g rfl (by rw [e]))]; exact hc k hk⟩

-- (Tri left out)
-- (Tri.new left out)
-- (Tri.facts left out)
-- (Tri.bl left out)
-- (Tri.far left out)
-- (Tri.set0 left out)
-- (Tri.set1 left out)




end Go.Proofs.Ytpbgnidjgmmebaa

set_option linter.unusedSimpArgs false
set_option linter.unusedVariables false
namespace Go.Proofs.Ytpbgnidjgmmebaa
open Go.RowKit






theorem infoRow : (Try.prog.info? 113).map (fun i => (i.zero, i.size, i.bytes)) = some (some (.agg #[.slice none 0 0]), 1, 24) := by kernel_rfl




end Go.Proofs.Ytpbgnidjgmmebaa

set_option linter.unusedSimpArgs false
set_option linter.unusedVariables false
namespace Go.Proofs.Ytpbgnidjgmmebaa
open Go.RowKit

/-- The rows of all distances. -/
def rowsK (q : Nat) (L : List Arc3) (k : Nat) : List (List Int) := (List.range k).map fun (j : Nat) => distL q L (j : Int)
theorem rowsK_len (q : Nat) (L : List Arc3) (k : Nat) : (rowsK q L k).length = k := by simp [rowsK]
theorem rowsK_at {q : Nat} {L : List Arc3} {k j : Nat} (h : j < (rowsK q L k).length) : (rowsK q L k)[j] = distL q L (j : Int) := by simp [rowsK]
theorem rowsK_succ (q : Nat) (L : List Arc3) (k : Nat) : rowsK q L (k + 1) = rowsK q L k ++ [distL q L (k : Int)] := by simp [rowsK, List.range_succ]

end Go.Proofs.Ytpbgnidjgmmebaa

set_option linter.unusedSimpArgs false
set_option linter.unusedVariables false
namespace Go.Proofs.Ytpbgnidjgmmebaa
open Go.RowKit

theorem IsDist.tri {N : Int} {L : List Arc3} {s t : Int} {D E : List Int} (ho : okB N L = true) (hD : IsDist N L s D) (hE : IsDist N (revL L) t E) :
    ∀ (n : Nat) (v : Int), 0 ≤ v → v < N → (dAt E v).toNat = n → 0 ≤ dAt E v → 0 ≤ dAt D v → 0 ≤ dAt D t ∧ dAt D t ≤ dAt D v + dAt E v := by
  have hp := (okB_elim ho).2.2.2.2
  have hin := arcsIn_of_ok ho
  intro n
  induction n using Nat.strongRecOn with
  | ind n ih =>
    intro v h0 h1 hn hb ha
    rcases hE.back v h0 h1 hb with rfl | ⟨r, hr, e1, e2, e3⟩
    · have := hE.start
      omega
    · have hm := (revL_mem hp).1 hr
      obtain ⟨a0, a1, a2, a3, a4, a5⟩ := hin _ hm
      simp only [turnA] at a0 a1 a2 a3 a4 a5
      have := hD.arc _ hm (by simp only [turnA]; rw [e1]; exact ha)
      simp only [turnA] at this
      rw [e1] at this
      obtain ⟨x, y⟩ := ih (dAt E r.1).toNat (by omega) r.1 a2 a3 rfl e2 this.1
      omega
/-- In the graph that is turned it is as far the other way round. -/
theorem IsDist.turned {N : Int} {L : List Arc3} {s t : Int} {D E : List Int} (ho : okB N L = true) (hs : 0 ≤ s ∧ s < N) (ht : 0 ≤ t ∧ t < N) (hD : IsDist N L s D) (hE : IsDist N (revL L) t E) : dAt E s = dAt D t := by
  have h1 := fun h => hD.tri ho hE _ s hs.1 hs.2 rfl h (by rw [hD.start]; omega)
  have hD' : IsDist N (revL (revL L)) s D := by rw [revL_revL ho]; exact hD
  have h2 := fun h => hE.tri (revL_ok ho) hD' _ t ht.1 ht.2 rfl h (by rw [hE.start]; omega)
  have e1 := hD.start
  have e2 := hE.start
  have l1 := hD.low t
  have l2 := hE.low s
  by_cases p : 0 ≤ dAt E s
  · obtain ⟨a, b⟩ := h1 p
    obtain ⟨c, d⟩ := h2 a
    omega
  · by_cases q : 0 ≤ dAt D t
    · obtain ⟨c, d⟩ := h2 q
      omega
    · omega

/-- The nodes of N, rising. -/
def nodesL (N : Int) : List Int := (List.range N.toNat).map Int.ofNat
/-- Is it by way of v at most so far? -/
def byB (D E : List Int) (m v : Int) : Bool := decide (0 ≤ dAt D v ∧ 0 ≤ dAt E v ∧ dAt D v + dAt E v ≤ m)
/-- The nodes by way of which it is at most so far. -/
def withinD (N : Int) (D E : List Int) (m : Int) : List Int := (nodesL N).filter (byB D E m)
def withinL (N : Int) (L : List Arc3) (s t m : Int) : List Int := withinD N (distL N L s) (distL N (revL L) t) m
theorem withinD_len (N : Int) (D E : List Int) (m : Int) : (withinD N D E m).length ≤ N.toNat := by
  unfold withinD
  exact Nat.le_trans (List.length_filter_le _ _) (by simp [nodesL])
/-- The first k of them. -/
def withinK (D E : List Int) (m : Int) (k : Nat) : List Int := ((List.range k).map Int.ofNat).filter (byB D E m)
theorem withinK_yes {D E : List Int} {m : Int} {k : Nat} (h : byB D E m (k : Int) = true) : withinK D E m (k + 1) = withinK D E m k ++ [(k : Int)] := by
  unfold withinK
  rw [List.range_succ, List.map_append, List.filter_append]
  congr 1
  show List.filter _ [(k : Int)] = _
  rw [List.filter_cons, if_pos h]
  rfl
theorem withinK_no {D E : List Int} {m : Int} {k : Nat} (h : byB D E m (k : Int) = false) : withinK D E m (k + 1) = withinK D E m k := by
  unfold withinK
  rw [List.range_succ, List.map_append, List.filter_append]
  have : List.filter (byB D E m) (List.map Int.ofNat [k]) = [] := by
    show List.filter _ [(k : Int)] = _
    rw [List.filter_cons, if_neg (by rw [h]; simp)]
    rfl
  rw [this, List.append_nil]
theorem withinK_all (N : Int) (D E : List Int) (m : Int) : withinK D E m N.toNat = withinD N D E m := rfl
theorem mem_nodesL {N v : Int} : v ∈ nodesL N ↔ 0 ≤ v ∧ v < N := by
  unfold nodesL
  rw [List.mem_map]
  constructor
  · rintro ⟨k, hk, rfl⟩
    have := List.mem_range.1 hk
    simp
    omega
  · rintro ⟨h0, h1⟩
    exact ⟨v.toNat, List.mem_range.2 (by omega), by simp; omega⟩

/-- The nodes of the shortest paths. -/
def onL (N : Int) (L : List Arc3) (s t : Int) : List Int := if has2 N L s t = true then withinL N L s t (dAt (distL N L s) t) else []
theorem byB_on {N : Int} {L : List Arc3} {s t v : Int} {D E : List Int} (ho : okB N L = true) (hD : IsDist N L s D) (hE : IsDist N (revL L) t E) (h0 : 0 ≤ v) (h1 : v < N) : byB D E (dAt D t) v = decide (0 ≤ dAt D v ∧ 0 ≤ dAt E v ∧ dAt D v + dAt E v = dAt D t) := by
  unfold byB
  rw [Bool.eq_iff_iff]
  simp only [decide_eq_true_eq]
  constructor
  · rintro ⟨a, b, c⟩
    have := hD.tri ho hE _ v h0 h1 rfl b a
    omega
  · rintro ⟨a, b, c⟩
    omega
theorem stepsL_len (L : List Arc3) (D : List Int) (t : Int) : ∀ (n : Nat) (v : Int), (dAt D v).toNat = n → (stepsL L D t v).length ≤ n := by
  intro n
  induction n using Nat.strongRecOn with
  | ind n ih =>
    intro v hn
    rw [stepsL]
    split
    · simp
    · split
      · simp
      · split
        · rename_i a _ h
          have := ih _ (by omega) a.2.1 rfl
          simp only [List.length_cons]
          omega
        · simp
theorem distL_of_turned {N s t : Int} {L : List Arc3} (ho : okB N L = true) (hs : 0 ≤ s ∧ s < N) (ht : 0 ≤ t ∧ t < N) : dAt (distL N (revL L) t) s = dAt (distL N L s) t :=
  IsDist.turned ho hs ht (distL_is (arcsIn_of_ok ho) (okB_elim ho).2.1 hs.1 hs.2) (distL_is (arcsIn_of_ok (revL_ok ho)) (okB_elim ho).2.1 ht.1 ht.2)


theorem onL_len (N : Int) (L : List Arc3) (s t : Int) : (onL N L s t).length ≤ 1048576 := by
  unfold onL
  split
  · rename_i h
    have := (okB_elim (has2_of h).1).2.1
    have := withinD_len N (distL N L s) (distL N (revL L) t) (dAt (distL N L s) t)
    unfold withinL
    omega
  · simp


end Go.Proofs.Ytpbgnidjgmmebaa

set_option linter.unusedSimpArgs false
set_option linter.unusedVariables false
namespace Go.Proofs.Ytpbgnidjgmmebaa
open Go.RowKit


theorem dAt_at {D : List Int} {k : Nat} (hk : k < D.length) : dAt D (k : Int) = D[k] := by simp [dAt, hk]

end Go.Proofs.Ytpbgnidjgmmebaa
