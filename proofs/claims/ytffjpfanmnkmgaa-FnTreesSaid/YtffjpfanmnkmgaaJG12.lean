/-
  What is proved here: contracts of the laws' small functions on slices of numbers; DistFrom and DistOf, on both sides; plain facts on distances there and back: by way of a third node it is no nearer; nodes by way of which it is at most so far; lengths of paths; plain facts on weights, on the nearest way over an arc, and on the arcs of all nodes, one behind the other; plain facts on trees: of each node the least one ahead of it on a shortest path; toInt64S makes new memory that reads as what it is handed; what a slice of numbers that comes in is made of; the laws' small functions on halves; the product of one and a small number, as the library reckons it. No conditions beyond those that each theorem states.
-/
import Derived.Test.YtffjpfanmnkmgaaJG06
import Derived.Test.YtffjpfanmnkmgaaJG11
import Derived.Test.YtffjpfanmnkmgaaJG04
import Derived.Test.YtffjpfanmnkmgaaJZ0
set_option linter.unusedSimpArgs false
set_option linter.unusedVariables false
namespace Go.Proofs.Ytffjpfanmnkmgaa
open Go.RowKit

theorem infoInt : (Try.prog.info? 2).map (fun i => (i.zero, i.size, i.bytes)) = some (some (.int .i64 0), 1, 8) := by kernel_rfl

/-- The slice at A reads as the numbers V, below block B. -/
def IntsAt (w : World) (B : Nat) (A : Option Addr) (V : List Int) : Prop := CellsAt w B A (csI V)
theorem IntsAt.cell {w : World} {B : Nat} {A : Option Addr} {V : List Int} (h : IntsAt w B A V) (h0 : 0 < V.length) :
    ∃ g off, A = some ⟨g, off, none⟩ ∧ g < B ∧ ∀ k (hk : k < V.length), w.cell? ⟨g, off + k, none⟩ = some (.int .i64 V[k]) := by
  obtain ⟨g, off, e, hg, hc⟩ := h (by rw [csI_len]; omega)
  exact ⟨g, off, e, hg, fun k hk => by rw [hc k (by rw [csI_len]; exact hk), csI_at]⟩
theorem IntsAt.bl {w w' : World} {A : Option Addr} {V : List Int} (h : IntsAt w w.heap.size A V) (hb : Bl w w') : IntsAt w' w'.heap.size A V := CellsAt.bl h hb
theorem IntsAt.bl' {w w' : World} {B : Nat} {A : Option Addr} {V : List Int} (h : IntsAt w B A V) (hB : B ≤ w.heap.size) (hb : Bl w w') : IntsAt w' B A V := CellsAt.bl' h hB hb
theorem IntsAt.more {w : World} {B B' : Nat} {A : Option Addr} {V : List Int} (h : IntsAt w B A V) (hB : B ≤ B') : IntsAt w B' A V := CellsAt.more h hB
theorem IntsAt.grown_ {w w' : World} {B : Nat} {A : Option Addr} {V : List Int} {row : Option Nat} (h : IntsAt w B A V) (hB : B ≤ w.heap.size) (hg : w.grownBy w' row)
    (hne : ∀ g, blockOf A = some g → g < B → some g ≠ row) : IntsAt w' B A V := CellsAt.grown_ h hB hg hne
/-- The value v owns the numbers V, in blocks from B on. -/
def OwnN (w : World) (B : Nat) (v : Value) (V : List Int) : Prop := Owns 2 1 w B v V.length (csI V)
theorem OwnN.nil_ (w : World) (B : Nat) : OwnN w B (.slice none 0 0) [] := Owns.nil_ _ _ _ _
theorem OwnN.bl {w w' : World} {B : Nat} {v : Value} {V : List Int} (h : OwnN w B v V) (hb : Bl w w') : OwnN w' B v V := Owns.bl h hb
theorem OwnN.low {w : World} {B B' : Nat} {v : Value} {V : List Int} (h : OwnN w B' v V) (hB : B ≤ B') : OwnN w B v V := Owns.low h hB
theorem OwnN.shape {w : World} {B : Nat} {v : Value} {V : List Int} (h : OwnN w B v V) :
    ∃ A c, v = .slice A V.length c ∧ V.length ≤ c ∧ IntsAt w w.heap.size A V ∧ RowsW 2 1 w A V.length ∧ ∀ g, blockOf A = some g → B ≤ g ∧ g < w.heap.size := by
  have h' := h
  obtain ⟨A, c, rfl, hc, h1, h2, h3⟩ := Owns.shape h
  refine ⟨A, c, rfl, ?_, h1, h2, Owns.lt_ h⟩
  rcases h'.2 with ⟨e, h0⟩ | ⟨g, cap, cur, e, _, _, hnc, _⟩
  · omega
  · injection e with e1 e2 e3
    omega
/-- A new list of numbers is left. -/
def NumsMade (V : List Int) (w : World) (e : Ending) (w' : World) : Prop := ∃ v, e = .returned v ∧ OwnN w' w.heap.size v V ∧ Bl w w'




theorem make_ints (n : Nat) (hn : n ≤ 1048576) (w : World) : (Instr.makeSlice 22 (.int .i64 (n : Int)) (.int .i64 (n : Int))).run Try.prog w = .ok (.slice (some ⟨w.heap.size, 0, none⟩) n n) (w.alloc (.cells (madeCells #[.int .i64 0] (n * 1)) 2)) := by
  obtain ⟨i0, hi, hz0, hz1, hz2⟩ := info_parts infoInt
  have h := run_make_rowN (P := Try.prog) 22 2 i0 (.int .i64 0) Try.underlying22 hi hz0 .i64 .i64 n n (Nat.le_refl _) (by rw [hz2]; omega) (by omega) w
  rw [hz1] at h
  exact h



end Go.Proofs.Ytffjpfanmnkmgaa

set_option linter.unusedSimpArgs false
set_option linter.unusedVariables false
namespace Go.Proofs.Ytffjpfanmnkmgaa
open Go.RowKit

def distOfI (N : Int) (L : List Arc3) (s t : Int) : Int := if has2 N L s t = true then dAt (distL N L s) t else -1
theorem has1_of {N s : Int} {L : List Arc3} (h : has1 N L s = true) : okB N L = true ∧ 0 ≤ s ∧ s < N := by simpa [has1] using h
theorem has2_of {N s t : Int} {L : List Arc3} (h : has2 N L s t = true) : okB N L = true ∧ (0 ≤ s ∧ s < N) ∧ (0 ≤ t ∧ t < N) := by simpa [has2] using h
theorem distL_len {N s : Int} {L : List Arc3} (ho : okB N L = true) (h0 : 0 ≤ s) (h1 : s < N) : (distL N L s).length = N.toNat :=
  (distL_is (arcsIn_of_ok ho) (okB_elim ho).2.1 h0 h1).len
theorem distL_top {N s : Int} {L : List Arc3} (ho : okB N L = true) (h0 : 0 ≤ s) (h1 : s < N) (v : Int) : -1 ≤ dAt (distL N L s) v ∧ dAt (distL N L s) v ≤ 23000 := by
  have h := distL_is (arcsIn_of_ok ho) (okB_elim ho).2.1 h0 h1
  exact ⟨h.low v, h.top (arcsIn_of_ok ho) (okB_elim ho).2.1 h0 h1 v⟩


theorem there_new (w : World) (t : TypeId) : (w.alloc (.cells #[.int .i64 0, .int .i64 0, .int .i64 0, .int .i64 0, .int .i64 0, .int .i64 0, .int .i64 0, .int .i64 0, .int .i64 0, .int .i64 0, .int .i64 0, .int .i64 0, .int .i64 0, .int .i64 0, .int .i64 0, .int .i64 0, .int .i64 0, .int .i64 0, .int .i64 0, .int .i64 0, .int .i64 0, .int .i64 0, .int .i64 0, .int .i64 0] t)).there w.heap.size 0 24 := by
  refine there_of_cells fun i hi => ?_
  match i, hi with
  | 0, _ | 1, _ | 2, _ | 3, _ | 4, _ | 5, _ | 6, _ | 7, _ | 8, _ | 9, _ | 10, _ | 11, _ | 12, _ | 13, _ | 14, _ | 15, _ | 16, _ | 17, _ | 18, _ | 19, _ | 20, _ | 21, _ | 22, _ | 23, _ => simp [go_sem]
  | (k + 24), h => exact absurd h (by omega)
theorem size24 : (Try.prog.info? 99).map (·.size) = some 24 := by kernel_rfl

theorem index24 (E : List Int) (hE : E.length = 24) (u : Nat) (hu : u < 24) (w : World) : (Instr.index 99 (.agg (E.map (Value.int .i64)).toArray) (.int .i64 (u : Int))).run Try.prog w = .ok (.int .i64 (dAt E u)) w := by
  have h1 : (0 : Int) ≤ (u : Int) ∧ (u : Int) < 24 := by omega
  have hz : (Go.sizeOf 2).run Try.prog w = .ok 1 w := by kernel_rfl
  have ha : (Go.isAgg 2).run Try.prog w = .ok false w := by kernel_rfl
  have hg : E[u]?.getD (-1) = E[u] := by simp [hE, hu]
  unfold Instr.index
  simp [Sem.run_bind, asIntOf, run_underlying Try.underlying99, Result.andThen, h1, hz, ha, part, dAt, hE, hu]

set_option maxRecDepth 100000 in
set_option maxHeartbeats 1000000 in
theorem implDistOf_any (N s t : Int) (A : Option Addr) (n c : Nat) (L : List Arc3) (hn : n = L.length) (hc : n ≤ c) (w : World) (hm : n ≤ 1048576) (H1 : ArcsAt w w.heap.size A L) :
    Calls Try.prog 32 #[.agg #[.int .i64 N, .slice A n c], .int .i64 s, .int .i64 t] w fun e w' => e = .returned (.int .i64 (distOfI N L s t)) ∧ Bl w w' := by
  have K1 := Lib.hid H1
  have HN := Lib.hid hn
  clear H1 hn
  cases hh : has2 N L s t with
  | false =>
    have HH := Lib.hid hh
    clear hh
    go_enter Try.func32, Try.ntmps32
    go_wp2_with fail
    refine (hasNodes_2 N s t A n c L HN.out (w.heap.size + 1) 2 _ (by omega) (K1.out.bl (by repeat' (first | exact Bl.refl _ | with_reducible assumption | with_reducible refine Bl.drew_ ?_ | with_reducible refine Bl.drewN_ ?_ _ | with_reducible refine Bl.alloc_ ?_ _ | with_reducible refine Bl.trans_ ?_ (by assumption) | with_reducible refine Bl.trans_ ?_ (And.left (by assumption))))) (by simp) (by simp [go_sem]) (by simp [go_sem])).mono ?_
    rintro e w1 ⟨rfl, hb1⟩
    rw [HH.out]
    go_wp2
    go_ret
    exact ⟨ret_int (by unfold distOfI; rw [if_neg (by rw [HH.out]; simp)]), (by repeat' (first | exact Bl.refl _ | with_reducible assumption | with_reducible refine Bl.drew_ ?_ | with_reducible refine Bl.drewN_ ?_ _ | with_reducible refine Bl.alloc_ ?_ _ | with_reducible refine Bl.trans_ ?_ (by assumption) | with_reducible refine Bl.trans_ ?_ (And.left (by assumption))))⟩
  | true =>
    have HH := Lib.hid hh
    obtain ⟨ho, ⟨hs0, hs1⟩, ht0, ht1⟩ := has2_of hh
    have hN24 := (okB_elim ho).2.1
    have HO := Lib.hid ho
    obtain ⟨u, rfl⟩ : ∃ u : Nat, t = u := ⟨t.toNat, by omega⟩
    clear hh ho
    go_enter Try.func32, Try.ntmps32
    go_wp2_with fail
    refine (hasNodes_2 N s u A n c L HN.out (w.heap.size + 1) 2 _ (by omega) (K1.out.bl (by repeat' (first | exact Bl.refl _ | with_reducible assumption | with_reducible refine Bl.drew_ ?_ | with_reducible refine Bl.drewN_ ?_ _ | with_reducible refine Bl.alloc_ ?_ _ | with_reducible refine Bl.trans_ ?_ (by assumption) | with_reducible refine Bl.trans_ ?_ (And.left (by assumption))))) (by simp) (by simp [go_sem]) (by simp [go_sem])).mono ?_
    rintro e w1 ⟨rfl, hb1⟩
    rw [HH.out]
    have hx := (bcell hb1).1
    have q0 : w1.cell? ⟨w.heap.size, 0, none⟩ = some (.int .i64 N) := (hx _ _ (by simp; omega)).trans (by simp [go_sem])
    have q1 : w1.cell? ⟨w.heap.size, 1, none⟩ = some (.slice A n c) := (hx _ _ (by simp; omega)).trans (by simp [go_sem])
    have hbw : Bl w w1 := (((Bl.refl w).alloc_ _).alloc_ _).trans_ hb1
    clear hx hb1
    go_wp2_with fail
    refine (distances_any N s A n c L HN.out hc HO.out hs0 hs1 _ (K1.out.bl hbw)).mono ?_
    rintro e w2 ⟨E, rfl, hE, hEd, hb2⟩
    have EL := Lib.hid hE
    have ED := Lib.hid hEd
    clear hE hEd q0 q1
    have hix := index24 E EL.out u (by omega) w2
    have hd : dAt E (u : Int) = distOfI N L s u := by
      unfold distOfI
      rw [if_pos HH.out, ← ED.out]
      unfold dAt
      simp only [List.getD_eq_getElem?_getD]
      rw [List.getElem?_take, if_pos (by omega)]
    rw [hd] at hix
    clear hd
    go_wp2
    go_ret
    exact ⟨ret_int rfl, hbw.trans_ hb2⟩


end Go.Proofs.Ytffjpfanmnkmgaa

set_option linter.unusedSimpArgs false
set_option linter.unusedVariables false
namespace Go.Proofs.Ytffjpfanmnkmgaa
open Go.RowKit

theorem IsDist.tri {N : Int} {L : List Arc3} {s t : Int} {D E : List Int} (ho : okB N L = true) (hD : IsDist N L s D) (hE : IsDist N (revL L) t E) :
    ∀ (n : Nat) (v : Int), 0 ≤ v → v < N → (dAt E v).toNat = n → 0 ≤ dAt E v → 0 ≤ dAt D v → 0 ≤ dAt D t ∧ dAt D t ≤ dAt D v + dAt E v := by
  have hp := (okB_elim ho).2.2.2.2
  have hin := arcsIn_of_ok ho
  intro n
  induction n using Nat.strongRecOn with
  | ind n ih =>
    intro v h0 h1 hn hb ha
    rcases hE.back v h0 h1 hb with rfl | ⟨r, hr, e1, e2, e3⟩
    · have := hE.start
      omega
    · have hm := (revL_mem hp).1 hr
      obtain ⟨a0, a1, a2, a3, a4, a5⟩ := hin _ hm
      simp only [turnA] at a0 a1 a2 a3 a4 a5
      have := hD.arc _ hm (by simp only [turnA]; rw [e1]; exact ha)
      simp only [turnA] at this
      rw [e1] at this
      obtain ⟨x, y⟩ := ih (dAt E r.1).toNat (by omega) r.1 a2 a3 rfl e2 this.1
      omega
/-- In the graph that is turned it is as far the other way round. -/
theorem IsDist.turned {N : Int} {L : List Arc3} {s t : Int} {D E : List Int} (ho : okB N L = true) (hs : 0 ≤ s ∧ s < N) (ht : 0 ≤ t ∧ t < N) (hD : IsDist N L s D) (hE : IsDist N (revL L) t E) : dAt E s = dAt D t := by
  have h1 := fun h => hD.tri ho hE _ s hs.1 hs.2 rfl h (by rw [hD.start]; omega)
  have hD' : IsDist N (revL (revL L)) s D := by rw [revL_revL ho]; exact hD
  have h2 := fun h => hE.tri (revL_ok ho) hD' _ t ht.1 ht.2 rfl h (by rw [hE.start]; omega)
  have e1 := hD.start
  have e2 := hE.start
  have l1 := hD.low t
  have l2 := hE.low s
  by_cases p : 0 ≤ dAt E s
  · obtain ⟨a, b⟩ := h1 p
    obtain ⟨c, d⟩ := h2 a
    omega
  · by_cases q : 0 ≤ dAt D t
    · obtain ⟨c, d⟩ := h2 q
      omega
    · omega


theorem stepsL_len (L : List Arc3) (D : List Int) (t : Int) : ∀ (n : Nat) (v : Int), (dAt D v).toNat = n → (stepsL L D t v).length ≤ n := by
  intro n
  induction n using Nat.strongRecOn with
  | ind n ih =>
    intro v hn
    rw [stepsL]
    split
    · simp
    · split
      · simp
      · split
        · rename_i a _ h
          have := ih _ (by omega) a.2.1 rfl
          simp only [List.length_cons]
          omega
        · simp



/-- The weight of step k of a path; 0: it is none. -/
def stepW (L : List Arc3) (P : List Int) (k : Nat) : Int := wtL (P.getD k 0) (P.getD (k + 1) 0) L
/-- The first k steps together. -/
def sumW (L : List Arc3) (P : List Int) : Nat → Int
  | 0 => 0
  | k + 1 => sumW L P k + stepW L P k
theorem stepW_at {L : List Arc3} {P : List Int} {k : Nat} (h : k + 1 < P.length) : stepW L P k = wtL P[k] P[k + 1] L := by
  unfold stepW
  rw [List.getD_eq_getElem?_getD, List.getD_eq_getElem?_getD, List.getElem?_eq_getElem (by omega), List.getElem?_eq_getElem h]
  rfl
/-- Is it a path of a right graph? -/
def pathB (N : Int) (L : List Arc3) (P : List Int) : Bool := okB N L && decide (0 < P.length ∧ P.length ≤ 1000 ∧ (0 ≤ P.getD 0 0 ∧ P.getD 0 0 < N) ∧ ∀ j, j < P.length - 1 → stepW L P j ≠ 0)
def lenI (N : Int) (L : List Arc3) (P : List Int) : Int := if pathB N L P = true then sumW L P (P.length - 1) else 0

end Go.Proofs.Ytffjpfanmnkmgaa

set_option linter.unusedSimpArgs false
set_option linter.unusedVariables false
namespace Go.Proofs.Ytffjpfanmnkmgaa
open Go.RowKit

theorem wtL_mem {L : List Arc3} (hs : L.Pairwise AheadP) : ∀ {a : Arc3}, a ∈ L → wtL a.1 a.2.1 L = a.2.2 := by
  induction L with
  | nil => intro a ha; cases ha
  | cons b L ih =>
    intro a ha
    rw [List.pairwise_cons] at hs
    unfold wtL
    rcases List.mem_cons.1 ha with rfl | h
    · rw [if_pos (isEnds_iff.2 ⟨rfl, rfl⟩)]
    · rw [if_neg (fun he => ahead_ne (hs.1 a h) (isEnds_iff.1 he))]
      exact ih hs.2 h
theorem wtL_pos {u v : Int} : ∀ {L : List Arc3}, 0 < wtL u v L → (u, v, wtL u v L) ∈ L
  | [], h => by simp [wtL] at h
  | a :: l, h => by
    unfold wtL at h ⊢
    split
    · rename_i he
      obtain ⟨rfl, rfl⟩ := isEnds_iff.1 he
      exact List.mem_cons_self
    · rename_i he
      rw [if_neg he] at h
      exact List.mem_cons_of_mem _ (wtL_pos h)


theorem distOfI_bounds {N s t : Int} {L : List Arc3} : -1 ≤ distOfI N L s t ∧ distOfI N L s t ≤ 23000 := by
  unfold distOfI
  split
  · rename_i h
    obtain ⟨ho, hs, ht⟩ := has2_of h
    exact distL_top ho hs.1 hs.2 t
  · omega



end Go.Proofs.Ytffjpfanmnkmgaa

set_option linter.unusedSimpArgs false
set_option linter.unusedVariables false
namespace Go.Proofs.Ytffjpfanmnkmgaa
open Go.RowKit

/-- Is the arc on a shortest path? -/
def tightB (D : List Int) (a : Arc3) : Bool := decide (0 ≤ dAt D a.1 ∧ dAt D a.1 + a.2.2 = dAt D a.2.1)
/-- The first node from which an arc of a shortest path leads to v. -/
def upTr (L : List Arc3) (D : List Int) (v : Int) : Int := match L.find? (fun a => a.2.1 == v && tightB D a) with | some a => a.1 | none => -1
def treeStep (D U : List Int) (a : Arc3) : List Int := if dAt U a.2.1 < 0 ∧ tightB D a = true then U.set a.2.1.toNat a.1 else U
def treeK (L : List Arc3) (D : List Int) (m k : Nat) : List Int := (L.take k).foldl (treeStep D) (List.replicate m (-1))
theorem treeK_succ {L : List Arc3} {D : List Int} {m k : Nat} (h : k < L.length) : treeK L D m (k + 1) = treeStep D (treeK L D m k) L[k] := by
  unfold treeK
  rw [List.take_succ_eq_append_getElem h, List.foldl_append]
  rfl
theorem treeStep_len (D U : List Int) (a : Arc3) : (treeStep D U a).length = U.length := by
  unfold treeStep
  split <;> simp
theorem treeK_len (L : List Arc3) (D : List Int) (m : Nat) : ∀ k, k ≤ L.length → (treeK L D m k).length = m
  | 0, _ => by simp [treeK]
  | k + 1, h => by rw [treeK_succ (by omega), treeStep_len, treeK_len L D m k (by omega)]
theorem upTr_snoc (L : List Arc3) (D : List Int) (v : Int) (a : Arc3) (hL : ∀ b ∈ L, 0 ≤ b.1) : upTr (L ++ [a]) D v = if upTr L D v < 0 ∧ a.2.1 = v ∧ tightB D a = true then a.1 else upTr L D v := by
  unfold upTr
  rw [List.find?_append]
  cases h : L.find? (fun a => a.2.1 == v && tightB D a) with
  | some b =>
    have hb := hL b (List.mem_of_find?_eq_some h)
    simp
    omega
  | none =>
    simp only [Option.none_or]
    by_cases hc : a.2.1 = v ∧ tightB D a = true
    · simp [hc]
    · rw [if_neg (fun h => hc h.2)]
      have : (a.2.1 == v && tightB D a) = false := by
        rw [Bool.eq_false_iff]
        intro h
        simp at h
        exact hc h
      simp [this]
theorem treeK_at {L : List Arc3} {D : List Int} {m : Nat} (hL : ∀ b ∈ L, 0 ≤ b.1 ∧ 0 ≤ b.2.1 ∧ b.2.1 < m) {v : Int} (h0 : 0 ≤ v) (h1 : v < m) : ∀ k, k ≤ L.length → dAt (treeK L D m k) v = upTr (L.take k) D v
  | 0, _ => by
    have : v.toNat < m := by omega
    simp [treeK, upTr, dAt, this]
  | k + 1, h => by
    have ih := treeK_at (D := D) hL h0 h1 k (by omega)
    have hk : k < L.length := by omega
    obtain ⟨b0, b1, b2⟩ := hL L[k] (List.getElem_mem hk)
    have hl := treeK_len L D m k (by omega)
    rw [treeK_succ hk, List.take_succ_eq_append_getElem hk, upTr_snoc _ _ _ _ (fun b hb => (hL b (List.mem_of_mem_take hb)).1), ← ih]
    unfold treeStep
    by_cases hc : dAt (treeK L D m k) L[k].2.1 < 0 ∧ tightB D L[k] = true
    · rw [if_pos hc, dAt_set b1 (by omega) h0]
      by_cases e : v = L[k].2.1
      · subst e
        rw [if_pos rfl, if_pos ⟨hc.1, rfl, hc.2⟩]
      · rw [if_neg e, if_neg (fun h => e h.2.1.symm)]
    · rw [if_neg hc]
      by_cases e : v = L[k].2.1
      · subst e
        rw [if_neg (fun h => hc ⟨h.1, h.2.2⟩)]
      · rw [if_neg (fun h => e h.2.1.symm)]
/-- Up of the tree. -/
def treeU (m : Nat) (L : List Arc3) (D : List Int) : List Int := (List.range m).map fun (i : Nat) => upTr L D (i : Int)
theorem treeU_len (m : Nat) (L : List Arc3) (D : List Int) : (treeU m L D).length = m := by simp [treeU]
theorem treeK_all {L : List Arc3} {D : List Int} {m : Nat} (hL : ∀ b ∈ L, 0 ≤ b.1 ∧ 0 ≤ b.2.1 ∧ b.2.1 < m) : treeK L D m L.length = treeU m L D := by
  have hl := treeK_len L D m L.length (Nat.le_refl _)
  refine List.ext_getElem (by rw [hl, treeU_len]) fun i h1 h2 => ?_
  have := treeK_at (D := D) (m := m) hL (v := (i : Int)) (by omega) (by omega) L.length (Nat.le_refl _)
  rw [List.take_length] at this
  simp only [treeU, List.getElem_map, List.getElem_range]
  rw [← this]
  simp [dAt, h1]

/-- What the model asks of u. -/
def upB (L : List Arc3) (D : List Int) (v : Int) (u : Nat) : Bool := decide (0 < wtL u v L ∧ 0 ≤ dAt D u ∧ dAt D u + wtL u v L = dAt D v)
def upSt (L : List Arc3) (D : List Int) (v : Int) : Nat → Int
  | 0 => -1
  | k + 1 => if upSt L D v k < 0 ∧ upB L D v k = true then (k : Int) else upSt L D v k
theorem upSt_inv (L : List Arc3) (D : List Int) (v : Int) : ∀ k, (upSt L D v k = -1 ∧ ∀ u, u < k → upB L D v u = false) ∨ ∃ u, u < k ∧ upSt L D v k = (u : Int) ∧ upB L D v u = true ∧ ∀ x, x < u → upB L D v x = false
  | 0 => .inl ⟨rfl, fun u h => absurd h (by omega)⟩
  | k + 1 => by
    rcases upSt_inv L D v k with ⟨e, h⟩ | ⟨u, h1, e, h2, h3⟩
    · cases hb : upB L D v k with
      | true =>
        refine .inr ⟨k, by omega, ?_, hb, h⟩
        unfold upSt
        rw [if_pos ⟨by omega, hb⟩]
      | false =>
        refine .inl ⟨?_, fun u hu => ?_⟩
        · unfold upSt
          rw [if_neg (by rw [hb]; simp), e]
        · rcases Nat.lt_or_ge u k with h' | h'
          · exact h u h'
          · obtain rfl : u = k := by omega
            exact hb
    · refine .inr ⟨u, by omega, ?_, h2, h3⟩
      unfold upSt
      rw [if_neg (by omega), e]
theorem tight_up {N : Int} {L : List Arc3} {D : List Int} (ho : okB N L = true) {a : Arc3} (ha : a ∈ L) (ht : tightB D a = true) : upB L D a.2.1 a.1.toNat = true := by
  have hr := arcsIn_of_ok ho a ha
  have hw := wtL_mem (okB_elim ho).2.2.2.2 ha
  unfold tightB at ht
  unfold upB
  have e : ((a.1.toNat : Nat) : Int) = a.1 := by omega
  rw [e, hw]
  simp at ht ⊢
  omega
theorem up_tight {L : List Arc3} {D : List Int} {v : Int} {u : Nat} (h : upB L D v u = true) : ∃ a ∈ L, a.1 = (u : Int) ∧ a.2.1 = v ∧ tightB D a = true := by
  unfold upB at h
  simp only [decide_eq_true_eq] at h
  refine ⟨_, wtL_pos h.1, rfl, rfl, ?_⟩
  unfold tightB
  simp
  exact h.2
theorem upSt_all {N : Int} {L : List Arc3} {D : List Int} {v : Int} (ho : okB N L = true) : upSt L D v N.toNat = upTr L D v := by
  have hs := (okB_elim ho).2.2.2.2
  unfold upTr
  cases h : L.find? (fun a => a.2.1 == v && tightB D a) with
  | none =>
    rcases upSt_inv L D v N.toNat with ⟨e, -⟩ | ⟨u, h1, e, h2, h3⟩
    · exact e
    · exfalso
      obtain ⟨a, ha, -, e2, e3⟩ := up_tight h2
      have := List.find?_eq_none.1 h a ha
      rw [e2, e3] at this
      simp at this
  | some a =>
    have ha := List.mem_of_find?_eq_some h
    obtain ⟨hp, X, Y, e, hX⟩ := List.find?_eq_some_iff_append.1 h
    simp only [Bool.and_eq_true, beq_iff_eq] at hp
    have hr := arcsIn_of_ok ho a ha
    have hu := tight_up ho ha hp.2
    rw [hp.1] at hu
    rcases upSt_inv L D v N.toNat with ⟨e', h'⟩ | ⟨u, h1, e', h2, h3⟩
    · have := h' a.1.toNat (by omega)
      rw [hu] at this
      cases this
    · rw [e']
      show (u : Int) = a.1
      rcases Nat.lt_trichotomy u a.1.toNat with hlt | heq | hgt
      · exfalso
        obtain ⟨b, hb, e1, e2, e3⟩ := up_tight h2
        rw [e] at hb
        rcases List.mem_append.1 hb with hb | hb
        · have := hX b hb
          rw [e2, e3] at this
          simp at this
        · rcases List.mem_cons.1 hb with rfl | hb
          · omega
          · rw [e] at hs
            have := (List.pairwise_cons.1 (List.pairwise_append.1 hs).2.1).1 b hb
            unfold AheadP at this
            simp only [aheadB, decide_eq_true_eq] at this
            omega
      · omega
      · have := h3 a.1.toNat hgt
        rw [hu] at this
        cases this
/-- To the root, and to what is not reached, no arc of a shortest path leads. -/
theorem upTr_no {N s v : Int} {L : List Arc3} {D : List Int} (ho : okB N L = true) (hD : IsDist N L s D) (h : v = s ∨ dAt D v < 0) : upTr L D v = -1 := by
  unfold upTr
  cases hf : L.find? (fun a => a.2.1 == v && tightB D a) with
  | none => rfl
  | some a =>
    exfalso
    have ha := List.mem_of_find?_eq_some hf
    have hp := List.find?_some hf
    simp only [Bool.and_eq_true, beq_iff_eq, tightB, decide_eq_true_eq] at hp
    obtain ⟨e, h0, h1⟩ := hp
    have hr := arcsIn_of_ok ho a ha
    have := hD.arc a ha h0
    have hst := hD.start
    rw [e] at this h1
    rcases h with rfl | h <;> omega

end Go.Proofs.Ytffjpfanmnkmgaa

set_option linter.unusedSimpArgs false
set_option linter.unusedVariables false
namespace Go.Proofs.Ytffjpfanmnkmgaa
open Go.ChangeShapes Go.WideShapes Go.ChangeAt Go.RowKit

/-- The cells of n new numbers. -/
def mk1 (n : Nat) : Array Value := madeCells #[.int .i64 0] (n * 1)
theorem size_mk1 (n : Nat) : (mk1 n).size = n := by unfold mk1; rw [size_madeCells, Nat.mul_one]
theorem make_nums (n : Nat) (hn : n ≤ 1048576) (w : World) : (Instr.makeSlice 22 (.int .i64 (n : Int)) (.int .i64 (n : Int))).run Try.prog w = .ok (.slice (some ⟨w.heap.size, 0, none⟩) n n) (w.alloc (.cells (mk1 n) 2)) := make_ints n hn w



end Go.Proofs.Ytffjpfanmnkmgaa

set_option linter.unusedSimpArgs false
set_option linter.unusedVariables false
namespace Go.Proofs.Ytffjpfanmnkmgaa
open Go.ChangeShapes Go.WideShapes Go.ChangeAt Go.RowKit


theorem IntsAt.set_ {w : World} {B : Nat} {A : Option Addr} {V : List Int} (h : IntsAt w B A V) {p : Addr} (hp : ∀ g, blockOf A = some g → p.block ≠ g) (v : Value) : IntsAt (w.setCell p v) B A V := fun h0 => by
  obtain ⟨g, off, rfl, hg, hc⟩ := h h0
  exact ⟨g, off, rfl, hg, fun k hk => by rw [World.cell?_setCell_other _ _ _ _ (fun e => hp g rfl (by rw [e]))]; exact hc k hk⟩

-- (Tri left out)
-- (Tri.new left out)
-- (Tri.facts left out)
-- (Tri.bl left out)
-- (Tri.far left out)
-- (Tri.set0 left out)
-- (Tri.set1 left out)




end Go.Proofs.Ytffjpfanmnkmgaa

set_option linter.unusedSimpArgs false
set_option linter.unusedVariables false
namespace Go.Proofs.Ytffjpfanmnkmgaa
open Go.RowKit

set_option maxRecDepth 100000 in
set_option maxHeartbeats 8000000 in
theorem mul64_one (n : Nat) (hn : n ≤ 24) (w : World) :
    Calls Try.prog 147 #[.int .u64 1, .int .u64 (n : Int)] w fun e w' => e = .returned (.tuple #[.int .u64 0, .int .u64 (n : Int)]) ∧ w' = w := by
  match n, hn with
  | 0, _ | 1, _ | 2, _ | 3, _ | 4, _ | 5, _ | 6, _ | 7, _ | 8, _ | 9, _ | 10, _ | 11, _ | 12, _ | 13, _ | 14, _ | 15, _ | 16, _ | 17, _ | 18, _ | 19, _ | 20, _ | 21, _ | 22, _ | 23, _ | 24, _ =>
    go_enter Try.func147, Try.ntmps147
    go_wp2
    go_ret2
    exact ⟨rfl, rfl⟩
  | (k + 25), h => exact absurd h (by omega)

set_option maxRecDepth 100000 in
set_option maxHeartbeats 1000000 in
theorem mul_one_ (n : Nat) (hn : n ≤ 24) (w : World) :
    Calls Try.prog 118 #[.int .u64 1, .int .u64 (n : Int)] w fun e w' => e = .returned (.tuple #[.int .u64 0, .int .u64 (n : Int)]) ∧ w' = w := by
  go_enter Try.func118, Try.ntmps118
  go_wp2_with fail
  refine (mul64_one n hn _).mono ?_
  rintro e w1 ⟨rfl, rfl⟩
  go_wp2
  go_ret2
  exact ⟨rfl, rfl⟩

end Go.Proofs.Ytffjpfanmnkmgaa
