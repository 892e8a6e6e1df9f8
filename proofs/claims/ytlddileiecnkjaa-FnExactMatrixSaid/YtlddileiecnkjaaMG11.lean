/-
  What is proved here: DistFrom and DistOf, on both sides; DistFrom and DistOf of the model; plain words on the rows of all distances; words on a list of lists of numbers that is memory of its own, each list, too; and the laws' small functions that mark it and look at the marks; plain words on a table of distances; a box of one list of numbers that grows; slices.Concat over three slices of arcs makes a new list of all of them; impl.Weighed puts an arc of a new weight in its place; spec.Weighed puts an arc of a new weight in its place, as the model does; plain facts on distances there and back: by way of a third node it is no nearer; nodes by way of which it is at most so far; lengths of paths; bounds of weights. No conditions beyond those that each theorem states.
-/
import Derived.Test.YtlddileiecnkjaaMG10
import Derived.Test.YtlddileiecnkjaaMG02
import Derived.Test.YtlddileiecnkjaaMG06
import Derived.Test.YtlddileiecnkjaaMG03
import Derived.Test.YtlddileiecnkjaaMG05
import Derived.Test.YtlddileiecnkjaaMG04
import Derived.Deep.AppendLies
import Derived.Deep.Draws
import Derived.Maps.AppendAt
import Derived.OwnWalk
import Derived.Lib.AppendZeros
import Derived.Deep.RegionLaw
set_option linter.unusedSimpArgs false
set_option linter.unusedVariables false
namespace Go.Proofs.Ytlddileiecnkjaa
open Go.RowKit

theorem distL_len {N s : Int} {L : List Arc3} (ho : okB N L = true) (h0 : 0 ≤ s) (h1 : s < N) : (distL N L s).length = N.toNat :=
  (distL_is (arcsIn_of_ok ho) (okB_elim ho).2.1 h0 h1).len


theorem there_new (w : World) (t : TypeId) : (w.alloc (.cells #[.int .i64 0, .int .i64 0, .int .i64 0, .int .i64 0, .int .i64 0, .int .i64 0, .int .i64 0, .int .i64 0, .int .i64 0, .int .i64 0, .int .i64 0, .int .i64 0, .int .i64 0, .int .i64 0, .int .i64 0, .int .i64 0, .int .i64 0, .int .i64 0, .int .i64 0, .int .i64 0, .int .i64 0, .int .i64 0, .int .i64 0, .int .i64 0] t)).there w.heap.size 0 24 := by
  refine there_of_cells fun i hi => ?_
  match i, hi with
  | 0, _ | 1, _ | 2, _ | 3, _ | 4, _ | 5, _ | 6, _ | 7, _ | 8, _ | 9, _ | 10, _ | 11, _ | 12, _ | 13, _ | 14, _ | 15, _ | 16, _ | 17, _ | 18, _ | 19, _ | 20, _ | 21, _ | 22, _ | 23, _ => simp [go_sem]
  | (k + 24), h => exact absurd h (by omega)
theorem size24 : (Try.prog.info? 114).map (·.size) = some 24 := by kernel_rfl




end Go.Proofs.Ytlddileiecnkjaa

set_option linter.unusedSimpArgs false
set_option linter.unusedVariables false
namespace Go.Proofs.Ytlddileiecnkjaa
open Go.RowKit

theorem nodeB_ok {N v : Int} {L : List Arc3} (ho : okB N L = true) : nodeB N v = decide (0 ≤ v ∧ v < N) := by
  obtain ⟨h1, h2, -⟩ := okB_elim ho
  unfold nodeB inB
  have : wrap64 (N - 1) = N - 1 := by unfold wrap64; omega
  rw [this, Bool.eq_iff_iff]
  simp only [decide_eq_true_eq]
  omega



end Go.Proofs.Ytlddileiecnkjaa

set_option linter.unusedSimpArgs false
set_option linter.unusedVariables false
namespace Go.Proofs.Ytlddileiecnkjaa
open Go.RowKit


end Go.Proofs.Ytlddileiecnkjaa

set_option linter.unusedSimpArgs false
set_option linter.unusedVariables false
namespace Go.Proofs.Ytlddileiecnkjaa
open Go.RowKit

/-- The head of a list: where it lies, how long it is, and how long it may be. -/
abbrev SlH := Option Addr × Nat × Nat
def slV (x : SlH) : Value := .slice x.1 x.2.1 x.2.2
theorem slV_own (x : SlH) : (slV x).ownBlock = blockOf x.1 := ownBlock_slice _ _ _
/-- pv owns the heads G of the lists R, and each of these owns its numbers, in blocks of which no two are the same. -/
structure RowsG (w : World) (B : Nat) (pv : Value) (G : List SlH) (R : List (List Int)) : Prop where
  own : Owns 58 1 w B pv G.length (G.map slV)
  len : G.length = R.length
  row : ∀ j (h : j < G.length) (h' : j < R.length), OwnN w B (slV G[j]) R[j] ∧ ∀ g, (slV G[j]).ownBlock = some g → pv.ownBlock ≠ some g
  apart : ∀ i j (hi : i < G.length) (hj : j < G.length), i ≠ j → ∀ g, (slV G[i]).ownBlock = some g → (slV G[j]).ownBlock ≠ some g
variable {w w' : World} {B : Nat} {pv pv' : Value} {G : List SlH} {R : List (List Int)}
theorem RowsG.bl (h : RowsG w B pv G R) (b : Bl w w') : RowsG w' B pv G R :=
  ⟨h.own.bl b, h.len, fun j h1 h2 => ⟨(h.row j h1 h2).1.bl b, (h.row j h1 h2).2⟩, h.apart⟩
theorem RowsG.low {B' : Nat} (h : RowsG w B' pv G R) (hB : B ≤ B') : RowsG w B pv G R :=
  ⟨h.own.low hB, h.len, fun j h1 h2 => ⟨(h.row j h1 h2).1.low hB, (h.row j h1 h2).2⟩, h.apart⟩
theorem RowsG.turn {S : Nat → Prop} (h : RowsG w B pv G R) (k : Turn S w w') (hS : ∀ g, B ≤ g → g < w.heap.size → ¬ S g) : RowsG w' B pv G R :=
  ⟨h.own.turn k (fun g hg => by have := Owns.lt h.own g hg; exact hS g this.1 this.2), h.len, fun j h1 h2 => ⟨by
    have h3 := (h.row j h1 h2).1
    exact Owns.turn h3 k (fun g hg => by have := Owns.lt h3 g hg; exact hS g this.1 this.2), (h.row j h1 h2).2⟩, h.apart⟩
theorem RowsG.nil_ (w : World) (B : Nat) (h : Owns 58 1 w B pv 0 []) : RowsG w B pv [] [] :=
  ⟨h, rfl, fun j h1 => absurd h1 (by simp), fun i j h1 => absurd h1 (by simp)⟩
theorem RowsG.lt (h : RowsG w B pv G R) {j : Nat} (hj : j < G.length) {g : Nat} (hg : (slV G[j]).ownBlock = some g) : B ≤ g ∧ g < w.heap.size :=
  Owns.lt (h.row j hj (by rw [← h.len]; exact hj)).1 g hg
/-- The head says how long its list is. -/
theorem RowsG.head (h : RowsG w B pv G R) {j : Nat} (hj : j < G.length) : (G[j]).2.1 = (R[j]'(by rw [← h.len]; exact hj)).length := by
  obtain ⟨A, c, e, -⟩ := OwnN.shape (h.row j hj (by rw [← h.len]; exact hj)).1
  unfold slV at e
  injection e
theorem RowsG.snoc {r : List Int} {x : SlH} {k : Nat} (h : RowsG w B pv G R) (hr : OwnN w B (slV x) r)
    (hne : ∀ g, (slV x).ownBlock = some g → pv.ownBlock ≠ some g ∧ ∀ j (h : j < G.length), (slV G[j]).ownBlock ≠ some g) (hk : k = G.length)
    (hown : w'.ownsRow B 58 1 pv' (k + 1) (G.map slV ++ [slV x])) (hg : w.grownBy w' pv.ownBlock) (hb : pv'.ownBlock = pv.ownBlock ∨ pv'.ownBlock = some w.heap.size) : RowsG w' B pv' (G ++ [x]) (R ++ [r]) := by
  subst hk
  have keep : ∀ (v : Value) (V : List Int), OwnN w B v V → (∀ g, v.ownBlock = some g → pv.ownBlock ≠ some g) → OwnN w' B v V ∧ ∀ g, v.ownBlock = some g → pv'.ownBlock ≠ some g := fun v V h1 h2 => by
    refine ⟨Owns.grown_ h1 hg (fun g e h => h2 g e h.symm), fun g e h => ?_⟩
    rcases hb with hb | hb
    · exact h2 g e (hb.symm.trans h)
    · have h3 := hb.symm.trans h
      have := Owns.lt h1 g e
      injection h3 with h3
      omega
  have hlen := h.len
  refine ⟨by rw [List.length_append, List.map_append]; exact hown, by simp [h.len], fun j h1 h2 => ?_, fun i j hi hj hij => ?_⟩
  · by_cases e : j < G.length
    · obtain ⟨a1, a2⟩ := h.row j e (by omega)
      have e1 : (R ++ [r])[j]'h2 = R[j]'(by omega) := List.getElem_append_left (by omega)
      have e2 : (G ++ [x])[j]'h1 = G[j] := List.getElem_append_left e
      rw [e1, e2]
      exact keep _ _ a1 a2
    · obtain rfl : j = G.length := by simp at h1; omega
      have e1 : (R ++ [r])[G.length]'h2 = r := by simp [h.len]
      have e2 : (G ++ [x])[G.length]'h1 = x := by simp
      rw [e1, e2]
      exact keep _ _ hr (fun g hg => (hne g hg).1)
  · intro g h1
    by_cases ei : i < G.length
    · have e1 : (G ++ [x])[i]'hi = G[i] := List.getElem_append_left ei
      rw [e1] at h1
      by_cases ej : j < G.length
      · have e2 : (G ++ [x])[j]'hj = G[j] := List.getElem_append_left ej
        rw [e2]
        exact h.apart i j ei ej hij g h1
      · obtain rfl : j = G.length := by simp at hj; omega
        have e2 : (G ++ [x])[G.length]'hj = x := by simp
        rw [e2]
        exact fun h2 => (hne g h2).2 i ei h1
    · obtain rfl : i = G.length := by simp at hi; omega
      have e1 : (G ++ [x])[G.length]'hi = x := by simp
      rw [e1] at h1
      have ej : j < G.length := by simp at hj; omega
      have e2 : (G ++ [x])[j]'hj = G[j] := List.getElem_append_left ej
      rw [e2]
      exact (hne g h1).2 j ej
/-- The heads lie at the front of a block. -/
theorem RowsG.cells {A : Option Addr} {n c : Nat} (h : RowsG w B (.slice A n c) G R) (h0 : 0 < G.length) : ∃ g, A = some ⟨g, 0, none⟩ ∧ B ≤ g ∧ g < w.heap.size ∧ ∀ j (hj : j < G.length), w.cell? ⟨g, j, none⟩ = some (slV G[j]) := by
  obtain ⟨A', c', e, -, -, -, hs⟩ := Owns.shape h.own
  injection e with e1 e2 e3
  subst e1
  obtain ⟨g, rfl, hB, hg, -, hc⟩ := hs h0
  exact ⟨g, rfl, hB, hg, fun j hj => by rw [hc j (by simpa using hj)]; simp⟩
theorem RowsG.slice (h : RowsG w B pv G R) : ∃ A c, pv = .slice A R.length c := by
  obtain ⟨A, c, e, -⟩ := Owns.shape h.own
  exact ⟨A, c, by rw [e, h.len]⟩
theorem RowsG.rowsAt {A : Option Addr} {n c : Nat} (h : RowsG w B (.slice A n c) G R) : RowsAt w B w.heap.size A R := fun h0 => by
  have hl := h.len
  obtain ⟨g, rfl, hB, hg, hc⟩ := h.cells (by omega)
  refine ⟨g, 0, rfl, ⟨hB, hg⟩, fun j hj => ?_⟩
  have hj' : j < G.length := by omega
  obtain ⟨A', c', e, -, h1, -, h3⟩ := OwnN.shape (h.row j hj' hj).1
  refine ⟨A', c', by rw [Nat.zero_add, hc j hj', e], h1, fun g' e' _ => (h3 g' e').1⟩

/-- A block of one of the lists. -/
def inG (G : List SlH) (i : Nat) : Prop := ∃ j, ∃ h : j < G.length, (slV G[j]).ownBlock = some i
/-- All lists of G are marked, one behind the other, from k on. -/
structure MarkG (w : World) (B : Nat) (A : Option Addr) (G : List SlH) (R : List (List Int)) (k : Int) : Prop where
  len : G.length = R.length
  cell : 0 < G.length → ∃ g, A = some ⟨g, 0, none⟩ ∧ B ≤ g ∧ g < w.heap.size ∧ ∀ j (hj : j < G.length), w.cell? ⟨g, j, none⟩ = some (slV G[j])
  row : ∀ j (h : j < G.length) (h' : j < R.length), (G[j]).2.1 = R[j].length ∧ Marks w (G[j]).1 R[j].length (k + (sumL (R.take j) : Nat)) ∧ ∀ g, blockOf (G[j]).1 = some g → B ≤ g ∧ g < w.heap.size
theorem Marks.turn {A : Option Addr} {n : Nat} {k : Int} {S : Nat → Prop} (h : Marks w A n k) (t : Turn S w w') (hS : ∀ g, blockOf A = some g → ¬ S g) : Marks w' A n k := fun h0 => by
  obtain ⟨g, off, e, hg, hc⟩ := h h0
  exact ⟨g, off, e, Nat.lt_of_lt_of_le hg t.size, fun j hj => by rw [t.cell hg (hS g (by rw [e]; rfl))]; exact hc j hj⟩
theorem MarkG.turn {A : Option Addr} {k : Int} {S : Nat → Prop} (h : MarkG w B A G R k) (t : Turn S w w') (hS : ∀ g, B ≤ g → g < w.heap.size → ¬ S g) : MarkG w' B A G R k :=
  ⟨h.len, fun h0 => by
    obtain ⟨g, e, hB, hg, hc⟩ := h.cell h0
    exact ⟨g, e, hB, Nat.lt_of_lt_of_le hg t.size, fun j hj => by rw [t.cell hg (hS g hB hg)]; exact hc j hj⟩, fun j h1 h2 => by
    obtain ⟨a1, a2, a3⟩ := h.row j h1 h2
    exact ⟨a1, a2.turn t (fun g e => hS g (a3 g e).1 (a3 g e).2), fun g e => ⟨(a3 g e).1, Nat.lt_of_lt_of_le (a3 g e).2 t.size⟩⟩⟩
theorem MarkG.bl {A : Option Addr} {k : Int} (h : MarkG w B A G R k) (b : Bl w w') : MarkG w' B A G R k := h.turn (Turn.of_bl (S := fun _ => False) b) (fun _ _ _ h => h)
theorem sumL_take_le (R : List (List Int)) (j : Nat) : sumL (R.take j) ≤ sumL R := by
  conv => rhs; rw [← List.take_append_drop j R]
  generalize R.take j = X
  generalize R.drop j = Y
  induction X with
  | nil => simp [sumL]
  | cons x X ih => simp [sumL]; omega
theorem sumL_row {R : List (List Int)} {j : Nat} (h : j < R.length) : sumL (R.take j) + R[j].length ≤ sumL R := by
  rw [← sumL_take h]; exact sumL_take_le R (j + 1)

set_option maxRecDepth 100000 in
set_option maxHeartbeats 2000000 in
theorem markRowS_any (A : Option Addr) (n c : Nat) (k : Int) (hn : n = G.length) (hm : n ≤ 1048576) (hs : sumL R ≤ 1048576) (hk0 : 0 ≤ k) (hk1 : k ≤ 1000000000) (hG : RowsG w B (.slice A n c) G R) :
    Calls Try.prog 35 #[.slice A n c, .int .i64 k] w fun e w' => e = .returned (.int .i64 (k + (sumL R : Nat))) ∧ MarkG w' B A G R k ∧ Turn (inG G) w w' := by
  have HG := Lib.hid hG
  have HN := Lib.hid hn
  have HL := Lib.hid hG.len
  have HS := Lib.hid hs
  clear hG hn hs
  go_enter Try.func35, Try.ntmps35
  go_wp2
  go_loopw [1, 5] (fun q i wr => ∃ j : Nat, j ≤ n ∧ i = .int .i64 j ∧ q = .int .i64 (k + (sumL (R.take j) : Nat)) ∧ Hid (Turn (inG G) w wr ∧ (∀ t (h : t < G.length) (h' : t < R.length), t < j → Marks wr (G[t]).1 R[t].length (k + (sumL (R.take t) : Nat))) ∧ (∀ t (h : t < G.length) (h' : t < R.length), j ≤ t → RowsW 2 1 wr (G[t]).1 R[t].length))) (fun _ i _ => n - (intOf i).toNat)
  case atStart =>
    refine ⟨0, by omega, rfl, by simp [sumL], Lib.hid ⟨Turn.refl _ _, fun t _ _ h => absurd h (by omega), fun t h h' _ => ?_⟩⟩
    obtain ⟨A', c', e, -, -, h2, -⟩ := OwnN.shape (HG.out.row t h h').1
    unfold slV at e
    injection e with e1 e2 e3
    rw [e1]
    exact h2
  case round =>
    obtain ⟨j, hj, rfl, rfl, HI⟩ := hrel
    by_cases hlt : j < n
    · have hjG : j < G.length := by have := HN.out; omega
      have hjR : j < R.length := by have := HN.out; have := HL.out; omega
      obtain ⟨g, rfl, hB, hg, hc⟩ := HG.out.cells (by omega)
      have p1 := hc j hjG
      have ST := Lib.hid (sumL_take hjR)
      have hsr := sumL_row hjR
      have hsm := HS.out
      rw [← HI.out.1.cell hg (fun ⟨t, ht, e⟩ => (HG.out.row t ht (by have := HL.out; omega)).2 g e rfl)] at p1
      have hhd := HG.out.head hjG
      have hrw := HI.out.2.2 j hjG hjR (Nat.le_refl _)
      have hlo := fun g' => HG.out.lt hjG (g := g')
      have hap := fun t ht hne => HG.out.apart j t hjG ht hne
      have GJ : ∃ x, x = G[j] := ⟨_, rfl⟩
      obtain ⟨⟨Aj, nj, cj⟩, hx⟩ := GJ
      have HX := Lib.hid hx
      rw [← hx] at p1 hhd hrw hlo hap
      simp only [slV] at p1
      simp only at hhd hrw
      subst hhd
      clear hx hc
      have AP := Lib.hid hap
      have RW := Lib.hid hrw
      clear hap hrw hlo
      obtain ⟨nj, hnj⟩ : ∃ m, m = R[j].length := ⟨_, rfl⟩
      rw [← hnj] at p1 hsr ST RW
      obtain ⟨q, hq⟩ : ∃ q, q = k + ((sumL (R.take j) : Nat) : Int) := ⟨_, rfl⟩
      rw [← hq]
      have hqb : 0 ≤ q ∧ q ≤ 1000000000 + 1048576 := by omega
      have HQ := Lib.hid hq
      have HNJ := Lib.hid hnj
      have hnb : nj ≤ 1048576 := by omega
      clear hq hnj hsr hsm
      have i0 : (0 : Int) ≤ (j : Int) := by omega
      have i1 : (j : Int) < (n : Int) := by omega
      go_wp2_with fail
      refine (markN_any Aj nj cj q _ hnb hqb.1 (by omega) RW.out).mono ?_
      rintro e w3 ⟨rfl, hm3, hg3, hr3⟩
      have M3 := Lib.hid hm3
      have G3 := Lib.hid hg3
      clear hm3 hg3 hr3 p1
      go_wp2
      go_roundw
      case rel =>
        refine ⟨j + 1, by omega, by go_num, by rw [show q + (nj : Int) = k + ((sumL (R.take (j + 1)) : Nat) : Int) from by have h1 := ST.out; have h2 := HQ.out; omega], Lib.hid ⟨?_, fun t h h' ht => ?_, fun t h h' ht => ?_⟩⟩
        · exact HI.out.1.trans (Turn.of_grown (S := inG G) G3.out (fun g' e => ⟨j, hjG, by rw [← HX.out, slV_own]; exact e⟩)) (fun _ _ h => h)
        · rcases Nat.lt_or_ge t j with h1 | h1
          · exact Marks.grown_ (HI.out.2.1 t h h' h1) G3.out (fun g' e1 e2 => AP.out t h (by omega) g' (by rw [slV_own]; exact e2.symm) (by rw [slV_own]; exact e1))
          · obtain rfl : t = j := by omega
            rw [← HX.out, ← HNJ.out, ← HQ.out]
            exact M3.out
        · exact RowsW.grown_ (HI.out.2.2 t h h' (by omega)) G3.out (fun g' e1 e2 => AP.out t h (by omega) g' (by rw [slV_own]; exact e2.symm) (by rw [slV_own]; exact e1))
      case measure => simp [intOf]; omega
    · have hjn : j = n := by omega
      subst hjn
      have HR := Lib.hid (show R.take j = R from List.take_of_length_le (by have := HN.out; have := HL.out; omega))
      go_wp2
      go_ret
      have t := HI.out.1
      refine ⟨ret_int (by rw [HR.out]), ⟨HG.out.len, fun h0 => ?_, fun t' h1 h2 => ?_⟩, t⟩
      · obtain ⟨g, e, hB, hg, hc⟩ := HG.out.cells h0
        refine ⟨g, e, hB, Nat.lt_of_lt_of_le hg t.size, fun i hi => ?_⟩
        rw [t.cell hg (fun ⟨x, hx, e2⟩ => (HG.out.row x hx (by have := HL.out; omega)).2 g e2 (by rw [e]; rfl))]
        exact hc i hi
      · exact ⟨HG.out.head h1, HI.out.2.1 t' h1 h2 (by have := HN.out; omega), fun g e => by
          have := HG.out.lt h1 (g := g) (by rw [slV_own]; exact e)
          exact ⟨this.1, Nat.lt_of_lt_of_le this.2 t.size⟩⟩

set_option maxRecDepth 100000 in
set_option maxHeartbeats 2000000 in
theorem heldRowS_any (A : Option Addr) (n c : Nat) (k : Int) (hn : n = G.length) (hm : n ≤ 1048576) (hs : sumL R ≤ 1048576) (hk0 : 0 ≤ k) (hk1 : k ≤ 1000000000) (hG : MarkG w B A G R k) :
    Calls Try.prog 36 #[.slice A n c, .int .i64 k] w fun e w' => e = .returned (.int .i64 (k + (sumL R : Nat))) ∧ w = w' := by
  have HG := Lib.hid hG
  have HN := Lib.hid hn
  have HL := Lib.hid hG.len
  have HS := Lib.hid hs
  clear hG hn hs
  go_enter Try.func36, Try.ntmps36
  go_wp2
  go_loopw [1, 5] (fun q i wr => ∃ j : Nat, j ≤ n ∧ i = .int .i64 j ∧ q = .int .i64 (k + (sumL (R.take j) : Nat)) ∧ wr = w) (fun _ i _ => n - (intOf i).toNat)
  case atStart => exact ⟨0, by omega, rfl, by simp [sumL], rfl⟩
  case round =>
    obtain ⟨j, hj, rfl, rfl, rfl⟩ := hrel
    by_cases hlt : j < n
    · have hjG : j < G.length := by have := HN.out; omega
      have hjR : j < R.length := by have := HN.out; have := HL.out; omega
      obtain ⟨g, rfl, hB, hg, hc⟩ := HG.out.cell (by omega)
      have p1 := hc j hjG
      have ST := Lib.hid (sumL_take hjR)
      have hsr := sumL_row hjR
      have hsm := HS.out
      obtain ⟨hhd, hrw, -⟩ := HG.out.row j hjG hjR
      have GJ : ∃ x, x = G[j] := ⟨_, rfl⟩
      obtain ⟨⟨Aj, nj, cj⟩, hx⟩ := GJ
      rw [← hx] at p1 hhd hrw
      simp only [slV] at p1
      simp only at hhd hrw
      subst hhd
      clear hx hc
      have RW := Lib.hid hrw
      clear hrw
      obtain ⟨nj, hnj⟩ : ∃ m, m = R[j].length := ⟨_, rfl⟩
      rw [← hnj] at p1 hsr ST RW
      obtain ⟨q, hq⟩ : ∃ q, q = k + ((sumL (R.take j) : Nat) : Int) := ⟨_, rfl⟩
      rw [← hq] at RW ⊢
      have hqb : 0 ≤ q ∧ q ≤ 1000000000 + 1048576 := by omega
      have HQ := Lib.hid hq
      have hnb : nj ≤ 1048576 := by omega
      have b4 : decide (q + (nj : Int) < 0) = false := by simp; omega
      clear hq hnj hsr hsm
      have i0 : (0 : Int) ≤ (j : Int) := by omega
      have i1 : (j : Int) < (n : Int) := by omega
      go_wp2_with fail
      refine (heldInt64S_any Aj nj cj q _ hnb hqb.1 (by omega) RW.out).mono ?_
      rintro e w3 ⟨rfl, rfl⟩
      go_wp2
      go_roundw
      case rel => exact ⟨j + 1, by omega, by go_num, by rw [show q + (nj : Int) = k + ((sumL (R.take (j + 1)) : Nat) : Int) from by have h1 := ST.out; have h2 := HQ.out; omega], by trivial⟩
      case measure => simp [intOf]; omega
    · have hjn : j = n := by omega
      subst hjn
      have HR := Lib.hid (show R.take j = R from List.take_of_length_le (by have := HN.out; have := HL.out; omega))
      go_wp2
      go_ret
      exact ⟨ret_int (by rw [HR.out]), rfl⟩

end Go.Proofs.Ytlddileiecnkjaa

set_option linter.unusedSimpArgs false
set_option linter.unusedVariables false
namespace Go.Proofs.Ytlddileiecnkjaa
open Go.RowKit

/-- All are nodes, and not too many. -/
def nodesB (N : Int) (V : List Int) : Bool := (V.all fun v => decide (0 ≤ v ∧ v < N)) && decide (V.length ≤ 60)
def matB (N : Int) (L : List Arc3) (F T : List Int) : Bool := okB N L && (nodesB N F && nodesB N T)
def matRow (N : Int) (L : List Arc3) (T : List Int) (s : Int) : List Int := T.map fun t => dAt (distL N L s) t
def matR (N : Int) (L : List Arc3) (F T : List Int) : List (List Int) := F.map (matRow N L T)
def matL (N : Int) (L : List Arc3) (F T : List Int) : List (List Int) := if matB N L F T = true then matR N L F T else []
theorem matL_no {N : Int} {L : List Arc3} {F T : List Int} (h : matB N L F T = false) : matL N L F T = [] := if_neg (by rw [h]; simp)
theorem matL_yes {N : Int} {L : List Arc3} {F T : List Int} (h : matB N L F T = true) : matL N L F T = matR N L F T := if_pos h
theorem nodesB_elim {N : Int} {V : List Int} (h : nodesB N V = true) : (∀ v ∈ V, 0 ≤ v ∧ v < N) ∧ V.length ≤ 60 := by
  unfold nodesB at h
  simpa [Bool.and_eq_true] using h
theorem matB_elim {N : Int} {L : List Arc3} {F T : List Int} (h : matB N L F T = true) : okB N L = true ∧ nodesB N F = true ∧ nodesB N T = true := by
  unfold matB at h
  simpa [Bool.and_eq_true] using h
theorem matRow_take (N : Int) (L : List Arc3) (T : List Int) (s : Int) {k : Nat} (h : k < T.length) : matRow N L (T.take (k + 1)) s = matRow N L (T.take k) s ++ [dAt (distL N L s) T[k]] := by
  unfold matRow
  rw [List.take_succ_eq_append_getElem h, List.map_append]
  rfl
theorem matRow_len (N : Int) (L : List Arc3) (T : List Int) (s : Int) : (matRow N L T s).length = T.length := by simp [matRow]
theorem matR_len (N : Int) (L : List Arc3) (F T : List Int) : (matR N L F T).length = F.length := by simp [matR]
theorem matR_take (N : Int) (L : List Arc3) (F T : List Int) {k : Nat} (h : k < F.length) : matR N L (F.take (k + 1)) T = matR N L (F.take k) T ++ [matRow N L T F[k]] := by
  unfold matR
  rw [List.take_succ_eq_append_getElem h, List.map_append]
  rfl
theorem sumL_bd {m : Nat} : ∀ {R : List (List Int)}, (∀ r ∈ R, r.length ≤ m) → sumL R ≤ R.length * m
  | [], _ => by simp [sumL]
  | r :: R, h => by
    have h1 := h r (by simp)
    have h2 := sumL_bd (R := R) (fun x hx => h x (by simp [hx]))
    simp only [sumL, List.length_cons, Nat.add_mul]
    omega
theorem matL_small (N : Int) (L : List Arc3) (F T : List Int) : (matL N L F T).length ≤ 60 ∧ (∀ r ∈ matL N L F T, r.length ≤ 60) ∧ sumL (matL N L F T) ≤ 1048576 := by
  have h : (matL N L F T).length ≤ 60 ∧ (∀ r ∈ matL N L F T, r.length ≤ 60) := by
    unfold matL
    split
    · rename_i hm
      obtain ⟨-, h1, h2⟩ := matB_elim hm
      refine ⟨by rw [matR_len]; exact (nodesB_elim h1).2, fun r hr => ?_⟩
      unfold matR at hr
      obtain ⟨s, -, rfl⟩ := List.mem_map.1 hr
      rw [matRow_len]; exact (nodesB_elim h2).2
    · simp
  refine ⟨h.1, h.2, ?_⟩
  have h1 := sumL_bd h.2
  have h2 := Nat.mul_le_mul_right 60 h.1
  omega

/-- A box in which a list of numbers of its own grows. -/
structure RX (W : World) (rb : Nat) (q : Value) (V : List Int) (wr : World) : Prop where
  box : wr.rowIs rb 58 1 (fun _ => q)
  own : OwnN wr (rb + 1) q V
  bl : Bl W wr
  lo : W.heap.size ≤ rb
section
variable {W wr w2 : World} {rb : Nat} {q : Value} {V : List Int}
theorem RX.new (w : World) : RX w w.heap.size (.slice none 0 0) [] (w.alloc (.cells #[.slice none 0 0] 58)) := by
  refine ⟨?_, OwnN.nil_ _ _, Bl.alloc_ (Bl.refl w) _, Nat.le_refl _⟩
  exact World.rowIs_alloc w #[.slice none 0 0] 58 _ (fun i hi => by
    match i, hi with
    | 0, _ => rfl
    | i + 1, hi => exact absurd hi (by simp))
theorem RX.bl_ (h : RX W rb q V wr) (hb : Bl wr w2) : RX W rb q V w2 := ⟨row_bl h.box hb, h.own.bl hb, h.bl.trans_ hb, h.lo⟩
theorem RX.facts (h : RX W rb q V wr) : wr.cell? ⟨rb, 0, none⟩ = some q ∧ wr.frozen? ⟨rb, 0, none⟩ = false ∧ rb < wr.heap.size :=
  ⟨h.box.cell (i := 0) (by omega), h.box.frozen 0, h.box.lt⟩
theorem RX.grown_ (h : RX W rb q V wr) (hg : wr.grownBy w2 q.ownBlock) : w2.rowIs rb 58 1 (fun _ => q) ∧ Bl W w2 := by
  have l1 := h.lo
  exact ⟨World.rowIs.of_block h.box (hg.block rb h.box.lt (fun e => by have := (Owns.lt h.own rb e.symm).1; omega)), h.bl.grown_ hg (fun g e => by
    have := (Owns.lt h.own g e).1
    omega)⟩
theorem RX.app (h : RX W rb q V wr) (hg : wr.grownBy w2 q.ownBlock) {q2 : Value} {V2 : List Int} (ho : OwnN w2 (rb + 1) q2 V2) : RX W rb q2 V2 (w2.setCell ⟨rb, 0, none⟩ q2) := by
  obtain ⟨a, b⟩ := h.grown_ hg
  have l1 := h.lo
  refine ⟨?_, Owns.setOther ho (fun g hg e => by have := (Owns.lt ho g hg).1; have e' : g = rb := e; omega) q2, b.set_ (by show W.heap.size ≤ rb; omega) q2, h.lo⟩
  have h1 := a.set 0 q2
  refine h1.congr (fun i hi => ?_)
  have : i = 0 := by omega
  subst this
  rw [if_pos rfl]
end

end Go.Proofs.Ytlddileiecnkjaa

set_option linter.unusedSimpArgs false
set_option linter.unusedVariables false
namespace Go.Proofs.Ytlddileiecnkjaa
open Go.RowKit



section
variable {w w' : World} {B B' size n : Nat} {A : Option Addr} {xs : List Value}
end

section
variable {P : Program} (w : World)





end







end Go.Proofs.Ytlddileiecnkjaa

set_option linter.unusedSimpArgs false
set_option linter.unusedVariables false
namespace Go.Proofs.Ytlddileiecnkjaa
open Go.RowKit

/-- A graph and a flag are left; zero where the flag is false. -/
def WRes (ok : Bool) (N : Int) (M : List Arc3) (w : World) (e : Ending) (w' : World) : Prop :=
  ∃ v, e = .returned (.tuple #[.agg #[.int .i64 (if ok = true then N else 0), v], .bool ok]) ∧ OwnA w' w.heap.size v (if ok = true then M else []) ∧ Bl w w'
theorem WRes.no {N : Int} {M : List Arc3} {w w' : World} {ok : Bool} (h : ok = false) (hb : Bl w w') : WRes ok N M w (.returned (.tuple #[.agg #[.int .i64 0, .slice none 0 0], .bool false])) w' := by
  subst h
  exact ⟨_, rfl, OwnA.nil_ _ _, hb⟩

theorem ArcsAt.take_ {w : World} {B : Nat} {A : Option Addr} {L : List Arc3} (h : ArcsAt w B A L) (p : Nat) : ArcsAt w B A (L.take p) := fun h0 => by
  obtain ⟨g, off, e, hg, hc⟩ := h (by rw [List.length_take] at h0; omega)
  refine ⟨g, off, e, hg, fun k hk => ?_⟩
  rw [List.getElem_take]
  exact hc k (by rw [List.length_take] at hk; omega)

theorem OwnA.set_ {w : World} {B : Nat} {v : Value} {L : List Arc3} (h : OwnA w B v L) {p : Addr} (hp : p.block < B) (u : Value) : OwnA (w.setCell p u) B v L :=
  ⟨h.1, h.2.imp id (fun ⟨g, cap, cur, a, b, c, d⟩ => ⟨g, cap, cur, a, b, (Below.heap_setCell w p u g (by omega)).trans c, d⟩)⟩



end Go.Proofs.Ytlddileiecnkjaa

set_option linter.unusedSimpArgs false
set_option linter.unusedVariables false
namespace Go.Proofs.Ytlddileiecnkjaa
open Go.RowKit

theorem step_append_own {P : Program} (w : World) {ops : Array Oper} {o : Oper} {a : Act} {K : Act → World → Prop} {Q : Exit → Act → World → Prop} {E : Prop} (hgd : o.guard = none) (s x : Operand) (t : TypeId)
    (ho : o.op = .call { callee := .builtin .append, args := #[s, x], argTypes := #[t, t] })
    (base : Nat) (e : TypeId) (i : TypeInfo) (z : Value) (size bytes : Nat) (ht : P.underlying t = some (.slice e)) (hi : P.info? e = some i) (hz : i.zero = some z)
    (hsize : i.size = size) (hby : i.bytes = bytes) (hzs : z.cells.size = size) (hsz : 0 < size)
    (v : Value) (n : Nat) (xs : List Value) (hs : a.eval s = v) (hown : w.ownsRow base e size v n xs)
    (ad : Addr) (m c : Nat) (news : List Value) (hx : a.eval x = .slice (some ad) m c) (hl : news.length = m * size) (hnews : ∀ j u, news[j]? = some u → w.cell? (ad.add j) = some u) (h1 : ∀ u ∈ news, u.oneCell' = true)
    (h63 : n + m ≤ maxLen) (hbytes : (n + m) * bytes ≤ 140737488355328) (hbase : base ≤ w.heap.size)
    (h : ∀ v' w', w'.ownsRow base e size v' (n + m) (xs ++ news) → w.grownBy w' v.ownBlock → K (a.put o.dst v') w') :
    if Region.wanted o (yielded ops a.tmps) = true then Oper.wp P o a w K Q else E := by
  have hw : Region.wanted o (yielded ops a.tmps) = true := by simp [Region.wanted, hgd]
  rw [if_pos hw]
  exact wp_append_own w s x t ho base e i z size bytes ht hi hz hsize hby hzs hsz v n xs hs hown ad m c news hx hl hnews h1 h63 hbytes hbase fun v' w' h2 h3 _ => h v' w' h2 h3





end Go.Proofs.Ytlddileiecnkjaa

set_option linter.unusedSimpArgs false
set_option linter.unusedVariables false
namespace Go.Proofs.Ytlddileiecnkjaa
open Go.RowKit

theorem IsDist.tri {N : Int} {L : List Arc3} {s t : Int} {D E : List Int} (ho : okB N L = true) (hD : IsDist N L s D) (hE : IsDist N (revL L) t E) :
    ∀ (n : Nat) (v : Int), 0 ≤ v → v < N → (dAt E v).toNat = n → 0 ≤ dAt E v → 0 ≤ dAt D v → 0 ≤ dAt D t ∧ dAt D t ≤ dAt D v + dAt E v := by
  have hp := (okB_elim ho).2.2.2.2
  have hin := arcsIn_of_ok ho
  intro n
  induction n using Nat.strongRecOn with
  | ind n ih =>
    intro v h0 h1 hn hb ha
    rcases hE.back v h0 h1 hb with rfl | ⟨r, hr, e1, e2, e3⟩
    · have := hE.start
      omega
    · have hm := (revL_mem hp).1 hr
      obtain ⟨a0, a1, a2, a3, a4, a5⟩ := hin _ hm
      simp only [turnA] at a0 a1 a2 a3 a4 a5
      have := hD.arc _ hm (by simp only [turnA]; rw [e1]; exact ha)
      simp only [turnA] at this
      rw [e1] at this
      obtain ⟨x, y⟩ := ih (dAt E r.1).toNat (by omega) r.1 a2 a3 rfl e2 this.1
      omega
/-- In the graph that is turned it is as far the other way round. -/
theorem IsDist.turned {N : Int} {L : List Arc3} {s t : Int} {D E : List Int} (ho : okB N L = true) (hs : 0 ≤ s ∧ s < N) (ht : 0 ≤ t ∧ t < N) (hD : IsDist N L s D) (hE : IsDist N (revL L) t E) : dAt E s = dAt D t := by
  have h1 := fun h => hD.tri ho hE _ s hs.1 hs.2 rfl h (by rw [hD.start]; omega)
  have hD' : IsDist N (revL (revL L)) s D := by rw [revL_revL ho]; exact hD
  have h2 := fun h => hE.tri (revL_ok ho) hD' _ t ht.1 ht.2 rfl h (by rw [hE.start]; omega)
  have e1 := hD.start
  have e2 := hE.start
  have l1 := hD.low t
  have l2 := hE.low s
  by_cases p : 0 ≤ dAt E s
  · obtain ⟨a, b⟩ := h1 p
    obtain ⟨c, d⟩ := h2 a
    omega
  · by_cases q : 0 ≤ dAt D t
    · obtain ⟨c, d⟩ := h2 q
      omega
    · omega






end Go.Proofs.Ytlddileiecnkjaa

set_option linter.unusedSimpArgs false
set_option linter.unusedVariables false
namespace Go.Proofs.Ytlddileiecnkjaa
open Go.RowKit


theorem dAt_at {D : List Int} {k : Nat} (hk : k < D.length) : dAt D (k : Int) = D[k] := by simp [dAt, hk]

end Go.Proofs.Ytlddileiecnkjaa
