/-
  What is proved here: the laws' small functions on halves; the laws' small functions on lists of rows: sizes, copies, comparisons; plain words on the rows of all distances; words on a list of lists of numbers that is memory of its own, each list, too; and the laws' small functions that mark it and look at the marks; plain words on a table of distances; a box of one list of numbers that grows. No conditions beyond those that each theorem states.
-/
import Derived.Test.YtlddileiecnkjaaV5G13
import Derived.Outline
import Derived.Test.YtlddileiecnkjaaV5G11
import Derived.Test.YtlddileiecnkjaaV5G04
set_option linter.unusedSimpArgs false
set_option linter.unusedVariables false
namespace Go.Proofs.Ytlddileiecnkjaa
open Go.ChangeShapes Go.WideShapes Go.ChangeAt Go.RowKit


theorem IntsAt.set_ {w : World} {B : Nat} {A : Option Addr} {V : List Int} (h : IntsAt w B A V) {p : Addr} (hp : ∀ g, blockOf A = some g → p.block ≠ g) (v : Value) : IntsAt (w.setCell p v) B A V := fun h0 => by
  obtain ⟨g, off, rfl, hg, hc⟩ := h h0
  exact ⟨g, off, rfl, hg, fun k hk => by rw [World.cell?_setCell_other _ _ _ _ (fun e => hp g rfl (by rw [e]))]; exact hc k hk⟩

/-- Three cells, in a block of their own. -/
def Tri (w : World) (g : Nat) (a b c : Value) : Prop := w.rowIs g 26 3 (fun i => if i = 0 then a else if i = 1 then b else c)
theorem Tri.new (w : World) (a b c : Value) : Tri (w.alloc (.cells #[a, b, c] 26)) w.heap.size a b c :=
  World.rowIs_alloc w #[a, b, c] _ _ (fun i hi => by
    have : i = 0 ∨ i = 1 ∨ i = 2 := by simp at hi; omega
    rcases this with rfl | rfl | rfl <;> simp)
theorem Tri.facts {w : World} {g : Nat} {a b c : Value} (h : Tri w g a b c) : w.cell? ⟨g, 0, none⟩ = some a ∧ w.cell? ⟨g, 1, none⟩ = some b ∧ w.cell? ⟨g, 2, none⟩ = some c ∧ w.frozen? ⟨g, 0, none⟩ = false ∧ w.frozen? ⟨g, 1, none⟩ = false ∧ w.frozen? ⟨g, 2, none⟩ = false :=
  ⟨h.cell (i := 0) (by omega), h.cell (i := 1) (by omega), h.cell (i := 2) (by omega), h.frozen 0, h.frozen 1, h.frozen 2⟩
theorem Tri.bl {w w' : World} {g : Nat} {a b c : Value} (h : Tri w g a b c) (hb : Bl w w') : Tri w' g a b c := row_bl h hb
theorem Tri.far {w : World} {g : Nat} {a b c : Value} (h : Tri w g a b c) {p : Addr} (hp : g ≠ p.block) (u : Value) : Tri (w.setCell p u) g a b c := World.rowIs.setOther h hp u
theorem Tri.set0 {w : World} {g : Nat} {a b c : Value} (h : Tri w g a b c) (u : Value) : Tri (w.setCell ⟨g, 0, none⟩ u) g u b c :=
  (World.rowIs.set h 0 u).congr fun i hi => by
    have : i = 0 ∨ i = 1 ∨ i = 2 := by omega
    rcases this with rfl | rfl | rfl <;> simp
theorem Tri.set1 {w : World} {g : Nat} {a b c : Value} (h : Tri w g a b c) (u : Value) : Tri (w.setCell ⟨g, 1, none⟩ u) g a u c :=
  (World.rowIs.set h 1 u).congr fun i hi => by
    have : i = 0 ∨ i = 1 ∨ i = 2 := by omega
    rcases this with rfl | rfl | rfl <;> simp




end Go.Proofs.Ytlddileiecnkjaa

set_option linter.unusedSimpArgs false
set_option linter.unusedVariables false
namespace Go.Proofs.Ytlddileiecnkjaa
open Go.RowKit

/-- How many numbers there are in all rows. -/
def sumL : List (List Int) → Nat
  | [] => 0
  | r :: R => r.length + sumL R









end Go.Proofs.Ytlddileiecnkjaa

set_option linter.unusedSimpArgs false
set_option linter.unusedVariables false
namespace Go.Proofs.Ytlddileiecnkjaa
open Go.RowKit


end Go.Proofs.Ytlddileiecnkjaa

set_option linter.unusedSimpArgs false
set_option linter.unusedVariables false
namespace Go.Proofs.Ytlddileiecnkjaa
open Go.RowKit

/-- The head of a list: where it lies, how long it is, and how long it may be. -/
abbrev SlH := Option Addr × Nat × Nat
def slV (x : SlH) : Value := .slice x.1 x.2.1 x.2.2
/-- pv owns the heads G of the lists R, and each of these owns its numbers, in blocks of which no two are the same. -/
structure RowsG (w : World) (B : Nat) (pv : Value) (G : List SlH) (R : List (List Int)) : Prop where
  own : Owns 58 1 w B pv G.length (G.map slV)
  len : G.length = R.length
  row : ∀ j (h : j < G.length) (h' : j < R.length), OwnN w B (slV G[j]) R[j] ∧ ∀ g, (slV G[j]).ownBlock = some g → pv.ownBlock ≠ some g
  apart : ∀ i j (hi : i < G.length) (hj : j < G.length), i ≠ j → ∀ g, (slV G[i]).ownBlock = some g → (slV G[j]).ownBlock ≠ some g
variable {w w' : World} {B : Nat} {pv pv' : Value} {G : List SlH} {R : List (List Int)}
theorem RowsG.bl (h : RowsG w B pv G R) (b : Bl w w') : RowsG w' B pv G R :=
  ⟨h.own.bl b, h.len, fun j h1 h2 => ⟨(h.row j h1 h2).1.bl b, (h.row j h1 h2).2⟩, h.apart⟩
theorem RowsG.low {B' : Nat} (h : RowsG w B' pv G R) (hB : B ≤ B') : RowsG w B pv G R :=
  ⟨h.own.low hB, h.len, fun j h1 h2 => ⟨(h.row j h1 h2).1.low hB, (h.row j h1 h2).2⟩, h.apart⟩
theorem RowsG.turn {S : Nat → Prop} (h : RowsG w B pv G R) (k : Turn S w w') (hS : ∀ g, B ≤ g → g < w.heap.size → ¬ S g) : RowsG w' B pv G R :=
  ⟨h.own.turn k (fun g hg => by have := Owns.lt h.own g hg; exact hS g this.1 this.2), h.len, fun j h1 h2 => ⟨by
    have h3 := (h.row j h1 h2).1
    exact Owns.turn h3 k (fun g hg => by have := Owns.lt h3 g hg; exact hS g this.1 this.2), (h.row j h1 h2).2⟩, h.apart⟩
theorem RowsG.nil_ (w : World) (B : Nat) (h : Owns 58 1 w B pv 0 []) : RowsG w B pv [] [] :=
  ⟨h, rfl, fun j h1 => absurd h1 (by simp), fun i j h1 => absurd h1 (by simp)⟩
theorem RowsG.lt (h : RowsG w B pv G R) {j : Nat} (hj : j < G.length) {g : Nat} (hg : (slV G[j]).ownBlock = some g) : B ≤ g ∧ g < w.heap.size :=
  Owns.lt (h.row j hj (by rw [← h.len]; exact hj)).1 g hg
/-- The head says how long its list is. -/
theorem RowsG.head (h : RowsG w B pv G R) {j : Nat} (hj : j < G.length) : (G[j]).2.1 = (R[j]'(by rw [← h.len]; exact hj)).length := by
  obtain ⟨A, c, e, -⟩ := OwnN.shape (h.row j hj (by rw [← h.len]; exact hj)).1
  unfold slV at e
  injection e
theorem RowsG.snoc {r : List Int} {x : SlH} {k : Nat} (h : RowsG w B pv G R) (hr : OwnN w B (slV x) r)
    (hne : ∀ g, (slV x).ownBlock = some g → pv.ownBlock ≠ some g ∧ ∀ j (h : j < G.length), (slV G[j]).ownBlock ≠ some g) (hk : k = G.length)
    (hown : w'.ownsRow B 58 1 pv' (k + 1) (G.map slV ++ [slV x])) (hg : w.grownBy w' pv.ownBlock) (hb : pv'.ownBlock = pv.ownBlock ∨ pv'.ownBlock = some w.heap.size) : RowsG w' B pv' (G ++ [x]) (R ++ [r]) := by
  subst hk
  have keep : ∀ (v : Value) (V : List Int), OwnN w B v V → (∀ g, v.ownBlock = some g → pv.ownBlock ≠ some g) → OwnN w' B v V ∧ ∀ g, v.ownBlock = some g → pv'.ownBlock ≠ some g := fun v V h1 h2 => by
    refine ⟨Owns.grown_ h1 hg (fun g e h => h2 g e h.symm), fun g e h => ?_⟩
    rcases hb with hb | hb
    · exact h2 g e (hb.symm.trans h)
    · have h3 := hb.symm.trans h
      have := Owns.lt h1 g e
      injection h3 with h3
      omega
  have hlen := h.len
  refine ⟨by rw [List.length_append, List.map_append]; exact hown, by simp [h.len], fun j h1 h2 => ?_, fun i j hi hj hij => ?_⟩
  · by_cases e : j < G.length
    · obtain ⟨a1, a2⟩ := h.row j e (by omega)
      have e1 : (R ++ [r])[j]'h2 = R[j]'(by omega) := List.getElem_append_left (by omega)
      have e2 : (G ++ [x])[j]'h1 = G[j] := List.getElem_append_left e
      rw [e1, e2]
      exact keep _ _ a1 a2
    · obtain rfl : j = G.length := by simp at h1; omega
      have e1 : (R ++ [r])[G.length]'h2 = r := by simp [h.len]
      have e2 : (G ++ [x])[G.length]'h1 = x := by simp
      rw [e1, e2]
      exact keep _ _ hr (fun g hg => (hne g hg).1)
  · intro g h1
    by_cases ei : i < G.length
    · have e1 : (G ++ [x])[i]'hi = G[i] := List.getElem_append_left ei
      rw [e1] at h1
      by_cases ej : j < G.length
      · have e2 : (G ++ [x])[j]'hj = G[j] := List.getElem_append_left ej
        rw [e2]
        exact h.apart i j ei ej hij g h1
      · obtain rfl : j = G.length := by simp at hj; omega
        have e2 : (G ++ [x])[G.length]'hj = x := by simp
        rw [e2]
        exact fun h2 => (hne g h2).2 i ei h1
    · obtain rfl : i = G.length := by simp at hi; omega
      have e1 : (G ++ [x])[G.length]'hi = x := by simp
      rw [e1] at h1
      have ej : j < G.length := by simp at hj; omega
      have e2 : (G ++ [x])[j]'hj = G[j] := List.getElem_append_left ej
      rw [e2]
      exact (hne g h1).2 j ej
/-- The heads lie at the front of a block. -/
theorem RowsG.cells {A : Option Addr} {n c : Nat} (h : RowsG w B (.slice A n c) G R) (h0 : 0 < G.length) : ∃ g, A = some ⟨g, 0, none⟩ ∧ B ≤ g ∧ g < w.heap.size ∧ ∀ j (hj : j < G.length), w.cell? ⟨g, j, none⟩ = some (slV G[j]) := by
  obtain ⟨A', c', e, -, -, -, hs⟩ := Owns.shape h.own
  injection e with e1 e2 e3
  subst e1
  obtain ⟨g, rfl, hB, hg, -, hc⟩ := hs h0
  exact ⟨g, rfl, hB, hg, fun j hj => by rw [hc j (by simpa using hj)]; simp⟩
theorem RowsG.slice (h : RowsG w B pv G R) : ∃ A c, pv = .slice A R.length c := by
  obtain ⟨A, c, e, -⟩ := Owns.shape h.own
  exact ⟨A, c, by rw [e, h.len]⟩

/-- All lists of G are marked, one behind the other, from k on. -/
structure MarkG (w : World) (B : Nat) (A : Option Addr) (G : List SlH) (R : List (List Int)) (k : Int) : Prop where
  len : G.length = R.length
  cell : 0 < G.length → ∃ g, A = some ⟨g, 0, none⟩ ∧ B ≤ g ∧ g < w.heap.size ∧ ∀ j (hj : j < G.length), w.cell? ⟨g, j, none⟩ = some (slV G[j])
  row : ∀ j (h : j < G.length) (h' : j < R.length), (G[j]).2.1 = R[j].length ∧ Marks w (G[j]).1 R[j].length (k + (sumL (R.take j) : Nat)) ∧ ∀ g, blockOf (G[j]).1 = some g → B ≤ g ∧ g < w.heap.size
theorem Marks.turn {A : Option Addr} {n : Nat} {k : Int} {S : Nat → Prop} (h : Marks w A n k) (t : Turn S w w') (hS : ∀ g, blockOf A = some g → ¬ S g) : Marks w' A n k := fun h0 => by
  obtain ⟨g, off, e, hg, hc⟩ := h h0
  exact ⟨g, off, e, Nat.lt_of_lt_of_le hg t.size, fun j hj => by rw [t.cell hg (hS g (by rw [e]; rfl))]; exact hc j hj⟩
theorem MarkG.turn {A : Option Addr} {k : Int} {S : Nat → Prop} (h : MarkG w B A G R k) (t : Turn S w w') (hS : ∀ g, B ≤ g → g < w.heap.size → ¬ S g) : MarkG w' B A G R k :=
  ⟨h.len, fun h0 => by
    obtain ⟨g, e, hB, hg, hc⟩ := h.cell h0
    exact ⟨g, e, hB, Nat.lt_of_lt_of_le hg t.size, fun j hj => by rw [t.cell hg (hS g hB hg)]; exact hc j hj⟩, fun j h1 h2 => by
    obtain ⟨a1, a2, a3⟩ := h.row j h1 h2
    exact ⟨a1, a2.turn t (fun g e => hS g (a3 g e).1 (a3 g e).2), fun g e => ⟨(a3 g e).1, Nat.lt_of_lt_of_le (a3 g e).2 t.size⟩⟩⟩
theorem MarkG.bl {A : Option Addr} {k : Int} (h : MarkG w B A G R k) (b : Bl w w') : MarkG w' B A G R k := h.turn (Turn.of_bl (S := fun _ => False) b) (fun _ _ _ h => h)



end Go.Proofs.Ytlddileiecnkjaa

set_option linter.unusedSimpArgs false
set_option linter.unusedVariables false
namespace Go.Proofs.Ytlddileiecnkjaa
open Go.RowKit


/-- A box in which a list of numbers of its own grows. -/
structure RX (W : World) (rb : Nat) (q : Value) (V : List Int) (wr : World) : Prop where
  box : wr.rowIs rb 58 1 (fun _ => q)
  own : OwnN wr (rb + 1) q V
  bl : Bl W wr
  lo : W.heap.size ≤ rb
section
variable {W wr w2 : World} {rb : Nat} {q : Value} {V : List Int}
theorem RX.new (w : World) : RX w w.heap.size (.slice none 0 0) [] (w.alloc (.cells #[.slice none 0 0] 58)) := by
  refine ⟨?_, OwnN.nil_ _ _, Bl.alloc_ (Bl.refl w) _, Nat.le_refl _⟩
  exact World.rowIs_alloc w #[.slice none 0 0] 58 _ (fun i hi => by
    match i, hi with
    | 0, _ => rfl
    | i + 1, hi => exact absurd hi (by simp))
theorem RX.bl_ (h : RX W rb q V wr) (hb : Bl wr w2) : RX W rb q V w2 := ⟨row_bl h.box hb, h.own.bl hb, h.bl.trans_ hb, h.lo⟩
theorem RX.facts (h : RX W rb q V wr) : wr.cell? ⟨rb, 0, none⟩ = some q ∧ wr.frozen? ⟨rb, 0, none⟩ = false ∧ rb < wr.heap.size :=
  ⟨h.box.cell (i := 0) (by omega), h.box.frozen 0, h.box.lt⟩
theorem RX.grown_ (h : RX W rb q V wr) (hg : wr.grownBy w2 q.ownBlock) : w2.rowIs rb 58 1 (fun _ => q) ∧ Bl W w2 := by
  have l1 := h.lo
  exact ⟨World.rowIs.of_block h.box (hg.block rb h.box.lt (fun e => by have := (Owns.lt h.own rb e.symm).1; omega)), h.bl.grown_ hg (fun g e => by
    have := (Owns.lt h.own g e).1
    omega)⟩
end

end Go.Proofs.Ytlddileiecnkjaa
