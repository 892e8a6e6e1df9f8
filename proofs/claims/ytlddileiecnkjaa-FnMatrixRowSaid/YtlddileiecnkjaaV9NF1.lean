/-
  What is proved here: what the iterator over the nearest nodes keeps in memory. No conditions beyond those that each theorem states.
-/
import Derived.Test.YtlddileiecnkjaaV9G02
import Derived.Test.YtlddileiecnkjaaV9G05
import Derived.Test.YtlddileiecnkjaaV9G08
import Derived.Test.YtlddileiecnkjaaV9G09
set_option linter.unusedSimpArgs false
set_option linter.unusedVariables false
namespace Go.Proofs.Ytlddileiecnkjaa
open Go.RowKit

theorem ArcsAt.turn {w w' : World} {B : Nat} {A : Option Addr} {L : List Arc3} {S : Nat → Prop} (h : ArcsAt w B A L) (hB : B ≤ w.heap.size) (k : Turn S w w') (hS : 0 < L.length → ∀ g, blockOf A = some g → ¬ S g) : ArcsAt w' B A L := fun h0 => by
  obtain ⟨g, off, rfl, hg, hc⟩ := h h0
  have hb := fun o => (k.cells (show g < w.heap.size by omega) (hS h0 g rfl) o).1
  exact ⟨g, off, rfl, hg, fun j hj => by rw [hb, hb, hb]; exact hc j hj⟩
theorem HBox.turn {w w' : World} {hb : Nat} {v : Value} {S : Nat → Prop} (h : HBox w hb v) (k : Turn S w w') (hS : ¬ S hb) : HBox w' hb v := by
  have hl := h.lt
  obtain ⟨h0, h1, h2⟩ := h
  exact ⟨(k.cells hl hS 0).1.trans h0, (k.cells hl hS 1).1.trans h1, (k.cells hl hS 0).2.trans h2⟩
theorem RowI.turn {w w' : World} {g n c : Nat} {L : List It} {S : Nat → Prop} (h : RowI w g n c L) (k : Turn S w w') (hS : ¬ S g) : RowI w' g n c L :=
  ⟨Owns.turn h.1 k (fun g' e => by have e' : g = g' := by simpa [Value.ownBlock] using e
                                   rw [← e']; exact hS), h.2⟩

/-- Which nodes are told, in an array of 24. -/
structure ToldAt (w : World) (tb : Nat) (Y : List It) : Prop where
  lt : tb < w.heap.size
  cell : ∀ i : Nat, i < 24 → w.cell? ⟨tb, i, none⟩ = some (.bool (toldB Y (i : Int)))
  free : ∀ i : Nat, i < 24 → w.frozen? ⟨tb, i, none⟩ = false
theorem ToldAt.turn {w w' : World} {tb : Nat} {Y : List It} (h : ToldAt w tb Y) {S : Nat → Prop} (k : Turn S w w') (hS : ¬ S tb) : ToldAt w' tb Y :=
  ⟨Nat.lt_of_lt_of_le h.lt k.size, fun i hi => (k.cells h.lt hS i).1.trans (h.cell i hi), fun i hi => (k.cells h.lt hS i).2.trans (h.free i hi)⟩
theorem ToldAt.set {w : World} {tb : Nat} {Y : List It} (h : ToldAt w tb Y) {k : Int} {u : Nat} (hu : u < 24) : ToldAt (w.setCell ⟨tb, u, none⟩ (.bool true)) tb (Y ++ [(k, (u : Int))]) := by
  refine ⟨by simpa using h.lt, fun i hi => ?_, fun i hi => by rw [World.frozen?_setCell]; exact h.free i hi⟩
  rw [toldB_snoc]
  by_cases e : i = u
  · subst e
    rw [World.cell?_setCell_same' _ _ _ (by rw [h.cell i hi]; rfl)]
    simp
  · rw [World.cell?_setCell_other _ _ _ _ (by intro e'; injection e' with _ e2; exact e e2.symm), h.cell i hi]
    have : (((u : Int)) == (i : Int)) = false := by simp; omega
    simp [this]

/-- The state of the iterator: it began in world W; K: the blocks of its caller. -/
structure NSt (W : World) (K0 : Nat → Prop) (tb hb : Nat) (Y H : List It) (K : Nat → Prop) (g c : Nat) (wr : World) : Prop where
  told : ToldAt wr tb Y
  row : RowI wr g H.length c H
  box : HBox wr hb (.slice (some ⟨g, 0, none⟩) H.length c)
  ne : hb ≠ g ∧ tb ≠ hb ∧ tb ≠ g
  lo : W.heap.size ≤ tb ∧ W.heap.size ≤ hb ∧ W.heap.size ≤ g
  own : ¬ K tb ∧ ¬ K hb ∧ ¬ K g
  step : Step K0 K W wr
section
variable {W : World} {K0 : Nat → Prop} {tb hb : Nat} {Y H : List It} {K K' : Nat → Prop} {g c : Nat} {wr w' : World}
theorem Step.turn (h : Step K0 K W wr) {S : Nat → Prop} (t : Turn S wr w') (hS : ∀ i, S i → W.heap.size ≤ i) : Step K0 K W w' :=
  ⟨h.1.trans t (fun i hi h' => absurd (hS i h') (by omega)), h.2⟩
theorem NSt.bl (h : NSt W K0 tb hb Y H K g c wr) (b : Bl wr w') : NSt W K0 tb hb Y H K g c w' :=
  ⟨h.told.turn (Turn.of_bl (S := fun _ => False) b) id, h.row.bl b, h.box.bl h.box.lt b, h.ne, h.lo, h.own, h.step.turn (Turn.of_bl (S := fun _ => False) b) (fun _ h => h.elim)⟩
/-- What a round of the caller's leaves. -/
theorem NSt.round (h : NSt W K0 tb hb Y H K g c wr) (s : Step K K' wr w') : NSt W K0 tb hb Y H K' g c w' := by
  obtain ⟨o1, o2, o3⟩ := h.own
  have hg := h.row.cells.2.1
  exact ⟨h.told.turn s.1 o1, h.row.turn s.1 o3, h.box.turn s.1 o2, h.ne, h.lo, ⟨s.out h.told.lt o1, s.out h.box.lt o2, s.out hg o3⟩, h.step.trans s⟩
theorem NSt.pop (h : NSt W K0 tb hb Y H K g c wr) {M : List It} (hR : RowI w' g M.length c M) (hH : HBox w' hb (.slice (some ⟨g, 0, none⟩) M.length c)) (t : Turn (fun k => k = hb ∨ k = g) wr w') : NSt W K0 tb hb Y M K g c w' := by
  obtain ⟨n1, n2, n3⟩ := h.ne
  obtain ⟨l1, l2, l3⟩ := h.lo
  exact ⟨h.told.turn t (fun h => h.elim n2 n3), hR, hH, h.ne, h.lo, h.own, h.step.turn t (fun i hi => by rcases hi with rfl | rfl <;> assumption)⟩
theorem NSt.push (h : NSt W K0 tb hb Y H K g c wr) (hk : ∀ i, K i → i < wr.heap.size) {M : List It} {g' c' : Nat} (hM : 0 < M.length) (hI : HeapIn w' W.heap.size hb (.slice (some ⟨g', 0, none⟩) M.length c') M)
    (t : Turn (fun k => k = hb ∨ some k = some g) wr w') (hg' : some g = some g' ∨ wr.heap.size ≤ g') : NSt W K0 tb hb Y M K g' c' w' := by
  obtain ⟨n1, n2, n3⟩ := h.ne
  obtain ⟨l1, l2, l3⟩ := h.lo
  obtain ⟨o1, o2, o3⟩ := h.own
  have ht := h.told.lt
  obtain ⟨q1, q2, q3, q4⟩ := hI
  obtain ⟨A', c1, e, -, -, -, -⟩ := Owns.shape q2
  have hR : RowI w' g' M.length c' M := ⟨Owns.self_ q2, rfl⟩
  have hlo : W.heap.size ≤ g' := (Owns.lt_ q2 g' rfl).1
  have hne : hb ≠ g' := fun e => q4 (by rw [e]; rfl)
  have hg2 : tb ≠ g' := by
    rcases hg' with e | e
    · injection e with e; rw [← e]; exact n3
    · omega
  have ho : ¬ K g' := by
    rcases hg' with e | e
    · injection e with e; rw [← e]; exact o3
    · exact fun h' => absurd (hk g' h') (by omega)
  refine ⟨h.told.turn t (fun h => h.elim n2 (fun e => n3 (by injection e))), hR, q1, ⟨hne, n2, hg2⟩, ⟨l1, l2, hlo⟩, ⟨o1, o2, ho⟩, h.step.turn t (fun i hi => ?_)⟩
  rcases hi with rfl | e
  · exact l2
  · injection e with e; rw [e]; exact l3
theorem NSt.tell (h : NSt W K0 tb hb Y H K g c wr) {k : Int} {u : Nat} (hu : u < 24) : NSt W K0 tb hb (Y ++ [(k, (u : Int))]) H K g c (wr.setCell ⟨tb, u, none⟩ (.bool true)) := by
  obtain ⟨n1, n2, n3⟩ := h.ne
  obtain ⟨l1, l2, l3⟩ := h.lo
  have t : Turn (fun k => k = tb) wr (wr.setCell ⟨tb, u, none⟩ (.bool true)) := Turn.set (p := ⟨tb, u, none⟩) (Turn.refl (fun k => k = tb) wr) (.inl rfl) _
  exact ⟨h.told.set hu, h.row.turn t (fun e => n3 e.symm), h.box.turn t (fun e => n2 e.symm), h.ne, h.lo, h.own, h.step.turn t (fun i hi => by rw [hi]; exact l1)⟩
/-- A change to the iterator's own blocks is none to those of its caller. -/
theorem NSt.other (h : NSt W K0 tb hb Y H K g c wr) {S : Nat → Prop} {a b : World} (t : Turn S a b) (hS : ∀ i, S i → i = tb ∨ i = hb ∨ i = g) : Turn (fun i => ¬ K i) a b := by
  obtain ⟨o1, o2, o3⟩ := h.own
  refine t.more fun i _ hi => ?_
  rcases hS i hi with rfl | rfl | rfl <;> assumption
theorem NSt.heapIn (h : NSt W K0 tb hb Y H K g c wr) : HeapIn wr W.heap.size hb (.slice (some ⟨g, 0, none⟩) H.length c) H := by
  obtain ⟨n1, n2, n3⟩ := h.ne
  obtain ⟨l1, l2, l3⟩ := h.lo
  exact ⟨h.box, Owns.at_base h.row.1 l3, l2, fun e => n1 (by have e' : g = hb := by simpa [Value.ownBlock] using e
                                                             exact e'.symm)⟩
end

/-- What the iterator reads: the node and the graph, in boxes. -/
structure NIn (w : World) (lb sb gb : Nat) (N s : Int) (A : Option Addr) (n c : Nat) (L : List Arc3) : Prop where
  left : w.cell? ⟨lb, 0, none⟩ = some (.func (.func 127) #[] #[])
  start : w.cell? ⟨sb, 0, none⟩ = some (.int .i64 s)
  size : w.cell? ⟨gb, 0, none⟩ = some (.int .i64 N)
  list : w.cell? ⟨gb, 1, none⟩ = some (.slice A n c)
  arcs : ArcsAt w w.heap.size A L
/-- The blocks that it reads. -/
def inBlocks (lb sb gb : Nat) (A : Option Addr) (L : List Arc3) (i : Nat) : Prop := i = lb ∨ i = sb ∨ i = gb ∨ (0 < L.length ∧ blockOf A = some i)
theorem NIn.turn {w w' : World} {lb sb gb : Nat} {N s : Int} {A : Option Addr} {n c : Nat} {L : List Arc3} (h : NIn w lb sb gb N s A n c L) {S : Nat → Prop} (t : Turn S w w') (hS : ∀ i, S i → ¬ inBlocks lb sb gb A L i) : NIn w' lb sb gb N s A n c L := by
  have l0 := World.block_lt_of_cell? _ _ h.left
  have l1 := World.block_lt_of_cell? _ _ h.start
  have l2 := World.block_lt_of_cell? _ _ h.size
  have s0 : ¬ S lb := fun e => hS _ e (.inl rfl)
  have s1 : ¬ S sb := fun e => hS _ e (.inr (.inl rfl))
  have s2 : ¬ S gb := fun e => hS _ e (.inr (.inr (.inl rfl)))
  exact ⟨(t.cells l0 s0 0).1.trans h.left, (t.cells l1 s1 0).1.trans h.start, (t.cells l2 s2 0).1.trans h.size, (t.cells l2 s2 1).1.trans h.list,
    (h.arcs.turn (Nat.le_refl _) t (fun hl g hg e => hS g e (.inr (.inr (.inr ⟨hl, hg⟩))))).more t.size⟩

theorem inBlocks_lt {w : World} {lb sb gb : Nat} {N s : Int} {A : Option Addr} {n c : Nat} {L : List Arc3} (h : NIn w lb sb gb N s A n c L) {i : Nat} (hi : inBlocks lb sb gb A L i) : i < w.heap.size := by
  rcases hi with rfl | rfl | rfl | ⟨hl, hi⟩
  · exact World.block_lt_of_cell? _ _ h.left
  · exact World.block_lt_of_cell? _ _ h.start
  · exact World.block_lt_of_cell? _ _ h.size
  · obtain ⟨g, off, rfl, hg, -⟩ := h.arcs hl
    have : g = i := by simpa [blockOf] using hi
    omega

end Go.Proofs.Ytlddileiecnkjaa
