/-
  What is proved here: words on memory that read as a list of cells, for rows of whatever elements; contracts of the small functions that the exact laws on graphs go by; the order of two arcs' ends as the code takes it (cmp.Or over two comparisons); two slices of arcs that read as one list are told to be the same. No conditions beyond those that each theorem states.
-/
import Derived.Test.YtlddileiecnkjaaProg
import Derived.WalkKit
import Derived.WalkSpells
import Derived.WalkLawsBesides
import Derived.Handy
import Derived.Lib.Hide
import Derived.Laws.MakeOwn
import Derived.Deep.OwnRows
import Derived.Laws.OwnMore
import Derived.Deep.RegionHeld3
import Derived.Deep.QuietTactic
import Derived.BigQuiet
import Derived.StillTailTactics
import Derived.Deep.RegionWith
set_option linter.unusedSimpArgs false
set_option linter.unusedVariables false
namespace Go.Proofs.Ytlddileiecnkjaa
open Go.RowKit

/-- Nothing that was there has turned; there may be new blocks. -/
def Bl (w w' : World) : Prop := Below w.heap.size w w'
theorem Bl.refl (w : World) : Bl w w := Below.refl _ _
theorem Bl.trans_ {a b c : World} (h : Bl a b) (k : Bl b c) : Bl a c := Below.trans h (Below.mono k (Below.size h))
theorem Bl.alloc_ {a b : World} (h : Bl a b) (o : Obj) : Bl a (b.alloc o) := Below.alloc h (Below.size h) o
theorem Bl.drew_ {a b : World} (h : Bl a b) : Bl a b.drew := Below.drew h
theorem Bl.drewN_ {a b : World} (h : Bl a b) (n : Nat) : Bl a (b.drewN n) := by
  have h' : Below a.heap.size a b := h
  exact ⟨h'.os, h'.tape, h'.output, h'.size, h'.block⟩
theorem Bl.size {a b : World} (h : Bl a b) : a.heap.size ≤ b.heap.size := Below.size h
theorem Bl.set_ {a b : World} (h : Bl a b) {p : Addr} (hp : a.heap.size ≤ p.block) (v : Value) : Bl a (b.setCell p v) := Below.setCell h hp v
theorem Bl.grown_ {a b c : World} {row : Option Nat} (h : Bl a b) (hg : b.grownBy c row) (hr : ∀ g, row = some g → a.heap.size ≤ g) : Bl a c :=
  Below.grown h hg (Below.size h) hr
theorem bcell {W w1 : World} (hb : Bl W w1) : (∀ b o, b < W.heap.size → w1.cell? ⟨b, o, none⟩ = W.cell? ⟨b, o, none⟩) ∧ (∀ b o, b < W.heap.size → w1.frozen? ⟨b, o, none⟩ = W.frozen? ⟨b, o, none⟩) :=
  ⟨fun b o h => Below.cell hb (p := ⟨b, o, none⟩) h, fun b o h => Below.frozen hb (p := ⟨b, o, none⟩) h⟩
theorem Bl.block {W w1 : World} (hb : Bl W w1) {g : Nat} (h : g < W.heap.size) : w1.heap[g]? = W.heap[g]? := Below.block (show Below W.heap.size W w1 from hb) g h
theorem grown_of_bl {a b c : World} {row : Option Nat} (h : Bl a b) (k : b.grownBy c row) : a.grownBy c row :=
  ⟨k.os.trans (Below.os (show Below a.heap.size a b from h)), k.tape.trans (Below.tape (show Below a.heap.size a b from h)), k.output.trans (Below.output (show Below a.heap.size a b from h)), Nat.le_trans h.size k.size,
    fun i hi hne => (k.block i (Nat.lt_of_lt_of_le hi h.size) hne).trans (Below.block (show Below a.heap.size a b from h) i hi)⟩
theorem bl_grown {a b : World} (h : Bl a b) (row : Option Nat) : a.grownBy b row := grown_of_bl h (World.grownBy.refl b row)
theorem grown_trans {a b c : World} {row : Option Nat} (h : a.grownBy b row) (k : b.grownBy c row) : a.grownBy c row :=
  ⟨k.os.trans h.os, k.tape.trans h.tape, k.output.trans h.output, Nat.le_trans h.size k.size, fun i hi hne => (k.block i (Nat.lt_of_lt_of_le hi h.size) hne).trans (h.block i hi hne)⟩
theorem grown_bl {a b c : World} {row : Option Nat} (h : a.grownBy b row) (k : Bl b c) : a.grownBy c row := grown_trans h (bl_grown k row)
theorem grown_set {a w : World} {g : Nat} (h : a.grownBy w (some g)) {p : Addr} (hp : p.block = g ∨ a.heap.size ≤ p.block) (u : Value) : a.grownBy (w.setCell p u) (some g) :=
  ⟨h.os, h.tape, h.output, by simpa [World.setCell] using h.size, fun i hi hne => (Below.heap_setCell w p u i (by
    rintro rfl
    rcases hp with hp | hp
    · exact hne (by rw [hp])
    · omega)).trans (h.block i hi hne)⟩

theorem ret_bool {a b : Bool} (h : a = b) : Ending.returned (.bool a) = .returned (.bool b) := by rw [h]
theorem ret_int {k : IntKind} {a b : Int} (h : a = b) : Ending.returned (.int k a) = .returned (.int k b) := by rw [h]

theorem box2 {w wx : World} {a b : Value} {t : TypeId} (h : Bl (w.alloc (.cells #[a, b] t)) wx) : wx.cell? ⟨w.heap.size, 0, none⟩ = some a ∧ wx.cell? ⟨w.heap.size, 1, none⟩ = some b := by
  have hc := (bcell h).1
  exact ⟨by rw [hc _ _ (by simp)]; simp [go_sem], by rw [hc _ _ (by simp)]; simp [go_sem]⟩
theorem box3 {w wx : World} {a b c : Value} {t : TypeId} (h : Bl (w.alloc (.cells #[a, b, c] t)) wx) : wx.cell? ⟨w.heap.size, 0, none⟩ = some a ∧ wx.cell? ⟨w.heap.size, 1, none⟩ = some b ∧ wx.cell? ⟨w.heap.size, 2, none⟩ = some c := by
  have hc := (bcell h).1
  exact ⟨by rw [hc _ _ (by simp)]; simp [go_sem], by rw [hc _ _ (by simp)]; simp [go_sem], by rw [hc _ _ (by simp)]; simp [go_sem]⟩

/-- The block to which a slice leads. -/
def blockOf (A : Option Addr) : Option Nat := A.map (·.block)
theorem ownBlock_slice (A : Option Addr) (n c : Nat) : (Value.slice A n c).ownBlock = blockOf A := by cases A <;> rfl

/-- From A on the cells vs lie one behind the other, below block B. -/
def CellsAt (w : World) (B : Nat) (A : Option Addr) (vs : List Value) : Prop :=
  0 < vs.length → ∃ g off, A = some ⟨g, off, none⟩ ∧ g < B ∧ ∀ j (h : j < vs.length), w.cell? ⟨g, off + j, none⟩ = some vs[j]
theorem CellsAt.keep {w w' : World} {B : Nat} {A : Option Addr} {L : List Value} (h : CellsAt w B A L) (hk : ∀ b o, b < B → w'.cell? ⟨b, o, none⟩ = w.cell? ⟨b, o, none⟩) : CellsAt w' B A L := fun h0 => by
  obtain ⟨g, off, e, hg, hc⟩ := h h0
  exact ⟨g, off, e, hg, fun k hk' => by rw [hk _ _ hg]; exact hc k hk'⟩
theorem CellsAt.more {w : World} {B B' : Nat} {A : Option Addr} {L : List Value} (h : CellsAt w B A L) (hB : B ≤ B') : CellsAt w B' A L := fun h0 => by
  obtain ⟨g, off, e, hg, hc⟩ := h h0
  exact ⟨g, off, e, Nat.lt_of_lt_of_le hg hB, hc⟩
theorem CellsAt.bl {w w' : World} {A : Option Addr} {L : List Value} (h : CellsAt w w.heap.size A L) (hb : Bl w w') : CellsAt w' w'.heap.size A L :=
  (h.keep (bcell hb).1).more hb.size
theorem CellsAt.bl' {w w' : World} {B : Nat} {A : Option Addr} {L : List Value} (h : CellsAt w B A L) (hB : B ≤ w.heap.size) (hb : Bl w w') : CellsAt w' B A L :=
  h.keep fun b o hl => (bcell hb).1 b o (by omega)
theorem CellsAt.grown_ {w w' : World} {B : Nat} {A : Option Addr} {L : List Value} {row : Option Nat} (h : CellsAt w B A L) (hB : B ≤ w.heap.size) (hg : w.grownBy w' row)
    (hne : ∀ g, blockOf A = some g → g < B → some g ≠ row) : CellsAt w' B A L := fun hp => by
  obtain ⟨g, off, rfl, hlt, hc⟩ := h hp
  have hb := hg.block g (by omega) (hne g rfl hlt)
  exact ⟨g, off, rfl, hlt, fun k hk => by
    have q : ∀ o, w'.cell? ⟨g, o, none⟩ = w.cell? ⟨g, o, none⟩ := fun o => World.cell?_of_block hb
    rw [q]
    exact hc k hk⟩
theorem CellsAt.set {w : World} {B g off : Nat} {L : List Value} (h : CellsAt w B (some ⟨g, off, none⟩) L) {p : Addr} (hp : p.block ≠ g) (v : Value) : CellsAt (w.setCell p v) B (some ⟨g, off, none⟩) L := fun h0 => by
  obtain ⟨g', off', e, hg, hc⟩ := h h0
  injection e with e
  injection e with e1 e2 e3
  subst e1; subst e2
  exact ⟨g, off, rfl, hg, fun k hk => by rw [World.cell?_setCell_other _ _ _ _ (fun e => hp (by rw [e]))]; exact hc k hk⟩
theorem CellsAt.nil_ (w : World) (B : Nat) (A : Option Addr) : CellsAt w B A [] := fun h => absurd h (by simp)

theorem CellsAt.take_ {w : World} {B : Nat} {A : Option Addr} {L : List Value} (h : CellsAt w B A L) (m : Nat) : CellsAt w B A (L.take m) := fun h0 => by
  have h1 : 0 < L.length := by simp at h0; omega
  obtain ⟨g, off, e, hg, hc⟩ := h h1
  refine ⟨g, off, e, hg, fun k hk => ?_⟩
  rw [List.getElem_take]
  exact hc k (by simp at hk; omega)

theorem row_bl {w w' : World} {g : Nat} {t : TypeId} {n : Nat} {f : Nat → Value} (h : w.rowIs g t n f) (hb : Bl w w') : w'.rowIs g t n f :=
  h.of_block (Below.block hb g h.lt)

/-- The n elements of s cells from A on may be written. -/
def RowsW (t : TypeId) (s : Nat) (w : World) (A : Option Addr) (n : Nat) : Prop := 0 < n → ∃ g off m f, A = some ⟨g, off, none⟩ ∧ off + n * s ≤ m ∧ w.rowIs g t m f
theorem RowsW.bl {t : TypeId} {s : Nat} {w w' : World} {A : Option Addr} {n : Nat} (h : RowsW t s w A n) (hb : Bl w w') : RowsW t s w' A n := fun h0 => by
  obtain ⟨g, off, m, f, e, hm, hr⟩ := h h0
  exact ⟨g, off, m, f, e, hm, row_bl hr hb⟩
theorem RowsW.grown_ {t : TypeId} {s : Nat} {w w' : World} {A : Option Addr} {n : Nat} {row : Option Nat} (h : RowsW t s w A n) (hg : w.grownBy w' row) (hne : ∀ g, blockOf A = some g → some g ≠ row) : RowsW t s w' A n := fun hp => by
  obtain ⟨g, off, m, f, rfl, hm, hr⟩ := h hp
  exact ⟨g, off, m, f, rfl, hm, hr.of_block (hg.block g hr.lt (hne g rfl))⟩

/-- N cells from A on hold the numbers from k on. -/
def Marks (w : World) (A : Option Addr) (N : Nat) (k : Int) : Prop := 0 < N → ∃ g off, A = some ⟨g, off, none⟩ ∧ g < w.heap.size ∧ ∀ j, j < N → w.cell? ⟨g, off + j, none⟩ = some (.int .i64 (k + j))
theorem Marks.bl {w w' : World} {A : Option Addr} {n : Nat} {k : Int} (h : Marks w A n k) (hb : Bl w w') : Marks w' A n k := fun h0 => by
  obtain ⟨g, off, e, hg, hc⟩ := h h0
  have hh := (bcell hb).1
  exact ⟨g, off, e, Nat.lt_of_lt_of_le hg hb.size, fun j hj => by rw [hh _ _ hg]; exact hc j hj⟩
theorem Marks.grown_ {w w' : World} {A : Option Addr} {n : Nat} {k : Int} {row : Option Nat} (h : Marks w A n k) (hg : w.grownBy w' row) (hne : ∀ g, blockOf A = some g → some g ≠ row) : Marks w' A n k := fun h0 => by
  obtain ⟨g, off, rfl, hlt, hc⟩ := h h0
  have hb := hg.block g hlt (hne g rfl)
  have q : ∀ o, w'.cell? ⟨g, o, none⟩ = w.cell? ⟨g, o, none⟩ := fun o => World.cell?_of_block hb
  exact ⟨g, off, rfl, Nat.lt_of_lt_of_le hlt hg.size, fun j hj => by rw [q]; exact hc j hj⟩
/-- What the marks leave. -/
def MarkRows (t : TypeId) (s : Nat) (A : Option Addr) (n : Nat) (k : Int) (w : World) (e : Ending) (w' : World) : Prop :=
  e = .returned (.int .i64 (k + (n * s : Nat))) ∧ Marks w' A (n * s) k ∧ w.grownBy w' (blockOf A) ∧ RowsW t s w' A n

/-- The value v owns n elements of s cells, in blocks from B on. -/
def Owns (t : TypeId) (s : Nat) (w : World) (B : Nat) (v : Value) (n : Nat) (vs : List Value) : Prop := w.ownsRow B t s v n vs
theorem Owns.nil_ (t : TypeId) (s : Nat) (w : World) (B : Nat) : Owns t s w B (.slice none 0 0) 0 [] := World.ownsRow_nil _ _ _ _
theorem Owns.lt {t : TypeId} {s : Nat} {w : World} {B : Nat} {v : Value} {n : Nat} {vs : List Value} (h : Owns t s w B v n vs) : ∀ g, v.ownBlock = some g → B ≤ g ∧ g < w.heap.size := World.ownsRow.lt h
theorem Owns.lt_ {t : TypeId} {s : Nat} {w : World} {B : Nat} {A : Option Addr} {n m c : Nat} {vs : List Value} (h : Owns t s w B (.slice A m c) n vs) : ∀ g, blockOf A = some g → B ≤ g ∧ g < w.heap.size := fun g hg =>
  h.lt g (by rw [ownBlock_slice]; exact hg)
theorem Owns.low {t : TypeId} {s : Nat} {w : World} {B B' : Nat} {v : Value} {n : Nat} {vs : List Value} (h : Owns t s w B' v n vs) (hB : B ≤ B') : Owns t s w B v n vs :=
  ⟨h.1, h.2.imp id (fun ⟨g, cap, cur, a, b, c⟩ => ⟨g, cap, cur, a, Nat.le_trans hB b, c⟩)⟩
theorem Owns.len {t : TypeId} {s : Nat} {w : World} {B : Nat} {v : Value} {n : Nat} {vs : List Value} (h : Owns t s w B v n vs) : vs.length = n * s := h.1
theorem Owns.grown_ {t : TypeId} {s : Nat} {w w' : World} {B : Nat} {v : Value} {n : Nat} {vs : List Value} {row : Option Nat} (h : Owns t s w B v n vs) (hg : w.grownBy w' row) (hne : ∀ g, v.ownBlock = some g → some g ≠ row) : Owns t s w' B v n vs :=
  World.ownsRow.kept h hg (by
    cases hv : v.ownBlock with
    | none => exact .inl rfl
    | some g => exact .inr (hne g hv))
theorem Owns.bl {t : TypeId} {s : Nat} {w w' : World} {B : Nat} {v : Value} {n : Nat} {vs : List Value} (h : Owns t s w B v n vs) (hb : Bl w w') : Owns t s w' B v n vs :=
  Owns.grown_ h (bl_grown hb none) (fun _ _ => by simp)
theorem Owns.shape {t : TypeId} {s : Nat} {w : World} {B : Nat} {v : Value} {n : Nat} {vs : List Value} (h : Owns t s w B v n vs) :
    ∃ A c, v = .slice A n c ∧ c ≤ maxLen ∧ CellsAt w w.heap.size A vs ∧ RowsW t s w A n ∧ (0 < n → ∃ g, A = some ⟨g, 0, none⟩ ∧ B ≤ g ∧ g < w.heap.size ∧ (∀ o, w.frozen? ⟨g, o, none⟩ = false) ∧ ∀ j (hj : j < vs.length), w.cell? ⟨g, j, none⟩ = some vs[j]) := by
  have h' : w.ownsRow B t s v n vs := h
  have hl := h'.1
  rcases h'.2 with ⟨rfl, h0⟩ | ⟨g, cap, cur, rfl, hB, hg, hnc, hcm, hcs, htake⟩
  · subst h0
    exact ⟨none, 0, rfl, by unfold maxLen; omega, fun hp => absurd hp (by omega), fun hp => absurd hp (by omega), fun hp => absurd hp (by omega)⟩
  · have hlt : g < w.heap.size := (Array.getElem?_eq_some_iff.1 hg).1
    have hcell : ∀ j (hj : j < vs.length), w.cell? ⟨g, j, none⟩ = some vs[j] := fun j hj => by
      rw [World.ownsRow.cellAt h' j (by omega)]
      exact List.getElem?_eq_getElem hj
    refine ⟨some ⟨g, 0, none⟩, cap, rfl, hcm, fun _ => ⟨g, 0, rfl, hlt, fun k hk => by rw [Nat.zero_add]; exact hcell k hk⟩, fun _ => ⟨g, 0, cur.size, fun i => cur.getD i undef, rfl, ?_, cur, hg, rfl, fun i hi => by simp [Array.getD, hi]⟩,
      fun _ => ⟨g, rfl, hB, hlt, fun o => World.ownsRow.frozenAt h' o, hcell⟩⟩
    rw [hcs, Nat.zero_add]
    exact Nat.mul_le_mul_right _ hnc
theorem Owns.take_ {t : TypeId} {s : Nat} {w : World} {B : Nat} {A : Option Addr} {n c m : Nat} {vs : List Value} (h : Owns t s w B (.slice A n c) n vs) (hm : m ≤ n) (hA : A ≠ none) : Owns t s w B (.slice A m c) m (vs.take (m * s)) := by
  have h' : w.ownsRow B t s (.slice A n c) n vs := h
  have hms : m * s ≤ n * s := Nat.mul_le_mul_right _ hm
  refine ⟨by rw [List.length_take, h'.1]; omega, ?_⟩
  rcases h'.2 with ⟨e, h0⟩ | ⟨g, cap, cur, e, hB, hg, hnc, hcm, hcs, htake⟩
  · injection e with e1 e2 e3
    exact absurd e1 hA
  · injection e with e1 e2 e3
    refine .inr ⟨g, cap, cur, by rw [e1, e3], hB, hg, Nat.le_trans hm hnc, hcm, hcs, ?_⟩
    rw [← htake, List.take_take]
    congr 1
    omega
theorem Owns.stored {t : TypeId} {s : Nat} {w : World} {B g n cap : Nat} {vs : List Value} (h : Owns t s w B (.slice (some ⟨g, 0, none⟩) n cap) n vs) (j : Nat) (u : Value) :
    Owns t s (w.setCell ⟨g, j, none⟩ u) B (.slice (some ⟨g, 0, none⟩) n cap) n (vs.set j u) ∧ w.grownBy (w.setCell ⟨g, j, none⟩ u) (some g) := World.ownsRow.stored h j u
theorem Owns.setOther {t : TypeId} {s : Nat} {w : World} {B : Nat} {v : Value} {n : Nat} {vs : List Value} (h : Owns t s w B v n vs) {p : Addr} (hp : ∀ g, v.ownBlock = some g → g ≠ p.block) (u : Value) : Owns t s (w.setCell p u) B v n vs := by
  have h' : w.ownsRow B t s v n vs := h
  refine ⟨h'.1, ?_⟩
  rcases h'.2 with ⟨e, h0⟩ | ⟨g, cap, cur, e, hB, hg, hnc, hcm, hcs, htake⟩
  · exact .inl ⟨e, h0⟩
  · refine .inr ⟨g, cap, cur, e, hB, ?_, hnc, hcm, hcs, htake⟩
    rw [Below.heap_setCell w p u g (hp g (by rw [e]; rfl))]
    exact hg

theorem run_make_rowN {P : Program} (t e : TypeId) (i : TypeInfo) (z : Value) (ht : P.underlying t = some (.slice e)) (hi : P.info? e = some i) (hz : i.zero = some z)
    (kl kc : IntKind) (n c : Nat) (hnc : n ≤ c) (hbytes : i.bytes * c ≤ 281474976710656) (h63 : c ≤ 9223372036854775807) (w : World) :
    (Instr.makeSlice t (.int kl (n : Int)) (.int kc (c : Int))).run P w = .ok (.slice (some ⟨w.heap.size, 0, none⟩) n c) (w.alloc (.cells (madeCells z.cells (c * i.size)) e)) := by
  have hb : (i.bytes : Int) * (c : Int) ≤ 281474976710656 := by
    have h : ((i.bytes * c : Nat) : Int) ≤ 281474976710656 := by omega
    rwa [Int.natCast_mul] at h
  have hr := run_make (P := P) w t e i z ht hi hz kl kc n c (by omega) (by omega) hb (by omega)
  simp only [Int.toNat_natCast] at hr
  exact hr

end Go.Proofs.Ytlddileiecnkjaa

set_option linter.unusedSimpArgs false
set_option linter.unusedVariables false
namespace Go.Proofs.Ytlddileiecnkjaa
open Go.RowKit



/-- The order of two numbers, as a number. -/
def cmpI (a b : Int) : Int := if a < b then -1 else if b < a then 1 else 0
theorem cmpI_lt {a b : Int} (h : a < b) : cmpI a b = -1 := by simp [cmpI, h]
theorem cmpI_gt {a b : Int} (h : b < a) : cmpI a b = 1 := by
  unfold cmpI
  rw [if_neg (by omega), if_pos h]
theorem cmpI_eq {a b : Int} (h1 : ¬ a < b) (h2 : ¬ b < a) : cmpI a b = 0 := by
  unfold cmpI
  rw [if_neg h1, if_neg h2]
/-- Is an arc of these ends ahead of another one? -/
def aheadB (a b c d : Int) : Bool := decide (a < c ∨ a = c ∧ b < d)
/-- May an arc lead from u to v, of n nodes? -/
def pairB (n u v : Int) : Bool := decide ((0 ≤ u ∧ u < n) ∧ (0 ≤ v ∧ v < n) ∧ u ≠ v)
/-- May an arc be so, of n nodes? -/
def arcB (n u v x : Int) : Bool := decide (((0 ≤ u ∧ u < n) ∧ (0 ≤ v ∧ v < n) ∧ u ≠ v) ∧ 1 ≤ x ∧ x ≤ 1000)

/-- Is a number among those from lo to hi? -/
def inB (n lo hi : Int) : Bool := decide (lo ≤ n ∧ n ≤ hi)
/-- Is v a node of n, as the model reckons it? -/
def nodeB (n v : Int) : Bool := inB v 0 (wrap64 (n - 1))

set_option maxHeartbeats 400000 in
theorem l1In_any (n lo hi : Int) (w : World) :
    Calls Try.prog 83 #[.int .i64 n, .int .i64 lo, .int .i64 hi] w fun e w' => e = .returned (.bool (inB n lo hi)) ∧ w = w' := by
  by_cases h1 : lo ≤ n
  · by_cases h2 : n ≤ hi
    · go_enter Try.func83, Try.ntmps83
      go_wp2
      go_ret
      exact ⟨ret_bool (by simp [inB]; omega), rfl⟩
    · go_enter Try.func83, Try.ntmps83
      go_wp2
      go_ret
      exact ⟨ret_bool (by simp [inB]; omega), rfl⟩
  · go_enter Try.func83, Try.ntmps83
    go_wp2
    go_ret
    exact ⟨ret_bool (by simp [inB]; omega), rfl⟩

set_option maxHeartbeats 400000 in
theorem l1Node_any (n v : Int) (x : Value) (w : World) :
    Calls Try.prog 82 #[.agg #[.int .i64 n, x], .int .i64 v] w fun e w' => e = .returned (.bool (nodeB n v)) ∧ Bl w w' := by
  go_enter Try.func82, Try.ntmps82
  go_wp2_with (go_at_call 83; refine (l1In_any _ _ _ _).mono ?_; rintro e w' ⟨rfl, rfl⟩)
  go_ret
  exact ⟨ret_bool rfl, (by repeat' (first | exact Bl.refl _ | with_reducible assumption | with_reducible refine Bl.drew_ ?_ | with_reducible refine Bl.drewN_ ?_ _ | with_reducible refine Bl.alloc_ ?_ _ | with_reducible refine Bl.trans_ ?_ (by assumption) | with_reducible refine Bl.trans_ ?_ (And.left (by assumption))))⟩

set_option maxHeartbeats 400000 in
theorem isNode_any (n v : Int) (x : Value) (w : World) :
    Calls Try.prog 124 #[.agg #[.int .i64 n, x], .int .i64 v] w fun e w' => e = .returned (.bool (decide (0 ≤ v ∧ v < n))) ∧ Bl w w' := by
  by_cases h1 : 0 ≤ v
  · by_cases h2 : v < n
    · go_enter Try.func124, Try.ntmps124
      go_wp2
      go_ret
      exact ⟨ret_bool (by simp; omega), (by repeat' (first | exact Bl.refl _ | with_reducible assumption | with_reducible refine Bl.drew_ ?_ | with_reducible refine Bl.drewN_ ?_ _ | with_reducible refine Bl.alloc_ ?_ _ | with_reducible refine Bl.trans_ ?_ (by assumption) | with_reducible refine Bl.trans_ ?_ (And.left (by assumption))))⟩
    · go_enter Try.func124, Try.ntmps124
      go_wp2
      go_ret
      exact ⟨ret_bool (by simp; omega), (by repeat' (first | exact Bl.refl _ | with_reducible assumption | with_reducible refine Bl.drew_ ?_ | with_reducible refine Bl.drewN_ ?_ _ | with_reducible refine Bl.alloc_ ?_ _ | with_reducible refine Bl.trans_ ?_ (by assumption) | with_reducible refine Bl.trans_ ?_ (And.left (by assumption))))⟩
  · go_enter Try.func124, Try.ntmps124
    go_wp2
    go_ret
    exact ⟨ret_bool (by simp; omega), (by repeat' (first | exact Bl.refl _ | with_reducible assumption | with_reducible refine Bl.drew_ ?_ | with_reducible refine Bl.drewN_ ?_ _ | with_reducible refine Bl.alloc_ ?_ _ | with_reducible refine Bl.trans_ ?_ (by assumption) | with_reducible refine Bl.trans_ ?_ (And.left (by assumption))))⟩

set_option maxHeartbeats 400000 in
theorem isNaN_any (n : Int) (w : World) :
    Calls Try.prog 163 #[.int .i64 n] w fun e w' => e = .returned (.bool false) ∧ w = w' := by
  go_enter Try.func163, Try.ntmps163
  go_wp2
  go_ret
  exact ⟨ret_bool (by simp), rfl⟩

set_option maxHeartbeats 400000 in
theorem cmp_any (a b : Int) (w : World) :
    Calls Try.prog 157 #[.int .i64 a, .int .i64 b] w fun e w' => e = .returned (.int .i64 (cmpI a b)) ∧ w = w' := by
  by_cases h1 : a < b
  · go_enter Try.func157, Try.ntmps157
    go_wp2_with (go_at_call 163; refine (isNaN_any _ _).mono ?_; rintro e w' ⟨rfl, rfl⟩)
    go_ret
    exact ⟨ret_int (cmpI_lt h1).symm, rfl⟩
  · by_cases h2 : b < a
    · go_enter Try.func157, Try.ntmps157
      go_wp2_with (go_at_call 163; refine (isNaN_any _ _).mono ?_; rintro e w' ⟨rfl, rfl⟩)
      go_ret
      exact ⟨ret_int (cmpI_gt h2).symm, rfl⟩
    · go_enter Try.func157, Try.ntmps157
      go_wp2_with (go_at_call 163; refine (isNaN_any _ _).mono ?_; rintro e w' ⟨rfl, rfl⟩)
      go_ret
      exact ⟨ret_int (cmpI_eq (by omega) (by omega)).symm, rfl⟩

set_option maxHeartbeats 400000 in
theorem l1Ahead_any (a b x c d y : Int) (w : World) :
    Calls Try.prog 128 #[.agg #[.int .i64 a, .int .i64 b, .int .i64 x], .agg #[.int .i64 c, .int .i64 d, .int .i64 y]] w fun e w' => e = .returned (.bool (aheadB a b c d)) ∧ Bl w w' := by
  by_cases h1 : a < c
  · go_enter Try.func128, Try.ntmps128
    go_wp2
    go_ret
    exact ⟨ret_bool (by simp [aheadB]; omega), (by repeat' (first | exact Bl.refl _ | with_reducible assumption | with_reducible refine Bl.drew_ ?_ | with_reducible refine Bl.drewN_ ?_ _ | with_reducible refine Bl.alloc_ ?_ _ | with_reducible refine Bl.trans_ ?_ (by assumption) | with_reducible refine Bl.trans_ ?_ (And.left (by assumption))))⟩
  · by_cases h2 : a = c
    · subst h2
      by_cases h3 : b < d
      · go_enter Try.func128, Try.ntmps128
        go_wp2
        go_ret
        exact ⟨ret_bool (by simp [aheadB]; omega), (by repeat' (first | exact Bl.refl _ | with_reducible assumption | with_reducible refine Bl.drew_ ?_ | with_reducible refine Bl.drewN_ ?_ _ | with_reducible refine Bl.alloc_ ?_ _ | with_reducible refine Bl.trans_ ?_ (by assumption) | with_reducible refine Bl.trans_ ?_ (And.left (by assumption))))⟩
      · go_enter Try.func128, Try.ntmps128
        go_wp2
        go_ret
        exact ⟨ret_bool (by simp [aheadB]; omega), (by repeat' (first | exact Bl.refl _ | with_reducible assumption | with_reducible refine Bl.drew_ ?_ | with_reducible refine Bl.drewN_ ?_ _ | with_reducible refine Bl.alloc_ ?_ _ | with_reducible refine Bl.trans_ ?_ (by assumption) | with_reducible refine Bl.trans_ ?_ (And.left (by assumption))))⟩
    · go_enter Try.func128, Try.ntmps128
      go_wp2
      go_ret
      exact ⟨ret_bool (by simp [aheadB]; omega), (by repeat' (first | exact Bl.refl _ | with_reducible assumption | with_reducible refine Bl.drew_ ?_ | with_reducible refine Bl.drewN_ ?_ _ | with_reducible refine Bl.alloc_ ?_ _ | with_reducible refine Bl.trans_ ?_ (by assumption) | with_reducible refine Bl.trans_ ?_ (And.left (by assumption))))⟩

set_option maxHeartbeats 400000 in
theorem szArcS_any (A : Option Addr) (n c : Nat) (l : Int) (w : World) (hn : n ≤ 9223372036854775807) (hl0 : 0 ≤ l) (hl1 : l ≤ 1048576) :
    Calls Try.prog 88 #[.slice A n c, .int .i64 l] w fun e w' => e = .returned (.int .i64 (if l - n < 0 then -1 else l - n)) ∧ w = w' := by
  by_cases h1 : l - n < 0
  · go_enter Try.func88, Try.ntmps88
    go_wp2
    go_ret
    exact ⟨ret_int (by first | rfl | rw [if_pos h1]), rfl⟩
  · go_enter Try.func88, Try.ntmps88
    go_wp2
    go_ret
    exact ⟨ret_int (by first | rfl | rw [if_neg (by omega)]), rfl⟩

set_option maxHeartbeats 400000 in
theorem toArc_any (a b x : Int) (w : World) :
    Calls Try.prog 132 #[.agg #[.int .i64 a, .int .i64 b, .int .i64 x]] w fun e w' => e = .returned (.agg #[.int .i64 a, .int .i64 b, .int .i64 x]) ∧ Bl w w' := by
  go_enter Try.func132, Try.ntmps132
  go_wp2
  exact bodyPost_ret (v := .agg #[.int .i64 a, .int .i64 b, .int .i64 x]) (by simp [results, Try.results132, go_sem]) rfl ⟨rfl, (by repeat' (first | exact Bl.refl _ | with_reducible assumption | with_reducible refine Bl.drew_ ?_ | with_reducible refine Bl.drewN_ ?_ _ | with_reducible refine Bl.alloc_ ?_ _ | with_reducible refine Bl.trans_ ?_ (by assumption) | with_reducible refine Bl.trans_ ?_ (And.left (by assumption))))⟩

set_option maxHeartbeats 400000 in
theorem isPair_any (n u v : Int) (x : Value) (w : World) :
    Calls Try.prog 155 #[.agg #[.int .i64 n, x], .int .i64 u, .int .i64 v] w fun e w' => e = .returned (.bool (pairB n u v)) ∧ Bl w w' := by
  by_cases h1 : 0 ≤ u ∧ u < n
  · by_cases h2 : 0 ≤ v ∧ v < n
    · by_cases h3 : u = v
      · subst h3
        go_enter Try.func155, Try.ntmps155
        go_wp2_with (go_at_call 124; refine (isNode_any _ _ _ _).mono ?_; rintro e w' ⟨rfl, hb⟩; obtain ⟨hc, hf⟩ := bcell hb)
        go_ret
        exact ⟨ret_bool (by simp [pairB]), (by repeat' (first | exact Bl.refl _ | with_reducible assumption | with_reducible refine Bl.drew_ ?_ | with_reducible refine Bl.drewN_ ?_ _ | with_reducible refine Bl.alloc_ ?_ _ | with_reducible refine Bl.trans_ ?_ (by assumption) | with_reducible refine Bl.trans_ ?_ (And.left (by assumption))))⟩
      · have h3' : (u != v) = true := by simpa using h3
        go_enter Try.func155, Try.ntmps155
        go_wp2_with (go_at_call 124; refine (isNode_any _ _ _ _).mono ?_; rintro e w' ⟨rfl, hb⟩; obtain ⟨hc, hf⟩ := bcell hb)
        go_ret
        exact ⟨ret_bool (by simp [pairB]; omega), (by repeat' (first | exact Bl.refl _ | with_reducible assumption | with_reducible refine Bl.drew_ ?_ | with_reducible refine Bl.drewN_ ?_ _ | with_reducible refine Bl.alloc_ ?_ _ | with_reducible refine Bl.trans_ ?_ (by assumption) | with_reducible refine Bl.trans_ ?_ (And.left (by assumption))))⟩
    · go_enter Try.func155, Try.ntmps155
      go_wp2_with (go_at_call 124; refine (isNode_any _ _ _ _).mono ?_; rintro e w' ⟨rfl, hb⟩; obtain ⟨hc, hf⟩ := bcell hb)
      go_ret
      exact ⟨ret_bool (by simp [pairB]; omega), (by repeat' (first | exact Bl.refl _ | with_reducible assumption | with_reducible refine Bl.drew_ ?_ | with_reducible refine Bl.drewN_ ?_ _ | with_reducible refine Bl.alloc_ ?_ _ | with_reducible refine Bl.trans_ ?_ (by assumption) | with_reducible refine Bl.trans_ ?_ (And.left (by assumption))))⟩
  · go_enter Try.func155, Try.ntmps155
    go_wp2_with (go_at_call 124; refine (isNode_any _ _ _ _).mono ?_; rintro e w' ⟨rfl, hb⟩; obtain ⟨hc, hf⟩ := bcell hb)
    go_ret
    exact ⟨ret_bool (by simp [pairB]; omega), (by repeat' (first | exact Bl.refl _ | with_reducible assumption | with_reducible refine Bl.drew_ ?_ | with_reducible refine Bl.drewN_ ?_ _ | with_reducible refine Bl.alloc_ ?_ _ | with_reducible refine Bl.trans_ ?_ (by assumption) | with_reducible refine Bl.trans_ ?_ (And.left (by assumption))))⟩

theorem arcB_no {n u v x : Int} (h : pairB n u v = false) : arcB n u v x = false := by
  simp [pairB, arcB] at *
  omega
theorem arcB_yes {n u v x : Int} (h : pairB n u v = true) : arcB n u v x = decide (1 ≤ x ∧ x ≤ 1000) := by
  simp [pairB, arcB] at *
  omega

set_option maxHeartbeats 400000 in
theorem arcOk_any (n u v x : Int) (g : Value) (w : World) :
    Calls Try.prog 129 #[.agg #[.int .i64 n, g], .agg #[.int .i64 u, .int .i64 v, .int .i64 x]] w fun e w' => e = .returned (.bool (arcB n u v x)) ∧ Bl w w' := by
  by_cases h1 : pairB n u v = true
  · have ha := Lib.hid (arcB_yes (x := x) h1)
    by_cases h2 : 1 ≤ x
    · by_cases h3 : x ≤ 1000
      · go_enter Try.func129, Try.ntmps129
        go_wp2_with (go_at_call 155; refine (isPair_any _ _ _ _ _).mono ?_; rintro e w' ⟨rfl, hb⟩; obtain ⟨hc, hf⟩ := bcell hb)
        go_ret
        exact ⟨ret_bool (by rw [ha.out]; simp; omega), (by repeat' (first | exact Bl.refl _ | with_reducible assumption | with_reducible refine Bl.drew_ ?_ | with_reducible refine Bl.drewN_ ?_ _ | with_reducible refine Bl.alloc_ ?_ _ | with_reducible refine Bl.trans_ ?_ (by assumption) | with_reducible refine Bl.trans_ ?_ (And.left (by assumption))))⟩
      · go_enter Try.func129, Try.ntmps129
        go_wp2_with (go_at_call 155; refine (isPair_any _ _ _ _ _).mono ?_; rintro e w' ⟨rfl, hb⟩; obtain ⟨hc, hf⟩ := bcell hb)
        go_ret
        exact ⟨ret_bool (by rw [ha.out]; simp; omega), (by repeat' (first | exact Bl.refl _ | with_reducible assumption | with_reducible refine Bl.drew_ ?_ | with_reducible refine Bl.drewN_ ?_ _ | with_reducible refine Bl.alloc_ ?_ _ | with_reducible refine Bl.trans_ ?_ (by assumption) | with_reducible refine Bl.trans_ ?_ (And.left (by assumption))))⟩
    · go_enter Try.func129, Try.ntmps129
      go_wp2_with (go_at_call 155; refine (isPair_any _ _ _ _ _).mono ?_; rintro e w' ⟨rfl, hb⟩; obtain ⟨hc, hf⟩ := bcell hb)
      go_ret
      exact ⟨ret_bool (by rw [ha.out]; simp; omega), (by repeat' (first | exact Bl.refl _ | with_reducible assumption | with_reducible refine Bl.drew_ ?_ | with_reducible refine Bl.drewN_ ?_ _ | with_reducible refine Bl.alloc_ ?_ _ | with_reducible refine Bl.trans_ ?_ (by assumption) | with_reducible refine Bl.trans_ ?_ (And.left (by assumption))))⟩
  · have h1' : pairB n u v = false := by simpa using h1
    have ha := Lib.hid (arcB_no (x := x) h1')
    clear h1
    go_enter Try.func129, Try.ntmps129
    go_wp2_with (go_at_call 155; refine (isPair_any _ _ _ _ _).mono ?_; rintro e w' ⟨rfl, hb⟩; obtain ⟨hc, hf⟩ := bcell hb)
    go_ret
    exact ⟨ret_bool (by rw [ha.out]), (by repeat' (first | exact Bl.refl _ | with_reducible assumption | with_reducible refine Bl.drew_ ?_ | with_reducible refine Bl.drewN_ ?_ _ | with_reducible refine Bl.alloc_ ?_ _ | with_reducible refine Bl.trans_ ?_ (by assumption) | with_reducible refine Bl.trans_ ?_ (And.left (by assumption))))⟩

end Go.Proofs.Ytlddileiecnkjaa

set_option linter.unusedSimpArgs false
set_option linter.unusedVariables false
namespace Go.Proofs.Ytlddileiecnkjaa
open Go.RowKit

def orI (a b : Int) : Int := if a = 0 then b else a

set_option maxHeartbeats 400000 in
theorem or_any (a b : Int) (g c : Nat) (w : World) (h0 : w.cell? ⟨g, 0, none⟩ = some (.int .i64 a)) (h1 : w.cell? ⟨g, 1, none⟩ = some (.int .i64 b)) :
    Calls Try.prog 156 #[.slice (some ⟨g, 0, none⟩) 2 c] w fun e w' => e = .returned (.int .i64 (orI a b)) ∧ w = w' := by
  by_cases ha : a = 0
  · subst ha
    by_cases hb : b = 0
    · subst hb
      go_enter Try.func156, Try.ntmps156
      go_wp2
      refine wp_loop_rounds 3 ?_
      rw [rounds_succ]
      go_wp2
      rw [rounds_succ]
      go_wp2
      rw [rounds_succ]
      go_wp2
      go_ret
      exact ⟨ret_int rfl, rfl⟩
    · have hb' : (b != 0) = true := by simpa using hb
      go_enter Try.func156, Try.ntmps156
      go_wp2
      refine wp_loop_rounds 3 ?_
      rw [rounds_succ]
      go_wp2
      rw [rounds_succ]
      go_wp2
      go_ret
      exact ⟨ret_int rfl, rfl⟩
  · have ha' : (a != 0) = true := by simpa using ha
    go_enter Try.func156, Try.ntmps156
    go_wp2
    refine wp_loop_rounds 3 ?_
    rw [rounds_succ]
    go_wp2
    go_ret
    exact ⟨ret_int (by simp [orI, ha]), rfl⟩

/-- The order of two arcs by their ends. -/
def endsI (a b c d : Int) : Int := orI (cmpI a c) (cmpI b d)

theorem two_boxes {w wx : World} {a b x c d y : Value} {t : TypeId} (h : Bl ((w.alloc (.cells #[a, b, x] t)).alloc (.cells #[c, d, y] t)) wx) :
    Bl ((w.alloc (.cells #[a, b, x] t)).alloc (.cells #[c, d, y] t)) wx ∧ wx.cell? ⟨w.heap.size, 0, none⟩ = some a ∧ wx.cell? ⟨w.heap.size, 1, none⟩ = some b ∧
      wx.cell? ⟨w.heap.size + 1, 0, none⟩ = some c ∧ wx.cell? ⟨w.heap.size + 1, 1, none⟩ = some d := by
  obtain ⟨hc, _⟩ := bcell h
  exact ⟨h, by rw [hc _ _ (by simp; omega)]; simp [go_sem], by rw [hc _ _ (by simp; omega)]; simp [go_sem], by rw [hc _ _ (by simp)]; simp [go_sem], by rw [hc _ _ (by simp)]; simp [go_sem]⟩

set_option maxHeartbeats 400000 in
theorem ends_any (a b x c d y : Int) (w : World) :
    Calls Try.prog 130 #[.agg #[.int .i64 a, .int .i64 b, .int .i64 x], .agg #[.int .i64 c, .int .i64 d, .int .i64 y]] w fun e w' => e = .returned (.int .i64 (endsI a b c d)) ∧ Bl w w' := by
  go_enter Try.func130, Try.ntmps130
  go_wp2
  go_region_held3 (fun wx => Bl ((w.alloc (.cells #[.int .i64 a, .int .i64 b, .int .i64 x] 146)).alloc (.cells #[.int .i64 c, .int .i64 d, .int .i64 y] 146)) wx ∧ wx.cell? ⟨w.heap.size, 0, none⟩ = some (.int .i64 a) ∧ wx.cell? ⟨w.heap.size, 1, none⟩ = some (.int .i64 b) ∧ wx.cell? ⟨w.heap.size + 1, 0, none⟩ = some (.int .i64 c) ∧ wx.cell? ⟨w.heap.size + 1, 1, none⟩ = some (.int .i64 d)) (exact two_boxes (by repeat' (first | exact Bl.refl _ | with_reducible assumption | with_reducible refine Bl.drew_ ?_ | with_reducible refine Bl.drewN_ ?_ _ | with_reducible refine Bl.alloc_ ?_ _ | with_reducible refine Bl.trans_ ?_ (by assumption) | with_reducible refine Bl.trans_ ?_ (And.left (by assumption))))) (first | (go_at_call 157; refine (cmp_any _ _ _).mono ?_; rintro e w' ⟨rfl, rfl⟩) | (go_at_call 156; refine (or_any (cmpI a c) (cmpI b d) _ _ _ ?_ ?_).mono ?_; (· go_simp); (· go_simp); rintro e w' ⟨rfl, rfl⟩))
  go_wp2
  go_ret
  exact ⟨ret_int rfl, (by repeat' (first | exact Bl.refl _ | with_reducible assumption | with_reducible refine Bl.drew_ ?_ | with_reducible refine Bl.drewN_ ?_ _ | with_reducible refine Bl.alloc_ ?_ _ | with_reducible refine Bl.trans_ ?_ (by assumption) | with_reducible refine Bl.trans_ ?_ (And.left (by assumption))))⟩

set_option maxHeartbeats 400000 in
theorem eqArc_yes (a b x : Int) (w : World) :
    Calls Try.prog 135 #[.agg #[.int .i64 a, .int .i64 b, .int .i64 x], .agg #[.int .i64 a, .int .i64 b, .int .i64 x]] w fun e w' => e = .returned (.bool true) ∧ Bl w w' := by
  have h1 : (a != a) = false := by simp
  have h2 : (b != b) = false := by simp
  have h3 : (x != x) = false := by simp
  go_enter Try.func135, Try.ntmps135
  go_wp2
  go_ret
  exact ⟨rfl, (by repeat' (first | exact Bl.refl _ | with_reducible assumption | with_reducible refine Bl.drew_ ?_ | with_reducible refine Bl.drewN_ ?_ _ | with_reducible refine Bl.alloc_ ?_ _ | with_reducible refine Bl.trans_ ?_ (by assumption) | with_reducible refine Bl.trans_ ?_ (And.left (by assumption))))⟩

end Go.Proofs.Ytlddileiecnkjaa

set_option linter.unusedSimpArgs false
set_option linter.unusedVariables false
namespace Go.Proofs.Ytlddileiecnkjaa
open Go.RowKit

/-- An arc as three numbers: from, to, weight. -/
abbrev Arc3 := Int × Int × Int

/-- The slice at A reads as the list L of arcs, and lies below block B. -/
def ArcsAt (w : World) (B : Nat) (A : Option Addr) (L : List Arc3) : Prop :=
  0 < L.length → ∃ g off, A = some ⟨g, off, none⟩ ∧ g < B ∧ ∀ k (h : k < L.length), w.cell? ⟨g, off + k * 3, none⟩ = some (.int .i64 L[k].1) ∧
    w.cell? ⟨g, off + k * 3 + 1, none⟩ = some (.int .i64 L[k].2.1) ∧ w.cell? ⟨g, off + k * 3 + 2, none⟩ = some (.int .i64 L[k].2.2)

theorem ArcsAt.keep {w w' : World} {B : Nat} {A : Option Addr} {L : List Arc3} (h : ArcsAt w B A L) (hk : ∀ b o, b < B → w'.cell? ⟨b, o, none⟩ = w.cell? ⟨b, o, none⟩) : ArcsAt w' B A L := fun h0 => by
  obtain ⟨g, off, e, hg, hc⟩ := h h0
  exact ⟨g, off, e, hg, fun k hk' => by rw [hk _ _ hg, hk _ _ hg, hk _ _ hg]; exact hc k hk'⟩
theorem ArcsAt.more {w : World} {B B' : Nat} {A : Option Addr} {L : List Arc3} (h : ArcsAt w B A L) (hB : B ≤ B') : ArcsAt w B' A L := fun h0 => by
  obtain ⟨g, off, e, hg, hc⟩ := h h0
  exact ⟨g, off, e, Nat.lt_of_lt_of_le hg hB, hc⟩
theorem ArcsAt.bl {w w' : World} {A : Option Addr} {L : List Arc3} (h : ArcsAt w w.heap.size A L) (hb : Bl w w') : ArcsAt w' w'.heap.size A L :=
  (h.keep (bcell hb).1).more hb.size
theorem ArcsAt.bl' {w w' : World} {B : Nat} {A : Option Addr} {L : List Arc3} (h : ArcsAt w B A L) (hB : B ≤ w.heap.size) (hb : Bl w w') : ArcsAt w' B A L :=
  h.keep fun b o hl => (bcell hb).1 b o (by omega)

set_option maxHeartbeats 400000 in
theorem eqArcS_yes (A1 A2 : Option Addr) (c1 c2 : Nat) (L : List Arc3) (n : Nat) (hn : n = L.length) (w : World) (hm : n ≤ 9223372036854775807) (H1 : ArcsAt w w.heap.size A1 L) (H2 : ArcsAt w w.heap.size A2 L) :
    Calls Try.prog 95 #[.slice A1 n c1, .slice A2 n c2] w fun e w' => e = .returned (.bool true) ∧ Bl w w' := by
  have HN := Lib.hid hn
  clear hn
  have K1 := Lib.hid H1
  have K2 := Lib.hid H2
  clear H1 H2
  have hnn : ((n : Int) != (n : Int)) = false := by simp
  go_enter Try.func95, Try.ntmps95
  go_wp2
  go_loopw [5] (fun i wr => ∃ k : Nat, k ≤ n ∧ i = .int .i64 k ∧ Bl w wr) (fun i _ => n - (intOf i).toNat)
  case atStart => exact ⟨0, by omega, rfl, Bl.refl _⟩
  case round =>
    obtain ⟨k, hk, rfl, hbl⟩ := hrel
    by_cases hlt : k < n
    · have hkl : k < L.length := by have := HN.out; omega
      obtain ⟨g1, o1, rfl, hg1, hc1⟩ := K1.out (by omega)
      obtain ⟨g2, o2, rfl, hg2, hc2⟩ := K2.out (by omega)
      obtain ⟨p1, p2, p3⟩ := hc1 k hkl
      obtain ⟨q1, q2, q3⟩ := hc2 k hkl
      generalize L[k].1 = x at p1 q1
      generalize L[k].2.1 = y at p2 q2
      generalize L[k].2.2 = z at p3 q3
      clear hc1 hc2 hkl
      have HS : ∀ wx, Bl w wx → Bl w wx ∧ wx.cell? ⟨g1, o1 + k * 3, none⟩ = some (.int .i64 x) ∧ wx.cell? ⟨g1, o1 + k * 3 + 1, none⟩ = some (.int .i64 y) ∧ wx.cell? ⟨g1, o1 + k * 3 + 2, none⟩ = some (.int .i64 z) ∧
          wx.cell? ⟨g2, o2 + k * 3, none⟩ = some (.int .i64 x) ∧ wx.cell? ⟨g2, o2 + k * 3 + 1, none⟩ = some (.int .i64 y) ∧ wx.cell? ⟨g2, o2 + k * 3 + 2, none⟩ = some (.int .i64 z) := fun wx hb => by
        obtain ⟨hc, _⟩ := bcell hb
        exact ⟨hb, (hc _ _ hg1).trans p1, (hc _ _ hg1).trans p2, (hc _ _ hg1).trans p3, (hc _ _ hg2).trans q1, (hc _ _ hg2).trans q2, (hc _ _ hg2).trans q3⟩
      have HSH := Lib.hid HS
      clear HS p1 p2 p3 q1 q2 q3 hg1 hg2
      go_wp2
      go_region_held3 (fun wx => Bl w wx ∧ wx.cell? ⟨g1, o1 + k * 3, none⟩ = some (.int .i64 x) ∧ wx.cell? ⟨g1, o1 + k * 3 + 1, none⟩ = some (.int .i64 y) ∧ wx.cell? ⟨g1, o1 + k * 3 + 2, none⟩ = some (.int .i64 z) ∧
          wx.cell? ⟨g2, o2 + k * 3, none⟩ = some (.int .i64 x) ∧ wx.cell? ⟨g2, o2 + k * 3 + 1, none⟩ = some (.int .i64 y) ∧ wx.cell? ⟨g2, o2 + k * 3 + 2, none⟩ = some (.int .i64 z)) (exact HSH.out _ (by repeat' (first | exact Bl.refl _ | with_reducible assumption | with_reducible refine Bl.drew_ ?_ | with_reducible refine Bl.drewN_ ?_ _ | with_reducible refine Bl.alloc_ ?_ _ | with_reducible refine Bl.trans_ ?_ (by assumption) | with_reducible refine Bl.trans_ ?_ (And.left (by assumption))))) (first | (go_at_call 135; refine (eqArc_yes _ _ _ _).mono ?_; rintro e w' ⟨rfl, hb⟩; obtain ⟨hc, hf⟩ := bcell hb))
      go_wp2
      go_roundw
      case rel => exact ⟨k + 1, by omega, by go_num, (by repeat' (first | exact Bl.refl _ | with_reducible assumption | with_reducible refine Bl.drew_ ?_ | with_reducible refine Bl.drewN_ ?_ _ | with_reducible refine Bl.alloc_ ?_ _ | with_reducible refine Bl.trans_ ?_ (by assumption) | with_reducible refine Bl.trans_ ?_ (And.left (by assumption))))⟩
      case measure => simp [intOf]; omega
    · go_wp2
      go_ret
      exact ⟨rfl, hbl⟩

set_option maxHeartbeats 400000 in
theorem eqGraph_yes (N : Int) (A1 A2 : Option Addr) (c1 c2 : Nat) (L : List Arc3) (n : Nat) (hn : n = L.length) (w : World) (hm : n ≤ 9223372036854775807) (H1 : ArcsAt w w.heap.size A1 L) (H2 : ArcsAt w w.heap.size A2 L) :
    Calls Try.prog 31 #[.agg #[.int .i64 N, .slice A1 n c1], .agg #[.int .i64 N, .slice A2 n c2]] w fun e w' => e = .returned (.bool true) ∧ Bl w w' := by
  have hnn : (N != N) = false := by simp
  have K1 := Lib.hid H1
  have K2 := Lib.hid H2
  have HN := Lib.hid hn
  clear H1 H2 hn
  go_enter Try.func31, Try.ntmps31
  go_wp2_with (go_at_call 95; refine (eqArcS_yes _ _ _ _ L n HN.out _ hm (K1.out.bl (by repeat' (first | exact Bl.refl _ | with_reducible assumption | with_reducible refine Bl.drew_ ?_ | with_reducible refine Bl.drewN_ ?_ _ | with_reducible refine Bl.alloc_ ?_ _ | with_reducible refine Bl.trans_ ?_ (by assumption) | with_reducible refine Bl.trans_ ?_ (And.left (by assumption))))) (K2.out.bl (by repeat' (first | exact Bl.refl _ | with_reducible assumption | with_reducible refine Bl.drew_ ?_ | with_reducible refine Bl.drewN_ ?_ _ | with_reducible refine Bl.alloc_ ?_ _ | with_reducible refine Bl.trans_ ?_ (by assumption) | with_reducible refine Bl.trans_ ?_ (And.left (by assumption)))))).mono ?_; rintro e w' ⟨rfl, hb⟩; obtain ⟨hc, hf⟩ := bcell hb)
  go_ret
  exact ⟨rfl, (by repeat' (first | exact Bl.refl _ | with_reducible assumption | with_reducible refine Bl.drew_ ?_ | with_reducible refine Bl.drewN_ ?_ _ | with_reducible refine Bl.alloc_ ?_ _ | with_reducible refine Bl.trans_ ?_ (by assumption) | with_reducible refine Bl.trans_ ?_ (And.left (by assumption))))⟩

set_option maxHeartbeats 400000 in
theorem szGraph_any (N : Int) (A : Option Addr) (n c : Nat) (l : Int) (w : World) (hn : n ≤ 9223372036854775807) (hl0 : 0 ≤ l) (hl1 : l ≤ 1048576) :
    Calls Try.prog 25 #[.agg #[.int .i64 N, .slice A n c], .int .i64 l] w fun e w' => e = .returned (.int .i64 (if l - n < 0 then -1 else l - n)) ∧ Bl w w' := by
  by_cases h1 : l - n < 0
  · go_enter Try.func25, Try.ntmps25
    go_wp2_with (go_at_call 88; refine (szArcS_any _ _ _ _ _ hn hl0 hl1).mono ?_; rintro e w' ⟨rfl, rfl⟩)
    go_ret
    exact ⟨ret_int (by first | rfl | rw [if_pos h1]), (by repeat' (first | exact Bl.refl _ | with_reducible assumption | with_reducible refine Bl.drew_ ?_ | with_reducible refine Bl.drewN_ ?_ _ | with_reducible refine Bl.alloc_ ?_ _ | with_reducible refine Bl.trans_ ?_ (by assumption) | with_reducible refine Bl.trans_ ?_ (And.left (by assumption))))⟩
  · go_enter Try.func25, Try.ntmps25
    go_wp2_with (go_at_call 88; refine (szArcS_any _ _ _ _ _ hn hl0 hl1).mono ?_; rintro e w' ⟨rfl, rfl⟩)
    go_ret
    exact ⟨ret_int (by first | rfl | rw [if_neg (by omega)]), (by repeat' (first | exact Bl.refl _ | with_reducible assumption | with_reducible refine Bl.drew_ ?_ | with_reducible refine Bl.drewN_ ?_ _ | with_reducible refine Bl.alloc_ ?_ _ | with_reducible refine Bl.trans_ ?_ (by assumption) | with_reducible refine Bl.trans_ ?_ (And.left (by assumption))))⟩

end Go.Proofs.Ytlddileiecnkjaa
