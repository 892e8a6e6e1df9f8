/-
  What is proved here: words on memory that read as a list of cells, for rows of whatever elements; append of whatever slice to a row of one's own; frames of several blocks; plain facts on files in order and on ops on them. No conditions beyond those that each theorem states.
-/
import Derived.Test.YtgfmgmcpfefmkaaProg
import Derived.WalkKit
import Derived.WalkSpells
import Derived.WalkLawsBesides
import Derived.Handy
import Derived.Lib.Hide
import Derived.Laws.MakeOwn
import Derived.Deep.OwnRows
import Derived.Laws.OwnMore
import Derived.Deep.RegionHeld3
import Derived.Deep.QuietTactic
import Derived.BigQuiet
import Derived.StillTailTactics
import Derived.Deep.RegionWith
import Derived.Deep.AppendLies
import Derived.Deep.RegionLaw
import Derived.Deep.Draws
import Derived.Maps.AppendAt
import Derived.OwnWalk
import Derived.Lib.AppendZeros
import Derived.Lib.SlicesS
set_option linter.unusedSimpArgs false
set_option linter.unusedVariables false
namespace Go.Proofs.Ytgfmgmcpfefmkaa
open Go.RowKit

/-- Nothing that was there has turned; there may be new blocks. -/
def Bl (w w' : World) : Prop := Below w.heap.size w w'
theorem Bl.refl (w : World) : Bl w w := Below.refl _ _
theorem Bl.trans_ {a b c : World} (h : Bl a b) (k : Bl b c) : Bl a c := Below.trans h (Below.mono k (Below.size h))
theorem Bl.alloc_ {a b : World} (h : Bl a b) (o : Obj) : Bl a (b.alloc o) := Below.alloc h (Below.size h) o
theorem Bl.drew_ {a b : World} (h : Bl a b) : Bl a b.drew := Below.drew h
theorem Bl.drewN_ {a b : World} (h : Bl a b) (n : Nat) : Bl a (b.drewN n) := by
  have h' : Below a.heap.size a b := h
  exact ⟨h'.os, h'.tape, h'.output, h'.size, h'.block⟩
theorem Bl.size {a b : World} (h : Bl a b) : a.heap.size ≤ b.heap.size := Below.size h
theorem Bl.set_ {a b : World} (h : Bl a b) {p : Addr} (hp : a.heap.size ≤ p.block) (v : Value) : Bl a (b.setCell p v) := Below.setCell h hp v
theorem Bl.grown_ {a b c : World} {row : Option Nat} (h : Bl a b) (hg : b.grownBy c row) (hr : ∀ g, row = some g → a.heap.size ≤ g) : Bl a c :=
  Below.grown h hg (Below.size h) hr
theorem bcell {W w1 : World} (hb : Bl W w1) : (∀ b o, b < W.heap.size → w1.cell? ⟨b, o, none⟩ = W.cell? ⟨b, o, none⟩) ∧ (∀ b o, b < W.heap.size → w1.frozen? ⟨b, o, none⟩ = W.frozen? ⟨b, o, none⟩) :=
  ⟨fun b o h => Below.cell hb (p := ⟨b, o, none⟩) h, fun b o h => Below.frozen hb (p := ⟨b, o, none⟩) h⟩
theorem Bl.block {W w1 : World} (hb : Bl W w1) {g : Nat} (h : g < W.heap.size) : w1.heap[g]? = W.heap[g]? := Below.block (show Below W.heap.size W w1 from hb) g h
theorem grown_of_bl {a b c : World} {row : Option Nat} (h : Bl a b) (k : b.grownBy c row) : a.grownBy c row :=
  ⟨k.os.trans (Below.os (show Below a.heap.size a b from h)), k.tape.trans (Below.tape (show Below a.heap.size a b from h)), k.output.trans (Below.output (show Below a.heap.size a b from h)), Nat.le_trans h.size k.size,
    fun i hi hne => (k.block i (Nat.lt_of_lt_of_le hi h.size) hne).trans (Below.block (show Below a.heap.size a b from h) i hi)⟩
theorem bl_grown {a b : World} (h : Bl a b) (row : Option Nat) : a.grownBy b row := grown_of_bl h (World.grownBy.refl b row)
theorem grown_trans {a b c : World} {row : Option Nat} (h : a.grownBy b row) (k : b.grownBy c row) : a.grownBy c row :=
  ⟨k.os.trans h.os, k.tape.trans h.tape, k.output.trans h.output, Nat.le_trans h.size k.size, fun i hi hne => (k.block i (Nat.lt_of_lt_of_le hi h.size) hne).trans (h.block i hi hne)⟩
theorem grown_bl {a b c : World} {row : Option Nat} (h : a.grownBy b row) (k : Bl b c) : a.grownBy c row := grown_trans h (bl_grown k row)
theorem grown_set {a w : World} {g : Nat} (h : a.grownBy w (some g)) {p : Addr} (hp : p.block = g ∨ a.heap.size ≤ p.block) (u : Value) : a.grownBy (w.setCell p u) (some g) :=
  ⟨h.os, h.tape, h.output, by simpa [World.setCell] using h.size, fun i hi hne => (Below.heap_setCell w p u i (by
    rintro rfl
    rcases hp with hp | hp
    · exact hne (by rw [hp])
    · omega)).trans (h.block i hi hne)⟩

theorem ret_bool {a b : Bool} (h : a = b) : Ending.returned (.bool a) = .returned (.bool b) := by rw [h]
theorem ret_int {k : IntKind} {a b : Int} (h : a = b) : Ending.returned (.int k a) = .returned (.int k b) := by rw [h]

theorem box1 {w wx : World} {a : Value} {t : TypeId} (h : Bl (w.alloc (.cells #[a] t)) wx) : wx.cell? ⟨w.heap.size, 0, none⟩ = some a := by
  have hc := (bcell h).1
  rw [hc _ _ (by simp)]; simp [go_sem]
theorem box2 {w wx : World} {a b : Value} {t : TypeId} (h : Bl (w.alloc (.cells #[a, b] t)) wx) : wx.cell? ⟨w.heap.size, 0, none⟩ = some a ∧ wx.cell? ⟨w.heap.size, 1, none⟩ = some b := by
  have hc := (bcell h).1
  exact ⟨by rw [hc _ _ (by simp)]; simp [go_sem], by rw [hc _ _ (by simp)]; simp [go_sem]⟩
theorem box3 {w wx : World} {a b c : Value} {t : TypeId} (h : Bl (w.alloc (.cells #[a, b, c] t)) wx) : wx.cell? ⟨w.heap.size, 0, none⟩ = some a ∧ wx.cell? ⟨w.heap.size, 1, none⟩ = some b ∧ wx.cell? ⟨w.heap.size, 2, none⟩ = some c := by
  have hc := (bcell h).1
  exact ⟨by rw [hc _ _ (by simp)]; simp [go_sem], by rw [hc _ _ (by simp)]; simp [go_sem], by rw [hc _ _ (by simp)]; simp [go_sem]⟩

/-- The block to which a slice leads. -/
def blockOf (A : Option Addr) : Option Nat := A.map (·.block)
theorem ownBlock_slice (A : Option Addr) (n c : Nat) : (Value.slice A n c).ownBlock = blockOf A := by cases A <;> rfl

/-- From A on the cells vs lie one behind the other, below block B. -/
def CellsAt (w : World) (B : Nat) (A : Option Addr) (vs : List Value) : Prop :=
  0 < vs.length → ∃ g off, A = some ⟨g, off, none⟩ ∧ g < B ∧ ∀ j (h : j < vs.length), w.cell? ⟨g, off + j, none⟩ = some vs[j]
theorem CellsAt.keep {w w' : World} {B : Nat} {A : Option Addr} {L : List Value} (h : CellsAt w B A L) (hk : ∀ b o, b < B → w'.cell? ⟨b, o, none⟩ = w.cell? ⟨b, o, none⟩) : CellsAt w' B A L := fun h0 => by
  obtain ⟨g, off, e, hg, hc⟩ := h h0
  exact ⟨g, off, e, hg, fun k hk' => by rw [hk _ _ hg]; exact hc k hk'⟩
theorem CellsAt.more {w : World} {B B' : Nat} {A : Option Addr} {L : List Value} (h : CellsAt w B A L) (hB : B ≤ B') : CellsAt w B' A L := fun h0 => by
  obtain ⟨g, off, e, hg, hc⟩ := h h0
  exact ⟨g, off, e, Nat.lt_of_lt_of_le hg hB, hc⟩
theorem CellsAt.bl {w w' : World} {A : Option Addr} {L : List Value} (h : CellsAt w w.heap.size A L) (hb : Bl w w') : CellsAt w' w'.heap.size A L :=
  (h.keep (bcell hb).1).more hb.size
theorem CellsAt.grown_ {w w' : World} {B : Nat} {A : Option Addr} {L : List Value} {row : Option Nat} (h : CellsAt w B A L) (hB : B ≤ w.heap.size) (hg : w.grownBy w' row)
    (hne : ∀ g, blockOf A = some g → g < B → some g ≠ row) : CellsAt w' B A L := fun hp => by
  obtain ⟨g, off, rfl, hlt, hc⟩ := h hp
  have hb := hg.block g (by omega) (hne g rfl hlt)
  exact ⟨g, off, rfl, hlt, fun k hk => by
    have q : ∀ o, w'.cell? ⟨g, o, none⟩ = w.cell? ⟨g, o, none⟩ := fun o => World.cell?_of_block hb
    rw [q]
    exact hc k hk⟩
theorem CellsAt.set {w : World} {B g off : Nat} {L : List Value} (h : CellsAt w B (some ⟨g, off, none⟩) L) {p : Addr} (hp : p.block ≠ g) (v : Value) : CellsAt (w.setCell p v) B (some ⟨g, off, none⟩) L := fun h0 => by
  obtain ⟨g', off', e, hg, hc⟩ := h h0
  injection e with e
  injection e with e1 e2 e3
  subst e1; subst e2
  exact ⟨g, off, rfl, hg, fun k hk => by rw [World.cell?_setCell_other _ _ _ _ (fun e => hp (by rw [e]))]; exact hc k hk⟩
theorem CellsAt.nil_ (w : World) (B : Nat) (A : Option Addr) : CellsAt w B A [] := fun h => absurd h (by simp)


theorem row_bl {w w' : World} {g : Nat} {t : TypeId} {n : Nat} {f : Nat → Value} (h : w.rowIs g t n f) (hb : Bl w w') : w'.rowIs g t n f :=
  h.of_block (Below.block hb g h.lt)

/-- The n elements of s cells from A on may be written. -/
def RowsW (t : TypeId) (s : Nat) (w : World) (A : Option Addr) (n : Nat) : Prop := 0 < n → ∃ g off m f, A = some ⟨g, off, none⟩ ∧ off + n * s ≤ m ∧ w.rowIs g t m f
theorem RowsW.bl {t : TypeId} {s : Nat} {w w' : World} {A : Option Addr} {n : Nat} (h : RowsW t s w A n) (hb : Bl w w') : RowsW t s w' A n := fun h0 => by
  obtain ⟨g, off, m, f, e, hm, hr⟩ := h h0
  exact ⟨g, off, m, f, e, hm, row_bl hr hb⟩
theorem RowsW.grown_ {t : TypeId} {s : Nat} {w w' : World} {A : Option Addr} {n : Nat} {row : Option Nat} (h : RowsW t s w A n) (hg : w.grownBy w' row) (hne : ∀ g, blockOf A = some g → some g ≠ row) : RowsW t s w' A n := fun hp => by
  obtain ⟨g, off, m, f, rfl, hm, hr⟩ := h hp
  exact ⟨g, off, m, f, rfl, hm, hr.of_block (hg.block g hr.lt (hne g rfl))⟩

/-- N cells from A on hold the numbers from k on. -/
def Marks (w : World) (A : Option Addr) (N : Nat) (k : Int) : Prop := 0 < N → ∃ g off, A = some ⟨g, off, none⟩ ∧ g < w.heap.size ∧ ∀ j, j < N → w.cell? ⟨g, off + j, none⟩ = some (.int .i64 (k + j))
theorem Marks.bl {w w' : World} {A : Option Addr} {n : Nat} {k : Int} (h : Marks w A n k) (hb : Bl w w') : Marks w' A n k := fun h0 => by
  obtain ⟨g, off, e, hg, hc⟩ := h h0
  have hh := (bcell hb).1
  exact ⟨g, off, e, Nat.lt_of_lt_of_le hg hb.size, fun j hj => by rw [hh _ _ hg]; exact hc j hj⟩
theorem Marks.grown_ {w w' : World} {A : Option Addr} {n : Nat} {k : Int} {row : Option Nat} (h : Marks w A n k) (hg : w.grownBy w' row) (hne : ∀ g, blockOf A = some g → some g ≠ row) : Marks w' A n k := fun h0 => by
  obtain ⟨g, off, rfl, hlt, hc⟩ := h h0
  have hb := hg.block g hlt (hne g rfl)
  have q : ∀ o, w'.cell? ⟨g, o, none⟩ = w.cell? ⟨g, o, none⟩ := fun o => World.cell?_of_block hb
  exact ⟨g, off, rfl, Nat.lt_of_lt_of_le hlt hg.size, fun j hj => by rw [q]; exact hc j hj⟩

/-- The value v owns n elements of s cells, in blocks from B on. -/
def Owns (t : TypeId) (s : Nat) (w : World) (B : Nat) (v : Value) (n : Nat) (vs : List Value) : Prop := w.ownsRow B t s v n vs
theorem Owns.nil_ (t : TypeId) (s : Nat) (w : World) (B : Nat) : Owns t s w B (.slice none 0 0) 0 [] := World.ownsRow_nil _ _ _ _
theorem Owns.lt {t : TypeId} {s : Nat} {w : World} {B : Nat} {v : Value} {n : Nat} {vs : List Value} (h : Owns t s w B v n vs) : ∀ g, v.ownBlock = some g → B ≤ g ∧ g < w.heap.size := World.ownsRow.lt h
theorem Owns.lt_ {t : TypeId} {s : Nat} {w : World} {B : Nat} {A : Option Addr} {n m c : Nat} {vs : List Value} (h : Owns t s w B (.slice A m c) n vs) : ∀ g, blockOf A = some g → B ≤ g ∧ g < w.heap.size := fun g hg =>
  h.lt g (by rw [ownBlock_slice]; exact hg)
theorem Owns.low {t : TypeId} {s : Nat} {w : World} {B B' : Nat} {v : Value} {n : Nat} {vs : List Value} (h : Owns t s w B' v n vs) (hB : B ≤ B') : Owns t s w B v n vs :=
  ⟨h.1, h.2.imp id (fun ⟨g, cap, cur, a, b, c⟩ => ⟨g, cap, cur, a, Nat.le_trans hB b, c⟩)⟩
theorem Owns.len {t : TypeId} {s : Nat} {w : World} {B : Nat} {v : Value} {n : Nat} {vs : List Value} (h : Owns t s w B v n vs) : vs.length = n * s := h.1
theorem Owns.grown_ {t : TypeId} {s : Nat} {w w' : World} {B : Nat} {v : Value} {n : Nat} {vs : List Value} {row : Option Nat} (h : Owns t s w B v n vs) (hg : w.grownBy w' row) (hne : ∀ g, v.ownBlock = some g → some g ≠ row) : Owns t s w' B v n vs :=
  World.ownsRow.kept h hg (by
    cases hv : v.ownBlock with
    | none => exact .inl rfl
    | some g => exact .inr (hne g hv))
theorem Owns.bl {t : TypeId} {s : Nat} {w w' : World} {B : Nat} {v : Value} {n : Nat} {vs : List Value} (h : Owns t s w B v n vs) (hb : Bl w w') : Owns t s w' B v n vs :=
  Owns.grown_ h (bl_grown hb none) (fun _ _ => by simp)
theorem Owns.shape {t : TypeId} {s : Nat} {w : World} {B : Nat} {v : Value} {n : Nat} {vs : List Value} (h : Owns t s w B v n vs) :
    ∃ A c, v = .slice A n c ∧ c ≤ maxLen ∧ CellsAt w w.heap.size A vs ∧ RowsW t s w A n ∧ (0 < n → ∃ g, A = some ⟨g, 0, none⟩ ∧ B ≤ g ∧ g < w.heap.size ∧ (∀ o, w.frozen? ⟨g, o, none⟩ = false) ∧ ∀ j (hj : j < vs.length), w.cell? ⟨g, j, none⟩ = some vs[j]) := by
  have h' : w.ownsRow B t s v n vs := h
  have hl := h'.1
  rcases h'.2 with ⟨rfl, h0⟩ | ⟨g, cap, cur, rfl, hB, hg, hnc, hcm, hcs, htake⟩
  · subst h0
    exact ⟨none, 0, rfl, by unfold maxLen; omega, fun hp => absurd hp (by omega), fun hp => absurd hp (by omega), fun hp => absurd hp (by omega)⟩
  · have hlt : g < w.heap.size := (Array.getElem?_eq_some_iff.1 hg).1
    have hcell : ∀ j (hj : j < vs.length), w.cell? ⟨g, j, none⟩ = some vs[j] := fun j hj => by
      rw [World.ownsRow.cellAt h' j (by omega)]
      exact List.getElem?_eq_getElem hj
    refine ⟨some ⟨g, 0, none⟩, cap, rfl, hcm, fun _ => ⟨g, 0, rfl, hlt, fun k hk => by rw [Nat.zero_add]; exact hcell k hk⟩, fun _ => ⟨g, 0, cur.size, fun i => cur.getD i undef, rfl, ?_, cur, hg, rfl, fun i hi => by simp [Array.getD, hi]⟩,
      fun _ => ⟨g, rfl, hB, hlt, fun o => World.ownsRow.frozenAt h' o, hcell⟩⟩
    rw [hcs, Nat.zero_add]
    exact Nat.mul_le_mul_right _ hnc
theorem Owns.stored {t : TypeId} {s : Nat} {w : World} {B g n cap : Nat} {vs : List Value} (h : Owns t s w B (.slice (some ⟨g, 0, none⟩) n cap) n vs) (j : Nat) (u : Value) :
    Owns t s (w.setCell ⟨g, j, none⟩ u) B (.slice (some ⟨g, 0, none⟩) n cap) n (vs.set j u) ∧ w.grownBy (w.setCell ⟨g, j, none⟩ u) (some g) := World.ownsRow.stored h j u
theorem Owns.setOther {t : TypeId} {s : Nat} {w : World} {B : Nat} {v : Value} {n : Nat} {vs : List Value} (h : Owns t s w B v n vs) {p : Addr} (hp : ∀ g, v.ownBlock = some g → g ≠ p.block) (u : Value) : Owns t s (w.setCell p u) B v n vs := by
  have h' : w.ownsRow B t s v n vs := h
  refine ⟨h'.1, ?_⟩
  rcases h'.2 with ⟨e, h0⟩ | ⟨g, cap, cur, e, hB, hg, hnc, hcm, hcs, htake⟩
  · exact .inl ⟨e, h0⟩
  · refine .inr ⟨g, cap, cur, e, hB, ?_, hnc, hcm, hcs, htake⟩
    rw [Below.heap_setCell w p u g (hp g (by rw [e]; rfl))]
    exact hg

theorem run_make_rowN {P : Program} (t e : TypeId) (i : TypeInfo) (z : Value) (ht : P.underlying t = some (.slice e)) (hi : P.info? e = some i) (hz : i.zero = some z)
    (kl kc : IntKind) (n c : Nat) (hnc : n ≤ c) (hbytes : i.bytes * c ≤ 281474976710656) (h63 : c ≤ 9223372036854775807) (w : World) :
    (Instr.makeSlice t (.int kl (n : Int)) (.int kc (c : Int))).run P w = .ok (.slice (some ⟨w.heap.size, 0, none⟩) n c) (w.alloc (.cells (madeCells z.cells (c * i.size)) e)) := by
  have hb : (i.bytes : Int) * (c : Int) ≤ 281474976710656 := by
    have h : ((i.bytes * c : Nat) : Int) ≤ 281474976710656 := by omega
    rwa [Int.natCast_mul] at h
  have hr := run_make (P := P) w t e i z ht hi hz kl kc n c (by omega) (by omega) hb (by omega)
  simp only [Int.toNat_natCast] at hr
  exact hr

end Go.Proofs.Ytgfmgmcpfefmkaa

set_option linter.unusedSimpArgs false
set_option linter.unusedVariables false
namespace Go.Proofs.Ytgfmgmcpfefmkaa
open Go.RowKit

theorem block_of_add (a : Addr) (n : Nat) : (a.add n).block = a.block := by unfold Addr.add; split <;> rfl

def Reads (w : World) (B size : Nat) (A : Option Addr) (n : Nat) (xs : List Value) : Prop :=
  xs.length = n * size ∧ (0 < n → ∃ ad, A = some ad ∧ ad.block < B ∧ ∀ j u, xs[j]? = some u → w.cell? (ad.add j) = some u)

section
variable {w w' : World} {B B' size n : Nat} {A : Option Addr} {xs : List Value}
theorem Reads.at_ {k : Nat} (h : Reads w B 1 A n xs) (hk : k < n) : ∃ ad u, A = some ad ∧ ad.block < B ∧ xs[k]? = some u ∧ w.cell? (ad.add k) = some u := by
  obtain ⟨ad, e, hb, hc⟩ := h.2 (by omega)
  have hl : k < xs.length := by have := h.1; omega
  exact ⟨ad, xs[k], e, hb, List.getElem?_eq_getElem hl, hc k _ (List.getElem?_eq_getElem hl)⟩
theorem Reads.keep (h : Reads w B size A n xs) (hk : ∀ p : Addr, p.block < B → w'.cell? p = w.cell? p) : Reads w' B size A n xs :=
  ⟨h.1, fun hn => by
    obtain ⟨ad, e, hb, hc⟩ := h.2 hn
    exact ⟨ad, e, hb, fun j u hu => (hk _ (by rw [block_of_add]; exact hb)).trans (hc j u hu)⟩⟩
theorem Reads.more (h : Reads w B size A n xs) (hB : B ≤ B') : Reads w B' size A n xs :=
  ⟨h.1, fun hn => by
    obtain ⟨ad, e, hb, hc⟩ := h.2 hn
    exact ⟨ad, e, by omega, hc⟩⟩
theorem Reads.below (h : Reads w B size A n xs) (hb : Below B w w') : Reads w' B size A n xs := h.keep fun _ hp => hb.cell hp
theorem Reads.drew (h : Reads w B size A n xs) : Reads w.drew B size A n xs := h
theorem Reads.drewN (h : Reads w B size A n xs) (k : Nat) : Reads (w.drewN k) B size A n xs := h
theorem Reads.alloc (h : Reads w B size A n xs) (hB : B ≤ w.heap.size) (o : Obj) : Reads (w.alloc o) B size A n xs := h.keep fun p hp => World.cell?_alloc_lt w o p (by omega)
theorem Reads.setCell (h : Reads w B size A n xs) {p : Addr} (hB : B ≤ p.block) (u : Value) : Reads (w.setCell p u) B size A n xs :=
  h.keep fun q hq => World.cell?_setCell_other w p q u (fun e => by subst e; omega)
theorem Reads.grown (h : Reads w B size A n xs) {row : Option Nat} (hg : w.grownBy w' row) (hB : B ≤ w.heap.size) (hr : ∀ g, row = some g → B ≤ g) : Reads w' B size A n xs :=
  h.keep fun p hp => World.cell?_of_block (hg.block p.block (by omega) (fun e => by have := hr _ e.symm; omega))
end

section
variable {P : Program} (w : World)

theorem run_append_of_nil (base : Nat) (t ty e : TypeId) (i : TypeInfo) (size : Nat) (ht : P.underlying t = some (.slice e)) (hi : P.info? e = some i)
    (v : Value) (n : Nat) (xs : List Value) (hown : w.ownsRow base e size v n xs) (c : Nat) : (Builtin.append_ #[t, t] ty #[v, .slice none 0 c]).run P w = .ok v w := by
  rcases hown.2 with ⟨rfl, rfl⟩ | ⟨g, cap, cur, rfl, _, _, hnc, _⟩
  · simp [Builtin.append_, run_underlying ht, sizeOf, typeInfo, hi, Builtin.lenOf, Builtin.firstCells]
  · simp [Builtin.append_, run_underlying ht, sizeOf, typeInfo, hi, Builtin.lenOf, Builtin.firstCells, hnc, storeCells]

theorem run_append_any (base : Nat) (t ty e : TypeId) (i : TypeInfo) (z : Value) (size bytes : Nat) (ht : P.underlying t = some (.slice e)) (hi : P.info? e = some i) (hz : i.zero = some z)
    (hsize : i.size = size) (hby : i.bytes = bytes) (hzs : z.cells.size = size) (hsz : 0 < size)
    (v : Value) (n : Nat) (xs : List Value) (hown : w.ownsRow base e size v n xs)
    (B : Nat) (A : Option Addr) (m c : Nat) (news : List Value) (hr : Reads w B size A m news) (h1 : ∀ u ∈ news, u.oneCell' = true)
    (h63 : n + m ≤ maxLen) (hbytes : (n + m) * bytes ≤ 140737488355328) (hbase : base ≤ w.heap.size) :
    ∃ v' w', (Builtin.append_ #[t, t] ty #[v, .slice A m c]).run P w = .ok v' w' ∧ w'.ownsRow base e size v' (n + m) (xs ++ news) ∧ w.grownBy w' v.ownBlock ∧
      (v'.ownBlock = v.ownBlock ∨ v'.ownBlock = some w.heap.size) := by
  rcases A with _ | ad
  · have hm : m = 0 := by
      rcases Nat.eq_zero_or_pos m with h0 | h0
      · exact h0
      · obtain ⟨ad, h, _⟩ := hr.2 h0
        cases h
    subst hm
    have hn : news = [] := List.eq_nil_of_length_eq_zero (by simpa using hr.1)
    subst hn
    exact ⟨v, w, run_append_of_nil w base t ty e i size ht hi v n xs hown c, by simpa using hown, World.grownBy.refl w _, .inl rfl⟩
  · have hcells : ∀ j u, news[j]? = some u → w.cell? (ad.add j) = some u := by
      intro j u hu
      rcases Nat.eq_zero_or_pos m with h0 | h0
      · subst h0
        have hn : news = [] := List.eq_nil_of_length_eq_zero (by simpa using hr.1)
        subst hn
        simp at hu
      · obtain ⟨ad', h, _, hc⟩ := hr.2 h0
        injection h with h
        subst h
        exact hc j u hu
    obtain ⟨v', w', hrun, h2, h3, _, h5⟩ := run_append_own_at (P := P) w base t ty e i z size bytes ht hi hz hsize hby hzs hsz v n xs hown ad m c news hr.1 hcells h1 h63 hbytes hbase
    exact ⟨v', w', hrun, h2, h3, h5⟩

theorem wp_append_any {o : Oper} {a : Act} {K : Act → World → Prop} {Q : Exit → Act → World → Prop} (s x : Operand) (t : TypeId)
    (ho : o.op = .call { callee := .builtin .append, args := #[s, x], argTypes := #[t, t] })
    (base : Nat) (e : TypeId) (i : TypeInfo) (z : Value) (size bytes : Nat) (ht : P.underlying t = some (.slice e)) (hi : P.info? e = some i) (hz : i.zero = some z)
    (hsize : i.size = size) (hby : i.bytes = bytes) (hzs : z.cells.size = size) (hsz : 0 < size)
    (v : Value) (n : Nat) (xs : List Value) (hs : a.eval s = v) (hown : w.ownsRow base e size v n xs)
    (B : Nat) (A : Option Addr) (m c : Nat) (news : List Value) (hx : a.eval x = .slice A m c) (hr : Reads w B size A m news) (h1 : ∀ u ∈ news, u.oneCell' = true)
    (h63 : n + m ≤ maxLen) (hbytes : (n + m) * bytes ≤ 140737488355328) (hbase : base ≤ w.heap.size)
    (h : ∀ v' w', w'.ownsRow base e size v' (n + m) (xs ++ news) → w.grownBy w' v.ownBlock → (v'.ownBlock = v.ownBlock ∨ v'.ownBlock = some w.heap.size) → K (a.put o.dst v') w') : o.wp P a w K Q := by
  obtain ⟨v', w', hrun, h2, h3, h4⟩ := run_append_any (P := P) w base t o.type e i z size bytes ht hi hz hsize hby hzs hsz v n xs hown B A m c news hr h1 h63 hbytes hbase
  unfold Oper.wp execOp
  simp only [ho, resolve, invoke, builtin, Sem.run_bind, Sem.run_pure, Result.andThen_ok, List.map_toArray, List.map_cons, List.map_nil, hs, hx, hrun]
  exact h v' w' h2 h3 h4

theorem wpList_append_any {ops : Array Oper} {rest : List Oper} {o : Oper} {a : Act} {Q : Exit → Act → World → Prop} (hgd : o.guard = none) (s x : Operand) (t : TypeId)
    (ho : o.op = .call { callee := .builtin .append, args := #[s, x], argTypes := #[t, t] })
    (base : Nat) (e : TypeId) (i : TypeInfo) (z : Value) (size bytes : Nat) (ht : P.underlying t = some (.slice e)) (hi : P.info? e = some i) (hz : i.zero = some z)
    (hsize : i.size = size) (hby : i.bytes = bytes) (hzs : z.cells.size = size) (hsz : 0 < size)
    (v : Value) (n : Nat) (xs : List Value) (hs : a.eval s = v) (hown : w.ownsRow base e size v n xs)
    (B : Nat) (A : Option Addr) (m c : Nat) (news : List Value) (hx : a.eval x = .slice A m c) (hr : Reads w B size A m news) (h1 : ∀ u ∈ news, u.oneCell' = true)
    (h63 : n + m ≤ maxLen) (hbytes : (n + m) * bytes ≤ 140737488355328) (hbase : base ≤ w.heap.size)
    (h : ∀ v' w', w'.ownsRow base e size v' (n + m) (xs ++ news) → w.grownBy w' v.ownBlock → (v'.ownBlock = v.ownBlock ∨ v'.ownBlock = some w.heap.size) → wpList P ops Q rest (a.put o.dst v') w') : wpList P ops Q (o :: rest) a w :=
  wpList_plain hgd fun _ hK => wp_append_any w s x t ho base e i z size bytes ht hi hz hsize hby hzs hsz v n xs hs hown B A m c news hx hr h1 h63 hbytes hbase fun v' w' h2 h3 h4 => hK _ _ (h v' w' h2 h3 h4)

end


theorem reads_of_cells {w : World} {B size n : Nat} {A : Option Addr} {vs : List Value} (h : CellsAt w B A vs) (hl : vs.length = n * size) (hs : 0 < size) : Reads w B size A n vs := by
  refine ⟨hl, fun hn => ?_⟩
  have h0 : 0 < vs.length := by rw [hl]; exact Nat.mul_pos hn hs
  obtain ⟨g, off, rfl, hg, hc⟩ := h h0
  refine ⟨_, rfl, hg, fun j u hu => ?_⟩
  obtain ⟨hj, rfl⟩ := List.getElem?_eq_some_iff.1 hu
  rw [Go.WideShapes.add_plain]
  exact hc j hj

/-- Blocks that are in S may have turned, and there may be new ones; nothing else has turned. -/
structure Turn (S : Nat → Prop) (w w' : World) : Prop where
  os : w'.os = w.os
  tape : w'.tape = w.tape
  output : w'.output = w.output
  size : w.heap.size ≤ w'.heap.size
  block : ∀ k, k < w.heap.size → ¬ S k → w'.heap[k]? = w.heap[k]?
theorem Turn.refl (S : Nat → Prop) (w : World) : Turn S w w := ⟨rfl, rfl, rfl, Nat.le_refl _, fun _ _ _ => rfl⟩
theorem Turn.of_bl {S : Nat → Prop} {w w' : World} (h : Bl w w') : Turn S w w' := by
  have h' : Below w.heap.size w w' := h
  exact ⟨h'.os, h'.tape, h'.output, h'.size, fun k hk _ => h'.block k hk⟩
theorem Turn.of_grown {S : Nat → Prop} {w w' : World} {row : Option Nat} (h : w.grownBy w' row) (hr : ∀ k, row = some k → S k) : Turn S w w' :=
  ⟨h.os, h.tape, h.output, h.size, fun k hk hS => h.block k hk (fun e => hS (hr k e.symm))⟩
/-- Two turns, the blocks of the second lying among those of the first or being new. -/
theorem Turn.trans {S T : Nat → Prop} {a b c : World} (h : Turn S a b) (k : Turn T b c) (hT : ∀ i, i < a.heap.size → T i → S i) : Turn S a c :=
  ⟨k.os.trans h.os, k.tape.trans h.tape, k.output.trans h.output, Nat.le_trans h.size k.size,
    fun i hi hS => (k.block i (Nat.lt_of_lt_of_le hi h.size) (fun e => hS (hT i hi e))).trans (h.block i hi hS)⟩
theorem Turn.bl {S : Nat → Prop} {a b c : World} (h : Turn S a b) (k : Bl b c) : Turn S a c := h.trans (Turn.of_bl (S := fun _ => False) k) (fun _ _ h => h.elim)
theorem Turn.set {S : Nat → Prop} {a w : World} (h : Turn S a w) {p : Addr} (hp : S p.block ∨ a.heap.size ≤ p.block) (u : Value) : Turn S a (w.setCell p u) :=
  ⟨h.os, h.tape, h.output, by simpa [World.setCell] using h.size, fun i hi hS => (Below.heap_setCell w p u i (by
    rintro rfl
    rcases hp with hp | hp
    · exact hS hp
    · omega)).trans (h.block i hi hS)⟩
theorem Turn.more {S T : Nat → Prop} {a b : World} (h : Turn S a b) (k : ∀ i, i < a.heap.size → S i → T i) : Turn T a b :=
  ⟨h.os, h.tape, h.output, h.size, fun i hi hT => h.block i hi (fun e => hT (k i hi e))⟩
theorem Turn.to_bl {S : Nat → Prop} {W a b : World} (h : Bl W a) (k : Turn S a b) (hS : ∀ i, S i → W.heap.size ≤ i) : Bl W b := by
  have h' : Below W.heap.size W a := h
  exact ⟨k.os.trans h'.os, k.tape.trans h'.tape, k.output.trans h'.output, Nat.le_trans h'.size k.size,
    fun i hi => (k.block i (Nat.lt_of_lt_of_le hi h'.size) (fun e => by have := hS i e; omega)).trans (h'.block i hi)⟩
theorem Turn.cell {S : Nat → Prop} {w w' : World} (h : Turn S w w') {g : Nat} (hg : g < w.heap.size) (hS : ¬ S g) (o : Nat) : w'.cell? ⟨g, o, none⟩ = w.cell? ⟨g, o, none⟩ :=
  World.cell?_of_block (a := ⟨g, o, none⟩) (h.block g hg hS)
theorem Owns.turn {t : TypeId} {s : Nat} {w w' : World} {B : Nat} {v : Value} {n : Nat} {vs : List Value} {S : Nat → Prop} (h : Owns t s w B v n vs) (k : Turn S w w') (hS : ∀ g, v.ownBlock = some g → ¬ S g) : Owns t s w' B v n vs := by
  have h' : w.ownsRow B t s v n vs := h
  refine ⟨h'.1, ?_⟩
  rcases h'.2 with ⟨e, h0⟩ | ⟨g, cap, cur, e, hB, hg, hnc, hcm, hcs, htake⟩
  · exact .inl ⟨e, h0⟩
  · refine .inr ⟨g, cap, cur, e, hB, ?_, hnc, hcm, hcs, htake⟩
    rw [k.block g (Array.getElem?_eq_some_iff.1 hg).1 (hS g (by rw [e]; rfl))]
    exact hg
theorem CellsAt.turn {w w' : World} {B : Nat} {A : Option Addr} {L : List Value} {S : Nat → Prop} (h : CellsAt w B A L) (hB : B ≤ w.heap.size) (k : Turn S w w') (hS : ∀ g, blockOf A = some g → g < B → ¬ S g) : CellsAt w' B A L := fun hp => by
  obtain ⟨g, off, rfl, hlt, hc⟩ := h hp
  exact ⟨g, off, rfl, hlt, fun j hj => (k.cell (by omega) (hS g rfl hlt) _).trans (hc j hj)⟩

end Go.Proofs.Ytgfmgmcpfefmkaa

set_option linter.unusedSimpArgs false
set_option linter.unusedVariables false
namespace Go.Proofs.Ytgfmgmcpfefmkaa
open Go.RowKit

theorem bl_trans : ∀ (x y z : List UInt8), Op.bytesLess x y = true → Op.bytesLess y z = true → Op.bytesLess x z = true
  | [], [], _, h, _ => by simp [Op.bytesLess] at h
  | _ :: _, [], _, h, _ => by simp [Op.bytesLess] at h
  | _, _ :: _, [], _, h => by simp [Op.bytesLess] at h
  | [], _ :: _, _ :: _, _, _ => rfl
  | a :: x, b :: y, c :: z, h, k => by
    simp only [Op.bytesLess, Bool.or_eq_true, decide_eq_true_eq, Bool.and_eq_true, beq_iff_eq] at *
    rcases h with h | ⟨rfl, h⟩ <;> rcases k with k | ⟨rfl, k⟩
    · exact .inl (UInt8.lt_trans h k)
    · exact .inl h
    · exact .inl k
    · exact .inr ⟨rfl, bl_trans x y z h k⟩
theorem bl_irrefl : ∀ (x : List UInt8), Op.bytesLess x x = false
  | [] => rfl
  | a :: x => by simp [Op.bytesLess, bl_irrefl x]
theorem bl_total : ∀ (x y : List UInt8), Op.bytesLess x y = false → x ≠ y → Op.bytesLess y x = true
  | [], [], _, h => absurd rfl h
  | a :: x, [], _, _ => rfl
  | [], _ :: _, h, _ => by simp [Op.bytesLess] at h
  | a :: x, b :: y, h, hne => by
    simp only [Op.bytesLess, Bool.or_eq_false_iff, decide_eq_false_iff_not, Bool.and_eq_false_iff, beq_eq_false_iff_ne, Bool.or_eq_true, decide_eq_true_eq, Bool.and_eq_true, beq_iff_eq] at *
    obtain ⟨h1, h2⟩ := h
    by_cases e : a = b
    · subst e
      refine .inr ⟨rfl, bl_total x y (by rcases h2 with h2 | h2; exact absurd rfl h2; exact h2) (fun e => hne (by rw [e]))⟩
    · left
      rw [UInt8.lt_iff_toNat_lt] at *
      have : a.toNat ≠ b.toNat := fun h => e (UInt8.toNat_inj.1 h)
      omega

/-- A file: its name and its data. -/
abbrev Fl := ByteArray × ByteArray
/-- An op. -/
structure Dp where
  kind : Int
  name : ByteArray
  to : ByteArray
  data : ByteArray

def lessB (a b : ByteArray) : Bool := Op.bytesLess a.toList b.toList
def sameB (a b : ByteArray) : Bool := a.toList == b.toList
theorem sameB_iff (a b : ByteArray) : sameB a b = true ↔ a = b := Lib.bytes_beq_iff a b
theorem sameB_false (a b : ByteArray) : sameB a b = false ↔ a ≠ b := Lib.bytes_beq_false_iff a b
theorem sameB_refl (a : ByteArray) : sameB a a = true := (sameB_iff a a).2 rfl
theorem sameB_symm (a b : ByteArray) : sameB a b = sameB b a := by
  cases h : sameB a b
  · exact ((sameB_false b a).2 (fun e => (sameB_false a b).1 h e.symm)).symm
  · rw [(sameB_iff a b).1 h, sameB_refl]
theorem lessB_trans {a b c : ByteArray} (h : lessB a b = true) (k : lessB b c = true) : lessB a c = true := bl_trans _ _ _ h k
theorem lessB_irrefl (a : ByteArray) : lessB a a = false := bl_irrefl _
theorem lessB_total {a b : ByteArray} (h : lessB a b = false) (k : a ≠ b) : lessB b a = true :=
  bl_total _ _ h (fun e => k (by
    have := (Lib.bytes_beq_iff a b).1 (by simp [e])
    exact this))
theorem lessB_ne {a b : ByteArray} (h : lessB a b = true) : sameB a b = false := by
  rw [sameB_false]
  intro e
  rw [e, lessB_irrefl] at h
  exact absurd h (by simp)
theorem lessB_asymm {a b : ByteArray} (h : lessB a b = true) : lessB b a = false := by
  cases k : lessB b a
  · rfl
  · have := lessB_trans h k
    rw [lessB_irrefl] at this
    exact absurd this (by simp)

def SortedF (L : List Fl) : Prop := L.Pairwise (fun f g => lessB f.1 g.1 = true)
def hasL (L : List Fl) (n : ByteArray) : Bool := L.any (fun f => sameB f.1 n)
def dataL (L : List Fl) (n : ByteArray) : ByteArray := match L.find? (fun f => sameB f.1 n) with
  | some f => f.2
  | none => ⟨#[]⟩
def cutL (L : List Fl) (n : ByteArray) : List Fl := L.filter (fun f => !sameB f.1 n)
def insL (n d : ByteArray) : List Fl → List Fl
  | [] => [(n, d)]
  | f :: r => if lessB f.1 n then f :: insL n d r else (n, d) :: f :: r
def putL (L : List Fl) (n d : ByteArray) : List Fl := insL n d (cutL L n)
def sumL (L : List Fl) : Nat := (L.map (fun f => f.2.size)).sum

theorem has_of_at {L : List Fl} {k : Nat} (hk : k < L.length) {n : ByteArray} (h : sameB L[k].1 n = true) : hasL L n = true := by
  unfold hasL
  rw [List.any_eq_true]
  exact ⟨_, List.getElem_mem hk, h⟩
theorem has_none {L : List Fl} {n : ByteArray} (h : ∀ k (hk : k < L.length), sameB L[k].1 n = false) : hasL L n = false := by
  unfold hasL
  rw [List.any_eq_false]
  intro f hf
  obtain ⟨k, hk, rfl⟩ := List.getElem_of_mem hf
  rw [h k hk]; simp
theorem data_at : ∀ {L : List Fl} {k : Nat} (hk : k < L.length) {n : ByteArray}, sameB L[k].1 n = true → (∀ j (hj : j < k), sameB (L[j]'(by omega)).1 n = false) → dataL L n = L[k].2
  | [], _, hk, _, _, _ => absurd hk (by simp)
  | f :: r, 0, _, n, h, _ => by
    have h' : sameB f.1 n = true := h
    unfold dataL
    rw [List.find?_cons_of_pos (p := fun f : Fl => sameB f.1 n) h']
    rfl
  | f :: r, k + 1, hk, n, h, h0 => by
    have h1 : sameB f.1 n = false := h0 0 (by omega)
    have := data_at (L := r) (k := k) (by simpa using hk) (n := n) h (fun j hj => h0 (j + 1) (by omega))
    unfold dataL at this ⊢
    rw [List.find?_cons_of_neg (p := fun f : Fl => sameB f.1 n) (by rw [h1]; simp)]
    exact this
theorem data_none {L : List Fl} {n : ByteArray} (h : hasL L n = false) : dataL L n = ⟨#[]⟩ := by
  unfold hasL at h
  unfold dataL
  rw [List.find?_eq_none.2 (fun f hf => by rw [List.any_eq_false] at h; simpa using h f hf)]
theorem sorted_lt {L : List Fl} (h : SortedF L) {i j : Nat} (hij : i < j) (hj : j < L.length) : lessB (L[i]'(by omega)).1 L[j].1 = true :=
  List.pairwise_iff_getElem.1 h i j (by omega) hj hij

/-- Where the search ends: all ahead of p are less, none from p on is; f: at p is the file of that name. -/
def PlaceAt (L : List Fl) (n : ByteArray) (p : Nat) (f : Bool) : Prop :=
  p ≤ L.length ∧ (∀ t (h : t < L.length), t < p → lessB L[t].1 n = true) ∧ (∀ t (h : t < L.length), p ≤ t → lessB L[t].1 n = false) ∧
    f = (if h : p < L.length then sameB L[p].1 n else false)
theorem PlaceAt.has {L : List Fl} {n : ByteArray} {p : Nat} {f : Bool} (h : PlaceAt L n p f) (hs : SortedF L) : f = hasL L n := by
  obtain ⟨h1, h2, h3, h4⟩ := h
  subst h4
  by_cases hp : p < L.length
  · rw [dif_pos hp]
    cases hsm : sameB L[p].1 n with
    | true => exact (has_of_at hp hsm).symm
    | false =>
      refine (has_none fun k hk => ?_).symm
      rcases Nat.lt_trichotomy k p with hk' | rfl | hk'
      · exact lessB_ne (h2 k hk hk')
      · exact hsm
      · have a := sorted_lt hs hk' hk
        have b := lessB_total (h3 p hp (Nat.le_refl _)) ((sameB_false _ _).1 hsm)
        have c := lessB_trans b a
        rw [sameB_symm]
        exact lessB_ne c
  · rw [dif_neg hp]
    exact (has_none fun k hk => lessB_ne (h2 k hk (by omega))).symm
theorem PlaceAt.found {L : List Fl} {n : ByteArray} {p : Nat} (h : PlaceAt L n p true) : ∃ hp : p < L.length, L[p].1 = n ∧ dataL L n = L[p].2 := by
  obtain ⟨h1, h2, h3, h4⟩ := h
  by_cases hp : p < L.length
  · rw [dif_pos hp] at h4
    exact ⟨hp, (sameB_iff _ _).1 h4.symm, data_at hp h4.symm fun j hj => lessB_ne (h2 j (by omega) hj)⟩
  · rw [dif_neg hp] at h4
    exact absurd h4 (by simp)
theorem ins_split (n d : ByteArray) : ∀ (L : List Fl) (p : Nat), p ≤ L.length → (∀ t (h : t < L.length), t < p → lessB L[t].1 n = true) → (∀ t (h : t < L.length), p ≤ t → lessB L[t].1 n = false) →
    L.take p ++ (n, d) :: L.drop p = insL n d L
  | [], p, hp, _, _ => by
    have : p = 0 := by simpa using hp
    subst this; rfl
  | f :: r, 0, _, _, h => by
    have h0 : lessB f.1 n = false := h 0 (by simp) (Nat.le_refl _)
    simp [insL, h0]
  | f :: r, p + 1, hp, h1, h2 => by
    have h0 : lessB f.1 n = true := h1 0 (by simp) (by omega)
    have := ins_split n d r p (by simpa using hp) (fun t h ht => h1 (t + 1) (by simpa using h) (by omega)) (fun t h ht => h2 (t + 1) (by simpa using h) (by omega))
    simp [insL, h0, this]
theorem PlaceAt.ins {L : List Fl} {n : ByteArray} {p : Nat} {f : Bool} (h : PlaceAt L n p f) (d : ByteArray) : L.take p ++ (n, d) :: L.drop p = insL n d L :=
  ins_split n d L p h.1 h.2.1 h.2.2.1

theorem ins_mem {n d : ByteArray} : ∀ {L : List Fl} {f : Fl}, f ∈ insL n d L → f = (n, d) ∨ f ∈ L
  | [], f, h => by simp [insL] at h; exact .inl h
  | g :: r, f, h => by
    unfold insL at h
    split at h
    · rcases List.mem_cons.1 h with h | h
      · exact .inr (by simp [h])
      · rcases ins_mem h with h | h
        · exact .inl h
        · exact .inr (by simp [h])
    · rcases List.mem_cons.1 h with h | h
      · exact .inl h
      · exact .inr h
theorem ins_sorted {n d : ByteArray} : ∀ {L : List Fl}, SortedF L → (∀ f ∈ L, sameB f.1 n = false) → SortedF (insL n d L)
  | [], _, _ => by simp [insL, SortedF]
  | f :: r, hs, hn => by
    obtain ⟨h1, h2⟩ := List.pairwise_cons.1 hs
    unfold insL
    split
    · rename_i hl
      refine List.pairwise_cons.2 ⟨fun g hg => ?_, ins_sorted h2 (fun g hg => hn g (by simp [hg]))⟩
      rcases ins_mem hg with rfl | hg
      · exact hl
      · exact h1 g hg
    · rename_i hl
      have hnf : lessB n f.1 = true := lessB_total (by simpa using hl) ((sameB_false _ _).1 (hn f (by simp)))
      refine List.pairwise_cons.2 ⟨fun g hg => ?_, hs⟩
      rcases List.mem_cons.1 hg with rfl | hg
      · exact hnf
      · exact lessB_trans hnf (h1 g hg)
theorem ins_len (n d : ByteArray) : ∀ (L : List Fl), (insL n d L).length = L.length + 1
  | [] => rfl
  | f :: r => by
    unfold insL
    split
    · simp [ins_len n d r]
    · rfl
theorem ins_sum (n d : ByteArray) : ∀ (L : List Fl), sumL (insL n d L) = sumL L + d.size
  | [] => by simp [insL, sumL]
  | f :: r => by
    have := ins_sum n d r
    unfold insL
    split
    · simp only [sumL, List.map_cons, List.sum_cons] at this ⊢; omega
    · simp only [sumL, List.map_cons, List.sum_cons]; omega
theorem cut_sorted {L : List Fl} (h : SortedF L) (n : ByteArray) : SortedF (cutL L n) := List.Pairwise.filter _ h
theorem cut_ne {L : List Fl} {n : ByteArray} {f : Fl} (h : f ∈ cutL L n) : sameB f.1 n = false := by
  have := (List.mem_filter.1 h).2
  simpa using this
theorem cut_mem {L : List Fl} {n : ByteArray} {f : Fl} (h : f ∈ cutL L n) : f ∈ L := (List.mem_filter.1 h).1
theorem cut_len (L : List Fl) (n : ByteArray) : (cutL L n).length ≤ L.length := List.length_filter_le _ _
theorem cut_sum (n : ByteArray) : ∀ (L : List Fl), sumL (cutL L n) ≤ sumL L
  | [] => by simp [cutL, sumL]
  | f :: r => by
    have := cut_sum n r
    unfold cutL at this ⊢
    rw [List.filter_cons]
    split
    · simp only [sumL, List.map_cons, List.sum_cons] at this ⊢; omega
    · simp only [sumL, List.map_cons, List.sum_cons] at this ⊢; omega
theorem data_size (L : List Fl) (n : ByteArray) : (dataL L n).size + sumL (cutL L n) ≤ sumL L := by
  induction L with
  | nil => exact Nat.le_refl 0
  | cons f r ih =>
    unfold dataL cutL at ih ⊢
    rw [List.filter_cons]
    cases h : sameB f.1 n with
    | true =>
      rw [List.find?_cons_of_pos (p := fun f : Fl => sameB f.1 n) h]
      have := cut_sum n r
      unfold cutL at this
      simp only [Bool.not_true, Bool.false_eq_true, if_false, sumL, List.map_cons, List.sum_cons] at this ⊢
      omega
    | false =>
      rw [List.find?_cons_of_neg (p := fun f : Fl => sameB f.1 n) (by rw [h]; simp)]
      simp only [Bool.not_false, if_true, sumL, List.map_cons, List.sum_cons] at ih ⊢
      omega
theorem put_sorted {L : List Fl} (h : SortedF L) (n d : ByteArray) : SortedF (putL L n d) := ins_sorted (cut_sorted h n) (fun f hf => cut_ne hf)

/-- The model's put: file by file; b: the new one is in. -/
def putK (n d : ByteArray) : List Fl → Bool → List Fl
  | [], b => if b then [] else [(n, d)]
  | f :: r, b => (if !b && !lessB f.1 n then [(n, d)] else []) ++ (if sameB f.1 n then [] else [f]) ++ putK n d r (b || !lessB f.1 n)
theorem putK_true (n d : ByteArray) : ∀ (L : List Fl), putK n d L true = cutL L n
  | [] => rfl
  | f :: r => by
    have := putK_true n d r
    unfold cutL at this ⊢
    unfold putK
    rw [List.filter_cons]
    cases h : sameB f.1 n <;> simp [h, this]
theorem ins_ge (n d : ByteArray) : ∀ {L : List Fl}, (∀ f ∈ L, lessB f.1 n = false) → insL n d L = (n, d) :: L
  | [], _ => rfl
  | f :: r, h => by
    unfold insL
    rw [if_neg (by rw [h f (by simp)]; simp)]
theorem putK_eq (n d : ByteArray) : ∀ {L : List Fl}, SortedF L → putK n d L false = putL L n d
  | [], _ => rfl
  | f :: r, hs => by
    obtain ⟨h1, h2⟩ := List.pairwise_cons.1 hs
    unfold putK
    cases hl : lessB f.1 n with
    | true =>
      have hne := lessB_ne hl
      have := putK_eq n d h2
      simp only [hne, Bool.not_true, Bool.and_false, Bool.false_eq_true, if_false, Bool.or_false, List.nil_append]
      rw [this]
      unfold putL cutL
      rw [List.filter_cons, hne]
      simp [insL, hl]
    | false =>
      simp only [Bool.not_false, Bool.and_true, if_true, Bool.or_true]
      rw [putK_true]
      unfold putL
      have hge : ∀ g ∈ cutL (f :: r) n, lessB g.1 n = false := fun g hg => by
        rcases List.mem_cons.1 (cut_mem hg) with rfl | hg
        · exact hl
        · cases k : lessB g.1 n
          · rfl
          · have := lessB_trans (h1 g hg) k
            rw [hl] at this
            exact absurd this (by simp)
      rw [ins_ge n d hge]
      unfold cutL
      rw [List.filter_cons]
      cases h : sameB f.1 n <;> simp [h]

/-- A name that may be. -/
def nameB (s : ByteArray) : Bool := decide (1 ≤ s.size) && decide (s.size ≤ 100)
def emptyB (s : ByteArray) : Bool := s.toList.isEmpty
def fitsB (L : List Fl) : Bool := decide (L.length ≤ 60) && decide (sumL L ≤ 200000)
def ordB : List Fl → Bool
  | [] => true
  | f :: r => nameB f.1 && (match r with | [] => true | g :: _ => lessB f.1 g.1) && ordB r
def filesB (L : List Fl) : Bool := fitsB L && ordB L
def formB (o : Dp) : Bool :=
  decide (1 ≤ o.kind) && decide (o.kind ≤ 3) && nameB o.name && (if o.kind = 2 then nameB o.to && emptyB o.data else emptyB o.to && (decide (o.kind = 1) || emptyB o.data))
def foundB (L : List Fl) (o : Dp) : Bool := decide (o.kind = 1) || hasL L o.name
def doL (L : List Fl) (o : Dp) : List Fl :=
  if o.kind = 1 then putL L o.name (dataL L o.name ++ o.data)
  else if hasL L o.name then (if o.kind = 2 then putL (cutL L o.name) o.to (dataL L o.name) else cutL L o.name) else L
def goodB : List Fl → List Dp → Bool
  | _, [] => true
  | L, o :: r => formB o && foundB L o && fitsB (doL L o) && goodB (doL L o) r
def doAll (L : List Fl) (O : List Dp) : List Fl := O.foldl doL L
def sameL : List Fl → List Fl → Bool
  | [], [] => true
  | f :: r, g :: t => sameB f.1 g.1 && sameB f.2 g.2 && sameL r t
  | _, _ => false
theorem sameL_iff : ∀ (L M : List Fl), sameL L M = true ↔ L = M
  | [], [] => by simp [sameL]
  | [], _ :: _ => by simp [sameL]
  | _ :: _, [] => by simp [sameL]
  | f :: r, g :: t => by
    simp only [sameL, Bool.and_eq_true, sameB_iff, sameL_iff r t, List.cons.injEq]
    exact ⟨fun h => ⟨Prod.ext h.1.1 h.1.2, h.2⟩, fun h => ⟨⟨by rw [h.1], by rw [h.1]⟩, h.2⟩⟩
/-- A disk: its live files, its safe files, its ops. -/
abbrev Dk := List Fl × List Fl × List Dp
def diskB (D : Dk) : Bool := filesB D.2.1 && decide (D.2.2.length ≤ 200) && goodB D.2.1 D.2.2 && sameL (doAll D.2.1 D.2.2) D.1

theorem ord_sorted : ∀ {L : List Fl}, ordB L = true → SortedF L
  | [], _ => List.Pairwise.nil
  | [f], _ => List.pairwise_singleton _ _
  | f :: g :: r, h => by
    unfold ordB at h
    simp only [Bool.and_eq_true] at h
    have ih := ord_sorted h.2
    refine List.pairwise_cons.2 ⟨fun x hx => ?_, ih⟩
    rcases List.mem_cons.1 hx with rfl | hx
    · exact h.1.2
    · exact lessB_trans h.1.2 ((List.pairwise_cons.1 ih).1 x hx)
theorem ord_names : ∀ {L : List Fl}, ordB L = true → ∀ f ∈ L, nameB f.1 = true
  | [], _, f, hf => by simp at hf
  | g :: r, h, f, hf => by
    unfold ordB at h
    simp only [Bool.and_eq_true] at h
    rcases List.mem_cons.1 hf with rfl | hf
    · exact h.1.1
    · exact ord_names h.2 f hf
theorem ord_of : ∀ {L : List Fl}, SortedF L → (∀ f ∈ L, nameB f.1 = true) → ordB L = true
  | [], _, _ => rfl
  | [f], _, h => by simp [ordB, h f (by simp)]
  | f :: g :: r, hs, h => by
    obtain ⟨h1, h2⟩ := List.pairwise_cons.1 hs
    have ih := ord_of h2 (fun x hx => h x (by simp [hx]))
    unfold ordB
    simp only [Bool.and_eq_true]
    exact ⟨⟨h f (by simp), h1 g (by simp)⟩, ih⟩
theorem do_sorted {L : List Fl} (h : SortedF L) (o : Dp) : SortedF (doL L o) := by
  unfold doL
  split
  · exact put_sorted h _ _
  · split
    · split
      · exact put_sorted (cut_sorted h _) _ _
      · exact cut_sorted h _
    · exact h
theorem do_names {L : List Fl} (h : ∀ f ∈ L, nameB f.1 = true) {o : Dp} (ho : formB o = true) : ∀ f ∈ doL L o, nameB f.1 = true := by
  unfold formB at ho
  simp only [Bool.and_eq_true] at ho
  have hn := ho.1.2
  intro f hf
  unfold doL putL at hf
  split at hf
  · rcases ins_mem hf with rfl | hf
    · exact hn
    · exact h f (cut_mem hf)
  · split at hf
    · split at hf
      · rename_i h2
        rcases ins_mem hf with rfl | hf
        · have := ho.2
          rw [if_pos h2, Bool.and_eq_true] at this
          exact this.1
        · exact h f (cut_mem (cut_mem hf))
      · exact h f (cut_mem hf)
    · exact h f hf
theorem do_len (L : List Fl) (o : Dp) : (doL L o).length ≤ L.length + 1 := by
  have h1 := cut_len L o.name
  have h2 := cut_len (cutL L o.name) o.to
  unfold doL putL
  split
  · rw [ins_len]; omega
  · split
    · split
      · rw [ins_len]; omega
      · omega
    · omega
theorem do_sum (L : List Fl) (o : Dp) : sumL (doL L o) ≤ sumL L + o.data.size := by
  have h1 := data_size L o.name
  have h2 := cut_sum o.to (cutL L o.name)
  unfold doL putL
  split
  · rw [ins_sum, ByteArray.size_append]; omega
  · split
    · split
      · rw [ins_sum]; omega
      · omega
    · omega
theorem do_files {L : List Fl} (h : ordB L = true) {o : Dp} (ho : formB o = true) : ordB (doL L o) = true :=
  ord_of (do_sorted (ord_sorted h) o) (do_names (ord_names h) ho)
theorem good_files : ∀ {O : List Dp} {L : List Fl}, filesB L = true → goodB L O = true → filesB (doAll L O) = true
  | [], L, h, _ => h
  | o :: r, L, h, hg => by
    unfold goodB at hg
    simp only [Bool.and_eq_true] at hg
    unfold filesB at h
    rw [Bool.and_eq_true] at h
    exact good_files (O := r) (by unfold filesB; rw [Bool.and_eq_true]; exact ⟨hg.1.2, do_files h.2 hg.1.1.1⟩) hg.2
theorem disk_live {D : Dk} (h : diskB D = true) : filesB D.1 = true := by
  unfold diskB at h
  simp only [Bool.and_eq_true] at h
  have := good_files h.1.1.1 h.1.2
  rwa [(sameL_iff _ _).1 h.2] at this

end Go.Proofs.Ytgfmgmcpfefmkaa
