/-
  What is proved here: rows of files and of ops in memory. No conditions beyond those that each theorem states.
-/
import Derived.Test.YtipmjgciaalmbaaDKP
import Derived.Test.YtipmjgciaalmbaaFRM
set_option linter.unusedSimpArgs false
set_option linter.unusedVariables false
namespace Go.Proofs.Ytipmjgciaalmbaa
open Go.RowKit

section
variable {α : Type}
/-- The cells of a list of elements. -/
def csE (enc : α → List Value) : List α → List Value
  | [] => []
  | a :: l => enc a ++ csE enc l
theorem csE_append (enc : α → List Value) : ∀ (l m : List α), csE enc (l ++ m) = csE enc l ++ csE enc m
  | [], _ => rfl
  | a :: l, m => by simp [csE, csE_append enc l m]
theorem csE_length {enc : α → List Value} {s : Nat} (h : ∀ a, (enc a).length = s) : ∀ (l : List α), (csE enc l).length = l.length * s
  | [] => by simp [csE]
  | a :: l => by simp [csE, csE_length h l, h a, Nat.add_mul]; omega
theorem csE_at {enc : α → List Value} {s : Nat} (h : ∀ a, (enc a).length = s) : ∀ (l : List α) (k r : Nat) (hk : k < l.length), r < s → (csE enc l)[k * s + r]? = (enc l[k])[r]?
  | a :: l, 0, r, _, hr => by
    rw [Nat.zero_mul, Nat.zero_add]
    show (enc a ++ csE enc l)[r]? = (enc a)[r]?
    rw [List.getElem?_append_left (by rw [h a]; exact hr)]
  | a :: l, k + 1, r, hk, hr => by
    have e : (k + 1) * s + r = s + (k * s + r) := by rw [Nat.add_mul]; omega
    show (enc a ++ csE enc l)[(k + 1) * s + r]? = _
    rw [e, List.getElem?_append_right (by rw [h a]; omega), h a, Nat.add_sub_cancel_left, csE_at h l k r (by simpa using hk) hr]
    rfl
theorem csE_take {enc : α → List Value} {s : Nat} (h : ∀ a, (enc a).length = s) : ∀ (l : List α) (k : Nat), csE enc (l.take k) = (csE enc l).take (k * s)
  | [], _ => by simp [csE]
  | a :: l, 0 => by simp [csE]
  | a :: l, k + 1 => by
    have e : (k + 1) * s = s + k * s := by rw [Nat.add_mul]; omega
    show enc a ++ csE enc (l.take k) = (enc a ++ csE enc l).take ((k + 1) * s)
    rw [csE_take h l k, e, List.take_append, List.take_of_length_le (l := enc a) (by rw [h a]; omega), h a, Nat.add_sub_cancel_left]
theorem csE_drop {enc : α → List Value} {s : Nat} (h : ∀ a, (enc a).length = s) (l : List α) (k : Nat) : csE enc (l.drop k) = (csE enc l).drop (k * s) := by
  have h1 : csE enc l = csE enc (l.take k) ++ csE enc (l.drop k) := by rw [← csE_append, List.take_append_drop]
  by_cases hk : k ≤ l.length
  · have h2 : (csE enc (l.take k)).length = k * s := by rw [csE_length h, List.length_take, Nat.min_eq_left hk]
    rw [h1, ← h2, List.drop_left]
  · rw [List.drop_of_length_le (l := l) (by omega), List.drop_of_length_le (l := csE enc l) (by rw [csE_length h]; exact Nat.mul_le_mul_right _ (by omega))]
    rfl
theorem csE_one {enc : α → List Value} (h : ∀ a, ∀ u ∈ enc a, u.oneCell' = true) : ∀ (l : List α), ∀ u ∈ csE enc l, u.oneCell' = true
  | [], u, hu => by simp [csE] at hu
  | a :: l, u, hu => by
    rcases List.mem_append.1 (show u ∈ enc a ++ csE enc l from hu) with hu | hu
    · exact h a u hu
    · exact csE_one h l u hu
theorem csE_ext {enc : α → List Value} {s : Nat} (h : ∀ a, (enc a).length = s) {c : List Value} {L : List α} (hs : c.length = L.length * s) (hc : ∀ j (h' : j < L.length) r, r < s → c[j * s + r]? = (enc L[j])[r]?) : c = csE enc L := by
  apply List.ext_getElem?
  intro i
  rcases Nat.lt_or_ge i (L.length * s) with hi | hi
  · have hs0 : 0 < s := by
      rcases Nat.eq_zero_or_pos s with h0 | h0
      · rw [h0] at hi; omega
      · exact h0
    have hj : i / s < L.length := Nat.div_lt_of_lt_mul (by rw [Nat.mul_comm]; exact hi)
    have hr : i % s < s := Nat.mod_lt _ hs0
    have e : i = i / s * s + i % s := by rw [Nat.mul_comm]; exact (Nat.div_add_mod i s).symm
    rw [e, hc _ hj _ hr, csE_at h L _ _ hj hr]
  · rw [List.getElem?_eq_none (by omega), List.getElem?_eq_none (by rw [csE_length h]; omega)]
theorem csE_cells {enc : α → List Value} {s : Nat} (h : ∀ a, (enc a).length = s) {w : World} {B : Nat} {A : Option Addr} {L : List α} (hc : CellsAt w B A (csE enc L)) (h0 : 0 < L.length) (hs : 0 < s) :
    ∃ g off, A = some ⟨g, off, none⟩ ∧ g < B ∧ ∀ k (hk : k < L.length) r v, (enc L[k])[r]? = some v → w.cell? ⟨g, off + (k * s + r), none⟩ = some v := by
  obtain ⟨g, off, e, hg, hcc⟩ := hc (by rw [csE_length h]; exact Nat.mul_pos h0 hs)
  refine ⟨g, off, e, hg, fun k hk r v hv => ?_⟩
  have hr : r < s := by
    have := (List.getElem?_eq_some_iff.1 hv).1
    rw [h] at this; exact this
  have he := csE_at h L k r hk hr
  rw [hv] at he
  obtain ⟨hl, hlv⟩ := List.getElem?_eq_some_iff.1 he
  rw [hcc _ hl, hlv]

/-- A row whose first k elements are those of L. -/
def FilledE (t : TypeId) (enc : α → List Value) (s : Nat) (w : World) (g n k : Nat) (L : List α) : Prop :=
  ∃ cur : Array Value, w.heap[g]? = some (.cells cur t (0, 0)) ∧ cur.size = n * s ∧ ∀ j (h : j < k) (h' : j < L.length) r, r < s → cur[j * s + r]? = (enc L[j])[r]?
theorem FilledE.cells {t : TypeId} {enc : α → List Value} {s : Nat} {w : World} {g n k : Nat} {L : List α} (h : FilledE t enc s w g n k L) : (∀ o, w.frozen? ⟨g, o, none⟩ = false) ∧ g < w.heap.size ∧ ∀ o, o < n * s → ∃ v, w.cell? ⟨g, o, none⟩ = some v := by
  obtain ⟨cur, hb, hs, _⟩ := h
  refine ⟨fun o => by simp [World.frozen?, hb], (Array.getElem?_eq_some_iff.1 hb).1, fun o ho => ⟨cur[o]'(by omega), ?_⟩⟩
  simp [World.cell?, hb, show o < cur.size from by omega]
theorem FilledE.bl {t : TypeId} {enc : α → List Value} {s : Nat} {w w' : World} {g n k : Nat} {L : List α} (h : FilledE t enc s w g n k L) (hb : Bl w w') : FilledE t enc s w' g n k L := by
  obtain ⟨cur, hc, hs, hf⟩ := h
  exact ⟨cur, (hb.block (Array.getElem?_eq_some_iff.1 hc).1).trans hc, hs, hf⟩
theorem FilledE.own {t : TypeId} {enc : α → List Value} {s : Nat} (he : ∀ a, (enc a).length = s) {w : World} {B g n : Nat} {L : List α} (h : FilledE t enc s w g n n L) (hn : n = L.length) (hm : n ≤ 1048576) (hB : B ≤ g) : Owns t s w B (.slice (some ⟨g, 0, none⟩) n n) L.length (csE enc L) := by
  obtain ⟨cur, hb, hs, hf⟩ := h
  subst hn
  refine ⟨by rw [csE_length he], .inr ⟨g, L.length, cur, rfl, hB, hb, Nat.le_refl _, by unfold maxLen; omega, hs, ?_⟩⟩
  rw [List.take_of_length_le (by simp; omega)]
  exact csE_ext he (by simpa using hs) fun j hj r hr => by simpa using hf j hj hj r hr
end

/-- The block that is written when n elements at A are. -/
def rowOf (A : Option Addr) (n : Nat) : Option Nat := if n = 0 then none else blockOf A
theorem rowOf_pos {A : Option Addr} {n g : Nat} (h : rowOf A n = some g) : 0 < n ∧ blockOf A = some g := by
  unfold rowOf at h
  split at h
  · exact absurd h (by simp)
  · exact ⟨by omega, h⟩
/-- The value v owns n elements of s cells, in blocks from B on; where there are none it may lead wherever. -/
def OwnsZ (t : TypeId) (s : Nat) (w : World) (B : Nat) (v : Value) (n : Nat) (vs : List Value) : Prop := Owns t s w B v n vs ∨ n = 0 ∧ vs = [] ∧ ∃ A, v = .slice A 0 0
theorem OwnsZ.of {t : TypeId} {s : Nat} {w : World} {B : Nat} {v : Value} {n : Nat} {vs : List Value} (h : Owns t s w B v n vs) : OwnsZ t s w B v n vs := .inl h
theorem OwnsZ.bl {t : TypeId} {s : Nat} {w w' : World} {B : Nat} {v : Value} {n : Nat} {vs : List Value} (h : OwnsZ t s w B v n vs) (hb : Bl w w') : OwnsZ t s w' B v n vs := h.imp (fun h => Owns.bl h hb) id
theorem OwnsZ.low {t : TypeId} {s : Nat} {w : World} {B B' : Nat} {v : Value} {n : Nat} {vs : List Value} (h : OwnsZ t s w B' v n vs) (hB : B ≤ B') : OwnsZ t s w B v n vs := h.imp (fun h => Owns.low h hB) id
theorem OwnsZ.shape {t : TypeId} {s : Nat} {w : World} {B : Nat} {v : Value} {n : Nat} {vs : List Value} (h : OwnsZ t s w B v n vs) :
    ∃ A c, v = .slice A n c ∧ c ≤ maxLen ∧ n ≤ c ∧ CellsAt w w.heap.size A vs ∧ RowsW t s w A n ∧ (∀ g, rowOf A n = some g → B ≤ g ∧ g < w.heap.size) ∧ (∀ g, rowOf A n = some g → ∀ g', blockOf A = some g' → g = g') := by
  rcases h with h | ⟨rfl, rfl, A, rfl⟩
  · have h' := h
    obtain ⟨A, c, rfl, hc, h1, h2, _⟩ := Owns.shape h
    refine ⟨A, c, rfl, hc, ?_, h1, h2, fun g hg => Owns.lt_ h g (rowOf_pos hg).2, fun g hg g' hg' => by
      have := (rowOf_pos hg).2
      rw [hg'] at this
      injection this with this
      exact this.symm⟩
    rcases h'.2 with ⟨e, h0⟩ | ⟨g, cap, cur, e, _, _, hnc, _⟩
    · omega
    · injection e with e1 e2 e3
      omega
  · exact ⟨A, 0, rfl, by unfold maxLen; omega, by omega, CellsAt.nil_ _ _ _, fun h => absurd h (by omega), fun g hg => by have := (rowOf_pos hg).1; omega, fun g hg => by have := (rowOf_pos hg).1; omega⟩

def encF (f : Fl) : List Value := [.string f.1, .string f.2]
def encO (o : Dp) : List Value := [.int .i64 o.kind, .string o.name, .string o.to, .string o.data]
theorem encF_len (f : Fl) : (encF f).length = 2 := rfl
theorem encO_len (o : Dp) : (encO o).length = 4 := rfl
theorem encF_one (f : Fl) : ∀ u ∈ encF f, u.oneCell' = true := fun u hu => by
  simp only [encF, List.mem_cons, List.not_mem_nil, or_false] at hu
  rcases hu with rfl | rfl <;> rfl
theorem encO_one (o : Dp) : ∀ u ∈ encO o, u.oneCell' = true := fun u hu => by
  simp only [encO, List.mem_cons, List.not_mem_nil, or_false] at hu
  rcases hu with rfl | rfl | rfl | rfl <;> rfl
def FilesAt (w : World) (B : Nat) (A : Option Addr) (L : List Fl) : Prop := CellsAt w B A (csE encF L)
def OpsAt (w : World) (B : Nat) (A : Option Addr) (L : List Dp) : Prop := CellsAt w B A (csE encO L)
theorem FilesAt.cell {w : World} {B : Nat} {A : Option Addr} {L : List Fl} (h : FilesAt w B A L) (h0 : 0 < L.length) :
    ∃ g off, A = some ⟨g, off, none⟩ ∧ g < B ∧ ∀ k (hk : k < L.length), w.cell? ⟨g, off + k * 2, none⟩ = some (.string L[k].1) ∧ w.cell? ⟨g, off + k * 2 + 1, none⟩ = some (.string L[k].2) := by
  obtain ⟨g, off, e, hg, hc⟩ := csE_cells encF_len h h0 (by omega)
  exact ⟨g, off, e, hg, fun k hk => ⟨hc k hk 0 _ rfl, hc k hk 1 _ rfl⟩⟩
theorem OpsAt.cell {w : World} {B : Nat} {A : Option Addr} {L : List Dp} (h : OpsAt w B A L) (h0 : 0 < L.length) :
    ∃ g off, A = some ⟨g, off, none⟩ ∧ g < B ∧ ∀ k (hk : k < L.length), w.cell? ⟨g, off + k * 4, none⟩ = some (.int .i64 L[k].kind) ∧ w.cell? ⟨g, off + k * 4 + 1, none⟩ = some (.string L[k].name) ∧
      w.cell? ⟨g, off + k * 4 + 2, none⟩ = some (.string L[k].to) ∧ w.cell? ⟨g, off + k * 4 + 3, none⟩ = some (.string L[k].data) := by
  obtain ⟨g, off, e, hg, hc⟩ := csE_cells encO_len h h0 (by omega)
  exact ⟨g, off, e, hg, fun k hk => ⟨hc k hk 0 _ rfl, hc k hk 1 _ rfl, hc k hk 2 _ rfl, hc k hk 3 _ rfl⟩⟩
theorem FilesAt.bl {w w' : World} {A : Option Addr} {L : List Fl} (h : FilesAt w w.heap.size A L) (hb : Bl w w') : FilesAt w' w'.heap.size A L := CellsAt.bl h hb
theorem FilesAt.bl' {w w' : World} {B : Nat} {A : Option Addr} {L : List Fl} (h : FilesAt w B A L) (hB : B ≤ w.heap.size) (hb : Bl w w') : FilesAt w' B A L := CellsAt.bl' h hB hb
theorem FilesAt.more {w : World} {B B' : Nat} {A : Option Addr} {L : List Fl} (h : FilesAt w B A L) (hB : B ≤ B') : FilesAt w B' A L := CellsAt.more h hB
theorem FilesAt.grown_ {w w' : World} {B : Nat} {A : Option Addr} {L : List Fl} {row : Option Nat} (h : FilesAt w B A L) (hB : B ≤ w.heap.size) (hg : w.grownBy w' row)
    (hne : ∀ g, blockOf A = some g → g < B → some g ≠ row) : FilesAt w' B A L := CellsAt.grown_ h hB hg hne
theorem OpsAt.bl {w w' : World} {A : Option Addr} {L : List Dp} (h : OpsAt w w.heap.size A L) (hb : Bl w w') : OpsAt w' w'.heap.size A L := CellsAt.bl h hb
theorem OpsAt.bl' {w w' : World} {B : Nat} {A : Option Addr} {L : List Dp} (h : OpsAt w B A L) (hB : B ≤ w.heap.size) (hb : Bl w w') : OpsAt w' B A L := CellsAt.bl' h hB hb
theorem OpsAt.more {w : World} {B B' : Nat} {A : Option Addr} {L : List Dp} (h : OpsAt w B A L) (hB : B ≤ B') : OpsAt w B' A L := CellsAt.more h hB
theorem OpsAt.grown_ {w w' : World} {B : Nat} {A : Option Addr} {L : List Dp} {row : Option Nat} (h : OpsAt w B A L) (hB : B ≤ w.heap.size) (hg : w.grownBy w' row)
    (hne : ∀ g, blockOf A = some g → g < B → some g ≠ row) : OpsAt w' B A L := CellsAt.grown_ h hB hg hne
def OwnF (w : World) (B : Nat) (v : Value) (L : List Fl) : Prop := Owns 89 2 w B v L.length (csE encF L)
def OwnO (w : World) (B : Nat) (v : Value) (L : List Dp) : Prop := Owns 45 4 w B v L.length (csE encO L)
def OwnFZ (w : World) (B : Nat) (v : Value) (L : List Fl) : Prop := OwnsZ 89 2 w B v L.length (csE encF L)
def OwnOZ (w : World) (B : Nat) (v : Value) (L : List Dp) : Prop := OwnsZ 45 4 w B v L.length (csE encO L)
def FilesW (w : World) (A : Option Addr) (n : Nat) : Prop := RowsW 89 2 w A n
def OpsW (w : World) (A : Option Addr) (n : Nat) : Prop := RowsW 45 4 w A n
theorem infoFile : (Try.prog.info? 89).map (fun i => (i.zero, i.size, i.bytes)) = some (some (.agg #[.string ⟨#[]⟩, .string ⟨#[]⟩]), 2, 32) := by kernel_rfl
theorem infoDOp : (Try.prog.info? 45).map (fun i => (i.zero, i.size, i.bytes)) = some (some (.agg #[.int .i64 0, .string ⟨#[]⟩, .string ⟨#[]⟩, .string ⟨#[]⟩]), 4, 56) := by kernel_rfl

/-- How much files and ops take of what is left. -/
def szFl (f : Fl) : Nat := f.1.size + f.2.size
def szDp (o : Dp) : Nat := o.name.size + o.to.size + o.data.size
def szL {α : Type} (sz : α → Nat) (L : List α) : Nat := (L.map sz).sum
theorem szL_take {α : Type} (sz : α → Nat) : ∀ (L : List α) (k : Nat) (h : k < L.length), szL sz (L.take (k + 1)) = szL sz (L.take k) + sz L[k]
  | a :: l, 0, _ => by simp [szL]
  | a :: l, k + 1, h => by
    have := szL_take sz l k (by simpa using h)
    simp only [szL, List.take_succ_cons, List.map_cons, List.sum_cons, List.getElem_cons_succ] at this ⊢
    omega
theorem szL_le {α : Type} (sz : α → Nat) (L : List α) (k : Nat) : szL sz (L.take k) ≤ szL sz L := by
  have h : szL sz L = szL sz (L.take k) + szL sz (L.drop k) := by
    unfold szL
    rw [← List.sum_append, ← List.map_append, List.take_append_drop]
  omega
theorem szL_at {α : Type} (sz : α → Nat) (L : List α) (k : Nat) (h : k < L.length) : sz L[k] ≤ szL sz L := by
  have h1 := szL_take sz L k h
  have h2 := szL_le sz L (k + 1)
  omega
/-- What is left; -1: nothing. -/
def leftI (l : Int) (n : Nat) : Int := if l - n < 0 then -1 else l - n
theorem leftI_neg {l : Int} {n : Nat} (h : l - n < 0) : leftI l n = -1 := if_pos h
theorem leftI_pos {l : Int} {n : Nat} (h : ¬ l - n < 0) : leftI l n = l - n := if_neg h

set_option maxHeartbeats 400000 in
theorem szFile_any (f : Fl) (l : Int) (w : World) (h1 : f.1.size ≤ 9223372036854775807) (h2 : f.2.size ≤ 9223372036854775807) (hl0 : 0 ≤ l) (hl1 : l ≤ 1048576) :
    Calls Try.prog 92 #[.agg #[.string f.1, .string f.2], .int .i64 l] w fun e w' => e = .returned (.int .i64 (leftI l (szFl f))) ∧ Bl w w' := by
  obtain ⟨a, b⟩ := f
  simp only at h1 h2 ⊢
  have HZ := Lib.hid (show szFl (a, b) = a.size + b.size from rfl)
  by_cases c1 : l - a.size < 0
  · go_enter Try.func92, Try.ntmps92
    go_wp2
    go_ret
    exact ⟨ret_int (by rw [HZ.out]; first | exact (leftI_neg (by omega)).symm | (rw [leftI_neg (by omega)])), (by repeat' (first | exact Bl.refl _ | with_reducible assumption | with_reducible refine Bl.drew_ ?_ | with_reducible refine Bl.drewN_ ?_ _ | with_reducible refine Bl.alloc_ ?_ _ | with_reducible refine Bl.trans_ ?_ (by assumption) | with_reducible refine Bl.trans_ ?_ (And.left (by assumption))))⟩
  · by_cases c2 : l - a.size - b.size < 0
    · go_enter Try.func92, Try.ntmps92
      go_wp2
      go_ret
      exact ⟨ret_int (by rw [HZ.out]; rw [leftI_neg (by omega)]), (by repeat' (first | exact Bl.refl _ | with_reducible assumption | with_reducible refine Bl.drew_ ?_ | with_reducible refine Bl.drewN_ ?_ _ | with_reducible refine Bl.alloc_ ?_ _ | with_reducible refine Bl.trans_ ?_ (by assumption) | with_reducible refine Bl.trans_ ?_ (And.left (by assumption))))⟩
    · go_enter Try.func92, Try.ntmps92
      go_wp2
      go_ret
      exact ⟨ret_int (by rw [HZ.out]; rw [leftI_pos (by omega)]; omega), (by repeat' (first | exact Bl.refl _ | with_reducible assumption | with_reducible refine Bl.drew_ ?_ | with_reducible refine Bl.drewN_ ?_ _ | with_reducible refine Bl.alloc_ ?_ _ | with_reducible refine Bl.trans_ ?_ (by assumption) | with_reducible refine Bl.trans_ ?_ (And.left (by assumption))))⟩
set_option maxHeartbeats 400000 in
theorem szDOp_any (o : Dp) (l : Int) (w : World) (h1 : o.name.size ≤ 9223372036854775807) (h2 : o.to.size ≤ 9223372036854775807) (h3 : o.data.size ≤ 9223372036854775807) (hl0 : 0 ≤ l) (hl1 : l ≤ 1048576) :
    Calls Try.prog 24 #[.agg #[.int .i64 o.kind, .string o.name, .string o.to, .string o.data], .int .i64 l] w fun e w' => e = .returned (.int .i64 (leftI l (szDp o))) ∧ Bl w w' := by
  obtain ⟨q, a, b, c⟩ := o
  simp only at h1 h2 h3 ⊢
  have HZ := Lib.hid (show szDp ⟨q, a, b, c⟩ = a.size + b.size + c.size from rfl)
  by_cases c1 : l - a.size < 0
  · go_enter Try.func24, Try.ntmps24
    go_wp2
    go_ret
    exact ⟨ret_int (by rw [HZ.out]; rw [leftI_neg (by omega)]), (by repeat' (first | exact Bl.refl _ | with_reducible assumption | with_reducible refine Bl.drew_ ?_ | with_reducible refine Bl.drewN_ ?_ _ | with_reducible refine Bl.alloc_ ?_ _ | with_reducible refine Bl.trans_ ?_ (by assumption) | with_reducible refine Bl.trans_ ?_ (And.left (by assumption))))⟩
  · by_cases c2 : l - a.size - b.size < 0
    · go_enter Try.func24, Try.ntmps24
      go_wp2
      go_ret
      exact ⟨ret_int (by rw [HZ.out]; rw [leftI_neg (by omega)]), (by repeat' (first | exact Bl.refl _ | with_reducible assumption | with_reducible refine Bl.drew_ ?_ | with_reducible refine Bl.drewN_ ?_ _ | with_reducible refine Bl.alloc_ ?_ _ | with_reducible refine Bl.trans_ ?_ (by assumption) | with_reducible refine Bl.trans_ ?_ (And.left (by assumption))))⟩
    · by_cases c3 : l - a.size - b.size - c.size < 0
      · go_enter Try.func24, Try.ntmps24
        go_wp2
        go_ret
        exact ⟨ret_int (by rw [HZ.out]; rw [leftI_neg (by omega)]), (by repeat' (first | exact Bl.refl _ | with_reducible assumption | with_reducible refine Bl.drew_ ?_ | with_reducible refine Bl.drewN_ ?_ _ | with_reducible refine Bl.alloc_ ?_ _ | with_reducible refine Bl.trans_ ?_ (by assumption) | with_reducible refine Bl.trans_ ?_ (And.left (by assumption))))⟩
      · go_enter Try.func24, Try.ntmps24
        go_wp2
        go_ret
        exact ⟨ret_int (by rw [HZ.out]; rw [leftI_pos (by omega)]; omega), (by repeat' (first | exact Bl.refl _ | with_reducible assumption | with_reducible refine Bl.drew_ ?_ | with_reducible refine Bl.drewN_ ?_ _ | with_reducible refine Bl.alloc_ ?_ _ | with_reducible refine Bl.trans_ ?_ (by assumption) | with_reducible refine Bl.trans_ ?_ (And.left (by assumption))))⟩

end Go.Proofs.Ytipmjgciaalmbaa
