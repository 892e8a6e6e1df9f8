/-
  What is proved here: a range over a function whose iterator keeps a state of its own in memory: a law for the statement, where a contract of the iterator is given; arrays of 24 numbers, in blocks of their own; a whole array is loaded and stored by laws; the sum that stands in a frame: plain words on numbers; the program's sum of a text; contracts of the laws' small functions on slices of texts; rows of files and of ops in memory. No conditions beyond those that each theorem states.
-/
import Derived.Test.YtgfmgmcpfefmkaaV7G01
import Derived.RangeFuncNested
import Derived.RangeFuncBound
import Derived.RangeFuncCalls
import Derived.RangeFuncLeaves
import Derived.Shelf.Abstract
import Derived.Shelf.RegionOpen
import Derived.OwnWalkIn
import Derived.TacticsInMore
import Derived.LoopNIn
import Derived.LoopIn
import Derived.Deep.MidRow
import Derived.Laws.Rows
import Derived.Laws.BitsAllLaws
import Derived.Laws.Shifts
import Derived.Laws.IdiomStrings
set_option linter.unusedSimpArgs false
set_option linter.unusedVariables false
namespace Go.Proofs.Ytgfmgmcpfefmkaa
open Go.RowKit

/-- A change that is made to blocks of K alone, and to new ones; what of them is still held is K'. -/
def Step (K K' : Nat → Prop) (w w' : World) : Prop := Turn K w w' ∧ ∀ i, K' i → K i ∨ w.heap.size ≤ i
theorem Step.refl (K : Nat → Prop) (w : World) : Step K K w w := ⟨Turn.refl _ _, fun i h => .inl h⟩
theorem Step.trans {K1 K2 K3 : Nat → Prop} {a b c : World} (h : Step K1 K2 a b) (k : Step K2 K3 b c) : Step K1 K3 a c :=
  ⟨h.1.trans k.1 (fun i hi h2 => (h.2 i h2).resolve_right (by omega)), fun i hi => by
    rcases k.2 i hi with h' | h'
    · exact h.2 i h'
    · exact .inr (Nat.le_trans h.1.size h')⟩
theorem Step.out {K K' : Nat → Prop} {w w' : World} (h : Step K K' w w') {i : Nat} (hi : i < w.heap.size) (hn : ¬ K i) : ¬ K' i := fun h' => (h.2 i h').elim hn (by omega)





variable {P : Program}

end Go.Proofs.Ytgfmgmcpfefmkaa

set_option linter.unusedSimpArgs false
set_option linter.unusedVariables false
namespace Go.Proofs.Ytgfmgmcpfefmkaa
open Go.RowKit


/-- The cells of numbers. -/
def csI (V : List Int) : List Value := V.map (.int .i64)
theorem csI_at {V : List Int} {k : Nat} (h : k < (csI V).length) : (csI V)[k] = .int .i64 (V[k]'(by simpa [csI] using h)) := by simp [csI]
theorem csI_len (V : List Int) : (csI V).length = V.length := by simp [csI]


theorem Turn.cells {S : Nat → Prop} {w w' : World} (h : Turn S w w') {g : Nat} (hg : g < w.heap.size) (hS : ¬ S g) (o : Nat) : w'.cell? ⟨g, o, none⟩ = w.cell? ⟨g, o, none⟩ ∧ w'.frozen? ⟨g, o, none⟩ = w.frozen? ⟨g, o, none⟩ :=
  ⟨World.cell?_of_block (h.block g hg hS), World.frozen?_of_block (h.block g hg hS)⟩

/-- An array of 24 numbers. -/
structure NumsAt (w : World) (b : Nat) (E : List Int) : Prop where
  lt : b < w.heap.size
  len : E.length = 24
  cell : ∀ i (h : i < E.length), w.cell? ⟨b, i, none⟩ = some (.int .i64 E[i])
  free : ∀ i, i < 24 → w.frozen? ⟨b, i, none⟩ = false
theorem NumsAt.turn {w w' : World} {b : Nat} {E : List Int} (h : NumsAt w b E) {S : Nat → Prop} (k : Turn S w w') (hS : ¬ S b) : NumsAt w' b E :=
  ⟨Nat.lt_of_lt_of_le h.lt k.size, h.len, fun i hi => (k.cells h.lt hS i).1.trans (h.cell i hi), fun i hi => (k.cells h.lt hS i).2.trans (h.free i hi)⟩
theorem NumsAt.bl {w w' : World} {b : Nat} {E : List Int} (h : NumsAt w b E) (k : Bl w w') : NumsAt w' b E := h.turn (Turn.of_bl (S := fun _ => False) k) id
theorem NumsAt.set {w : World} {b : Nat} {E : List Int} (h : NumsAt w b E) {u : Nat} (x : Int) : NumsAt (w.setCell ⟨b, u, none⟩ (.int .i64 x)) b (E.set u x) := by
  refine ⟨by simpa using h.lt, by simpa using h.len, fun i hi => ?_, fun i hi => by rw [World.frozen?_setCell]; exact h.free i hi⟩
  rw [List.length_set] at hi
  rw [List.getElem_set]
  by_cases e : u = i
  · subst e
    rw [World.cell?_setCell_same' _ _ _ (by rw [h.cell u hi]; rfl), if_pos rfl]
  · rw [World.cell?_setCell_other _ _ _ _ (by intro e'; injection e' with _ e2; exact e e2), h.cell i hi, if_neg e]
theorem NumsAt.range {w : World} {b : Nat} {E : List Int} (h : NumsAt w b E) : w.rangeAt b 0 (csI E) := fun j v hv => by
  obtain ⟨hj, rfl⟩ := List.getElem?_eq_some_iff.1 hv
  rw [csI_len] at hj
  rw [Nat.zero_add, csI_at]
  exact h.cell j hj
theorem setCells_size (b : Nat) : ∀ (vs : List Value) (o : Nat) (w : World), (w.setCells b o vs).heap.size = w.heap.size
  | [], _, _ => rfl
  | v :: r, o, w => by
    rw [World.setCells, setCells_size b r]
    simp
/-- 24 numbers that are stored over 24 cells lie there. -/
theorem NumsAt.stored {w : World} {b : Nat} {E : List Int} (hE : E.length = 24) (hl : b < w.heap.size) (ht : w.there b 0 24) : NumsAt (w.setCells b 0 (csI E)) b E := by
  have hr := World.rangeAt_setCells_same w b 0 (csI E) (by rw [csI_len, hE]; exact ht)
  refine ⟨by rw [setCells_size]; exact hl, hE, fun i hi => ?_, fun i hi => ?_⟩
  · have := hr i (.int .i64 E[i]) (by rw [List.getElem?_eq_getElem (by rw [csI_len]; exact hi), csI_at])
    rwa [Nat.zero_add] at this
  · rw [World.frozen?_setCells]
    have := (ht i hi).2
    rwa [Nat.zero_add] at this


end Go.Proofs.Ytgfmgmcpfefmkaa

set_option linter.unusedSimpArgs false
set_option linter.unusedVariables false
namespace Go.Proofs.Ytgfmgmcpfefmkaa
open Go.RowKit



end Go.Proofs.Ytgfmgmcpfefmkaa

set_option linter.unusedSimpArgs false
set_option linter.unusedVariables false
namespace Go.Proofs.Ytgfmgmcpfefmkaa
open Go.RowKit


theorem conv_new (w : World) (l : List UInt8) (C : Array Value) (t : TypeId) (n : Nat) (hn : l.length = n) (hC : ∀ j (hj : j < l.length), C[j]? = some (.int .u8 (l[j].toNat : Int))) :
    (convert 44 9 (.slice (some ⟨w.heap.size, 0, none⟩) n n)).run Try.prog (w.alloc (.cells C t)) = .ok (.string ⟨l.toArray⟩) (w.alloc (.cells C t)) := by
  subst hn
  refine run_convert_bytes_back (P := Try.prog) _ 44 9 5 _ _ l (by kernel_rfl) (by kernel_rfl) (by kernel_rfl) (fun j hj => ?_)
  rw [Addr.add_lit, Nat.zero_add, World.cell?_alloc_mark]
  exact hC j hj
theorem u8_cell (a : Nat) : ((UInt8.ofNat a).toNat : Int) = (a : Int) % 256 := by
  rw [UInt8.toNat_ofNat']
  omega

end Go.Proofs.Ytgfmgmcpfefmkaa

set_option linter.unusedSimpArgs false
set_option linter.unusedVariables false
namespace Go.Proofs.Ytgfmgmcpfefmkaa
open Go.RowKit


/-- The cells of texts. -/
def csS (V : List ByteArray) : List Value := V.map .string
theorem csS_at {V : List ByteArray} {k : Nat} (h : k < (csS V).length) : (csS V)[k] = .string (V[k]'(by simpa [csS] using h)) := by simp [csS]
theorem csS_len (V : List ByteArray) : (csS V).length = V.length := by simp [csS]
/-- The slice at A reads as the texts V, below block B. -/
def StrsAt (w : World) (B : Nat) (A : Option Addr) (V : List ByteArray) : Prop := CellsAt w B A (csS V)
theorem StrsAt.cell {w : World} {B : Nat} {A : Option Addr} {V : List ByteArray} (h : StrsAt w B A V) (h0 : 0 < V.length) :
    ∃ g off, A = some ⟨g, off, none⟩ ∧ g < B ∧ ∀ k (hk : k < V.length), w.cell? ⟨g, off + k, none⟩ = some (.string V[k]) := by
  obtain ⟨g, off, e, hg, hc⟩ := h (by rw [csS_len]; omega)
  exact ⟨g, off, e, hg, fun k hk => by rw [hc k (by rw [csS_len]; exact hk), csS_at]⟩
theorem StrsAt.bl {w w' : World} {A : Option Addr} {V : List ByteArray} (h : StrsAt w w.heap.size A V) (hb : Bl w w') : StrsAt w' w'.heap.size A V := CellsAt.bl h hb
theorem StrsAt.more {w : World} {B B' : Nat} {A : Option Addr} {V : List ByteArray} (h : StrsAt w B A V) (hB : B ≤ B') : StrsAt w B' A V := CellsAt.more h hB
theorem StrsAt.grown_ {w w' : World} {B : Nat} {A : Option Addr} {V : List ByteArray} {row : Option Nat} (h : StrsAt w B A V) (hB : B ≤ w.heap.size) (hg : w.grownBy w' row)
    (hne : ∀ g, blockOf A = some g → g < B → some g ≠ row) : StrsAt w' B A V := CellsAt.grown_ h hB hg hne
/-- The value v owns the texts V, in blocks from B on. -/
def OwnS (w : World) (B : Nat) (v : Value) (V : List ByteArray) : Prop := Owns 9 1 w B v V.length (csS V)
theorem OwnS.nil_ (w : World) (B : Nat) : OwnS w B (.slice none 0 0) [] := Owns.nil_ _ _ _ _
theorem OwnS.bl {w w' : World} {B : Nat} {v : Value} {V : List ByteArray} (h : OwnS w B v V) (hb : Bl w w') : OwnS w' B v V := Owns.bl h hb
theorem OwnS.low {w : World} {B B' : Nat} {v : Value} {V : List ByteArray} (h : OwnS w B' v V) (hB : B ≤ B') : OwnS w B v V := Owns.low h hB
theorem OwnS.shape {w : World} {B : Nat} {v : Value} {V : List ByteArray} (h : OwnS w B v V) :
    ∃ A c, v = .slice A V.length c ∧ V.length ≤ c ∧ StrsAt w w.heap.size A V ∧ RowsW 9 1 w A V.length ∧ ∀ g, blockOf A = some g → B ≤ g ∧ g < w.heap.size := by
  have h' := h
  obtain ⟨A, c, rfl, hc, h1, h2, h3⟩ := Owns.shape h
  refine ⟨A, c, rfl, ?_, h1, h2, Owns.lt_ h⟩
  rcases h'.2 with ⟨e, h0⟩ | ⟨g, cap, cur, e, _, _, hnc, _⟩
  · omega
  · injection e with e1 e2 e3
    omega

theorem str_self (s : ByteArray) : (s.toList == s.toList) = true := by simp


/-- The digits of k, ahead of a text. -/
def digs : Nat → Nat → ByteArray → ByteArray
  | 0, _, o => o
  | f + 1, k, o => if k = 0 then o else digs f (k / 10) ((⟨#[UInt8.ofNat (48 + k % 10)]⟩ : ByteArray) ++ o)
theorem digs_fuel : ∀ (f f' k : Nat) (o : ByteArray), k < f → k < f' → digs f k o = digs f' k o
  | 0, _, _, _, h, _ => by omega
  | _, 0, _, _, _, h => by omega
  | f + 1, f' + 1, k, o, h, h' => by
    unfold digs
    by_cases e : k = 0
    · rw [if_pos e, if_pos e]
    · rw [if_neg e, if_neg e]
      exact digs_fuel f f' _ _ (by omega) (by omega)
def dig (k : Nat) (o : ByteArray) : ByteArray := digs (k + 1) k o
theorem dig_zero (o : ByteArray) : dig 0 o = o := by simp [dig, digs]
theorem dig_step {k : Nat} (h : 0 < k) (o : ByteArray) : dig k o = dig (k / 10) ((⟨#[UInt8.ofNat (48 + k % 10)]⟩ : ByteArray) ++ o) := by
  show (if k = 0 then o else digs k (k / 10) _) = _
  rw [if_neg (by omega)]
  exact digs_fuel _ _ _ _ (by omega) (by omega)
/-- The text of a mark. -/
def markB (k : Int) : ByteArray := if k ≤ 0 then ⟨#[109, 48]⟩ else (⟨#[109]⟩ : ByteArray) ++ dig k.toNat ⟨#[]⟩

theorem conv_one (w : World) (d : Nat) (hd : d < 256) :
    (convert 44 9 (.slice (some ⟨w.heap.size, 0, none⟩) 1 1)).run Try.prog (w.alloc (.cells #[.int .u8 (d : Int)] 5)) = .ok (.string ⟨#[UInt8.ofNat d]⟩) (w.alloc (.cells #[.int .u8 (d : Int)] 5)) := by
  refine conv_new w [UInt8.ofNat d] _ _ 1 rfl (fun j hj => ?_)
  have h1 := u8_cell d
  match j, hj with
  | 0, _ => show some _ = some _; simp only [List.getElem_cons_zero]; rw [h1, show (d : Int) % 256 = (d : Int) from by omega]; rfl

set_option maxRecDepth 100000 in
set_option maxHeartbeats 1000000 in
theorem markText_any (k : Int) (hk : k ≤ 1099511627776) (w : World) :
    Calls Try.prog 82 #[.int .i64 k] w fun e w' => (∃ z, e = .returned (.string z) ∧ z = markB k) ∧ Bl w w' := by
  by_cases h0 : k ≤ 0
  · go_enter Try.func82, Try.ntmps82
    go_wp2
    refine bodyPost_ret (v := .string ⟨#[109, 48]⟩) (by simp [results, Try.results82, go_sem]) rfl ⟨⟨_, rfl, ?_⟩, (by repeat' (first | exact Bl.refl _ | with_reducible assumption | with_reducible refine Bl.drew_ ?_ | with_reducible refine Bl.drewN_ ?_ _ | with_reducible refine Bl.alloc_ ?_ _ | with_reducible refine Bl.trans_ ?_ (by assumption) | with_reducible refine Bl.trans_ ?_ (And.left (by assumption))))⟩
    unfold markB; rw [if_pos h0]
  · obtain ⟨q, rfl⟩ : ∃ q : Nat, k = (q : Int) := ⟨k.toNat, by omega⟩
    go_enter Try.func82, Try.ntmps82
    go_wp2
    go_loopw [0, 3] (fun i o wr => ∃ (j : Nat) (z : ByteArray), j ≤ q ∧ i = .int .i64 (j : Int) ∧ o = .string z ∧ z.size + j ≤ q ∧ Hid (dig j z = dig q ⟨#[]⟩) ∧ Bl w wr) (fun i _ _ => (intOf i).toNat)
    case atStart => exact ⟨q, _, by omega, rfl, rfl, by simp [ByteArray.size], Lib.hid rfl, Bl.refl w⟩
    case round =>
      obtain ⟨j, z, hj, rfl, rfl, hz, HD, hbl⟩ := hrel
      by_cases hlt : 0 < j
      · have HS := Lib.hid (dig_step hlt z)
        have hcv := conv_one wr (48 + j % 10) (by omega)
        have e1 : (((48 + j % 10 : Nat)) : Int) = 48 + (j : Int) % 10 := by omega
        rw [e1] at hcv
        have i1 : (0 : Int) < (j : Int) := by omega
        have hs1 : (⟨#[UInt8.ofNat (48 + j % 10)]⟩ : ByteArray).size = 1 := rfl
        generalize (⟨#[UInt8.ofNat (48 + j % 10)]⟩ : ByteArray) = y at hcv HS hs1
        go_wp2
        go_roundw
        case rel =>
          have hsz : (y ++ z).size = 1 + z.size := by rw [ByteArray.size_append, hs1]
          refine ⟨j / 10, y ++ z, by omega, by go_num, rfl, by omega, Lib.hid ?_, (by repeat' (first | exact Bl.refl _ | with_reducible assumption | with_reducible refine Bl.drew_ ?_ | with_reducible refine Bl.drewN_ ?_ _ | with_reducible refine Bl.alloc_ ?_ _ | with_reducible refine Bl.trans_ ?_ (by assumption) | with_reducible refine Bl.trans_ ?_ (And.left (by assumption))))⟩
          rw [← HS.out]; exact HD.out
        case measure => simp [intOf]; omega
      · obtain rfl : j = 0 := by omega
        go_wp2
        refine bodyPost_ret (v := .string ((⟨#[109]⟩ : ByteArray) ++ z)) (by simp [results, Try.results82, go_sem]) rfl ⟨⟨_, rfl, ?_⟩, hbl⟩
        have e := HD.out
        rw [dig_zero] at e
        unfold markB
        rw [if_neg (by omega), e]
        rfl

/-- N cells from A on hold the texts of the marks from k on. -/
def MarkS (w : World) (A : Option Addr) (N : Nat) (k : Int) : Prop := 0 < N → ∃ g off, A = some ⟨g, off, none⟩ ∧ g < w.heap.size ∧ ∀ j, j < N → w.cell? ⟨g, off + j, none⟩ = some (.string (markB (k + j)))
theorem MarkS.bl {w w' : World} {A : Option Addr} {n : Nat} {k : Int} (h : MarkS w A n k) (hb : Bl w w') : MarkS w' A n k := fun h0 => by
  obtain ⟨g, off, e, hg, hc⟩ := h h0
  have hh := (bcell hb).1
  exact ⟨g, off, e, Nat.lt_of_lt_of_le hg hb.size, fun j hj => by rw [hh _ _ hg]; exact hc j hj⟩



end Go.Proofs.Ytgfmgmcpfefmkaa

set_option linter.unusedSimpArgs false
set_option linter.unusedVariables false
namespace Go.Proofs.Ytgfmgmcpfefmkaa
open Go.RowKit

section
variable {α : Type}
/-- The cells of a list of elements. -/
def csE (enc : α → List Value) : List α → List Value
  | [] => []
  | a :: l => enc a ++ csE enc l
theorem csE_append (enc : α → List Value) : ∀ (l m : List α), csE enc (l ++ m) = csE enc l ++ csE enc m
  | [], _ => rfl
  | a :: l, m => by simp [csE, csE_append enc l m]
theorem csE_length {enc : α → List Value} {s : Nat} (h : ∀ a, (enc a).length = s) : ∀ (l : List α), (csE enc l).length = l.length * s
  | [] => by simp [csE]
  | a :: l => by simp [csE, csE_length h l, h a, Nat.add_mul]; omega
theorem csE_at {enc : α → List Value} {s : Nat} (h : ∀ a, (enc a).length = s) : ∀ (l : List α) (k r : Nat) (hk : k < l.length), r < s → (csE enc l)[k * s + r]? = (enc l[k])[r]?
  | a :: l, 0, r, _, hr => by
    rw [Nat.zero_mul, Nat.zero_add]
    show (enc a ++ csE enc l)[r]? = (enc a)[r]?
    rw [List.getElem?_append_left (by rw [h a]; exact hr)]
  | a :: l, k + 1, r, hk, hr => by
    have e : (k + 1) * s + r = s + (k * s + r) := by rw [Nat.add_mul]; omega
    show (enc a ++ csE enc l)[(k + 1) * s + r]? = _
    rw [e, List.getElem?_append_right (by rw [h a]; omega), h a, Nat.add_sub_cancel_left, csE_at h l k r (by simpa using hk) hr]
    rfl
theorem csE_take {enc : α → List Value} {s : Nat} (h : ∀ a, (enc a).length = s) : ∀ (l : List α) (k : Nat), csE enc (l.take k) = (csE enc l).take (k * s)
  | [], _ => by simp [csE]
  | a :: l, 0 => by simp [csE]
  | a :: l, k + 1 => by
    have e : (k + 1) * s = s + k * s := by rw [Nat.add_mul]; omega
    show enc a ++ csE enc (l.take k) = (enc a ++ csE enc l).take ((k + 1) * s)
    rw [csE_take h l k, e, List.take_append, List.take_of_length_le (l := enc a) (by rw [h a]; omega), h a, Nat.add_sub_cancel_left]
theorem csE_drop {enc : α → List Value} {s : Nat} (h : ∀ a, (enc a).length = s) (l : List α) (k : Nat) : csE enc (l.drop k) = (csE enc l).drop (k * s) := by
  have h1 : csE enc l = csE enc (l.take k) ++ csE enc (l.drop k) := by rw [← csE_append, List.take_append_drop]
  by_cases hk : k ≤ l.length
  · have h2 : (csE enc (l.take k)).length = k * s := by rw [csE_length h, List.length_take, Nat.min_eq_left hk]
    rw [h1, ← h2, List.drop_left]
  · rw [List.drop_of_length_le (l := l) (by omega), List.drop_of_length_le (l := csE enc l) (by rw [csE_length h]; exact Nat.mul_le_mul_right _ (by omega))]
    rfl
theorem csE_one {enc : α → List Value} (h : ∀ a, ∀ u ∈ enc a, u.oneCell' = true) : ∀ (l : List α), ∀ u ∈ csE enc l, u.oneCell' = true
  | [], u, hu => by simp [csE] at hu
  | a :: l, u, hu => by
    rcases List.mem_append.1 (show u ∈ enc a ++ csE enc l from hu) with hu | hu
    · exact h a u hu
    · exact csE_one h l u hu
theorem csE_ext {enc : α → List Value} {s : Nat} (h : ∀ a, (enc a).length = s) {c : List Value} {L : List α} (hs : c.length = L.length * s) (hc : ∀ j (h' : j < L.length) r, r < s → c[j * s + r]? = (enc L[j])[r]?) : c = csE enc L := by
  apply List.ext_getElem?
  intro i
  rcases Nat.lt_or_ge i (L.length * s) with hi | hi
  · have hs0 : 0 < s := by
      rcases Nat.eq_zero_or_pos s with h0 | h0
      · rw [h0] at hi; omega
      · exact h0
    have hj : i / s < L.length := Nat.div_lt_of_lt_mul (by rw [Nat.mul_comm]; exact hi)
    have hr : i % s < s := Nat.mod_lt _ hs0
    have e : i = i / s * s + i % s := by rw [Nat.mul_comm]; exact (Nat.div_add_mod i s).symm
    rw [e, hc _ hj _ hr, csE_at h L _ _ hj hr]
  · rw [List.getElem?_eq_none (by omega), List.getElem?_eq_none (by rw [csE_length h]; omega)]
theorem csE_cells {enc : α → List Value} {s : Nat} (h : ∀ a, (enc a).length = s) {w : World} {B : Nat} {A : Option Addr} {L : List α} (hc : CellsAt w B A (csE enc L)) (h0 : 0 < L.length) (hs : 0 < s) :
    ∃ g off, A = some ⟨g, off, none⟩ ∧ g < B ∧ ∀ k (hk : k < L.length) r v, (enc L[k])[r]? = some v → w.cell? ⟨g, off + (k * s + r), none⟩ = some v := by
  obtain ⟨g, off, e, hg, hcc⟩ := hc (by rw [csE_length h]; exact Nat.mul_pos h0 hs)
  refine ⟨g, off, e, hg, fun k hk r v hv => ?_⟩
  have hr : r < s := by
    have := (List.getElem?_eq_some_iff.1 hv).1
    rw [h] at this; exact this
  have he := csE_at h L k r hk hr
  rw [hv] at he
  obtain ⟨hl, hlv⟩ := List.getElem?_eq_some_iff.1 he
  rw [hcc _ hl, hlv]

/-- A row whose first k elements are those of L. -/
def FilledE (t : TypeId) (enc : α → List Value) (s : Nat) (w : World) (g n k : Nat) (L : List α) : Prop :=
  ∃ cur : Array Value, w.heap[g]? = some (.cells cur t (0, 0)) ∧ cur.size = n * s ∧ ∀ j (h : j < k) (h' : j < L.length) r, r < s → cur[j * s + r]? = (enc L[j])[r]?
theorem FilledE.cells {t : TypeId} {enc : α → List Value} {s : Nat} {w : World} {g n k : Nat} {L : List α} (h : FilledE t enc s w g n k L) : (∀ o, w.frozen? ⟨g, o, none⟩ = false) ∧ g < w.heap.size ∧ ∀ o, o < n * s → ∃ v, w.cell? ⟨g, o, none⟩ = some v := by
  obtain ⟨cur, hb, hs, _⟩ := h
  refine ⟨fun o => by simp [World.frozen?, hb], (Array.getElem?_eq_some_iff.1 hb).1, fun o ho => ⟨cur[o]'(by omega), ?_⟩⟩
  simp [World.cell?, hb, show o < cur.size from by omega]
theorem FilledE.bl {t : TypeId} {enc : α → List Value} {s : Nat} {w w' : World} {g n k : Nat} {L : List α} (h : FilledE t enc s w g n k L) (hb : Bl w w') : FilledE t enc s w' g n k L := by
  obtain ⟨cur, hc, hs, hf⟩ := h
  exact ⟨cur, (hb.block (Array.getElem?_eq_some_iff.1 hc).1).trans hc, hs, hf⟩
theorem FilledE.own {t : TypeId} {enc : α → List Value} {s : Nat} (he : ∀ a, (enc a).length = s) {w : World} {B g n : Nat} {L : List α} (h : FilledE t enc s w g n n L) (hn : n = L.length) (hm : n ≤ 1048576) (hB : B ≤ g) : Owns t s w B (.slice (some ⟨g, 0, none⟩) n n) L.length (csE enc L) := by
  obtain ⟨cur, hb, hs, hf⟩ := h
  subst hn
  refine ⟨by rw [csE_length he], .inr ⟨g, L.length, cur, rfl, hB, hb, Nat.le_refl _, by unfold maxLen; omega, hs, ?_⟩⟩
  rw [List.take_of_length_le (by simp; omega)]
  exact csE_ext he (by simpa using hs) fun j hj r hr => by simpa using hf j hj hj r hr
end

/-- The block that is written when n elements at A are. -/
def rowOf (A : Option Addr) (n : Nat) : Option Nat := if n = 0 then none else blockOf A
theorem rowOf_pos {A : Option Addr} {n g : Nat} (h : rowOf A n = some g) : 0 < n ∧ blockOf A = some g := by
  unfold rowOf at h
  split at h
  · exact absurd h (by simp)
  · exact ⟨by omega, h⟩
/-- The value v owns n elements of s cells, in blocks from B on; where there are none it may lead wherever. -/
def OwnsZ (t : TypeId) (s : Nat) (w : World) (B : Nat) (v : Value) (n : Nat) (vs : List Value) : Prop := Owns t s w B v n vs ∨ n = 0 ∧ vs = [] ∧ ∃ A, v = .slice A 0 0
theorem OwnsZ.of {t : TypeId} {s : Nat} {w : World} {B : Nat} {v : Value} {n : Nat} {vs : List Value} (h : Owns t s w B v n vs) : OwnsZ t s w B v n vs := .inl h
theorem OwnsZ.bl {t : TypeId} {s : Nat} {w w' : World} {B : Nat} {v : Value} {n : Nat} {vs : List Value} (h : OwnsZ t s w B v n vs) (hb : Bl w w') : OwnsZ t s w' B v n vs := h.imp (fun h => Owns.bl h hb) id
theorem OwnsZ.low {t : TypeId} {s : Nat} {w : World} {B B' : Nat} {v : Value} {n : Nat} {vs : List Value} (h : OwnsZ t s w B' v n vs) (hB : B ≤ B') : OwnsZ t s w B v n vs := h.imp (fun h => Owns.low h hB) id
theorem OwnsZ.shape {t : TypeId} {s : Nat} {w : World} {B : Nat} {v : Value} {n : Nat} {vs : List Value} (h : OwnsZ t s w B v n vs) :
    ∃ A c, v = .slice A n c ∧ c ≤ maxLen ∧ n ≤ c ∧ CellsAt w w.heap.size A vs ∧ RowsW t s w A n ∧ (∀ g, rowOf A n = some g → B ≤ g ∧ g < w.heap.size) ∧ (∀ g, rowOf A n = some g → ∀ g', blockOf A = some g' → g = g') := by
  rcases h with h | ⟨rfl, rfl, A, rfl⟩
  · have h' := h
    obtain ⟨A, c, rfl, hc, h1, h2, _⟩ := Owns.shape h
    refine ⟨A, c, rfl, hc, ?_, h1, h2, fun g hg => Owns.lt_ h g (rowOf_pos hg).2, fun g hg g' hg' => by
      have := (rowOf_pos hg).2
      rw [hg'] at this
      injection this with this
      exact this.symm⟩
    rcases h'.2 with ⟨e, h0⟩ | ⟨g, cap, cur, e, _, _, hnc, _⟩
    · omega
    · injection e with e1 e2 e3
      omega
  · exact ⟨A, 0, rfl, by unfold maxLen; omega, by omega, CellsAt.nil_ _ _ _, fun h => absurd h (by omega), fun g hg => by have := (rowOf_pos hg).1; omega, fun g hg => by have := (rowOf_pos hg).1; omega⟩

def encF (f : Fl) : List Value := [.string f.1, .string f.2]
def encO (o : Dp) : List Value := [.int .i64 o.kind, .string o.name, .string o.to, .string o.data]
theorem encF_len (f : Fl) : (encF f).length = 2 := rfl
theorem encO_len (o : Dp) : (encO o).length = 4 := rfl
theorem encF_one (f : Fl) : ∀ u ∈ encF f, u.oneCell' = true := fun u hu => by
  simp only [encF, List.mem_cons, List.not_mem_nil, or_false] at hu
  rcases hu with rfl | rfl <;> rfl
theorem encO_one (o : Dp) : ∀ u ∈ encO o, u.oneCell' = true := fun u hu => by
  simp only [encO, List.mem_cons, List.not_mem_nil, or_false] at hu
  rcases hu with rfl | rfl | rfl | rfl <;> rfl
def FilesAt (w : World) (B : Nat) (A : Option Addr) (L : List Fl) : Prop := CellsAt w B A (csE encF L)
def OpsAt (w : World) (B : Nat) (A : Option Addr) (L : List Dp) : Prop := CellsAt w B A (csE encO L)
theorem FilesAt.cell {w : World} {B : Nat} {A : Option Addr} {L : List Fl} (h : FilesAt w B A L) (h0 : 0 < L.length) :
    ∃ g off, A = some ⟨g, off, none⟩ ∧ g < B ∧ ∀ k (hk : k < L.length), w.cell? ⟨g, off + k * 2, none⟩ = some (.string L[k].1) ∧ w.cell? ⟨g, off + k * 2 + 1, none⟩ = some (.string L[k].2) := by
  obtain ⟨g, off, e, hg, hc⟩ := csE_cells encF_len h h0 (by omega)
  exact ⟨g, off, e, hg, fun k hk => ⟨hc k hk 0 _ rfl, hc k hk 1 _ rfl⟩⟩
theorem OpsAt.cell {w : World} {B : Nat} {A : Option Addr} {L : List Dp} (h : OpsAt w B A L) (h0 : 0 < L.length) :
    ∃ g off, A = some ⟨g, off, none⟩ ∧ g < B ∧ ∀ k (hk : k < L.length), w.cell? ⟨g, off + k * 4, none⟩ = some (.int .i64 L[k].kind) ∧ w.cell? ⟨g, off + k * 4 + 1, none⟩ = some (.string L[k].name) ∧
      w.cell? ⟨g, off + k * 4 + 2, none⟩ = some (.string L[k].to) ∧ w.cell? ⟨g, off + k * 4 + 3, none⟩ = some (.string L[k].data) := by
  obtain ⟨g, off, e, hg, hc⟩ := csE_cells encO_len h h0 (by omega)
  exact ⟨g, off, e, hg, fun k hk => ⟨hc k hk 0 _ rfl, hc k hk 1 _ rfl, hc k hk 2 _ rfl, hc k hk 3 _ rfl⟩⟩
theorem FilesAt.bl {w w' : World} {A : Option Addr} {L : List Fl} (h : FilesAt w w.heap.size A L) (hb : Bl w w') : FilesAt w' w'.heap.size A L := CellsAt.bl h hb
theorem FilesAt.more {w : World} {B B' : Nat} {A : Option Addr} {L : List Fl} (h : FilesAt w B A L) (hB : B ≤ B') : FilesAt w B' A L := CellsAt.more h hB
theorem FilesAt.grown_ {w w' : World} {B : Nat} {A : Option Addr} {L : List Fl} {row : Option Nat} (h : FilesAt w B A L) (hB : B ≤ w.heap.size) (hg : w.grownBy w' row)
    (hne : ∀ g, blockOf A = some g → g < B → some g ≠ row) : FilesAt w' B A L := CellsAt.grown_ h hB hg hne
theorem OpsAt.bl {w w' : World} {A : Option Addr} {L : List Dp} (h : OpsAt w w.heap.size A L) (hb : Bl w w') : OpsAt w' w'.heap.size A L := CellsAt.bl h hb
theorem OpsAt.more {w : World} {B B' : Nat} {A : Option Addr} {L : List Dp} (h : OpsAt w B A L) (hB : B ≤ B') : OpsAt w B' A L := CellsAt.more h hB
theorem OpsAt.grown_ {w w' : World} {B : Nat} {A : Option Addr} {L : List Dp} {row : Option Nat} (h : OpsAt w B A L) (hB : B ≤ w.heap.size) (hg : w.grownBy w' row)
    (hne : ∀ g, blockOf A = some g → g < B → some g ≠ row) : OpsAt w' B A L := CellsAt.grown_ h hB hg hne
def OwnF (w : World) (B : Nat) (v : Value) (L : List Fl) : Prop := Owns 86 2 w B v L.length (csE encF L)
def OwnO (w : World) (B : Nat) (v : Value) (L : List Dp) : Prop := Owns 51 4 w B v L.length (csE encO L)
theorem infoFile : (Try.prog.info? 86).map (fun i => (i.zero, i.size, i.bytes)) = some (some (.agg #[.string ⟨#[]⟩, .string ⟨#[]⟩]), 2, 32) := by kernel_rfl
theorem infoDOp : (Try.prog.info? 51).map (fun i => (i.zero, i.size, i.bytes)) = some (some (.agg #[.int .i64 0, .string ⟨#[]⟩, .string ⟨#[]⟩, .string ⟨#[]⟩]), 4, 56) := by kernel_rfl

/-- How much files and ops take of what is left. -/
def szFl (f : Fl) : Nat := f.1.size + f.2.size
def szDp (o : Dp) : Nat := o.name.size + o.to.size + o.data.size
def szL {α : Type} (sz : α → Nat) (L : List α) : Nat := (L.map sz).sum
theorem szL_take {α : Type} (sz : α → Nat) : ∀ (L : List α) (k : Nat) (h : k < L.length), szL sz (L.take (k + 1)) = szL sz (L.take k) + sz L[k]
  | a :: l, 0, _ => by simp [szL]
  | a :: l, k + 1, h => by
    have := szL_take sz l k (by simpa using h)
    simp only [szL, List.take_succ_cons, List.map_cons, List.sum_cons, List.getElem_cons_succ] at this ⊢
    omega
theorem szL_le {α : Type} (sz : α → Nat) (L : List α) (k : Nat) : szL sz (L.take k) ≤ szL sz L := by
  have h : szL sz L = szL sz (L.take k) + szL sz (L.drop k) := by
    unfold szL
    rw [← List.sum_append, ← List.map_append, List.take_append_drop]
  omega
theorem szL_at {α : Type} (sz : α → Nat) (L : List α) (k : Nat) (h : k < L.length) : sz L[k] ≤ szL sz L := by
  have h1 := szL_take sz L k h
  have h2 := szL_le sz L (k + 1)
  omega
/-- What is left; -1: nothing. -/
def leftI (l : Int) (n : Nat) : Int := if l - n < 0 then -1 else l - n
theorem leftI_neg {l : Int} {n : Nat} (h : l - n < 0) : leftI l n = -1 := if_pos h
theorem leftI_pos {l : Int} {n : Nat} (h : ¬ l - n < 0) : leftI l n = l - n := if_neg h

set_option maxHeartbeats 400000 in
theorem szFile_any (f : Fl) (l : Int) (w : World) (h1 : f.1.size ≤ 9223372036854775807) (h2 : f.2.size ≤ 9223372036854775807) (hl0 : 0 ≤ l) (hl1 : l ≤ 1048576) :
    Calls Try.prog 69 #[.agg #[.string f.1, .string f.2], .int .i64 l] w fun e w' => e = .returned (.int .i64 (leftI l (szFl f))) ∧ Bl w w' := by
  obtain ⟨a, b⟩ := f
  simp only at h1 h2 ⊢
  have HZ := Lib.hid (show szFl (a, b) = a.size + b.size from rfl)
  by_cases c1 : l - a.size < 0
  · go_enter Try.func69, Try.ntmps69
    go_wp2
    go_ret
    exact ⟨ret_int (by rw [HZ.out]; first | exact (leftI_neg (by omega)).symm | (rw [leftI_neg (by omega)])), (by repeat' (first | exact Bl.refl _ | with_reducible assumption | with_reducible refine Bl.drew_ ?_ | with_reducible refine Bl.drewN_ ?_ _ | with_reducible refine Bl.alloc_ ?_ _ | with_reducible refine Bl.trans_ ?_ (by assumption) | with_reducible refine Bl.trans_ ?_ (And.left (by assumption))))⟩
  · by_cases c2 : l - a.size - b.size < 0
    · go_enter Try.func69, Try.ntmps69
      go_wp2
      go_ret
      exact ⟨ret_int (by rw [HZ.out]; rw [leftI_neg (by omega)]), (by repeat' (first | exact Bl.refl _ | with_reducible assumption | with_reducible refine Bl.drew_ ?_ | with_reducible refine Bl.drewN_ ?_ _ | with_reducible refine Bl.alloc_ ?_ _ | with_reducible refine Bl.trans_ ?_ (by assumption) | with_reducible refine Bl.trans_ ?_ (And.left (by assumption))))⟩
    · go_enter Try.func69, Try.ntmps69
      go_wp2
      go_ret
      exact ⟨ret_int (by rw [HZ.out]; rw [leftI_pos (by omega)]; omega), (by repeat' (first | exact Bl.refl _ | with_reducible assumption | with_reducible refine Bl.drew_ ?_ | with_reducible refine Bl.drewN_ ?_ _ | with_reducible refine Bl.alloc_ ?_ _ | with_reducible refine Bl.trans_ ?_ (by assumption) | with_reducible refine Bl.trans_ ?_ (And.left (by assumption))))⟩
set_option maxHeartbeats 400000 in
theorem szDOp_any (o : Dp) (l : Int) (w : World) (h1 : o.name.size ≤ 9223372036854775807) (h2 : o.to.size ≤ 9223372036854775807) (h3 : o.data.size ≤ 9223372036854775807) (hl0 : 0 ≤ l) (hl1 : l ≤ 1048576) :
    Calls Try.prog 70 #[.agg #[.int .i64 o.kind, .string o.name, .string o.to, .string o.data], .int .i64 l] w fun e w' => e = .returned (.int .i64 (leftI l (szDp o))) ∧ Bl w w' := by
  obtain ⟨q, a, b, c⟩ := o
  simp only at h1 h2 h3 ⊢
  have HZ := Lib.hid (show szDp ⟨q, a, b, c⟩ = a.size + b.size + c.size from rfl)
  by_cases c1 : l - a.size < 0
  · go_enter Try.func70, Try.ntmps70
    go_wp2
    go_ret
    exact ⟨ret_int (by rw [HZ.out]; rw [leftI_neg (by omega)]), (by repeat' (first | exact Bl.refl _ | with_reducible assumption | with_reducible refine Bl.drew_ ?_ | with_reducible refine Bl.drewN_ ?_ _ | with_reducible refine Bl.alloc_ ?_ _ | with_reducible refine Bl.trans_ ?_ (by assumption) | with_reducible refine Bl.trans_ ?_ (And.left (by assumption))))⟩
  · by_cases c2 : l - a.size - b.size < 0
    · go_enter Try.func70, Try.ntmps70
      go_wp2
      go_ret
      exact ⟨ret_int (by rw [HZ.out]; rw [leftI_neg (by omega)]), (by repeat' (first | exact Bl.refl _ | with_reducible assumption | with_reducible refine Bl.drew_ ?_ | with_reducible refine Bl.drewN_ ?_ _ | with_reducible refine Bl.alloc_ ?_ _ | with_reducible refine Bl.trans_ ?_ (by assumption) | with_reducible refine Bl.trans_ ?_ (And.left (by assumption))))⟩
    · by_cases c3 : l - a.size - b.size - c.size < 0
      · go_enter Try.func70, Try.ntmps70
        go_wp2
        go_ret
        exact ⟨ret_int (by rw [HZ.out]; rw [leftI_neg (by omega)]), (by repeat' (first | exact Bl.refl _ | with_reducible assumption | with_reducible refine Bl.drew_ ?_ | with_reducible refine Bl.drewN_ ?_ _ | with_reducible refine Bl.alloc_ ?_ _ | with_reducible refine Bl.trans_ ?_ (by assumption) | with_reducible refine Bl.trans_ ?_ (And.left (by assumption))))⟩
      · go_enter Try.func70, Try.ntmps70
        go_wp2
        go_ret
        exact ⟨ret_int (by rw [HZ.out]; rw [leftI_pos (by omega)]; omega), (by repeat' (first | exact Bl.refl _ | with_reducible assumption | with_reducible refine Bl.drew_ ?_ | with_reducible refine Bl.drewN_ ?_ _ | with_reducible refine Bl.alloc_ ?_ _ | with_reducible refine Bl.trans_ ?_ (by assumption) | with_reducible refine Bl.trans_ ?_ (And.left (by assumption))))⟩

end Go.Proofs.Ytgfmgmcpfefmkaa
