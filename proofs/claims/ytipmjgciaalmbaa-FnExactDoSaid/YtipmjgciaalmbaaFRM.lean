/-
  What is proved here: contracts of the laws' small functions on slices of texts. No conditions beyond those that each theorem states.
-/
import Derived.Test.YtipmjgciaalmbaaW4
import Derived.Test.YtipmjgciaalmbaaFRA
set_option linter.unusedSimpArgs false
set_option linter.unusedVariables false
namespace Go.Proofs.Ytipmjgciaalmbaa
open Go.RowKit

theorem infoStr : (Try.prog.info? 9).map (fun i => (i.zero, i.size, i.bytes)) = some (some (.string ⟨#[]⟩), 1, 16) := by kernel_rfl

/-- The cells of texts. -/
def csS (V : List ByteArray) : List Value := V.map .string
theorem csS_at {V : List ByteArray} {k : Nat} (h : k < (csS V).length) : (csS V)[k] = .string (V[k]'(by simpa [csS] using h)) := by simp [csS]
theorem csS_len (V : List ByteArray) : (csS V).length = V.length := by simp [csS]
theorem csS_one' (V : List ByteArray) : ∀ u ∈ csS V, u.oneCell' = true := fun v hv => by
  obtain ⟨x, _, rfl⟩ := List.mem_map.1 hv
  rfl
/-- The slice at A reads as the texts V, below block B. -/
def StrsAt (w : World) (B : Nat) (A : Option Addr) (V : List ByteArray) : Prop := CellsAt w B A (csS V)
theorem StrsAt.cell {w : World} {B : Nat} {A : Option Addr} {V : List ByteArray} (h : StrsAt w B A V) (h0 : 0 < V.length) :
    ∃ g off, A = some ⟨g, off, none⟩ ∧ g < B ∧ ∀ k (hk : k < V.length), w.cell? ⟨g, off + k, none⟩ = some (.string V[k]) := by
  obtain ⟨g, off, e, hg, hc⟩ := h (by rw [csS_len]; omega)
  exact ⟨g, off, e, hg, fun k hk => by rw [hc k (by rw [csS_len]; exact hk), csS_at]⟩
theorem StrsAt.bl {w w' : World} {A : Option Addr} {V : List ByteArray} (h : StrsAt w w.heap.size A V) (hb : Bl w w') : StrsAt w' w'.heap.size A V := CellsAt.bl h hb
theorem StrsAt.bl' {w w' : World} {B : Nat} {A : Option Addr} {V : List ByteArray} (h : StrsAt w B A V) (hB : B ≤ w.heap.size) (hb : Bl w w') : StrsAt w' B A V := CellsAt.bl' h hB hb
theorem StrsAt.more {w : World} {B B' : Nat} {A : Option Addr} {V : List ByteArray} (h : StrsAt w B A V) (hB : B ≤ B') : StrsAt w B' A V := CellsAt.more h hB
theorem StrsAt.grown_ {w w' : World} {B : Nat} {A : Option Addr} {V : List ByteArray} {row : Option Nat} (h : StrsAt w B A V) (hB : B ≤ w.heap.size) (hg : w.grownBy w' row)
    (hne : ∀ g, blockOf A = some g → g < B → some g ≠ row) : StrsAt w' B A V := CellsAt.grown_ h hB hg hne
/-- The value v owns the texts V, in blocks from B on. -/
def OwnS (w : World) (B : Nat) (v : Value) (V : List ByteArray) : Prop := Owns 9 1 w B v V.length (csS V)
theorem OwnS.nil_ (w : World) (B : Nat) : OwnS w B (.slice none 0 0) [] := Owns.nil_ _ _ _ _
theorem OwnS.bl {w w' : World} {B : Nat} {v : Value} {V : List ByteArray} (h : OwnS w B v V) (hb : Bl w w') : OwnS w' B v V := Owns.bl h hb
theorem OwnS.low {w : World} {B B' : Nat} {v : Value} {V : List ByteArray} (h : OwnS w B' v V) (hB : B ≤ B') : OwnS w B v V := Owns.low h hB
theorem OwnS.snoc {w : World} {B : Nat} {v : Value} {V : List ByteArray} {x : ByteArray} {n : Nat} (hn : n = V.length) (h : w.ownsRow B 9 1 v (n + 1) (csS V ++ [.string x])) : OwnS w B v (V ++ [x]) := by
  subst hn
  unfold OwnS
  have e : csS (V ++ [x]) = csS V ++ [.string x] := by simp [csS]
  rw [e, show (V ++ [x]).length = V.length + 1 from by simp]
  exact h
theorem OwnS.shape {w : World} {B : Nat} {v : Value} {V : List ByteArray} (h : OwnS w B v V) :
    ∃ A c, v = .slice A V.length c ∧ V.length ≤ c ∧ StrsAt w w.heap.size A V ∧ RowsW 9 1 w A V.length ∧ ∀ g, blockOf A = some g → B ≤ g ∧ g < w.heap.size := by
  have h' := h
  obtain ⟨A, c, rfl, hc, h1, h2, h3⟩ := Owns.shape h
  refine ⟨A, c, rfl, ?_, h1, h2, Owns.lt_ h⟩
  rcases h'.2 with ⟨e, h0⟩ | ⟨g, cap, cur, e, _, _, hnc, _⟩
  · omega
  · injection e with e1 e2 e3
    omega

theorem str_self (s : ByteArray) : (s.toList == s.toList) = true := by simp

-- (eqStringS_yes left out)

/-- The digits of k, ahead of a text. -/
def digs : Nat → Nat → ByteArray → ByteArray
  | 0, _, o => o
  | f + 1, k, o => if k = 0 then o else digs f (k / 10) ((⟨#[UInt8.ofNat (48 + k % 10)]⟩ : ByteArray) ++ o)
theorem digs_fuel : ∀ (f f' k : Nat) (o : ByteArray), k < f → k < f' → digs f k o = digs f' k o
  | 0, _, _, _, h, _ => by omega
  | _, 0, _, _, _, h => by omega
  | f + 1, f' + 1, k, o, h, h' => by
    unfold digs
    by_cases e : k = 0
    · rw [if_pos e, if_pos e]
    · rw [if_neg e, if_neg e]
      exact digs_fuel f f' _ _ (by omega) (by omega)
def dig (k : Nat) (o : ByteArray) : ByteArray := digs (k + 1) k o
theorem dig_zero (o : ByteArray) : dig 0 o = o := by simp [dig, digs]
theorem dig_step {k : Nat} (h : 0 < k) (o : ByteArray) : dig k o = dig (k / 10) ((⟨#[UInt8.ofNat (48 + k % 10)]⟩ : ByteArray) ++ o) := by
  show (if k = 0 then o else digs k (k / 10) _) = _
  rw [if_neg (by omega)]
  exact digs_fuel _ _ _ _ (by omega) (by omega)
/-- The text of a mark. -/
def markB (k : Int) : ByteArray := if k ≤ 0 then ⟨#[109, 48]⟩ else (⟨#[109]⟩ : ByteArray) ++ dig k.toNat ⟨#[]⟩

theorem conv_one (w : World) (d : Nat) (hd : d < 256) :
    (convert 57 9 (.slice (some ⟨w.heap.size, 0, none⟩) 1 1)).run Try.prog (w.alloc (.cells #[.int .u8 (d : Int)] 5)) = .ok (.string ⟨#[UInt8.ofNat d]⟩) (w.alloc (.cells #[.int .u8 (d : Int)] 5)) := by
  refine conv_new w [UInt8.ofNat d] _ _ 1 rfl (fun j hj => ?_)
  have h1 := u8_cell d
  match j, hj with
  | 0, _ => show some _ = some _; simp only [List.getElem_cons_zero]; rw [h1, show (d : Int) % 256 = (d : Int) from by omega]; rfl

set_option maxRecDepth 100000 in
set_option maxHeartbeats 1000000 in
theorem markText_any (k : Int) (hk : k ≤ 1099511627776) (w : World) :
    Calls Try.prog 105 #[.int .i64 k] w fun e w' => (∃ z, e = .returned (.string z) ∧ z = markB k) ∧ Bl w w' := by
  by_cases h0 : k ≤ 0
  · go_enter Try.func105, Try.ntmps105
    go_wp2
    refine bodyPost_ret (v := .string ⟨#[109, 48]⟩) (by simp [results, Try.results105, go_sem]) rfl ⟨⟨_, rfl, ?_⟩, (by repeat' (first | exact Bl.refl _ | with_reducible assumption | with_reducible refine Bl.drew_ ?_ | with_reducible refine Bl.drewN_ ?_ _ | with_reducible refine Bl.alloc_ ?_ _ | with_reducible refine Bl.trans_ ?_ (by assumption) | with_reducible refine Bl.trans_ ?_ (And.left (by assumption))))⟩
    unfold markB; rw [if_pos h0]
  · obtain ⟨q, rfl⟩ : ∃ q : Nat, k = (q : Int) := ⟨k.toNat, by omega⟩
    go_enter Try.func105, Try.ntmps105
    go_wp2
    go_loopw [0, 3] (fun i o wr => ∃ (j : Nat) (z : ByteArray), j ≤ q ∧ i = .int .i64 (j : Int) ∧ o = .string z ∧ z.size + j ≤ q ∧ Hid (dig j z = dig q ⟨#[]⟩) ∧ Bl w wr) (fun i _ _ => (intOf i).toNat)
    case atStart => exact ⟨q, _, by omega, rfl, rfl, by simp [ByteArray.size], Lib.hid rfl, Bl.refl w⟩
    case round =>
      obtain ⟨j, z, hj, rfl, rfl, hz, HD, hbl⟩ := hrel
      by_cases hlt : 0 < j
      · have HS := Lib.hid (dig_step hlt z)
        have hcv := conv_one wr (48 + j % 10) (by omega)
        have e1 : (((48 + j % 10 : Nat)) : Int) = 48 + (j : Int) % 10 := by omega
        rw [e1] at hcv
        have i1 : (0 : Int) < (j : Int) := by omega
        have hs1 : (⟨#[UInt8.ofNat (48 + j % 10)]⟩ : ByteArray).size = 1 := rfl
        generalize (⟨#[UInt8.ofNat (48 + j % 10)]⟩ : ByteArray) = y at hcv HS hs1
        go_wp2
        go_roundw
        case rel =>
          have hsz : (y ++ z).size = 1 + z.size := by rw [ByteArray.size_append, hs1]
          refine ⟨j / 10, y ++ z, by omega, by go_num, rfl, by omega, Lib.hid ?_, (by repeat' (first | exact Bl.refl _ | with_reducible assumption | with_reducible refine Bl.drew_ ?_ | with_reducible refine Bl.drewN_ ?_ _ | with_reducible refine Bl.alloc_ ?_ _ | with_reducible refine Bl.trans_ ?_ (by assumption) | with_reducible refine Bl.trans_ ?_ (And.left (by assumption))))⟩
          rw [← HS.out]; exact HD.out
        case measure => simp [intOf]; omega
      · obtain rfl : j = 0 := by omega
        go_wp2
        refine bodyPost_ret (v := .string ((⟨#[109]⟩ : ByteArray) ++ z)) (by simp [results, Try.results105, go_sem]) rfl ⟨⟨_, rfl, ?_⟩, hbl⟩
        have e := HD.out
        rw [dig_zero] at e
        unfold markB
        rw [if_neg (by omega), e]
        rfl

/-- N cells from A on hold the texts of the marks from k on. -/
def MarkS (w : World) (A : Option Addr) (N : Nat) (k : Int) : Prop := 0 < N → ∃ g off, A = some ⟨g, off, none⟩ ∧ g < w.heap.size ∧ ∀ j, j < N → w.cell? ⟨g, off + j, none⟩ = some (.string (markB (k + j)))
theorem MarkS.bl {w w' : World} {A : Option Addr} {n : Nat} {k : Int} (h : MarkS w A n k) (hb : Bl w w') : MarkS w' A n k := fun h0 => by
  obtain ⟨g, off, e, hg, hc⟩ := h h0
  have hh := (bcell hb).1
  exact ⟨g, off, e, Nat.lt_of_lt_of_le hg hb.size, fun j hj => by rw [hh _ _ hg]; exact hc j hj⟩
/-- What the marks leave. -/
def MarkedS (A : Option Addr) (n : Nat) (k : Int) (w : World) (e : Ending) (w' : World) : Prop :=
  e = .returned (.int .i64 (k + n)) ∧ MarkS w' A n k ∧ w.grownBy w' (blockOf A) ∧ RowsW 9 1 w' A n

-- (markStringS_any left out)

-- (heldStringS_any left out)

end Go.Proofs.Ytipmjgciaalmbaa
