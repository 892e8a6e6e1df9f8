/-
  What is proved here: contracts of the laws' small functions on items and on slices of items. No conditions beyond those that each theorem states.
-/
import Derived.Test.YtelgjfflhcmljaaW1
import Derived.Test.YtelgjfflhcmljaaHM
set_option linter.unusedSimpArgs false
set_option linter.unusedVariables false
namespace Go.Proofs.Ytelgjfflhcmljaa
open Go.RowKit

/-- The cells of items, one behind the other. -/
def cs2 : List It → List Value
  | [] => []
  | a :: l => .int .i64 a.1 :: .int .i64 a.2 :: cs2 l
theorem cs2_append : ∀ (l m : List It), cs2 (l ++ m) = cs2 l ++ cs2 m
  | [], _ => rfl
  | a :: l, m => by simp [cs2, cs2_append l m]
theorem cs2_length : ∀ (l : List It), (cs2 l).length = l.length * 2
  | [] => rfl
  | a :: l => by simp [cs2, cs2_length l]; omega
theorem cs2_at : ∀ (l : List It) (k : Nat) (h : k < l.length), (cs2 l)[k * 2]? = some (.int .i64 l[k].1) ∧ (cs2 l)[k * 2 + 1]? = some (.int .i64 l[k].2)
  | a :: l, 0, _ => ⟨rfl, rfl⟩
  | a :: l, k + 1, h => by
    have h' : k < l.length := by simpa using h
    obtain ⟨x, y⟩ := cs2_at l k h'
    have e0 : (k + 1) * 2 = k * 2 + 2 := by omega
    refine ⟨?_, ?_⟩
    · rw [e0]; simpa [cs2] using x
    · rw [e0, show k * 2 + 2 + 1 = (k * 2 + 1) + 2 from by omega]; simpa [cs2] using y
theorem cs2_set : ∀ (l : List It) (k : Nat) (x : It), cs2 (l.set k x) = ((cs2 l).set (k * 2) (.int .i64 x.1)).set (k * 2 + 1) (.int .i64 x.2)
  | [], _, _ => by simp [cs2]
  | a :: l, 0, x => by simp [cs2]
  | a :: l, k + 1, x => by
    have e0 : (k + 1) * 2 = k * 2 + 2 := by omega
    rw [e0, show k * 2 + 2 + 1 = (k * 2 + 1) + 2 from by omega]
    simp [cs2, cs2_set l k x]
theorem cs2_take : ∀ (l : List It) (k : Nat), cs2 (l.take k) = (cs2 l).take (k * 2)
  | [], _ => by simp [cs2]
  | a :: l, 0 => by simp [cs2]
  | a :: l, k + 1 => by
    rw [show (k + 1) * 2 = k * 2 + 2 from by omega]
    simp [cs2, cs2_take l k]

/-- The slice at A reads as the items L, below block B. -/
def ItemsAt (w : World) (B : Nat) (A : Option Addr) (L : List It) : Prop := CellsAt w B A (cs2 L)
theorem ItemsAt.cell {w : World} {B : Nat} {A : Option Addr} {L : List It} (h : ItemsAt w B A L) (h0 : 0 < L.length) :
    ∃ g off, A = some ⟨g, off, none⟩ ∧ g < B ∧ ∀ k (hk : k < L.length), w.cell? ⟨g, off + k * 2, none⟩ = some (.int .i64 L[k].1) ∧ w.cell? ⟨g, off + k * 2 + 1, none⟩ = some (.int .i64 L[k].2) := by
  obtain ⟨g, off, e, hg, hc⟩ := h (by rw [cs2_length]; omega)
  refine ⟨g, off, e, hg, fun k hk => ?_⟩
  obtain ⟨x, y⟩ := cs2_at L k hk
  have hl := cs2_length L
  refine ⟨?_, ?_⟩
  · rw [hc (k * 2) (by omega), ← x, List.getElem?_eq_getElem]
  · rw [Nat.add_assoc, hc (k * 2 + 1) (by omega), ← y, List.getElem?_eq_getElem]
theorem ItemsAt.bl {w w' : World} {A : Option Addr} {L : List It} (h : ItemsAt w w.heap.size A L) (hb : Bl w w') : ItemsAt w' w'.heap.size A L := CellsAt.bl h hb
theorem ItemsAt.bl' {w w' : World} {B : Nat} {A : Option Addr} {L : List It} (h : ItemsAt w B A L) (hB : B ≤ w.heap.size) (hb : Bl w w') : ItemsAt w' B A L := CellsAt.bl' h hB hb
theorem ItemsAt.more {w : World} {B B' : Nat} {A : Option Addr} {L : List It} (h : ItemsAt w B A L) (hB : B ≤ B') : ItemsAt w B' A L := CellsAt.more h hB
theorem ItemsAt.grown_ {w w' : World} {B : Nat} {A : Option Addr} {L : List It} {row : Option Nat} (h : ItemsAt w B A L) (hB : B ≤ w.heap.size) (hg : w.grownBy w' row)
    (hne : ∀ g, blockOf A = some g → g < B → some g ≠ row) : ItemsAt w' B A L := CellsAt.grown_ h hB hg hne

/-- The value v owns the items L, in blocks from B on. -/
def OwnI (w : World) (B : Nat) (v : Value) (L : List It) : Prop := Owns 116 2 w B v L.length (cs2 L)
/-- The items may be written. -/
def ItemsW (w : World) (A : Option Addr) (n : Nat) : Prop := RowsW 116 2 w A n

theorem infoItem : (Try.prog.info? 116).map (fun i => (i.zero, i.size, i.bytes)) = some (some (.agg #[.int .i64 0, .int .i64 0]), 2, 16) := by kernel_rfl

-- (szItemS_any left out)
-- (szItemS_small left out)

-- (toItem_any left out)

set_option maxHeartbeats 400000 in
theorem eqItem_yes (a b : Int) (w : World) :
    Calls Try.prog 108 #[.agg #[.int .i64 a, .int .i64 b], .agg #[.int .i64 a, .int .i64 b]] w fun e w' => e = .returned (.bool true) ∧ Bl w w' := by
  have h1 : (a != a) = false := by simp
  have h2 : (b != b) = false := by simp
  go_enter Try.func108, Try.ntmps108
  go_wp2
  go_ret
  exact ⟨rfl, (by repeat' (first | exact Bl.refl _ | with_reducible assumption | with_reducible refine Bl.drew_ ?_ | with_reducible refine Bl.drewN_ ?_ _ | with_reducible refine Bl.alloc_ ?_ _ | with_reducible refine Bl.trans_ ?_ (by assumption) | with_reducible refine Bl.trans_ ?_ (And.left (by assumption))))⟩

set_option maxHeartbeats 400000 in
theorem eqItemS_yes (A1 A2 : Option Addr) (c1 c2 : Nat) (L : List It) (n : Nat) (hn : n = L.length) (w : World) (hm : n ≤ 9223372036854775807) (H1 : ItemsAt w w.heap.size A1 L) (H2 : ItemsAt w w.heap.size A2 L) :
    Calls Try.prog 50 #[.slice A1 n c1, .slice A2 n c2] w fun e w' => e = .returned (.bool true) ∧ Bl w w' := by
  have HN := Lib.hid hn
  clear hn
  have K1 := Lib.hid H1
  have K2 := Lib.hid H2
  clear H1 H2
  have hnn : ((n : Int) != (n : Int)) = false := by simp
  go_enter Try.func50, Try.ntmps50
  go_wp2
  go_loopw [5] (fun i wr => ∃ k : Nat, k ≤ n ∧ i = .int .i64 k ∧ Bl w wr) (fun i _ => n - (intOf i).toNat)
  case atStart => exact ⟨0, by omega, rfl, Bl.refl _⟩
  case round =>
    obtain ⟨k, hk, rfl, hbl⟩ := hrel
    by_cases hlt : k < n
    · have hkl : k < L.length := by have := HN.out; omega
      obtain ⟨g1, o1, rfl, hg1, hc1⟩ := K1.out.cell (by omega)
      obtain ⟨g2, o2, rfl, hg2, hc2⟩ := K2.out.cell (by omega)
      obtain ⟨p1, p2⟩ := hc1 k hkl
      obtain ⟨q1, q2⟩ := hc2 k hkl
      generalize L[k].1 = x at p1 q1
      generalize L[k].2 = y at p2 q2
      clear hc1 hc2 hkl
      have HS : ∀ wx, Bl w wx → Bl w wx ∧ wx.cell? ⟨g1, o1 + k * 2, none⟩ = some (.int .i64 x) ∧ wx.cell? ⟨g1, o1 + k * 2 + 1, none⟩ = some (.int .i64 y) ∧
          wx.cell? ⟨g2, o2 + k * 2, none⟩ = some (.int .i64 x) ∧ wx.cell? ⟨g2, o2 + k * 2 + 1, none⟩ = some (.int .i64 y) := fun wx hb => by
        obtain ⟨hc, _⟩ := bcell hb
        exact ⟨hb, (hc _ _ hg1).trans p1, (hc _ _ hg1).trans p2, (hc _ _ hg2).trans q1, (hc _ _ hg2).trans q2⟩
      have HSH := Lib.hid HS
      clear HS p1 p2 q1 q2 hg1 hg2
      go_wp2
      go_region_held3 (fun wx => Bl w wx ∧ wx.cell? ⟨g1, o1 + k * 2, none⟩ = some (.int .i64 x) ∧ wx.cell? ⟨g1, o1 + k * 2 + 1, none⟩ = some (.int .i64 y) ∧
          wx.cell? ⟨g2, o2 + k * 2, none⟩ = some (.int .i64 x) ∧ wx.cell? ⟨g2, o2 + k * 2 + 1, none⟩ = some (.int .i64 y)) (exact HSH.out _ (by repeat' (first | exact Bl.refl _ | with_reducible assumption | with_reducible refine Bl.drew_ ?_ | with_reducible refine Bl.drewN_ ?_ _ | with_reducible refine Bl.alloc_ ?_ _ | with_reducible refine Bl.trans_ ?_ (by assumption) | with_reducible refine Bl.trans_ ?_ (And.left (by assumption))))) (first | (go_at_call 108; refine (eqItem_yes _ _ _).mono ?_; rintro e w' ⟨rfl, hb⟩; obtain ⟨hc, hf⟩ := bcell hb))
      go_wp2
      go_roundw
      case rel => exact ⟨k + 1, by omega, by go_num, (by repeat' (first | exact Bl.refl _ | with_reducible assumption | with_reducible refine Bl.drew_ ?_ | with_reducible refine Bl.drewN_ ?_ _ | with_reducible refine Bl.alloc_ ?_ _ | with_reducible refine Bl.trans_ ?_ (by assumption) | with_reducible refine Bl.trans_ ?_ (And.left (by assumption))))⟩
      case measure => simp [intOf]; omega
    · go_wp2
      go_ret
      exact ⟨rfl, hbl⟩

end Go.Proofs.Ytelgjfflhcmljaa
