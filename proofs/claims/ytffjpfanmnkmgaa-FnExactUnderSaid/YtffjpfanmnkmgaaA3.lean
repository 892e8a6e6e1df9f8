/-
  What is proved here: two slices of arcs that read as one list are told to be the same. No conditions beyond those that each theorem states.
-/
import Derived.Test.YtffjpfanmnkmgaaA2
set_option linter.unusedSimpArgs false
set_option linter.unusedVariables false
namespace Go.Proofs.Ytffjpfanmnkmgaa
open Go.RowKit

/-- An arc as three numbers: from, to, weight. -/
abbrev Arc3 := Int × Int × Int

/-- The slice at A reads as the list L of arcs, and lies below block B. -/
def ArcsAt (w : World) (B : Nat) (A : Option Addr) (L : List Arc3) : Prop :=
  0 < L.length → ∃ g off, A = some ⟨g, off, none⟩ ∧ g < B ∧ ∀ k (h : k < L.length), w.cell? ⟨g, off + k * 3, none⟩ = some (.int .i64 L[k].1) ∧
    w.cell? ⟨g, off + k * 3 + 1, none⟩ = some (.int .i64 L[k].2.1) ∧ w.cell? ⟨g, off + k * 3 + 2, none⟩ = some (.int .i64 L[k].2.2)

theorem ArcsAt.keep {w w' : World} {B : Nat} {A : Option Addr} {L : List Arc3} (h : ArcsAt w B A L) (hk : ∀ b o, b < B → w'.cell? ⟨b, o, none⟩ = w.cell? ⟨b, o, none⟩) : ArcsAt w' B A L := fun h0 => by
  obtain ⟨g, off, e, hg, hc⟩ := h h0
  exact ⟨g, off, e, hg, fun k hk' => by rw [hk _ _ hg, hk _ _ hg, hk _ _ hg]; exact hc k hk'⟩
theorem ArcsAt.more {w : World} {B B' : Nat} {A : Option Addr} {L : List Arc3} (h : ArcsAt w B A L) (hB : B ≤ B') : ArcsAt w B' A L := fun h0 => by
  obtain ⟨g, off, e, hg, hc⟩ := h h0
  exact ⟨g, off, e, Nat.lt_of_lt_of_le hg hB, hc⟩
theorem ArcsAt.bl {w w' : World} {A : Option Addr} {L : List Arc3} (h : ArcsAt w w.heap.size A L) (hb : Bl w w') : ArcsAt w' w'.heap.size A L :=
  (h.keep (bcell hb).1).more hb.size
theorem ArcsAt.bl' {w w' : World} {B : Nat} {A : Option Addr} {L : List Arc3} (h : ArcsAt w B A L) (hB : B ≤ w.heap.size) (hb : Bl w w') : ArcsAt w' B A L :=
  h.keep fun b o hl => (bcell hb).1 b o (by omega)

set_option maxHeartbeats 400000 in
theorem eqArcS_yes (A1 A2 : Option Addr) (c1 c2 : Nat) (L : List Arc3) (n : Nat) (hn : n = L.length) (w : World) (hm : n ≤ 9223372036854775807) (H1 : ArcsAt w w.heap.size A1 L) (H2 : ArcsAt w w.heap.size A2 L) :
    Calls Try.prog 94 #[.slice A1 n c1, .slice A2 n c2] w fun e w' => e = .returned (.bool true) ∧ Bl w w' := by
  have HN := Lib.hid hn
  clear hn
  have K1 := Lib.hid H1
  have K2 := Lib.hid H2
  clear H1 H2
  have hnn : ((n : Int) != (n : Int)) = false := by simp
  go_enter Try.func94, Try.ntmps94
  go_wp2
  go_loopw [5] (fun i wr => ∃ k : Nat, k ≤ n ∧ i = .int .i64 k ∧ Bl w wr) (fun i _ => n - (intOf i).toNat)
  case atStart => exact ⟨0, by omega, rfl, Bl.refl _⟩
  case round =>
    obtain ⟨k, hk, rfl, hbl⟩ := hrel
    by_cases hlt : k < n
    · have hkl : k < L.length := by have := HN.out; omega
      obtain ⟨g1, o1, rfl, hg1, hc1⟩ := K1.out (by omega)
      obtain ⟨g2, o2, rfl, hg2, hc2⟩ := K2.out (by omega)
      obtain ⟨p1, p2, p3⟩ := hc1 k hkl
      obtain ⟨q1, q2, q3⟩ := hc2 k hkl
      generalize L[k].1 = x at p1 q1
      generalize L[k].2.1 = y at p2 q2
      generalize L[k].2.2 = z at p3 q3
      clear hc1 hc2 hkl
      have HS : ∀ wx, Bl w wx → Bl w wx ∧ wx.cell? ⟨g1, o1 + k * 3, none⟩ = some (.int .i64 x) ∧ wx.cell? ⟨g1, o1 + k * 3 + 1, none⟩ = some (.int .i64 y) ∧ wx.cell? ⟨g1, o1 + k * 3 + 2, none⟩ = some (.int .i64 z) ∧
          wx.cell? ⟨g2, o2 + k * 3, none⟩ = some (.int .i64 x) ∧ wx.cell? ⟨g2, o2 + k * 3 + 1, none⟩ = some (.int .i64 y) ∧ wx.cell? ⟨g2, o2 + k * 3 + 2, none⟩ = some (.int .i64 z) := fun wx hb => by
        obtain ⟨hc, _⟩ := bcell hb
        exact ⟨hb, (hc _ _ hg1).trans p1, (hc _ _ hg1).trans p2, (hc _ _ hg1).trans p3, (hc _ _ hg2).trans q1, (hc _ _ hg2).trans q2, (hc _ _ hg2).trans q3⟩
      have HSH := Lib.hid HS
      clear HS p1 p2 p3 q1 q2 q3 hg1 hg2
      go_wp2
      go_region_held3 (fun wx => Bl w wx ∧ wx.cell? ⟨g1, o1 + k * 3, none⟩ = some (.int .i64 x) ∧ wx.cell? ⟨g1, o1 + k * 3 + 1, none⟩ = some (.int .i64 y) ∧ wx.cell? ⟨g1, o1 + k * 3 + 2, none⟩ = some (.int .i64 z) ∧
          wx.cell? ⟨g2, o2 + k * 3, none⟩ = some (.int .i64 x) ∧ wx.cell? ⟨g2, o2 + k * 3 + 1, none⟩ = some (.int .i64 y) ∧ wx.cell? ⟨g2, o2 + k * 3 + 2, none⟩ = some (.int .i64 z)) (exact HSH.out _ (by repeat' (first | exact Bl.refl _ | with_reducible assumption | with_reducible refine Bl.drew_ ?_ | with_reducible refine Bl.drewN_ ?_ _ | with_reducible refine Bl.alloc_ ?_ _ | with_reducible refine Bl.trans_ ?_ (by assumption) | with_reducible refine Bl.trans_ ?_ (And.left (by assumption))))) (first | (go_at_call 125; refine (eqArc_yes _ _ _ _).mono ?_; rintro e w' ⟨rfl, hb⟩; obtain ⟨hc, hf⟩ := bcell hb))
      go_wp2
      go_roundw
      case rel => exact ⟨k + 1, by omega, by go_num, (by repeat' (first | exact Bl.refl _ | with_reducible assumption | with_reducible refine Bl.drew_ ?_ | with_reducible refine Bl.drewN_ ?_ _ | with_reducible refine Bl.alloc_ ?_ _ | with_reducible refine Bl.trans_ ?_ (by assumption) | with_reducible refine Bl.trans_ ?_ (And.left (by assumption))))⟩
      case measure => simp [intOf]; omega
    · go_wp2
      go_ret
      exact ⟨rfl, hbl⟩

set_option maxHeartbeats 400000 in
theorem eqGraph_yes (N : Int) (A1 A2 : Option Addr) (c1 c2 : Nat) (L : List Arc3) (n : Nat) (hn : n = L.length) (w : World) (hm : n ≤ 9223372036854775807) (H1 : ArcsAt w w.heap.size A1 L) (H2 : ArcsAt w w.heap.size A2 L) :
    Calls Try.prog 46 #[.agg #[.int .i64 N, .slice A1 n c1], .agg #[.int .i64 N, .slice A2 n c2]] w fun e w' => e = .returned (.bool true) ∧ Bl w w' := by
  have hnn : (N != N) = false := by simp
  have K1 := Lib.hid H1
  have K2 := Lib.hid H2
  have HN := Lib.hid hn
  clear H1 H2 hn
  go_enter Try.func46, Try.ntmps46
  go_wp2_with (go_at_call 94; refine (eqArcS_yes _ _ _ _ L n HN.out _ hm (K1.out.bl (by repeat' (first | exact Bl.refl _ | with_reducible assumption | with_reducible refine Bl.drew_ ?_ | with_reducible refine Bl.drewN_ ?_ _ | with_reducible refine Bl.alloc_ ?_ _ | with_reducible refine Bl.trans_ ?_ (by assumption) | with_reducible refine Bl.trans_ ?_ (And.left (by assumption))))) (K2.out.bl (by repeat' (first | exact Bl.refl _ | with_reducible assumption | with_reducible refine Bl.drew_ ?_ | with_reducible refine Bl.drewN_ ?_ _ | with_reducible refine Bl.alloc_ ?_ _ | with_reducible refine Bl.trans_ ?_ (by assumption) | with_reducible refine Bl.trans_ ?_ (And.left (by assumption)))))).mono ?_; rintro e w' ⟨rfl, hb⟩; obtain ⟨hc, hf⟩ := bcell hb)
  go_ret
  exact ⟨rfl, (by repeat' (first | exact Bl.refl _ | with_reducible assumption | with_reducible refine Bl.drew_ ?_ | with_reducible refine Bl.drewN_ ?_ _ | with_reducible refine Bl.alloc_ ?_ _ | with_reducible refine Bl.trans_ ?_ (by assumption) | with_reducible refine Bl.trans_ ?_ (And.left (by assumption))))⟩

set_option maxHeartbeats 400000 in
theorem szGraph_any (N : Int) (A : Option Addr) (n c : Nat) (l : Int) (w : World) (hn : n ≤ 9223372036854775807) (hl0 : 0 ≤ l) (hl1 : l ≤ 1048576) :
    Calls Try.prog 39 #[.agg #[.int .i64 N, .slice A n c], .int .i64 l] w fun e w' => e = .returned (.int .i64 (if l - n < 0 then -1 else l - n)) ∧ Bl w w' := by
  by_cases h1 : l - n < 0
  · go_enter Try.func39, Try.ntmps39
    go_wp2_with (go_at_call 87; refine (szArcS_any _ _ _ _ _ hn hl0 hl1).mono ?_; rintro e w' ⟨rfl, rfl⟩)
    go_ret
    exact ⟨ret_int (by first | rfl | rw [if_pos h1]), (by repeat' (first | exact Bl.refl _ | with_reducible assumption | with_reducible refine Bl.drew_ ?_ | with_reducible refine Bl.drewN_ ?_ _ | with_reducible refine Bl.alloc_ ?_ _ | with_reducible refine Bl.trans_ ?_ (by assumption) | with_reducible refine Bl.trans_ ?_ (And.left (by assumption))))⟩
  · go_enter Try.func39, Try.ntmps39
    go_wp2_with (go_at_call 87; refine (szArcS_any _ _ _ _ _ hn hl0 hl1).mono ?_; rintro e w' ⟨rfl, rfl⟩)
    go_ret
    exact ⟨ret_int (by first | rfl | rw [if_neg (by omega)]), (by repeat' (first | exact Bl.refl _ | with_reducible assumption | with_reducible refine Bl.drew_ ?_ | with_reducible refine Bl.drewN_ ?_ _ | with_reducible refine Bl.alloc_ ?_ _ | with_reducible refine Bl.trans_ ?_ (by assumption) | with_reducible refine Bl.trans_ ?_ (And.left (by assumption))))⟩

end Go.Proofs.Ytffjpfanmnkmgaa
