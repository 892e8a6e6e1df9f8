/-
  What is proved here: the walk of the exact law on Outs: at every graph and node that can be read it returns true and leaves what was there as it was. No conditions beyond those that each theorem states.
-/
import Derived.Test.YtlddileiecnkjaaMG13
import Derived.Test.YtlddileiecnkjaaMG04
set_option linter.unusedSimpArgs false
set_option linter.unusedVariables false
namespace Go.Proofs.Ytlddileiecnkjaa
open Go.RowKit

set_option maxHeartbeats 400000 in
theorem toArcS_row (A : Option Addr) (n c : Nat) (L : List Arc3) (hn : n = L.length) (w : World) (hm : n ≤ 1048576) (H1 : ArcsAt w w.heap.size A L) :
    Calls Try.prog 91 #[.slice A n c] w fun e w' => e = .returned (.slice (some ⟨w.heap.size, 0, none⟩) n n) ∧ ArcsAt w' w'.heap.size (some ⟨w.heap.size, 0, none⟩) L ∧ Bl w w' ∧ RowW w' (some ⟨w.heap.size, 0, none⟩) n ∧ w.heap.size < w'.heap.size := by
  have K1 := Lib.hid H1
  have HN := Lib.hid hn
  clear H1 hn
  have hmk := make_arcs n hm
  go_enter Try.func91, Try.ntmps91
  go_wp2
  clear hmk
  go_loopw [4] (fun i wr => ∃ k : Nat, k ≤ n ∧ i = .int .i64 k ∧ Bl w wr ∧ ∃ f, wr.rowIs w.heap.size 146 (n * 3) f ∧ ∀ j (h : j < k) (h' : j < L.length), f (j * 3) = .int .i64 L[j].1 ∧ f (j * 3 + 1) = .int .i64 L[j].2.1 ∧ f (j * 3 + 2) = .int .i64 L[j].2.2) (fun i _ => n - (intOf i).toNat)
  case atStart => exact ⟨0, by omega, rfl, (by repeat' (first | exact Bl.refl _ | with_reducible assumption | with_reducible refine Bl.drew_ ?_ | with_reducible refine Bl.drewN_ ?_ _ | with_reducible refine Bl.alloc_ ?_ _ | with_reducible refine Bl.trans_ ?_ (by assumption) | with_reducible refine Bl.trans_ ?_ (And.left (by assumption)))), _, mk3_row _ _ _, fun j h => absurd h (by omega)⟩
  case round =>
    obtain ⟨k, hk, rfl, hbl, f, hrow, hf⟩ := hrel
    by_cases hlt : k < n
    · have hkl : k < L.length := by have := HN.out; omega
      obtain ⟨g1, o1, rfl, hg1, hc1⟩ := K1.out (by omega)
      obtain ⟨p1, p2, p3⟩ := hc1 k hkl
      rw [← (bcell hbl).1 _ _ hg1] at p1 p2 p3
      have F := Lib.hid hf
      have R := Lib.hid hrow
      clear hf hrow hc1
      go_wp2_with fail
      refine (toArc_any _ _ _ _).mono ?_
      rintro e w1 ⟨rfl, hb⟩
      have R1 := Lib.hid (row_bl R.out hb)
      have z1 := R1.out.cell (i := k * 3) (by omega)
      have z2 := R1.out.cell (i := k * 3 + 1) (by omega)
      have z3 := R1.out.cell (i := k * 3 + 2) (by omega)
      have y1 := R1.out.frozen (k * 3)
      have y2 := R1.out.frozen (k * 3 + 1)
      have y3 := R1.out.frozen (k * 3 + 2)
      go_wp2
      go_roundw
      case rel =>
        refine ⟨k + 1, by omega, by go_num, ((Bl.set_ (Bl.set_ (Bl.set_ (hbl.trans_ hb) (Nat.le_refl _) _) (Nat.le_refl _) _) (Nat.le_refl _) _)), _, (((R1.out.set (k * 3) _).set (k * 3 + 1) _).set (k * 3 + 2) _), fun j hj hj' => ?_⟩
        rcases Nat.lt_or_ge j k with h | h
        · rw [if_neg (by omega), if_neg (by omega), if_neg (by omega), if_neg (by omega), if_neg (by omega), if_neg (by omega), if_neg (by omega), if_neg (by omega), if_neg (by omega)]
          exact F.out j h hj'
        · have e : j = k := by omega
          subst e
          exact ⟨by rw [if_neg (by omega), if_neg (by omega), if_pos rfl], by rw [if_neg (by omega), if_pos rfl], by rw [if_pos rfl]⟩
      case measure => simp [intOf]; omega
    · go_wp2
      go_ret
      have e : k = n := by omega
      subst e
      refine ⟨rfl, fun h0 => ⟨w.heap.size, 0, rfl, hrow.lt, fun j hj => ?_⟩, hbl, fun _ => ⟨_, _, f, rfl, Nat.le_refl _, hrow⟩, hrow.lt⟩
      have hjk : j < k := by have := HN.out; omega
      obtain ⟨e1, e2, e3⟩ := hf j hjk hj
      rw [← e1, ← e2, ← e3]
      exact ⟨by rw [Nat.zero_add]; exact hrow.cell (by omega), by rw [Nat.zero_add]; exact hrow.cell (by omega), by rw [Nat.zero_add]; exact hrow.cell (by omega)⟩


/-- What toGraph leaves, and that its arcs may be written. -/
def GraphRow (N : Int) (n : Nat) (L : List Arc3) (w : World) (e : Ending) (w' : World) : Prop :=
  ∃ g, e = .returned (.agg #[.int .i64 N, .slice (some ⟨g, 0, none⟩) n n]) ∧ ArcsAt w' w'.heap.size (some ⟨g, 0, none⟩) L ∧ w.heap.size ≤ g ∧ Bl w w' ∧ RowW w' (some ⟨g, 0, none⟩) n ∧ g < w'.heap.size

set_option maxHeartbeats 400000 in
theorem toGraph_row (N : Int) (A : Option Addr) (n c : Nat) (L : List Arc3) (hn : n = L.length) (w : World) (hm : n ≤ 1048576) (H1 : ArcsAt w w.heap.size A L) :
    Calls Try.prog 27 #[.agg #[.int .i64 N, .slice A n c]] w (GraphRow N n L w) := by
  have K1 := Lib.hid H1
  have HN := Lib.hid hn
  clear H1 hn
  go_enter Try.func27, Try.ntmps27
  go_wp2_with fail
  refine (toArcS_row _ _ _ L HN.out _ hm (K1.out.bl (by repeat' (first | exact Bl.refl _ | with_reducible assumption | with_reducible refine Bl.drew_ ?_ | with_reducible refine Bl.drewN_ ?_ _ | with_reducible refine Bl.alloc_ ?_ _ | with_reducible refine Bl.trans_ ?_ (by assumption) | with_reducible refine Bl.trans_ ?_ (And.left (by assumption)))))).mono ?_
  rintro e w1 ⟨rfl, ha, hb, hro, hlt1⟩
  obtain ⟨hc, hf⟩ := bcell hb
  have HA := Lib.hid ha
  have hs := hb.size
  have HR := Lib.hid hro
  clear ha hro
  go_wp2
  refine bodyPost_ret (v := .agg #[.int .i64 N, .slice (some ⟨w.heap.size + 1 + 1 + 1, 0, none⟩) n n]) (by simp [results, Try.results27, go_sem, hc]) rfl ?_
  have HA' : ArcsAt w1 w1.heap.size (some ⟨w.heap.size + 1 + 1 + 1, 0, none⟩) L := by simpa only [World.size_alloc] using HA.out
  have HR' : RowW w1 (some ⟨w.heap.size + 1 + 1 + 1, 0, none⟩) n := by simpa only [World.size_alloc] using HR.out
  refine ⟨_, rfl, ?_, by omega, Bl.set_ (Bl.set_ (Bl.set_ (by repeat' (first | exact Bl.refl _ | with_reducible assumption | with_reducible refine Bl.drew_ ?_ | with_reducible refine Bl.drewN_ ?_ _ | with_reducible refine Bl.alloc_ ?_ _ | with_reducible refine Bl.trans_ ?_ (by assumption) | with_reducible refine Bl.trans_ ?_ (And.left (by assumption)))) ?_ _) ?_ _) ?_ _, fun h0 => ?_, by rw [World.size_setCell, World.size_setCell, World.size_setCell]; simpa only [World.size_alloc] using hlt1⟩
  · rw [World.size_setCell, World.size_setCell, World.size_setCell]
    exact ((HA'.set (by simp) _).set (by show w.heap.size + 1 ≠ w.heap.size + 1 + 1 + 1; omega) _).set (by show w.heap.size + 1 ≠ w.heap.size + 1 + 1 + 1; omega) _
  · show w.heap.size ≤ w.heap.size + 1 + 1; omega
  · show w.heap.size ≤ w.heap.size + 1; omega
  · show w.heap.size ≤ w.heap.size + 1; omega
  · obtain ⟨g, m, f, e, hm', hr⟩ := HR' h0
    injection e with e
    injection e with e1 e2 e3
    subst e1
    exact ⟨_, m, f, rfl, hm', ((hr.setOther (by show w.heap.size + 1 + 1 + 1 ≠ w.heap.size + 1 + 1; omega) _).setOther (by show w.heap.size + 1 + 1 + 1 ≠ w.heap.size + 1; omega) _).setOther (by show w.heap.size + 1 + 1 + 1 ≠ w.heap.size + 1; omega) _⟩

theorem ArcsAt.grown_ {w w' : World} {B : Nat} {A : Option Addr} {L : List Arc3} {row : Option Nat} (h : ArcsAt w B A L) (hB : B ≤ w.heap.size) (hg : w.grownBy w' row)
    (hne : ∀ g, blockOf A = some g → g < B → some g ≠ row) : ArcsAt w' B A L := fun hp => by
  obtain ⟨g, off, rfl, hlt, hc⟩ := h hp
  have hb := hg.block g (by omega) (hne g rfl hlt)
  exact ⟨g, off, rfl, hlt, fun k hk => by
    have q : ∀ o, w'.cell? ⟨g, o, none⟩ = w.cell? ⟨g, o, none⟩ := fun o => World.cell?_of_block hb
    rw [q, q, q]
    exact hc k hk⟩
theorem RowW.grown_ {w w' : World} {A : Option Addr} {n : Nat} {row : Option Nat} (h : RowW w A n) (hg : w.grownBy w' row) (hne : ∀ g, blockOf A = some g → some g ≠ row) : RowW w' A n := fun hp => by
  obtain ⟨g, m, f, rfl, hm, hr⟩ := h hp
  exact ⟨g, m, f, rfl, hm, hr.of_block (hg.block g hr.lt (hne g rfl))⟩
theorem OwnA.lt_ {w : World} {B : Nat} {A : Option Addr} {n c : Nat} {L : List Arc3} (h : OwnA w B (.slice A n c) L) : ∀ g, blockOf A = some g → B ≤ g ∧ g < w.heap.size := fun g hg =>
  h.lt g (by rw [ownBlock_slice]; exact hg)

end Go.Proofs.Ytlddileiecnkjaa
