/-
  What is proved here: the laws' small functions on halves. No conditions beyond those that each theorem states.
-/
import Derived.Test.YtoffkpkpdnjlnaaK2
set_option linter.unusedSimpArgs false
set_option linter.unusedVariables false
namespace Go.Proofs.Ytoffkpkpdnjlnaa
open Go.ChangeShapes Go.WideShapes Go.ChangeAt Go.RowKit

/-- A new half is left. -/
def HalfMade (n m : Nat) (r : Int) (D E : List Int) (w : World) (e : Ending) (w' : World) : Prop :=
  ∃ g h, e = .returned (.agg #[.slice (some ⟨g, 0, none⟩) n n, .slice (some ⟨h, 0, none⟩) m m, .int .i64 r]) ∧ IntsAt w' w'.heap.size (some ⟨g, 0, none⟩) D ∧ IntsAt w' w'.heap.size (some ⟨h, 0, none⟩) E ∧ Bl w w'

theorem IntsAt.set_ {w : World} {B : Nat} {A : Option Addr} {V : List Int} (h : IntsAt w B A V) {p : Addr} (hp : ∀ g, blockOf A = some g → p.block ≠ g) (v : Value) : IntsAt (w.setCell p v) B A V := fun h0 => by
  obtain ⟨g, off, rfl, hg, hc⟩ := h h0
  exact ⟨g, off, rfl, hg, fun k hk => by rw [World.cell?_setCell_other _ _ _ _ (fun e => hp g rfl (by rw [e]))]; exact hc k hk⟩

/-- Three cells, in a block of their own. -/
def Tri (w : World) (g : Nat) (a b c : Value) : Prop := w.rowIs g 28 3 (fun i => if i = 0 then a else if i = 1 then b else c)
theorem Tri.new (w : World) (a b c : Value) : Tri (w.alloc (.cells #[a, b, c] 28)) w.heap.size a b c :=
  World.rowIs_alloc w #[a, b, c] _ _ (fun i hi => by
    have : i = 0 ∨ i = 1 ∨ i = 2 := by simp at hi; omega
    rcases this with rfl | rfl | rfl <;> simp)
theorem Tri.facts {w : World} {g : Nat} {a b c : Value} (h : Tri w g a b c) : w.cell? ⟨g, 0, none⟩ = some a ∧ w.cell? ⟨g, 1, none⟩ = some b ∧ w.cell? ⟨g, 2, none⟩ = some c ∧ w.frozen? ⟨g, 0, none⟩ = false ∧ w.frozen? ⟨g, 1, none⟩ = false ∧ w.frozen? ⟨g, 2, none⟩ = false :=
  ⟨h.cell (i := 0) (by omega), h.cell (i := 1) (by omega), h.cell (i := 2) (by omega), h.frozen 0, h.frozen 1, h.frozen 2⟩
theorem Tri.bl {w w' : World} {g : Nat} {a b c : Value} (h : Tri w g a b c) (hb : Bl w w') : Tri w' g a b c := row_bl h hb
theorem Tri.far {w : World} {g : Nat} {a b c : Value} (h : Tri w g a b c) {p : Addr} (hp : g ≠ p.block) (u : Value) : Tri (w.setCell p u) g a b c := World.rowIs.setOther h hp u
theorem Tri.set0 {w : World} {g : Nat} {a b c : Value} (h : Tri w g a b c) (u : Value) : Tri (w.setCell ⟨g, 0, none⟩ u) g u b c :=
  (World.rowIs.set h 0 u).congr fun i hi => by
    have : i = 0 ∨ i = 1 ∨ i = 2 := by omega
    rcases this with rfl | rfl | rfl <;> simp
theorem Tri.set1 {w : World} {g : Nat} {a b c : Value} (h : Tri w g a b c) (u : Value) : Tri (w.setCell ⟨g, 1, none⟩ u) g a u c :=
  (World.rowIs.set h 1 u).congr fun i hi => by
    have : i = 0 ∨ i = 1 ∨ i = 2 := by omega
    rcases this with rfl | rfl | rfl <;> simp
theorem Tri.set2 {w : World} {g : Nat} {a b c : Value} (h : Tri w g a b c) (u : Value) : Tri (w.setCell ⟨g, 2, none⟩ u) g a b u :=
  (World.rowIs.set h 2 u).congr fun i hi => by
    have : i = 0 ∨ i = 1 ∨ i = 2 := by omega
    rcases this with rfl | rfl | rfl <;> simp

-- (toHalf_any left out)

set_option maxRecDepth 100000 in
set_option maxHeartbeats 1000000 in
theorem eqHalf_yes (A B A' B' : Option Addr) (n c c' m d d' : Nat) (D E : List Int) (hn : n = D.length) (hm : m = E.length) (r : Int) (w : World) (h1 : n ≤ 9223372036854775807) (h2 : m ≤ 9223372036854775807) (H1 : IntsAt w w.heap.size A D) (H2 : IntsAt w w.heap.size B E) (H3 : IntsAt w w.heap.size A' D) (H4 : IntsAt w w.heap.size B' E) :
    Calls Try.prog 19 #[.agg #[.slice A n c, .slice B m d, .int .i64 r], .agg #[.slice A' n c', .slice B' m d', .int .i64 r]] w fun e w' => e = .returned (.bool true) ∧ Bl w w' := by
  have K1 := Lib.hid H1
  have K2 := Lib.hid H2
  have K3 := Lib.hid H3
  have K4 := Lib.hid H4
  have HN := Lib.hid hn
  have HM := Lib.hid hm
  clear H1 H2 H3 H4 hn hm
  have q3 : ∀ wx, Bl ((w.alloc (.cells #[.slice A n c, .slice B m d, .int .i64 r] 28)).alloc (.cells #[.slice A' n c', .slice B' m d', .int .i64 r] 28)) wx → wx.cell? ⟨w.heap.size, 0, none⟩ = some (.slice A n c) ∧ wx.cell? ⟨w.heap.size, 1, none⟩ = some (.slice B m d) ∧ wx.cell? ⟨w.heap.size, 2, none⟩ = some (.int .i64 r) ∧ wx.cell? ⟨w.heap.size + 1, 0, none⟩ = some (.slice A' n c') ∧ wx.cell? ⟨w.heap.size + 1, 1, none⟩ = some (.slice B' m d') ∧ wx.cell? ⟨w.heap.size + 1, 2, none⟩ = some (.int .i64 r) := fun wx hb => by
    obtain ⟨a0, a1, a2⟩ := box3 ((Bl.alloc_ (Bl.refl (w.alloc (.cells #[.slice A n c, .slice B m d, .int .i64 r] 28))) _).trans_ hb)
    obtain ⟨z0, z1, z2⟩ := box3 hb
    simp only [World.size_alloc] at z0 z1 z2
    exact ⟨a0, a1, a2, z0, z1, z2⟩
  have Q3 := Lib.hid q3
  clear q3
  have hrr : (r != r) = false := by simp
  go_enter Try.func19, Try.ntmps19
  go_wp2_with fail
  refine (eqInt64S_yes A A' c c' D n HN.out _ h1 (K1.out.bl (by repeat' (first | exact Bl.refl _ | with_reducible assumption | with_reducible refine Bl.drew_ ?_ | with_reducible refine Bl.drewN_ ?_ _ | with_reducible refine Bl.alloc_ ?_ _ | with_reducible refine Bl.trans_ ?_ (by assumption) | with_reducible refine Bl.trans_ ?_ (And.left (by assumption))))) (K3.out.bl (by repeat' (first | exact Bl.refl _ | with_reducible assumption | with_reducible refine Bl.drew_ ?_ | with_reducible refine Bl.drewN_ ?_ _ | with_reducible refine Bl.alloc_ ?_ _ | with_reducible refine Bl.trans_ ?_ (by assumption) | with_reducible refine Bl.trans_ ?_ (And.left (by assumption)))))).mono ?_
  rintro e w1 ⟨rfl, hb1⟩
  obtain ⟨a0, a1, a2, z0, z1, z2⟩ := Q3.out _ hb1
  have hbw : Bl w w1 := (Bl.alloc_ (Bl.alloc_ (Bl.refl w) _) _).trans_ hb1
  go_wp2_with fail
  refine (eqInt64S_yes B B' d d' E m HM.out _ h2 (K2.out.bl hbw) (K4.out.bl hbw)).mono ?_
  rintro e w2 ⟨rfl, hb2⟩
  clear a0 a1 a2 z0 z1 z2
  obtain ⟨a0, a1, a2, z0, z1, z2⟩ := Q3.out _ (hb1.trans_ hb2)
  go_wp2
  go_ret
  exact ⟨rfl, hbw.trans_ hb2⟩

-- (szHalf_any left out)

end Go.Proofs.Ytoffkpkpdnjlnaa
