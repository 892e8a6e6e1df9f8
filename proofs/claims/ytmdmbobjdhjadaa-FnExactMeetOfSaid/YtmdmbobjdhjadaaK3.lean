/-
  What is proved here: the laws' small functions on halves. No conditions beyond those that each theorem states.
-/
import Derived.Test.YtmdmbobjdhjadaaK2
set_option linter.unusedSimpArgs false
set_option linter.unusedVariables false
namespace Go.Proofs.Ytmdmbobjdhjadaa
open Go.ChangeShapes Go.WideShapes Go.ChangeAt Go.RowKit

/-- A new half is left. -/
def HalfMade (n m : Nat) (r : Int) (D E : List Int) (w : World) (e : Ending) (w' : World) : Prop :=
  ∃ g h, e = .returned (.agg #[.slice (some ⟨g, 0, none⟩) n n, .slice (some ⟨h, 0, none⟩) m m, .int .i64 r]) ∧ IntsAt w' w'.heap.size (some ⟨g, 0, none⟩) D ∧ IntsAt w' w'.heap.size (some ⟨h, 0, none⟩) E ∧ Bl w w'

theorem IntsAt.set_ {w : World} {B : Nat} {A : Option Addr} {V : List Int} (h : IntsAt w B A V) {p : Addr} (hp : ∀ g, blockOf A = some g → p.block ≠ g) (v : Value) : IntsAt (w.setCell p v) B A V := fun h0 => by
  obtain ⟨g, off, rfl, hg, hc⟩ := h h0
  exact ⟨g, off, rfl, hg, fun k hk => by rw [World.cell?_setCell_other _ _ _ _ (fun e => hp g rfl (by rw [e]))]; exact hc k hk⟩

/-- Three cells, in a block of their own. -/
def Tri (w : World) (g : Nat) (a b c : Value) : Prop := w.rowIs g 63 3 (fun i => if i = 0 then a else if i = 1 then b else c)
theorem Tri.new (w : World) (a b c : Value) : Tri (w.alloc (.cells #[a, b, c] 63)) w.heap.size a b c :=
  World.rowIs_alloc w #[a, b, c] _ _ (fun i hi => by
    have : i = 0 ∨ i = 1 ∨ i = 2 := by simp at hi; omega
    rcases this with rfl | rfl | rfl <;> simp)
theorem Tri.facts {w : World} {g : Nat} {a b c : Value} (h : Tri w g a b c) : w.cell? ⟨g, 0, none⟩ = some a ∧ w.cell? ⟨g, 1, none⟩ = some b ∧ w.cell? ⟨g, 2, none⟩ = some c ∧ w.frozen? ⟨g, 0, none⟩ = false ∧ w.frozen? ⟨g, 1, none⟩ = false ∧ w.frozen? ⟨g, 2, none⟩ = false :=
  ⟨h.cell (i := 0) (by omega), h.cell (i := 1) (by omega), h.cell (i := 2) (by omega), h.frozen 0, h.frozen 1, h.frozen 2⟩
theorem Tri.bl {w w' : World} {g : Nat} {a b c : Value} (h : Tri w g a b c) (hb : Bl w w') : Tri w' g a b c := row_bl h hb
theorem Tri.far {w : World} {g : Nat} {a b c : Value} (h : Tri w g a b c) {p : Addr} (hp : g ≠ p.block) (u : Value) : Tri (w.setCell p u) g a b c := World.rowIs.setOther h hp u
theorem Tri.set0 {w : World} {g : Nat} {a b c : Value} (h : Tri w g a b c) (u : Value) : Tri (w.setCell ⟨g, 0, none⟩ u) g u b c :=
  (World.rowIs.set h 0 u).congr fun i hi => by
    have : i = 0 ∨ i = 1 ∨ i = 2 := by omega
    rcases this with rfl | rfl | rfl <;> simp
theorem Tri.set1 {w : World} {g : Nat} {a b c : Value} (h : Tri w g a b c) (u : Value) : Tri (w.setCell ⟨g, 1, none⟩ u) g a u c :=
  (World.rowIs.set h 1 u).congr fun i hi => by
    have : i = 0 ∨ i = 1 ∨ i = 2 := by omega
    rcases this with rfl | rfl | rfl <;> simp
theorem Tri.set2 {w : World} {g : Nat} {a b c : Value} (h : Tri w g a b c) (u : Value) : Tri (w.setCell ⟨g, 2, none⟩ u) g a b u :=
  (World.rowIs.set h 2 u).congr fun i hi => by
    have : i = 0 ∨ i = 1 ∨ i = 2 := by omega
    rcases this with rfl | rfl | rfl <;> simp

set_option maxRecDepth 100000 in
set_option maxHeartbeats 1000000 in
theorem toHalf_any (A B : Option Addr) (n c m c' : Nat) (D E : List Int) (hn : n = D.length) (hm : m = E.length) (r : Int) (w : World) (h1 : n ≤ 1048576) (h2 : m ≤ 1048576) (H1 : IntsAt w w.heap.size A D) (H2 : IntsAt w w.heap.size B E) :
    Calls Try.prog 56 #[.agg #[.slice A n c, .slice B m c', .int .i64 r]] w (HalfMade n m r D E w) := by
  have K1 := Lib.hid H1
  have K2 := Lib.hid H2
  have HN := Lib.hid hn
  have HM := Lib.hid hm
  clear H1 H2 hn hm
  go_enter Try.func56, Try.ntmps56
  go_wp2_with fail
  refine (toInt64S_any A n c D HN.out _ h1 (K1.out.bl (by repeat' (first | exact Bl.refl _ | with_reducible assumption | with_reducible refine Bl.drew_ ?_ | with_reducible refine Bl.drewN_ ?_ _ | with_reducible refine Bl.alloc_ ?_ _ | with_reducible refine Bl.trans_ ?_ (by assumption) | with_reducible refine Bl.trans_ ?_ (And.left (by assumption)))))).mono ?_
  rintro e w1 ⟨rfl, hi1, hb1⟩
  have HI1 := Lib.hid (show IntsAt w1 w1.heap.size (some ⟨w.heap.size + 1 + 1 + 1, 0, none⟩) D from by simpa only [World.size_alloc] using hi1)
  have B1 := Lib.hid hb1
  have P1 := Lib.hid (box3 ((Bl.alloc_ (Bl.alloc_ (Bl.refl (w.alloc (.cells #[.slice A n c, .slice B m c', .int .i64 r] 70))) _) _).trans_ hb1))
  have R1 := Lib.hid (show Tri w1 (w.heap.size + 1) (.slice none 0 0) (.slice none 0 0) (.int .i64 0) from by
    have h := (Tri.new (w.alloc (.cells #[.slice A n c, .slice B m c', .int .i64 r] 70)) (.slice none 0 0) (.slice none 0 0) (.int .i64 0)).bl ((Bl.alloc_ (Bl.refl _) _).trans_ hb1)
    simpa only [World.size_alloc] using h)
  have O1 := Lib.hid (show Tri w1 (w.heap.size + 1 + 1) (.slice none 0 0) (.slice none 0 0) (.int .i64 0) from by
    have h := (Tri.new ((w.alloc (.cells #[.slice A n c, .slice B m c', .int .i64 r] 70)).alloc (.cells #[.slice none 0 0, .slice none 0 0, .int .i64 0] 63)) (.slice none 0 0) (.slice none 0 0) (.int .i64 0)).bl hb1
    simpa only [World.size_alloc] using h)
  have s1 := hb1.size
  simp only [World.size_alloc] at s1
  clear hi1 hb1
  obtain ⟨p0, p1, p2⟩ := P1.out
  obtain ⟨o0, o1, o2, f0, f1, f2⟩ := O1.out.facts
  go_wp2_with fail
  have Bw1 := Lib.hid (show Bl w (w1.setCell ⟨w.heap.size + 1 + 1, 0, none⟩ (.slice (some ⟨w.heap.size + 1 + 1 + 1, 0, none⟩) n n)) from Bl.set_ ((Bl.alloc_ (Bl.alloc_ (Bl.alloc_ (Bl.refl w) _) _) _).trans_ B1.out) (by show w.heap.size ≤ w.heap.size + 1 + 1; omega) _)
  refine (toInt64S_any B m c' E HM.out _ h2 (K2.out.bl Bw1.out)).mono ?_
  rintro e w2 ⟨rfl, hi2, hb2⟩
  rw [World.size_setCell] at hi2 ⊢
  have HI2 := Lib.hid hi2
  have B2 := Lib.hid hb2
  have Bw2 := Lib.hid (Bw1.out.trans_ hb2)
  have HJ2 := Lib.hid (((HI1.out.set_ (p := ⟨w.heap.size + 1 + 1, 0, none⟩) (fun g hg => by simp [blockOf] at hg; show w.heap.size + 1 + 1 ≠ g; omega) (.slice (some ⟨w.heap.size + 1 + 1 + 1, 0, none⟩) n n)).more (Nat.le_of_eq (World.size_setCell w1 _ _).symm)).bl hb2)
  have O2 := Lib.hid ((O1.out.set0 (.slice (some ⟨w.heap.size + 1 + 1 + 1, 0, none⟩) n n)).bl hb2)
  have R2 := Lib.hid ((R1.out.far (p := ⟨w.heap.size + 1 + 1, 0, none⟩) (by show w.heap.size + 1 ≠ w.heap.size + 1 + 1; omega) (.slice (some ⟨w.heap.size + 1 + 1 + 1, 0, none⟩) n n)).bl hb2)
  have s2 := hb2.size
  rw [World.size_setCell] at s2
  have z2 : w2.cell? ⟨w.heap.size, 2, none⟩ = some (.int .i64 r) := by
    rw [(bcell hb2).1 _ _ (by rw [World.size_setCell]; omega), World.cell?_setCell_other _ _ _ _ (by simp)]
    exact p2
  clear hi2 hb2 p0 p1 p2 o0 o1 o2 f0 f1 f2
  obtain ⟨o0, o1, o2, f0, f1, f2⟩ := O2.out.facts
  obtain ⟨r0, r1, r2, g0, g1, g2⟩ := R2.out.facts
  have n1 : w.heap.size + 1 + 1 ≠ w.heap.size + 1 := by omega
  have n2 : w.heap.size + 1 ≠ w.heap.size + 1 + 1 := by omega
  go_wp2
  refine bodyPost_ret (v := .agg #[.slice (some ⟨w.heap.size + 1 + 1 + 1, 0, none⟩) n n, .slice (some ⟨w1.heap.size, 0, none⟩) m m, .int .i64 r]) (by simp [results, Try.results56, go_sem, r0, r1, r2, g0, g1, g2]) rfl ?_
  have far : ∀ (G : Nat) (V : List Int), w.heap.size + 1 + 1 < G → IntsAt w2 w2.heap.size (some ⟨G, 0, none⟩) V → ∀ (x y z a b : Value), IntsAt (((((w2.setCell ⟨w.heap.size + 1 + 1, 1, none⟩ x).setCell ⟨w.heap.size + 1 + 1, 2, none⟩ y).setCell ⟨w.heap.size + 1, 0, none⟩ z).setCell ⟨w.heap.size + 1, 1, none⟩ a).setCell ⟨w.heap.size + 1, 2, none⟩ b) w2.heap.size (some ⟨G, 0, none⟩) V := fun G V hG h x y z a b =>
    ((((h.set_ (fun g e => by simp [blockOf] at e; show w.heap.size + 1 + 1 ≠ g; omega) x).set_ (fun g e => by simp [blockOf] at e; show w.heap.size + 1 + 1 ≠ g; omega) y).set_ (fun g e => by simp [blockOf] at e; show w.heap.size + 1 ≠ g; omega) z).set_ (fun g e => by simp [blockOf] at e; show w.heap.size + 1 ≠ g; omega) a).set_ (fun g e => by simp [blockOf] at e; show w.heap.size + 1 ≠ g; omega) b
  refine ⟨_, _, rfl, (far _ D (by omega) HJ2.out _ _ _ _ _).more (by simp), (far _ E (by omega) HI2.out _ _ _ _ _).more (by simp), ?_⟩
  exact Bl.set_ (Bl.set_ (Bl.set_ (Bl.set_ (Bl.set_ Bw2.out (by show w.heap.size ≤ w.heap.size + 1 + 1; omega) _) (by show w.heap.size ≤ w.heap.size + 1 + 1; omega) _) (by show w.heap.size ≤ w.heap.size + 1; omega) _) (by show w.heap.size ≤ w.heap.size + 1; omega) _) (by show w.heap.size ≤ w.heap.size + 1; omega) _

set_option maxRecDepth 100000 in
set_option maxHeartbeats 1000000 in
theorem eqHalf_yes (A B A' B' : Option Addr) (n c c' m d d' : Nat) (D E : List Int) (hn : n = D.length) (hm : m = E.length) (r : Int) (w : World) (h1 : n ≤ 9223372036854775807) (h2 : m ≤ 9223372036854775807) (H1 : IntsAt w w.heap.size A D) (H2 : IntsAt w w.heap.size B E) (H3 : IntsAt w w.heap.size A' D) (H4 : IntsAt w w.heap.size B' E) :
    Calls Try.prog 48 #[.agg #[.slice A n c, .slice B m d, .int .i64 r], .agg #[.slice A' n c', .slice B' m d', .int .i64 r]] w fun e w' => e = .returned (.bool true) ∧ Bl w w' := by
  have K1 := Lib.hid H1
  have K2 := Lib.hid H2
  have K3 := Lib.hid H3
  have K4 := Lib.hid H4
  have HN := Lib.hid hn
  have HM := Lib.hid hm
  clear H1 H2 H3 H4 hn hm
  have q3 : ∀ wx, Bl ((w.alloc (.cells #[.slice A n c, .slice B m d, .int .i64 r] 63)).alloc (.cells #[.slice A' n c', .slice B' m d', .int .i64 r] 63)) wx → wx.cell? ⟨w.heap.size, 0, none⟩ = some (.slice A n c) ∧ wx.cell? ⟨w.heap.size, 1, none⟩ = some (.slice B m d) ∧ wx.cell? ⟨w.heap.size, 2, none⟩ = some (.int .i64 r) ∧ wx.cell? ⟨w.heap.size + 1, 0, none⟩ = some (.slice A' n c') ∧ wx.cell? ⟨w.heap.size + 1, 1, none⟩ = some (.slice B' m d') ∧ wx.cell? ⟨w.heap.size + 1, 2, none⟩ = some (.int .i64 r) := fun wx hb => by
    obtain ⟨a0, a1, a2⟩ := box3 ((Bl.alloc_ (Bl.refl (w.alloc (.cells #[.slice A n c, .slice B m d, .int .i64 r] 63))) _).trans_ hb)
    obtain ⟨z0, z1, z2⟩ := box3 hb
    simp only [World.size_alloc] at z0 z1 z2
    exact ⟨a0, a1, a2, z0, z1, z2⟩
  have Q3 := Lib.hid q3
  clear q3
  have hrr : (r != r) = false := by simp
  go_enter Try.func48, Try.ntmps48
  go_wp2_with fail
  refine (eqInt64S_yes A A' c c' D n HN.out _ h1 (K1.out.bl (by repeat' (first | exact Bl.refl _ | with_reducible assumption | with_reducible refine Bl.drew_ ?_ | with_reducible refine Bl.drewN_ ?_ _ | with_reducible refine Bl.alloc_ ?_ _ | with_reducible refine Bl.trans_ ?_ (by assumption) | with_reducible refine Bl.trans_ ?_ (And.left (by assumption))))) (K3.out.bl (by repeat' (first | exact Bl.refl _ | with_reducible assumption | with_reducible refine Bl.drew_ ?_ | with_reducible refine Bl.drewN_ ?_ _ | with_reducible refine Bl.alloc_ ?_ _ | with_reducible refine Bl.trans_ ?_ (by assumption) | with_reducible refine Bl.trans_ ?_ (And.left (by assumption)))))).mono ?_
  rintro e w1 ⟨rfl, hb1⟩
  obtain ⟨a0, a1, a2, z0, z1, z2⟩ := Q3.out _ hb1
  have hbw : Bl w w1 := (Bl.alloc_ (Bl.alloc_ (Bl.refl w) _) _).trans_ hb1
  go_wp2_with fail
  refine (eqInt64S_yes B B' d d' E m HM.out _ h2 (K2.out.bl hbw) (K4.out.bl hbw)).mono ?_
  rintro e w2 ⟨rfl, hb2⟩
  clear a0 a1 a2 z0 z1 z2
  obtain ⟨a0, a1, a2, z0, z1, z2⟩ := Q3.out _ (hb1.trans_ hb2)
  go_wp2
  go_ret
  exact ⟨rfl, hbw.trans_ hb2⟩

set_option maxRecDepth 100000 in
set_option maxHeartbeats 1000000 in
theorem szHalf_any (A B : Option Addr) (n c m c' : Nat) (r l : Int) (w : World) (h1 : n ≤ 9223372036854775807) (h2 : m ≤ 9223372036854775807) (l0 : 0 ≤ l) (l1 : l ≤ 1048576) :
    Calls Try.prog 54 #[.agg #[.slice A n c, .slice B m c', .int .i64 r], .int .i64 l] w fun e w' => e = .returned (.int .i64 (if l - n - m < 0 then -1 else l - n - m)) ∧ Bl w w' := by
  by_cases b1 : l - n < 0
  · go_enter Try.func54, Try.ntmps54
    go_wp2_with fail
    refine (szInt64S_any A n c l _ h1 l0 l1).mono ?_
    rintro e w1 ⟨rfl, rfl⟩
    rw [if_pos b1]
    go_wp2
    go_ret
    exact ⟨ret_int (by first | rfl | rw [if_pos (by omega)]), (by repeat' (first | exact Bl.refl _ | with_reducible assumption | with_reducible refine Bl.drew_ ?_ | with_reducible refine Bl.drewN_ ?_ _ | with_reducible refine Bl.alloc_ ?_ _ | with_reducible refine Bl.trans_ ?_ (by assumption) | with_reducible refine Bl.trans_ ?_ (And.left (by assumption))))⟩
  · have hb := b1
    by_cases b2 : l - n - m < 0
    · go_enter Try.func54, Try.ntmps54
      go_wp2_with fail
      refine (szInt64S_any A n c l _ h1 l0 l1).mono ?_
      rintro e w1 ⟨rfl, rfl⟩
      rw [if_neg (by omega)]
      have p0 : (0 : Int) ≤ l - (n : Int) := by omega
      have p1 : decide (l - (n : Int) < 0) = false := by simp; omega
      go_wp2_with fail
      refine (szInt64S_any B m c' (l - n) _ h2 p0 (by omega)).mono ?_
      rintro e w1 ⟨rfl, rfl⟩
      rw [if_pos (by omega)]
      go_wp2
      go_ret
      exact ⟨ret_int (by first | rfl | rw [if_pos (by omega)]), (by repeat' (first | exact Bl.refl _ | with_reducible assumption | with_reducible refine Bl.drew_ ?_ | with_reducible refine Bl.drewN_ ?_ _ | with_reducible refine Bl.alloc_ ?_ _ | with_reducible refine Bl.trans_ ?_ (by assumption) | with_reducible refine Bl.trans_ ?_ (And.left (by assumption))))⟩
    · go_enter Try.func54, Try.ntmps54
      go_wp2_with fail
      refine (szInt64S_any A n c l _ h1 l0 l1).mono ?_
      rintro e w1 ⟨rfl, rfl⟩
      rw [if_neg (by omega)]
      have p0 : (0 : Int) ≤ l - (n : Int) := by omega
      have p1 : decide (l - (n : Int) < 0) = false := by simp; omega
      go_wp2_with fail
      refine (szInt64S_any B m c' (l - n) _ h2 p0 (by omega)).mono ?_
      rintro e w1 ⟨rfl, rfl⟩
      rw [if_neg (by omega)]
      have p2 : decide (l - (n : Int) - (m : Int) < 0) = false := by simp; omega
      go_wp2
      go_ret
      exact ⟨ret_int (by first | rfl | rw [if_neg (by omega)]), (by repeat' (first | exact Bl.refl _ | with_reducible assumption | with_reducible refine Bl.drew_ ?_ | with_reducible refine Bl.drewN_ ?_ _ | with_reducible refine Bl.alloc_ ?_ _ | with_reducible refine Bl.trans_ ?_ (by assumption) | with_reducible refine Bl.trans_ ?_ (And.left (by assumption))))⟩

end Go.Proofs.Ytmdmbobjdhjadaa
