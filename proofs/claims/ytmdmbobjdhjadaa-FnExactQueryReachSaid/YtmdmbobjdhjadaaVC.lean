/-
  What is proved here: toInt64S makes new memory that reads as what it is handed; what a slice of numbers that comes in is made of; the laws' small functions on halves; how far all nodes are, as the model reckons it; DistFrom and DistOf of the model; plain facts on lists without two alike, on the nearest of some nodes, and on the first of the greatest; the reaches of a graph, told; the small functions of the code and of the model that ask whether numbers are nodes, no two alike; words on memory that reads as a list of lists of numbers; the laws' small functions on lists of rows: sizes, copies, comparisons; the model's ReachOf; which numbers are right as reaches, told; the model's ReachOk; the same, where behind the last operation of the region the condition need not be shown; the code's ReachOf; the code's ReachOk. No conditions beyond those that each theorem states.
-/
import Derived.Test.YtmdmbobjdhjadaaVA
import Derived.Test.YtmdmbobjdhjadaaZ0
import Derived.Test.YtmdmbobjdhjadaaX1
import Derived.Deep.LoopGhost
import Derived.IntWalk
import Derived.Test.YtmdmbobjdhjadaaNF1
import Derived.Outline
import Derived.Lib.MinMax
import Derived.Test.YtmdmbobjdhjadaaSPV
set_option linter.unusedSimpArgs false
set_option linter.unusedVariables false
namespace Go.Proofs.Ytmdmbobjdhjadaa
open Go.ChangeShapes Go.WideShapes Go.ChangeAt Go.RowKit

/-- The cells of n new numbers. -/
def mk1 (n : Nat) : Array Value := madeCells #[.int .i64 0] (n * 1)
theorem size_mk1 (n : Nat) : (mk1 n).size = n := by unfold mk1; rw [size_madeCells, Nat.mul_one]
theorem mk1_row (w : World) (n : Nat) (t : TypeId) : (w.alloc (.cells (mk1 n) t)).rowIs w.heap.size t n (fun i => (mk1 n).getD i undef) := by
  have h := World.rowIs_alloc w (mk1 n) t (fun i => (mk1 n).getD i undef) (fun i hi => by simp [Array.getD, hi])
  rwa [size_mk1] at h
theorem make_nums (n : Nat) (hn : n ≤ 1048576) (w : World) : (Instr.makeSlice 22 (.int .i64 (n : Int)) (.int .i64 (n : Int))).run Try.prog w = .ok (.slice (some ⟨w.heap.size, 0, none⟩) n n) (w.alloc (.cells (mk1 n) 2)) := make_ints n hn w

set_option maxHeartbeats 400000 in
theorem toInt64S_any (A : Option Addr) (n c : Nat) (V : List Int) (hn : n = V.length) (w : World) (hm : n ≤ 1048576) (H1 : IntsAt w w.heap.size A V) :
    Calls Try.prog 23 #[.slice A n c] w fun e w' => e = .returned (.slice (some ⟨w.heap.size, 0, none⟩) n n) ∧ IntsAt w' w'.heap.size (some ⟨w.heap.size, 0, none⟩) V ∧ Bl w w' := by
  have K1 := Lib.hid H1
  have HN := Lib.hid hn
  clear H1 hn
  have hmk := make_nums n hm
  go_enter Try.func23, Try.ntmps23
  go_wp2
  clear hmk
  go_loopw [4] (fun i wr => ∃ k : Nat, k ≤ n ∧ i = .int .i64 k ∧ Bl w wr ∧ ∃ f, wr.rowIs w.heap.size 2 n f ∧ ∀ j (h : j < k) (h' : j < V.length), f j = .int .i64 V[j]) (fun i _ => n - (intOf i).toNat)
  case atStart => exact ⟨0, by omega, rfl, (by repeat' (first | exact Bl.refl _ | with_reducible assumption | with_reducible refine Bl.drew_ ?_ | with_reducible refine Bl.drewN_ ?_ _ | with_reducible refine Bl.alloc_ ?_ _ | with_reducible refine Bl.trans_ ?_ (by assumption) | with_reducible refine Bl.trans_ ?_ (And.left (by assumption)))), _, mk1_row _ _ _, fun j h => absurd h (by omega)⟩
  case round =>
    obtain ⟨k, hk, rfl, hbl, f, hrow, hf⟩ := hrel
    by_cases hlt : k < n
    · have hkl : k < V.length := by have := HN.out; omega
      obtain ⟨g1, o1, rfl, hg1, hc1⟩ := K1.out.cell (by omega)
      have p1 := hc1 k hkl
      rw [← (bcell hbl).1 _ _ hg1] at p1
      have F := Lib.hid hf
      have R := Lib.hid hrow
      clear hf hrow hc1
      have z1 := R.out.cell (i := k) (by omega)
      have y1 := R.out.frozen k
      have i0 : (0 : Int) ≤ (k : Int) := by omega
      have i1 : (k : Int) < (n : Int) := by omega
      generalize hv : V[k] = x at p1
      go_wp2
      go_roundw
      case rel =>
        refine ⟨k + 1, by omega, by go_num, Bl.set_ hbl (Nat.le_refl _) _, _, R.out.set k _, fun j hj hj' => ?_⟩
        rcases Nat.lt_or_ge j k with h | h
        · rw [if_neg (by omega)]
          exact F.out j h hj'
        · have e : j = k := by omega
          subst e
          rw [if_pos rfl, hv]
      case measure => simp [intOf]; omega
    · go_wp2
      go_ret
      have e : k = n := by omega
      subst e
      refine ⟨rfl, fun h0 => ⟨w.heap.size, 0, rfl, hrow.lt, fun j hj => ?_⟩, hbl⟩
      rw [csI_len] at hj
      have hjk : j < k := by have := HN.out; omega
      rw [csI_at, ← hf j hjk hj, Nat.zero_add]
      exact hrow.cell hjk

set_option maxRecDepth 100000 in
theorem open_nums {H : Type} {enc : TypeId × Value → H} {W : World} {r : Reach} {b0 : Nat} {v : Value} {d : DataW H} {p : List MemPlace} (hv : Value.okWide Try.prog W r b0 22 v)
    (h : DataW.Trod enc Try.prog W 0 (fun _ => true) true 22 v d p) :
    ∃ (A : Option Addr) (n c : Nat) (V : List Int), v = .slice A n c ∧ n = V.length ∧ n ≤ 9223372036854775807 ∧ n ≤ c ∧ IntsAt W W.heap.size A V := by
  obtain ⟨a0, len0, cap0, rfl⟩ := okWide_slice Try.underlying22 hv
  obtain ⟨m0, ht1⟩ := h
  rcases open_ints Try.underlying22 Try.underlying2 (by kernel_rfl) ht1 with ⟨hcs, _⟩ | ⟨a, len, cap, zs, hcs, _, hl, hcap, hzs, hmax, hcell, hwf⟩
  · have hcs' : [Value.slice a0 len0 cap0] = [.slice none 0 0] := hcs
    simp only [List.cons.injEq, and_true, Value.slice.injEq] at hcs'
    obtain ⟨rfl, rfl, rfl⟩ := hcs'
    exact ⟨none, 0, 0, [], rfl, rfl, by omega, Nat.le_refl _, CellsAt.nil_ _ _ _⟩
  · have hcs' : [Value.slice a0 len0 cap0] = [.slice (some a) len cap] := hcs
    simp only [List.cons.injEq, and_true, Value.slice.injEq] at hcs'
    obtain ⟨rfl, rfl, rfl⟩ := hcs'
    have hz : len0 ≤ zs.length := by rw [hzs]; simp; omega
    refine ⟨some a, len0, cap0, zs.take len0, rfl, by rw [List.length_take]; omega, by first | omega | (unfold maxLen at *; omega), by omega, fun h0 => ?_⟩
    rw [csI_len, List.length_take] at h0
    obtain ⟨b, off, spot⟩ := a
    have hc0 := hcell 0 (by omega)
    have hspot : spot = none := by simpa [Addr.add] using World.cell?_spot hc0
    subst hspot
    refine ⟨b, off, rfl, ?_, fun j hj => ?_⟩
    · have := World.block_lt_of_cell? _ _ hc0
      simpa [Addr.add] using this
    · rw [csI_len, List.length_take] at hj
      have hc := hcell j (by omega)
      rw [Go.WideShapes.add_plain] at hc
      rw [hc, csI_at, List.getElem_take, List.getD_eq_getElem?_getD, List.getElem?_eq_getElem (by omega)]
      rfl

end Go.Proofs.Ytmdmbobjdhjadaa

set_option linter.unusedSimpArgs false
set_option linter.unusedVariables false
namespace Go.Proofs.Ytmdmbobjdhjadaa
open Go.ChangeShapes Go.WideShapes Go.ChangeAt Go.RowKit

/-- A new half is left. -/
def HalfMade (n m : Nat) (r : Int) (D E : List Int) (w : World) (e : Ending) (w' : World) : Prop :=
  ∃ g h, e = .returned (.agg #[.slice (some ⟨g, 0, none⟩) n n, .slice (some ⟨h, 0, none⟩) m m, .int .i64 r]) ∧ IntsAt w' w'.heap.size (some ⟨g, 0, none⟩) D ∧ IntsAt w' w'.heap.size (some ⟨h, 0, none⟩) E ∧ Bl w w'

theorem IntsAt.set_ {w : World} {B : Nat} {A : Option Addr} {V : List Int} (h : IntsAt w B A V) {p : Addr} (hp : ∀ g, blockOf A = some g → p.block ≠ g) (v : Value) : IntsAt (w.setCell p v) B A V := fun h0 => by
  obtain ⟨g, off, rfl, hg, hc⟩ := h h0
  exact ⟨g, off, rfl, hg, fun k hk => by rw [World.cell?_setCell_other _ _ _ _ (fun e => hp g rfl (by rw [e]))]; exact hc k hk⟩

/-- Three cells, in a block of their own. -/
def Tri (w : World) (g : Nat) (a b c : Value) : Prop := w.rowIs g 63 3 (fun i => if i = 0 then a else if i = 1 then b else c)
theorem Tri.new (w : World) (a b c : Value) : Tri (w.alloc (.cells #[a, b, c] 63)) w.heap.size a b c :=
  World.rowIs_alloc w #[a, b, c] _ _ (fun i hi => by
    have : i = 0 ∨ i = 1 ∨ i = 2 := by simp at hi; omega
    rcases this with rfl | rfl | rfl <;> simp)
theorem Tri.facts {w : World} {g : Nat} {a b c : Value} (h : Tri w g a b c) : w.cell? ⟨g, 0, none⟩ = some a ∧ w.cell? ⟨g, 1, none⟩ = some b ∧ w.cell? ⟨g, 2, none⟩ = some c ∧ w.frozen? ⟨g, 0, none⟩ = false ∧ w.frozen? ⟨g, 1, none⟩ = false ∧ w.frozen? ⟨g, 2, none⟩ = false :=
  ⟨h.cell (i := 0) (by omega), h.cell (i := 1) (by omega), h.cell (i := 2) (by omega), h.frozen 0, h.frozen 1, h.frozen 2⟩
theorem Tri.bl {w w' : World} {g : Nat} {a b c : Value} (h : Tri w g a b c) (hb : Bl w w') : Tri w' g a b c := row_bl h hb
theorem Tri.far {w : World} {g : Nat} {a b c : Value} (h : Tri w g a b c) {p : Addr} (hp : g ≠ p.block) (u : Value) : Tri (w.setCell p u) g a b c := World.rowIs.setOther h hp u
theorem Tri.set0 {w : World} {g : Nat} {a b c : Value} (h : Tri w g a b c) (u : Value) : Tri (w.setCell ⟨g, 0, none⟩ u) g u b c :=
  (World.rowIs.set h 0 u).congr fun i hi => by
    have : i = 0 ∨ i = 1 ∨ i = 2 := by omega
    rcases this with rfl | rfl | rfl <;> simp
theorem Tri.set1 {w : World} {g : Nat} {a b c : Value} (h : Tri w g a b c) (u : Value) : Tri (w.setCell ⟨g, 1, none⟩ u) g a u c :=
  (World.rowIs.set h 1 u).congr fun i hi => by
    have : i = 0 ∨ i = 1 ∨ i = 2 := by omega
    rcases this with rfl | rfl | rfl <;> simp
theorem Tri.set2 {w : World} {g : Nat} {a b c : Value} (h : Tri w g a b c) (u : Value) : Tri (w.setCell ⟨g, 2, none⟩ u) g a b u :=
  (World.rowIs.set h 2 u).congr fun i hi => by
    have : i = 0 ∨ i = 1 ∨ i = 2 := by omega
    rcases this with rfl | rfl | rfl <;> simp

set_option maxRecDepth 100000 in
set_option maxHeartbeats 1000000 in
theorem toHalf_any (A B : Option Addr) (n c m c' : Nat) (D E : List Int) (hn : n = D.length) (hm : m = E.length) (r : Int) (w : World) (h1 : n ≤ 1048576) (h2 : m ≤ 1048576) (H1 : IntsAt w w.heap.size A D) (H2 : IntsAt w w.heap.size B E) :
    Calls Try.prog 56 #[.agg #[.slice A n c, .slice B m c', .int .i64 r]] w (HalfMade n m r D E w) := by
  have K1 := Lib.hid H1
  have K2 := Lib.hid H2
  have HN := Lib.hid hn
  have HM := Lib.hid hm
  clear H1 H2 hn hm
  go_enter Try.func56, Try.ntmps56
  go_wp2_with fail
  refine (toInt64S_any A n c D HN.out _ h1 (K1.out.bl (by repeat' (first | exact Bl.refl _ | with_reducible assumption | with_reducible refine Bl.drew_ ?_ | with_reducible refine Bl.drewN_ ?_ _ | with_reducible refine Bl.alloc_ ?_ _ | with_reducible refine Bl.trans_ ?_ (by assumption) | with_reducible refine Bl.trans_ ?_ (And.left (by assumption)))))).mono ?_
  rintro e w1 ⟨rfl, hi1, hb1⟩
  have HI1 := Lib.hid (show IntsAt w1 w1.heap.size (some ⟨w.heap.size + 1 + 1 + 1, 0, none⟩) D from by simpa only [World.size_alloc] using hi1)
  have B1 := Lib.hid hb1
  have P1 := Lib.hid (box3 ((Bl.alloc_ (Bl.alloc_ (Bl.refl (w.alloc (.cells #[.slice A n c, .slice B m c', .int .i64 r] 70))) _) _).trans_ hb1))
  have R1 := Lib.hid (show Tri w1 (w.heap.size + 1) (.slice none 0 0) (.slice none 0 0) (.int .i64 0) from by
    have h := (Tri.new (w.alloc (.cells #[.slice A n c, .slice B m c', .int .i64 r] 70)) (.slice none 0 0) (.slice none 0 0) (.int .i64 0)).bl ((Bl.alloc_ (Bl.refl _) _).trans_ hb1)
    simpa only [World.size_alloc] using h)
  have O1 := Lib.hid (show Tri w1 (w.heap.size + 1 + 1) (.slice none 0 0) (.slice none 0 0) (.int .i64 0) from by
    have h := (Tri.new ((w.alloc (.cells #[.slice A n c, .slice B m c', .int .i64 r] 70)).alloc (.cells #[.slice none 0 0, .slice none 0 0, .int .i64 0] 63)) (.slice none 0 0) (.slice none 0 0) (.int .i64 0)).bl hb1
    simpa only [World.size_alloc] using h)
  have s1 := hb1.size
  simp only [World.size_alloc] at s1
  clear hi1 hb1
  obtain ⟨p0, p1, p2⟩ := P1.out
  obtain ⟨o0, o1, o2, f0, f1, f2⟩ := O1.out.facts
  go_wp2_with fail
  have Bw1 := Lib.hid (show Bl w (w1.setCell ⟨w.heap.size + 1 + 1, 0, none⟩ (.slice (some ⟨w.heap.size + 1 + 1 + 1, 0, none⟩) n n)) from Bl.set_ ((Bl.alloc_ (Bl.alloc_ (Bl.alloc_ (Bl.refl w) _) _) _).trans_ B1.out) (by show w.heap.size ≤ w.heap.size + 1 + 1; omega) _)
  refine (toInt64S_any B m c' E HM.out _ h2 (K2.out.bl Bw1.out)).mono ?_
  rintro e w2 ⟨rfl, hi2, hb2⟩
  rw [World.size_setCell] at hi2 ⊢
  have HI2 := Lib.hid hi2
  have B2 := Lib.hid hb2
  have Bw2 := Lib.hid (Bw1.out.trans_ hb2)
  have HJ2 := Lib.hid (((HI1.out.set_ (p := ⟨w.heap.size + 1 + 1, 0, none⟩) (fun g hg => by simp [blockOf] at hg; show w.heap.size + 1 + 1 ≠ g; omega) (.slice (some ⟨w.heap.size + 1 + 1 + 1, 0, none⟩) n n)).more (Nat.le_of_eq (World.size_setCell w1 _ _).symm)).bl hb2)
  have O2 := Lib.hid ((O1.out.set0 (.slice (some ⟨w.heap.size + 1 + 1 + 1, 0, none⟩) n n)).bl hb2)
  have R2 := Lib.hid ((R1.out.far (p := ⟨w.heap.size + 1 + 1, 0, none⟩) (by show w.heap.size + 1 ≠ w.heap.size + 1 + 1; omega) (.slice (some ⟨w.heap.size + 1 + 1 + 1, 0, none⟩) n n)).bl hb2)
  have s2 := hb2.size
  rw [World.size_setCell] at s2
  have z2 : w2.cell? ⟨w.heap.size, 2, none⟩ = some (.int .i64 r) := by
    rw [(bcell hb2).1 _ _ (by rw [World.size_setCell]; omega), World.cell?_setCell_other _ _ _ _ (by simp)]
    exact p2
  clear hi2 hb2 p0 p1 p2 o0 o1 o2 f0 f1 f2
  obtain ⟨o0, o1, o2, f0, f1, f2⟩ := O2.out.facts
  obtain ⟨r0, r1, r2, g0, g1, g2⟩ := R2.out.facts
  have n1 : w.heap.size + 1 + 1 ≠ w.heap.size + 1 := by omega
  have n2 : w.heap.size + 1 ≠ w.heap.size + 1 + 1 := by omega
  go_wp2
  refine bodyPost_ret (v := .agg #[.slice (some ⟨w.heap.size + 1 + 1 + 1, 0, none⟩) n n, .slice (some ⟨w1.heap.size, 0, none⟩) m m, .int .i64 r]) (by simp [results, Try.results56, go_sem, r0, r1, r2, g0, g1, g2]) rfl ?_
  have far : ∀ (G : Nat) (V : List Int), w.heap.size + 1 + 1 < G → IntsAt w2 w2.heap.size (some ⟨G, 0, none⟩) V → ∀ (x y z a b : Value), IntsAt (((((w2.setCell ⟨w.heap.size + 1 + 1, 1, none⟩ x).setCell ⟨w.heap.size + 1 + 1, 2, none⟩ y).setCell ⟨w.heap.size + 1, 0, none⟩ z).setCell ⟨w.heap.size + 1, 1, none⟩ a).setCell ⟨w.heap.size + 1, 2, none⟩ b) w2.heap.size (some ⟨G, 0, none⟩) V := fun G V hG h x y z a b =>
    ((((h.set_ (fun g e => by simp [blockOf] at e; show w.heap.size + 1 + 1 ≠ g; omega) x).set_ (fun g e => by simp [blockOf] at e; show w.heap.size + 1 + 1 ≠ g; omega) y).set_ (fun g e => by simp [blockOf] at e; show w.heap.size + 1 ≠ g; omega) z).set_ (fun g e => by simp [blockOf] at e; show w.heap.size + 1 ≠ g; omega) a).set_ (fun g e => by simp [blockOf] at e; show w.heap.size + 1 ≠ g; omega) b
  refine ⟨_, _, rfl, (far _ D (by omega) HJ2.out _ _ _ _ _).more (by simp), (far _ E (by omega) HI2.out _ _ _ _ _).more (by simp), ?_⟩
  exact Bl.set_ (Bl.set_ (Bl.set_ (Bl.set_ (Bl.set_ Bw2.out (by show w.heap.size ≤ w.heap.size + 1 + 1; omega) _) (by show w.heap.size ≤ w.heap.size + 1 + 1; omega) _) (by show w.heap.size ≤ w.heap.size + 1; omega) _) (by show w.heap.size ≤ w.heap.size + 1; omega) _) (by show w.heap.size ≤ w.heap.size + 1; omega) _

set_option maxRecDepth 100000 in
set_option maxHeartbeats 1000000 in
theorem eqHalf_yes (A B A' B' : Option Addr) (n c c' m d d' : Nat) (D E : List Int) (hn : n = D.length) (hm : m = E.length) (r : Int) (w : World) (h1 : n ≤ 9223372036854775807) (h2 : m ≤ 9223372036854775807) (H1 : IntsAt w w.heap.size A D) (H2 : IntsAt w w.heap.size B E) (H3 : IntsAt w w.heap.size A' D) (H4 : IntsAt w w.heap.size B' E) :
    Calls Try.prog 48 #[.agg #[.slice A n c, .slice B m d, .int .i64 r], .agg #[.slice A' n c', .slice B' m d', .int .i64 r]] w fun e w' => e = .returned (.bool true) ∧ Bl w w' := by
  have K1 := Lib.hid H1
  have K2 := Lib.hid H2
  have K3 := Lib.hid H3
  have K4 := Lib.hid H4
  have HN := Lib.hid hn
  have HM := Lib.hid hm
  clear H1 H2 H3 H4 hn hm
  have q3 : ∀ wx, Bl ((w.alloc (.cells #[.slice A n c, .slice B m d, .int .i64 r] 63)).alloc (.cells #[.slice A' n c', .slice B' m d', .int .i64 r] 63)) wx → wx.cell? ⟨w.heap.size, 0, none⟩ = some (.slice A n c) ∧ wx.cell? ⟨w.heap.size, 1, none⟩ = some (.slice B m d) ∧ wx.cell? ⟨w.heap.size, 2, none⟩ = some (.int .i64 r) ∧ wx.cell? ⟨w.heap.size + 1, 0, none⟩ = some (.slice A' n c') ∧ wx.cell? ⟨w.heap.size + 1, 1, none⟩ = some (.slice B' m d') ∧ wx.cell? ⟨w.heap.size + 1, 2, none⟩ = some (.int .i64 r) := fun wx hb => by
    obtain ⟨a0, a1, a2⟩ := box3 ((Bl.alloc_ (Bl.refl (w.alloc (.cells #[.slice A n c, .slice B m d, .int .i64 r] 63))) _).trans_ hb)
    obtain ⟨z0, z1, z2⟩ := box3 hb
    simp only [World.size_alloc] at z0 z1 z2
    exact ⟨a0, a1, a2, z0, z1, z2⟩
  have Q3 := Lib.hid q3
  clear q3
  have hrr : (r != r) = false := by simp
  go_enter Try.func48, Try.ntmps48
  go_wp2_with fail
  refine (eqInt64S_yes A A' c c' D n HN.out _ h1 (K1.out.bl (by repeat' (first | exact Bl.refl _ | with_reducible assumption | with_reducible refine Bl.drew_ ?_ | with_reducible refine Bl.drewN_ ?_ _ | with_reducible refine Bl.alloc_ ?_ _ | with_reducible refine Bl.trans_ ?_ (by assumption) | with_reducible refine Bl.trans_ ?_ (And.left (by assumption))))) (K3.out.bl (by repeat' (first | exact Bl.refl _ | with_reducible assumption | with_reducible refine Bl.drew_ ?_ | with_reducible refine Bl.drewN_ ?_ _ | with_reducible refine Bl.alloc_ ?_ _ | with_reducible refine Bl.trans_ ?_ (by assumption) | with_reducible refine Bl.trans_ ?_ (And.left (by assumption)))))).mono ?_
  rintro e w1 ⟨rfl, hb1⟩
  obtain ⟨a0, a1, a2, z0, z1, z2⟩ := Q3.out _ hb1
  have hbw : Bl w w1 := (Bl.alloc_ (Bl.alloc_ (Bl.refl w) _) _).trans_ hb1
  go_wp2_with fail
  refine (eqInt64S_yes B B' d d' E m HM.out _ h2 (K2.out.bl hbw) (K4.out.bl hbw)).mono ?_
  rintro e w2 ⟨rfl, hb2⟩
  clear a0 a1 a2 z0 z1 z2
  obtain ⟨a0, a1, a2, z0, z1, z2⟩ := Q3.out _ (hb1.trans_ hb2)
  go_wp2
  go_ret
  exact ⟨rfl, hbw.trans_ hb2⟩

set_option maxRecDepth 100000 in
set_option maxHeartbeats 1000000 in
theorem szHalf_any (A B : Option Addr) (n c m c' : Nat) (r l : Int) (w : World) (h1 : n ≤ 9223372036854775807) (h2 : m ≤ 9223372036854775807) (l0 : 0 ≤ l) (l1 : l ≤ 1048576) :
    Calls Try.prog 54 #[.agg #[.slice A n c, .slice B m c', .int .i64 r], .int .i64 l] w fun e w' => e = .returned (.int .i64 (if l - n - m < 0 then -1 else l - n - m)) ∧ Bl w w' := by
  by_cases b1 : l - n < 0
  · go_enter Try.func54, Try.ntmps54
    go_wp2_with fail
    refine (szInt64S_any A n c l _ h1 l0 l1).mono ?_
    rintro e w1 ⟨rfl, rfl⟩
    rw [if_pos b1]
    go_wp2
    go_ret
    exact ⟨ret_int (by first | rfl | rw [if_pos (by omega)]), (by repeat' (first | exact Bl.refl _ | with_reducible assumption | with_reducible refine Bl.drew_ ?_ | with_reducible refine Bl.drewN_ ?_ _ | with_reducible refine Bl.alloc_ ?_ _ | with_reducible refine Bl.trans_ ?_ (by assumption) | with_reducible refine Bl.trans_ ?_ (And.left (by assumption))))⟩
  · have hb := b1
    by_cases b2 : l - n - m < 0
    · go_enter Try.func54, Try.ntmps54
      go_wp2_with fail
      refine (szInt64S_any A n c l _ h1 l0 l1).mono ?_
      rintro e w1 ⟨rfl, rfl⟩
      rw [if_neg (by omega)]
      have p0 : (0 : Int) ≤ l - (n : Int) := by omega
      have p1 : decide (l - (n : Int) < 0) = false := by simp; omega
      go_wp2_with fail
      refine (szInt64S_any B m c' (l - n) _ h2 p0 (by omega)).mono ?_
      rintro e w1 ⟨rfl, rfl⟩
      rw [if_pos (by omega)]
      go_wp2
      go_ret
      exact ⟨ret_int (by first | rfl | rw [if_pos (by omega)]), (by repeat' (first | exact Bl.refl _ | with_reducible assumption | with_reducible refine Bl.drew_ ?_ | with_reducible refine Bl.drewN_ ?_ _ | with_reducible refine Bl.alloc_ ?_ _ | with_reducible refine Bl.trans_ ?_ (by assumption) | with_reducible refine Bl.trans_ ?_ (And.left (by assumption))))⟩
    · go_enter Try.func54, Try.ntmps54
      go_wp2_with fail
      refine (szInt64S_any A n c l _ h1 l0 l1).mono ?_
      rintro e w1 ⟨rfl, rfl⟩
      rw [if_neg (by omega)]
      have p0 : (0 : Int) ≤ l - (n : Int) := by omega
      have p1 : decide (l - (n : Int) < 0) = false := by simp; omega
      go_wp2_with fail
      refine (szInt64S_any B m c' (l - n) _ h2 p0 (by omega)).mono ?_
      rintro e w1 ⟨rfl, rfl⟩
      rw [if_neg (by omega)]
      have p2 : decide (l - (n : Int) - (m : Int) < 0) = false := by simp; omega
      go_wp2
      go_ret
      exact ⟨ret_int (by first | rfl | rw [if_neg (by omega)]), (by repeat' (first | exact Bl.refl _ | with_reducible assumption | with_reducible refine Bl.drew_ ?_ | with_reducible refine Bl.drewN_ ?_ _ | with_reducible refine Bl.alloc_ ?_ _ | with_reducible refine Bl.trans_ ?_ (by assumption) | with_reducible refine Bl.trans_ ?_ (And.left (by assumption))))⟩

end Go.Proofs.Ytmdmbobjdhjadaa

set_option linter.unusedSimpArgs false
set_option linter.unusedVariables false
namespace Go.Proofs.Ytmdmbobjdhjadaa
open Go.RowKit

theorem OwnN.snoc {w : World} {B : Nat} {v : Value} {V : List Int} {x : Int} {n : Nat} (hn : n = V.length) (h : w.ownsRow B 2 1 v (n + 1) (csI V ++ [.int .i64 x])) : OwnN w B v (V ++ [x]) := by
  unfold OwnN Owns
  rw [List.length_append, ← hn]
  simpa [csI] using h
/-- What holds where a word is true, and where it is not. -/
def IfT (b : Bool) (P : Prop) : Prop := b = true → P
def IfF (b : Bool) (P : Prop) : Prop := b = false → P
/-- A list of numbers of one's own, in a block. -/
def RowN (w : World) (g c : Nat) (V : List Int) : Prop := OwnN w g (.slice (some ⟨g, 0, none⟩) V.length c) V
theorem RowN.cells {w : World} {g c : Nat} {V : List Int} (h : RowN w g c V) : (∀ o, w.frozen? ⟨g, o, none⟩ = false) ∧ (∀ k (hk : k < V.length), w.cell? ⟨g, k, none⟩ = some (.int .i64 V[k])) := by
  refine ⟨fun o => World.ownsRow.frozenAt h o, fun k hk => ?_⟩
  rw [World.ownsRow.cellAt h k (by omega), List.getElem?_eq_getElem (by rw [csI_len]; exact hk), csI_at]
theorem RowN.bl {w w' : World} {g c : Nat} {V : List Int} (h : RowN w g c V) (hb : Bl w w') : RowN w' g c V := OwnN.bl h hb
theorem RowN.set {w : World} {g c : Nat} {V : List Int} (h : RowN w g c V) (k : Nat) (x : Int) : RowN (w.setCell ⟨g, k, none⟩ (.int .i64 x)) g c (V.set k x) := by
  have h' := (Owns.stored h k (.int .i64 x)).1
  unfold RowN OwnN
  rw [List.length_set]
  have e : csI (V.set k x) = (csI V).set k (.int .i64 x) := by simp [csI, List.map_set]
  rw [e]
  exact h'

theorem OwnN.toRow {w : World} {B : Nat} {v : Value} {V : List Int} (h : OwnN w B v V) (h0 : 0 < V.length) : ∃ g c, v = .slice (some ⟨g, 0, none⟩) V.length c ∧ B ≤ g ∧ g < w.heap.size ∧ RowN w g c V := by
  obtain ⟨A, c, rfl, -, -, -, h3⟩ := Owns.shape h
  obtain ⟨g, rfl, hB, hg, -, -⟩ := h3 h0
  refine ⟨g, c, rfl, hB, hg, h.1, ?_⟩
  rcases h.2 with ⟨e, h1⟩ | ⟨g', cap, cur, e, hB', r⟩
  · simp at e
  · have e' := e
    injection e with e1 e2 e3
    injection e1 with e1
    injection e1 with e1
    exact .inr ⟨g', cap, cur, e', by omega, r⟩
theorem RowN.own {w : World} {g c B : Nat} {V : List Int} (h : RowN w g c V) (hB : B ≤ g) : OwnN w B (.slice (some ⟨g, 0, none⟩) V.length c) V := OwnN.low h hB
theorem RowN.lt {w : World} {g c : Nat} {V : List Int} (h : RowN w g c V) : g < w.heap.size := (Owns.lt_ h g rfl).2

set_option maxRecDepth 100000 in
set_option maxHeartbeats 4000000 in
theorem l3Dist_any (N s : Int) (A : Option Addr) (n c : Nat) (L : List Arc3) (hn : n = L.length) (ho : okB N L = true) (h0 : 0 ≤ s) (h1 : s < N) (w : World) (hm : n ≤ 1048576) (H1 : ArcsAt w w.heap.size A L) :
    Calls Try.prog 82 #[.agg #[.int .i64 N, .slice A n c], .int .i64 s] w (NumsMade (distL N L s) w) := by
  obtain ⟨i0, hi, hz0, hz1, hz2⟩ := info_parts infoInt
  have I0 := Lib.hid hi
  have I1 := Lib.hid hz0
  have I2 := Lib.hid hz1
  have I3 := Lib.hid hz2
  have K1 := Lib.hid H1
  have HN := Lib.hid hn
  have HO := Lib.hid ho
  have hN24 := (okB_elim ho).2.1
  have hL150 := (okB_elim ho).2.2.1
  obtain ⟨m, rfl⟩ : ∃ m : Nat, N = m := ⟨N.toNat, by omega⟩
  obtain ⟨q, rfl⟩ : ∃ q : Nat, s = q := ⟨s.toNat, by omega⟩
  have hm24 : m ≤ 24 := by omega
  have hqm : q < m := by omega
  clear H1 hn hi hz0 hz1 hz2 ho
  go_enter Try.func82, Try.ntmps82
  go_wp2_with fail
  go_loopw [5, 6] (fun v i wr => ∃ k : Nat, k ≤ m ∧ i = .int .i64 k ∧ OwnN wr (w.heap.size + 1) v (List.replicate k (-1)) ∧ Bl (w.alloc (.cells #[.int .i64 (m : Int), .slice A n c] 42)) wr) (fun _ i _ => m - (intOf i).toNat)
  case atStart =>
    refine ⟨0, by omega, rfl, ?_, (by repeat' (first | exact Bl.refl _ | with_reducible assumption | with_reducible refine Bl.drew_ ?_ | with_reducible refine Bl.drewN_ ?_ _ | with_reducible refine Bl.alloc_ ?_ _ | with_reducible refine Bl.trans_ ?_ (by assumption) | with_reducible refine Bl.trans_ ?_ (And.left (by assumption))))⟩
    have h := World.ownsRow_made (base := w.heap.size + 1) (e := 2) (size := 1) (w.alloc (.cells #[.int .i64 (m : Int), .slice A n c] 42)) #[] 0 (by simp) (by unfold maxLen; omega) rfl
    rw [World.size_alloc] at h
    exact h
  case round =>
    obtain ⟨k, hk, rfl, hown, hbl⟩ := hrel
    have hs := hbl.size
    simp only [World.size_alloc] at hs
    obtain ⟨q0, q1⟩ := box2 hbl
    have O := Lib.hid hown
    have HB := Lib.hid hbl
    clear hown hbl
    by_cases hlt : k < m
    · go_wp2_with (at_builtin; refine wpList_append_own _ rfl (.tmp 18) (.tmp 19) _ rfl (w.heap.size + 1) 2 i0 _ 1 8 Try.underlying22 I0.out I1.out I2.out I3.out rfl (by decide) _ (List.replicate k (-1)).length (csI (List.replicate k (-1))) rfl (World.ownsRow.alloc O.out _) ⟨wr.heap.size, 0, none⟩ 1 1 [.int .i64 (-1)] rfl rfl ?c0 (by simp [Value.oneCell']) ?c3 ?c4 ?c5 ?_)
      case c0 => 
        intro j u hj
        match j, hj with
        | 0, hj => simp at hj; subst hj; simp [Addr.add, go_sem]
        | (j + 1), hj => simp at hj
      case c3 => unfold maxLen; simp; omega
      case c4 => simp; omega
      case c5 => simp; omega
      intro v' w1 hown' hgrow _
      have O1 := Lib.hid (OwnN.snoc (V := List.replicate k (-1)) (x := -1) (n := k) (by simp) (by simpa using hown'))
      have hb1 : Bl (w.alloc (.cells #[.int .i64 (m : Int), .slice A n c] 42)) w1 := (HB.out.alloc_ _).grown_ hgrow (fun g hg => by have := (Owns.lt O.out g hg).1; simpa using this)
      have hb1' := Lib.hid hb1
      obtain ⟨q2, q3⟩ := box2 hb1
      clear hown' hgrow q0 q1 hb1
      go_wp2
      go_roundw
      case rel => exact ⟨k + 1, by omega, by go_num, by rw [List.replicate_succ']; exact O1.out, hb1'.out⟩
      case measure => simp [intOf]; omega
    · obtain rfl : k = m := by omega
      obtain ⟨g, c', rfl, hBg, hgl, hrow⟩ := O.out.toRow (by simp; omega)
      have hcl := hrow.cells
      have p0 := hcl.2 q (by simp; exact hqm)
      have p1 := hcl.1 q
      rw [List.getElem_replicate] at p0
      rw [List.length_replicate]
      have hq0 : (0 : Int) ≤ (q : Int) := by omega
      have hq1 : (q : Int) < (k : Int) := by omega
      have R0 := Lib.hid (show RowN (wr.setCell ⟨g, q, none⟩ (.int .i64 0)) g c' (startD k q) from by
        have := hrow.set q 0
        unfold startD
        simpa using this)
      have HB0 := Lib.hid (show Bl (w.alloc (.cells #[.int .i64 (k : Int), .slice A n c] 42)) (wr.setCell ⟨g, q, none⟩ (.int .i64 0)) from HB.out.set_ (by simp; omega) _)
      clear hcl hrow
      go_wp2_with fail
      clear p0 p1 q0 q1
      go_loopg [7] (sumF potF (startD k q) + 1) (fun t mo wr => ∃ (D : List Int) (b : Bool), mo = .bool b ∧ Hid (Rel k L q D) ∧ Hid (RowN wr g c' D) ∧ Hid (Bl (w.alloc (.cells #[.int .i64 (k : Int), .slice A n c] 42)) wr) ∧ IfT b (sumF potF D + 1 ≤ t) ∧ IfF b (IsDist k L q D))
      case atStart => exact ⟨startD k q, true, rfl, Lib.hid (Rel.start_ (by omega) (by omega)), R0, HB0, fun _ => Nat.le_refl _, fun h => nomatch h⟩
      case round =>
        obtain ⟨D, b, rfl, RE, RO, BB, po, di⟩ := hrel
        have PO := Lib.hid po
        have DI := Lib.hid di
        clear po di
        have hDl : D.length = k := by have := RE.out.len; simpa using this
        have HDL := Lib.hid hDl
        clear hDl
        cases b with
        | false =>
          go_wp2_with fail
          go_ret
          have hD := distL_of (arcsIn_of_ok HO.out) (by omega) (by omega) (by omega) (DI.out rfl)
          refine ⟨_, rfl, ?_, (Bl.alloc_ (Bl.refl w) _).trans_ BB.out⟩
          rw [← hD]
          have := RO.out.own (B := w.heap.size) (by omega)
          rw [HDL.out] at this
          exact this
        | true =>
          obtain ⟨q0, q1⟩ := box2 BB.out
          go_wp2_with fail
          clear q0 q1
          go_loopw [7, 8] (fun mo i wr => ∃ (j : Nat) (E : List Int) (b : Bool), j ≤ n ∧ i = .int .i64 j ∧ mo = .bool b ∧ Hid (Rel k L q E) ∧ Hid (RowN wr g c' E) ∧ Hid (Bl (w.alloc (.cells #[.int .i64 (k : Int), .slice A n c] 42)) wr) ∧
            IfT b (sumF potF E < sumF potF D) ∧ IfF b (E = D ∧ ∀ t (h : t < L.length), t < j → nearer D L[t] = false)) (fun _ i _ => n - (intOf i).toNat)
          case atStart => exact ⟨0, D, false, by omega, rfl, rfl, RE, RO, BB, (fun h => nomatch h), fun _ => ⟨rfl, fun t h h' => absurd h' (by omega)⟩⟩
          case round =>
            obtain ⟨j, E, b, hj, rfl, rfl, RE2, RO2, BB2, less, same⟩ := hrel
            have LESS := Lib.hid less
            have SAME := Lib.hid same
            clear less same
            obtain ⟨q0, q1⟩ := box2 BB2.out
            have hEl : E.length = k := by have := RE2.out.len; simpa using this
            have HEL := Lib.hid hEl
            clear hEl
            by_cases hlt : j < n
            · have hjl : j < L.length := by have := HN.out; omega
              have hbw : Bl w wr := (Bl.alloc_ (Bl.refl w) _).trans_ BB2.out
              obtain ⟨g1, o1, rfl, hg1, hc1⟩ := K1.out (by omega)
              obtain ⟨p1, p2, p3⟩ := hc1 j hjl
              rw [← (bcell hbw).1 _ _ hg1] at p1 p2 p3
              obtain ⟨a0, a1, a2, a3, a4, a5⟩ := arcsIn_of_ok HO.out L[j] (List.getElem_mem hjl)
              have AM := Lib.hid (show L[j] ∈ L from List.getElem_mem hjl)
              have hgl2 := RO2.out.lt
              have hg1l : g1 < wr.heap.size := Nat.lt_of_lt_of_le hg1 hbw.size
              clear hc1 hbw
              generalize hAA : L[j] = aa at *
              obtain ⟨x, y, z⟩ := aa
              simp only at a0 a1 a2 a3 a4 a5 p1 p2 p3
              obtain ⟨u, rfl⟩ : ∃ u : Nat, x = u := ⟨x.toNat, by omega⟩
              obtain ⟨v, rfl⟩ : ∃ v : Nat, y = v := ⟨y.toNat, by omega⟩
              have huk : u < k := by omega
              have hvk : v < k := by omega
              obtain ⟨hfz, hcl⟩ := RO2.out.cells
              have c1 := hcl u (by rw [HEL.out]; exact huk)
              have c2 := hcl v (by rw [HEL.out]; exact hvk)
              have f2 := hfz v
              clear hfz hcl
              have e1 : E[u]'(by rw [HEL.out]; exact huk) = dAt E (u : Int) := by simp [dAt, HEL.out, huk]
              have e2 : E[v]'(by rw [HEL.out]; exact hvk) = dAt E (v : Int) := by simp [dAt, HEL.out, hvk]
              rw [e1] at c1
              rw [e2] at c2
              have b1 := RE2.out.bound (by omega) (u : Int)
              have b2 := RE2.out.bound (by omega) (v : Int)
              have b3 := RE2.out.low (u : Int)
              have b4 := RE2.out.low (v : Int)
              have HA := Lib.hid hAA
              clear e1 e2 hAA
              have hstep : nearer E ((u : Int), (v : Int), z) = true → Rel k L q (E.set v (dAt E (u : Int) + z)) ∧ sumF potF (E.set v (dAt E (u : Int) + z)) < sumF potF E := fun h => by
                have := RE2.out.step (arcsIn_of_ok HO.out) (by omega) AM.out h
                simpa using this
              have HST := Lib.hid hstep
              clear hstep
              generalize hdu : dAt E (u : Int) = du at *
              generalize hdv : dAt E (v : Int) = dv at *
              have hnr : nearer E ((u : Int), (v : Int), z) = decide (0 ≤ du ∧ (dv < 0 ∨ du + z < dv)) := by
                unfold nearer
                simp only [hdu, hdv]
              have HNR := Lib.hid hnr
              have no : nearer E ((u : Int), (v : Int), z) = false → IfF b (E = D ∧ ∀ t (h : t < L.length), t < j + 1 → nearer D L[t] = false) := fun hn hb => by
                obtain ⟨e, h⟩ := SAME.out hb
                refine ⟨e, fun t ht htj => ?_⟩
                rcases Nat.lt_or_ge t j with h' | h'
                · exact h t ht h'
                · obtain rfl : t = j := by omega
                  rw [HA.out, ← e]
                  exact hn
              have NO := Lib.hid no
              clear hdu hdv hnr no AM HA
              have i1 : (0 : Int) ≤ (u : Int) := by omega
              have i2 : (u : Int) < (k : Int) := by omega
              have i3 : (0 : Int) ≤ (v : Int) := by omega
              have i4 : (v : Int) < (k : Int) := by omega
              by_cases hdn : du < 0
              · have hnf : nearer E ((u : Int), (v : Int), z) = false := by rw [HNR.out]; simp; omega
                have NF := Lib.hid (NO.out hnf)
                clear hnf
                go_wp2_with fail
                go_roundw
                case rel => exact ⟨j + 1, E, b, by omega, by go_num, rfl, RE2, Lib.hid (RO2.out.bl (by repeat' (first | exact Bl.refl _ | with_reducible assumption | with_reducible refine Bl.drew_ ?_ | with_reducible refine Bl.drewN_ ?_ _ | with_reducible refine Bl.alloc_ ?_ _ | with_reducible refine Bl.trans_ ?_ (by assumption) | with_reducible refine Bl.trans_ ?_ (And.left (by assumption))))), Lib.hid (BB2.out.trans_ (by repeat' (first | exact Bl.refl _ | with_reducible assumption | with_reducible refine Bl.drew_ ?_ | with_reducible refine Bl.drewN_ ?_ _ | with_reducible refine Bl.alloc_ ?_ _ | with_reducible refine Bl.trans_ ?_ (by assumption) | with_reducible refine Bl.trans_ ?_ (And.left (by assumption))))), LESS.out, NF.out⟩
                case measure => simp [intOf]; omega
              · by_cases hnv : dv < 0
                · have hyes : nearer E ((u : Int), (v : Int), z) = true := by rw [HNR.out]; simp; omega
                  obtain ⟨hre, hpo⟩ := HST.out hyes
                  have RE3 := Lib.hid hre
                  have LS3 := Lib.hid (show sumF potF (E.set v (du + z)) < sumF potF D from by
                    cases hb : b with
                    | true => exact Nat.lt_trans hpo (LESS.out hb)
                    | false => rw [← (SAME.out hb).1]; exact hpo)
                  have hw : IntKind.i64.wrap (du + z) = du + z := IntWalk.i64_in _ (by omega)
                  clear hyes hre hpo
                  go_wp2_with fail
                  go_quiet (fail)
                  clear hw
                  go_wp2_with fail
                  go_roundw
                  case rel => exact ⟨j + 1, E.set v (du + z), true, by omega, by go_num, rfl, RE3, Lib.hid (RowN.set (RO2.out.bl (by repeat' (first | exact Bl.refl _ | with_reducible assumption | with_reducible refine Bl.drew_ ?_ | with_reducible refine Bl.drewN_ ?_ _ | with_reducible refine Bl.alloc_ ?_ _ | with_reducible refine Bl.trans_ ?_ (by assumption) | with_reducible refine Bl.trans_ ?_ (And.left (by assumption))))) v _), Lib.hid (Bl.set_ (BB2.out.trans_ (by repeat' (first | exact Bl.refl _ | with_reducible assumption | with_reducible refine Bl.drew_ ?_ | with_reducible refine Bl.drewN_ ?_ _ | with_reducible refine Bl.alloc_ ?_ _ | with_reducible refine Bl.trans_ ?_ (by assumption) | with_reducible refine Bl.trans_ ?_ (And.left (by assumption))))) (by simp; omega) _), (fun _ => LS3.out), fun h => nomatch h⟩
                  case measure => simp [intOf]; omega
                · by_cases hln : du + z < dv
                  · have hyes : nearer E ((u : Int), (v : Int), z) = true := by rw [HNR.out]; simp; omega
                    obtain ⟨hre, hpo⟩ := HST.out hyes
                    have RE3 := Lib.hid hre
                    have LS3 := Lib.hid (show sumF potF (E.set v (du + z)) < sumF potF D from by
                      cases hb : b with
                      | true => exact Nat.lt_trans hpo (LESS.out hb)
                      | false => rw [← (SAME.out hb).1]; exact hpo)
                    have hw : IntKind.i64.wrap (du + z) = du + z := IntWalk.i64_in _ (by omega)
                    clear hyes hre hpo
                    go_wp2_with fail
                    go_quiet (fail)
                    clear hw
                    go_wp2_with fail
                    go_roundw
                    case rel => exact ⟨j + 1, E.set v (du + z), true, by omega, by go_num, rfl, RE3, Lib.hid (RowN.set (RO2.out.bl (by repeat' (first | exact Bl.refl _ | with_reducible assumption | with_reducible refine Bl.drew_ ?_ | with_reducible refine Bl.drewN_ ?_ _ | with_reducible refine Bl.alloc_ ?_ _ | with_reducible refine Bl.trans_ ?_ (by assumption) | with_reducible refine Bl.trans_ ?_ (And.left (by assumption))))) v _), Lib.hid (Bl.set_ (BB2.out.trans_ (by repeat' (first | exact Bl.refl _ | with_reducible assumption | with_reducible refine Bl.drew_ ?_ | with_reducible refine Bl.drewN_ ?_ _ | with_reducible refine Bl.alloc_ ?_ _ | with_reducible refine Bl.trans_ ?_ (by assumption) | with_reducible refine Bl.trans_ ?_ (And.left (by assumption))))) (by simp; omega) _), (fun _ => LS3.out), fun h => nomatch h⟩
                    case measure => simp [intOf]; omega
                  · have hnf : nearer E ((u : Int), (v : Int), z) = false := by rw [HNR.out]; simp; omega
                    have NF := Lib.hid (NO.out hnf)
                    have hw : IntKind.i64.wrap (du + z) = du + z := IntWalk.i64_in _ (by omega)
                    clear hnf
                    go_wp2_with fail
                    go_quiet (fail)
                    clear hw
                    go_wp2_with fail
                    go_roundw
                    case rel => exact ⟨j + 1, E, b, by omega, by go_num, rfl, RE2, Lib.hid (RO2.out.bl (by repeat' (first | exact Bl.refl _ | with_reducible assumption | with_reducible refine Bl.drew_ ?_ | with_reducible refine Bl.drewN_ ?_ _ | with_reducible refine Bl.alloc_ ?_ _ | with_reducible refine Bl.trans_ ?_ (by assumption) | with_reducible refine Bl.trans_ ?_ (And.left (by assumption))))), Lib.hid (BB2.out.trans_ (by repeat' (first | exact Bl.refl _ | with_reducible assumption | with_reducible refine Bl.drew_ ?_ | with_reducible refine Bl.drewN_ ?_ _ | with_reducible refine Bl.alloc_ ?_ _ | with_reducible refine Bl.trans_ ?_ (by assumption) | with_reducible refine Bl.trans_ ?_ (And.left (by assumption))))), LESS.out, NF.out⟩
                    case measure => simp [intOf]; omega
            · go_wp2_with fail
              go_roundg (if b = true then sumF potF E + 1 else 0)
              case rel =>
                refine ⟨E, b, rfl, RE2, RO2, BB2, fun h => by rw [h]; simp, fun h => ?_⟩
                obtain ⟨e, hx⟩ := SAME.out h
                refine RE2.out.done (arcsIn_of_ok HO.out) fun a ha => ?_
                obtain ⟨t, ht, rfl⟩ := List.mem_iff_getElem.1 ha
                rw [e]
                exact hx t ht (by have := HN.out; omega)
              case measure =>
                have := PO.out rfl
                cases hb : b with
                | true => have := LESS.out hb; simp; omega
                | false => simp; omega

end Go.Proofs.Ytmdmbobjdhjadaa

set_option linter.unusedSimpArgs false
set_option linter.unusedVariables false
namespace Go.Proofs.Ytmdmbobjdhjadaa
open Go.RowKit

theorem nodeB_ok {N v : Int} {L : List Arc3} (ho : okB N L = true) : nodeB N v = decide (0 ≤ v ∧ v < N) := by
  obtain ⟨h1, h2, -⟩ := okB_elim ho
  unfold nodeB inB
  have : wrap64 (N - 1) = N - 1 := by unfold wrap64; omega
  rw [this, Bool.eq_iff_iff]
  simp only [decide_eq_true_eq]
  omega
theorem distFromL_len (N : Int) (L : List Arc3) (s : Int) : (distFromL N L s).length ≤ 1048576 := by
  unfold distFromL
  split
  · obtain ⟨ho, h0, h1⟩ := has1_of ‹_›
    have := (okB_elim ho).2.1
    rw [distL_len ho h0 h1]
    omega
  · simp

-- (specDistFrom_any left out)

-- (specDistOf_any left out)

end Go.Proofs.Ytmdmbobjdhjadaa

set_option linter.unusedSimpArgs false
set_option linter.unusedVariables false
namespace Go.Proofs.Ytmdmbobjdhjadaa

/-- Are all of these nodes of N, no two alike? -/
def unB (N : Int) (V : List Int) : Bool := decide ((∀ v ∈ V, 0 ≤ v ∧ v < N) ∧ V.Nodup)
/-- Is the graph right, are all of these nodes of it, and no two alike? -/
def hasUB (N : Int) (L : List Arc3) (V : List Int) : Bool := okB N L && unB N V
theorem hasB_iff {N : Int} {L : List Arc3} {V : List Int} : hasB N L V = true ↔ okB N L = true ∧ ∀ v ∈ V, 0 ≤ v ∧ v < N := by
  unfold hasB
  rw [Bool.and_eq_true, List.all_eq_true]
  simp
theorem hasUB_no {N : Int} {L : List Arc3} {V : List Int} (h : hasB N L V = false) : hasUB N L V = false := by
  unfold hasUB unB
  rcases Bool.eq_false_or_eq_true (okB N L) with ho | ho
  · rw [ho, Bool.true_and, decide_eq_false_iff_not]
    intro hx
    have := hasB_iff.2 ⟨ho, hx.1⟩
    rw [this] at h
    exact absurd h (by simp)
  · rw [ho]; rfl
theorem hasUB_yes {N : Int} {L : List Arc3} {V : List Int} (h : hasB N L V = true) : hasUB N L V = decide V.Nodup := by
  obtain ⟨h1, h2⟩ := hasB_iff.1 h
  unfold hasUB unB
  rw [h1, Bool.true_and]
  by_cases hn : V.Nodup
  · rw [decide_eq_true hn]; exact decide_eq_true ⟨h2, hn⟩
  · rw [decide_eq_false hn]; exact decide_eq_false fun hx => hn hx.2
theorem hasUB_iff {N : Int} {L : List Arc3} {V : List Int} : hasUB N L V = true ↔ okB N L = true ∧ (∀ v ∈ V, 0 ≤ v ∧ v < N) ∧ V.Nodup := by
  unfold hasUB unB
  rw [Bool.and_eq_true, decide_eq_true_eq]

/-- Numbers as items. -/
def itV (V : List Int) : List It := V.map fun v => (0, v)
theorem told_itV {V : List Int} {v : Int} : toldB (itV V) v = decide (v ∈ V) := by
  rw [Bool.eq_iff_iff, toldB_iff, decide_eq_true_eq]
  constructor
  · rintro ⟨y, hy, rfl⟩
    obtain ⟨u, hu, rfl⟩ := List.mem_map.1 hy
    exact hu
  · intro h
    exact ⟨(0, v), List.mem_map.2 ⟨v, h, rfl⟩, rfl⟩
theorem itV_snoc (V : List Int) (v : Int) : itV (V ++ [v]) = itV V ++ [(0, v)] := by simp [itV]
theorem take_snocI {V : List Int} {j : Nat} (h : j < V.length) : V.take (j + 1) = V.take j ++ [V[j]] := by
  rw [List.take_succ_eq_append_getElem h]
theorem nodup_step {V : List Int} {j : Nat} (h : j < V.length) (hn : (V.take j).Nodup) (hv : V[j] ∉ V.take j) : (V.take (j + 1)).Nodup := by
  rw [take_snocI h, List.nodup_append]
  refine ⟨hn, by simp, fun a ha b hb => ?_⟩
  have : b = V[j] := by simpa using hb
  subst this
  intro e
  subst e
  exact hv ha
theorem nodup_hurt {V : List Int} {j : Nat} (h : j < V.length) (hv : V[j] ∈ V.take j) : ¬ V.Nodup := by
  intro hn
  obtain ⟨i, hi, e⟩ := List.mem_iff_getElem.1 hv
  rw [List.length_take] at hi
  rw [List.getElem_take] at e
  have := (List.nodup_iff_pairwise_ne.1 hn)
  exact (List.pairwise_iff_getElem.1 this) i j (by omega) h (by omega) e

/-- The lesser of a number and a distance that is there. -/
def minD (m d : Int) : Int := if 0 ≤ d then min m d else m
theorem minD_no {m d : Int} (h : d < 0) : minD m d = m := if_neg (by omega)
theorem minD_yes {m d : Int} (h : 0 ≤ d) : minD m d = min m d := if_pos h
/-- How far a node is from the nearest of some. -/
def nearV (N : Int) (L : List Arc3) (v : Int) (V : List Int) : Int := V.foldl (fun m s => minD m (dAt (distL N L s) v)) 24000
theorem nearV_nil (N : Int) (L : List Arc3) (v : Int) : nearV N L v [] = 24000 := rfl
theorem nearV_snoc (N : Int) (L : List Arc3) (v : Int) (V : List Int) (s : Int) : nearV N L v (V ++ [s]) = minD (nearV N L v V) (dAt (distL N L s) v) := by
  simp [nearV, List.foldl_append]
theorem nearV_step (N : Int) (L : List Arc3) (v : Int) {V : List Int} {j : Nat} (h : j < V.length) : nearV N L v (V.take (j + 1)) = minD (nearV N L v (V.take j)) (dAt (distL N L V[j]) v) := by
  rw [take_snocI h, nearV_snoc]
theorem nearV_bounds (N : Int) (L : List Arc3) (v : Int) (V : List Int) : 0 ≤ nearV N L v V ∧ nearV N L v V ≤ 24000 := by
  unfold nearV
  have h : ∀ (V : List Int) (m : Int), 0 ≤ m ∧ m ≤ 24000 → 0 ≤ V.foldl (fun m s => minD m (dAt (distL N L s) v)) m ∧ V.foldl (fun m s => minD m (dAt (distL N L s) v)) m ≤ 24000 := by
    intro V
    induction V with
    | nil => intro m hm; exact hm
    | cons a t ih =>
      intro m hm
      refine ih _ ?_
      show 0 ≤ minD m (dAt (distL N L a) v) ∧ minD m (dAt (distL N L a) v) ≤ 24000
      unfold minD
      split <;> omega
  exact h V 24000 (by omega)

/-- The array of the nearest behind some nodes that are told. -/
def minE (E : List Int) (Y : List It) : List Int := (List.range 24).map fun (i : Nat) => minD (E.getD i 0) (keyOf Y (i : Int))
theorem minE_len (E : List Int) (Y : List It) : (minE E Y).length = 24 := by simp [minE]
theorem minE_at {E : List Int} {Y : List It} {u : Nat} (h : u < (minE E Y).length) : (minE E Y)[u] = minD (E.getD u 0) (keyOf Y (u : Int)) := by simp [minE]
theorem minE_nil {E : List Int} (h : E.length = 24) : minE E [] = E := by
  refine List.ext_getElem (by rw [minE_len, h]) fun i h1 h2 => ?_
  rw [minE_at h1, minD_no (by rw [keyOf_no (by simp)]; omega)]
  simp [h2]
theorem minE_snoc {E : List Int} {Y : List It} {x : Int} {u : Nat} (hx : toldB Y (u : Int) = false) (h0 : 0 ≤ x) (hu : u < (minE E Y).length) : minE E (Y ++ [(x, (u : Int))]) = (minE E Y).set u (min (minE E Y)[u] x) := by
  refine List.ext_getElem (by simp [minE_len]) fun i h1 h2 => ?_
  rw [minE_at h1, List.getElem_set, keyOf_snoc (x := (x, (u : Int))) hx]
  by_cases e : u = i
  · subst e
    rw [if_pos rfl, if_pos rfl, minD_yes h0]
    congr 1
    rw [minE_at hu, minD_no (by rw [keyOf_no (toldB_no.1 hx)]; omega)]
  · rw [if_neg e, if_neg (by simp; omega), minE_at (by rw [minE_len] at h1 ⊢; exact h1)]
theorem minE_done {N : Int} {L : List Arc3} {s : Int} {V : List Int} {E : List Int} {Y : List It} (ho : okB N L = true) (hY : AllNear N L s Y)
    (hE : ∀ v : Nat, (v : Int) < N → E.getD v 0 = nearV N L (v : Int) V) : ∀ v : Nat, (v : Int) < N → (minE E Y).getD v 0 = nearV N L (v : Int) (V ++ [s]) := by
  intro v hv
  have hN := (okB_elim ho).2.1
  have hl : v < (minE E Y).length := by rw [minE_len]; omega
  have e : (minE E Y).getD v 0 = (minE E Y)[v] := by simp [hl]
  rw [e, minE_at hl, nearV_snoc, hE v hv]
  congr 1
  rw [← hY.keys (arcsIn_of_ok ho) hN, keysL_at (by omega) (by omega)]

/-- The first place of the greatest among the first k. -/
def topK (f : Nat → Int) : Nat → Nat
  | 0 => 0
  | k + 1 => if f (topK f k) < f k then k else topK f k
theorem topK_lt (f : Nat → Int) : ∀ k, 0 < k → topK f k < k
  | 0, h => absurd h (by omega)
  | k + 1, _ => by
    unfold topK
    split
    · omega
    · rcases Nat.eq_zero_or_pos k with rfl | hk
      · exact Nat.zero_lt_one
      · have := topK_lt f k hk; omega
theorem topK_le (f : Nat → Int) (k : Nat) : topK f k ≤ k := by
  rcases Nat.eq_zero_or_pos k with rfl | hk
  · exact Nat.le_refl _
  · exact Nat.le_of_lt (topK_lt f k hk)
theorem topK_yes {f : Nat → Int} {k : Nat} (h : f (topK f k) < f k) : topK f (k + 1) = k := if_pos h
theorem topK_no {f : Nat → Int} {k : Nat} (h : ¬ f (topK f k) < f k) : topK f (k + 1) = topK f k := if_neg h
theorem topK_max (f : Nat → Int) : ∀ k j, j < k → f j ≤ f (topK f k) ∧ (f j = f (topK f k) → topK f k ≤ j)
  | 0, j, h => absurd h (by omega)
  | k + 1, j, h => by
    by_cases hx : f (topK f k) < f k
    · rw [topK_yes hx]
      rcases Nat.lt_or_ge j k with hj | hj
      · have := (topK_max f k j hj).1
        exact ⟨by omega, fun e => by omega⟩
      · obtain rfl : j = k := by omega
        exact ⟨Int.le_refl _, fun _ => Nat.le_refl _⟩
    · rw [topK_no hx]
      rcases Nat.lt_or_ge j k with hj | hj
      · exact topK_max f k j hj
      · obtain rfl : j = k := by omega
        exact ⟨by omega, fun _ => topK_le f j⟩

/-- How far each node is from the nearest of V. -/
def nearF (N : Int) (L : List Arc3) (V : List Int) (k : Nat) : Int := nearV N L (k : Int) V
/-- The first node that is farthest from the nearest of V. -/
def farI (N : Int) (L : List Arc3) (V : List Int) : Int := if hasUB N L V = true then ((topK (nearF N L V) N.toNat : Nat) : Int) else -1

end Go.Proofs.Ytmdmbobjdhjadaa

set_option linter.unusedSimpArgs false
set_option linter.unusedVariables false
namespace Go.Proofs.Ytmdmbobjdhjadaa

/-- The reaches of a right graph; none of another one. -/
def reachL (N : Int) (L : List Arc3) : List Int := if okB N L = true then reachS N.toNat (allS N L N.toNat) else []
theorem reachL_len (N : Int) (L : List Arc3) : (reachL N L).length ≤ 1048576 := by
  unfold reachL
  split
  · rename_i h
    have := (okB_elim h).2.1
    rw [reachS_len]
    omega
  · simp

end Go.Proofs.Ytmdmbobjdhjadaa

set_option linter.unusedSimpArgs false
set_option linter.unusedVariables false
namespace Go.Proofs.Ytmdmbobjdhjadaa
open Go.RowKit

set_option maxRecDepth 100000 in
set_option maxHeartbeats 1000000 in
theorem hasUnlike_any (N : Int) (A : Option Addr) (n c : Nat) (L : List Arc3) (hn : n = L.length) (A2 : Option Addr) (k c2 : Nat) (V : List Int) (hk : k = V.length) (w : World) (hm : n ≤ 9223372036854775807) (hkm : k ≤ 1048576) (H1 : ArcsAt w w.heap.size A L) (H2 : IntsAt w w.heap.size A2 V) :
    Calls Try.prog 73 #[.agg #[.int .i64 N, .slice A n c], .slice A2 k c2] w fun e w' => e = .returned (.bool (hasUB N L V)) ∧ Bl w w' := by
  have K1 := Lib.hid H1
  have K2 := Lib.hid H2
  have HN := Lib.hid hn
  have HK := Lib.hid hk
  clear H1 H2 hn hk
  cases hh : hasB N L V with
  | false =>
    have HH := Lib.hid hh
    clear hh
    go_enter Try.func73, Try.ntmps73
    go_wp2_with fail
    refine (hasNodes_any N A n c L HN.out A2 k c2 V HK.out _ hm hkm (K1.out.bl (by repeat' (first | exact Bl.refl _ | with_reducible assumption | with_reducible refine Bl.drew_ ?_ | with_reducible refine Bl.drewN_ ?_ _ | with_reducible refine Bl.alloc_ ?_ _ | with_reducible refine Bl.trans_ ?_ (by assumption) | with_reducible refine Bl.trans_ ?_ (And.left (by assumption))))) (K2.out.bl (by repeat' (first | exact Bl.refl _ | with_reducible assumption | with_reducible refine Bl.drew_ ?_ | with_reducible refine Bl.drewN_ ?_ _ | with_reducible refine Bl.alloc_ ?_ _ | with_reducible refine Bl.trans_ ?_ (by assumption) | with_reducible refine Bl.trans_ ?_ (And.left (by assumption)))))).mono ?_
    rintro e w1 ⟨rfl, hb1⟩
    rw [HH.out]
    go_wp2
    go_ret
    exact ⟨ret_bool (hasUB_no HH.out).symm, (by repeat' (first | exact Bl.refl _ | with_reducible assumption | with_reducible refine Bl.drew_ ?_ | with_reducible refine Bl.drewN_ ?_ _ | with_reducible refine Bl.alloc_ ?_ _ | with_reducible refine Bl.trans_ ?_ (by assumption) | with_reducible refine Bl.trans_ ?_ (And.left (by assumption))))⟩
  | true =>
    have HH := Lib.hid hh
    obtain ⟨ho, hin⟩ := hasB_iff.1 hh
    have hN24 := (okB_elim ho).2.1
    have HIN := Lib.hid hin
    clear hh ho hin
    go_enter Try.func73, Try.ntmps73
    go_wp2_with fail
    refine (hasNodes_any N A n c L HN.out A2 k c2 V HK.out _ hm hkm (K1.out.bl (by repeat' (first | exact Bl.refl _ | with_reducible assumption | with_reducible refine Bl.drew_ ?_ | with_reducible refine Bl.drewN_ ?_ _ | with_reducible refine Bl.alloc_ ?_ _ | with_reducible refine Bl.trans_ ?_ (by assumption) | with_reducible refine Bl.trans_ ?_ (And.left (by assumption))))) (K2.out.bl (by repeat' (first | exact Bl.refl _ | with_reducible assumption | with_reducible refine Bl.drew_ ?_ | with_reducible refine Bl.drewN_ ?_ _ | with_reducible refine Bl.alloc_ ?_ _ | with_reducible refine Bl.trans_ ?_ (by assumption) | with_reducible refine Bl.trans_ ?_ (And.left (by assumption)))))).mono ?_
    rintro e w1 ⟨rfl, hb1⟩
    rw [HH.out]
    have BW := Lib.hid (show Bl w w1 from (Bl.alloc_ (Bl.refl w) _).trans_ hb1)
    clear hb1
    go_wp2_with fail
    go_loopw [14] (fun i wr => ∃ j : Nat, j ≤ k ∧ i = .int .i64 j ∧ Bl w1 wr ∧ ToldAt wr w1.heap.size (itV (V.take j)) ∧ Hid ((V.take j).Nodup)) (fun i _ => k - (intOf i).toNat)
    case atStart =>
      refine ⟨0, by omega, rfl, (by repeat' (first | exact Bl.refl _ | with_reducible assumption | with_reducible refine Bl.drew_ ?_ | with_reducible refine Bl.drewN_ ?_ _ | with_reducible refine Bl.alloc_ ?_ _ | with_reducible refine Bl.trans_ ?_ (by assumption) | with_reducible refine Bl.trans_ ?_ (And.left (by assumption)))), ⟨by simp, fun i hi => ?_, fun i hi => by simp [go_sem]⟩, Lib.hid (by simp)⟩
      match i, hi with
      | 0, _ | 1, _ | 2, _ | 3, _ | 4, _ | 5, _ | 6, _ | 7, _ | 8, _ | 9, _ | 10, _ | 11, _ | 12, _ | 13, _ | 14, _ | 15, _ | 16, _ | 17, _ | 18, _ | 19, _ | 20, _ | 21, _ | 22, _ | 23, _ => simp [go_sem, toldB, itV]
      | (k + 24), h => exact absurd h (by omega)
    case round =>
      obtain ⟨j, hj, rfl, hbl, htold, hnd⟩ := hrel
      by_cases hlt : j < k
      · have hjl : j < V.length := by have := HK.out; omega
        obtain ⟨g2, o2, rfl, hg2, hc2⟩ := K2.out.cell (by omega)
        have p1 := hc2 j hjl
        clear hc2
        rw [← (bcell (BW.out.trans_ hbl)).1 _ _ hg2] at p1
        have hx := HIN.out V[j] (List.getElem_mem hjl)
        have YES := Lib.hid (fun h : V[j] ∈ V.take j => nodup_hurt hjl h)
        have NO := Lib.hid (fun h : V[j] ∉ V.take j => nodup_step hjl hnd.out h)
        have SN := Lib.hid (take_snocI hjl)
        generalize V[j] = x at *
        obtain ⟨u, rfl⟩ : ∃ u : Nat, x = u := ⟨x.toNat, by omega⟩
        have hu : u < 24 := by omega
        have z1 := htold.cell u hu
        have z2 := htold.free u hu
        rw [told_itV] at z1
        have TL := Lib.hid htold
        have hu0 : (0 : Int) ≤ (u : Int) := by omega
        have hu1 : (u : Int) < 24 := by omega
        have hj0 : (0 : Int) ≤ (j : Int) := by omega
        have hj1 : (j : Int) < (k : Int) := by omega
        clear htold hx
        by_cases hmem : (u : Int) ∈ V.take j
        · rw [decide_eq_true hmem] at z1
          have HY := Lib.hid (YES.out hmem)
          clear YES NO hmem
          go_wp2
          go_ret
          refine ⟨ret_bool ?_, BW.out.trans_ hbl⟩
          rw [hasUB_yes HH.out, decide_eq_false HY.out]
        · rw [decide_eq_false hmem] at z1
          have HZ := Lib.hid (NO.out hmem)
          clear YES NO hmem
          go_wp2
          go_roundw
          case rel =>
            refine ⟨j + 1, by omega, by go_num, hbl.set_ (by simp) _, ?_, HZ⟩
            rw [SN.out, itV_snoc]
            exact TL.out.set hu
          case measure => simp [intOf]; omega
      · have HZ := Lib.hid (show V.Nodup from by
          have := hnd.out
          rwa [List.take_of_length_le (by have := HK.out; omega)] at this)
        go_wp2
        go_ret
        refine ⟨ret_bool ?_, BW.out.trans_ hbl⟩
        rw [hasUB_yes HH.out, decide_eq_true HZ.out]

set_option maxHeartbeats 400000 in
theorem l1Has_any (A : Option Addr) (c : Nat) (V : List Int) (n : Nat) (hn : n = V.length) (x : Int) (w : World) (hm : n ≤ 9223372036854775807) (H1 : IntsAt w w.heap.size A V) :
    Calls Try.prog 111 #[.slice A n c, .int .i64 x] w fun e w' => e = .returned (.bool (decide (x ∈ V))) ∧ Bl w w' := by
  have K1 := Lib.hid H1
  have HN := Lib.hid hn
  clear H1 hn
  go_enter Try.func111, Try.ntmps111
  go_wp2
  go_loopw [5] (fun i wr => ∃ k : Nat, k ≤ n ∧ i = .int .i64 k ∧ Bl w wr ∧ Hid (∀ j (h : j < V.length), j < k → V[j] ≠ x)) (fun i _ => n - (intOf i).toNat)
  case atStart => exact ⟨0, by omega, rfl, Bl.refl w, Lib.hid (fun j _ h => by omega)⟩
  case round =>
    obtain ⟨k, hk, rfl, hbl, hno⟩ := hrel
    by_cases hlt : k < n
    · have hkl : k < V.length := by have := HN.out; omega
      obtain ⟨g1, o1, rfl, hg1, hc1⟩ := K1.out.cell (by omega)
      have p1 := hc1 k hkl
      clear hc1
      rw [← (bcell hbl).1 _ _ hg1] at p1
      have HY := Lib.hid (fun h : V[k] ≠ x => (show ∀ j (h : j < V.length), j < k + 1 → V[j] ≠ x from fun j hj hjk => by
        by_cases e : j = k
        · subst e; exact h
        · exact hno.out j hj (by omega)))
      have HX := Lib.hid (fun h : V[k] = x => (show decide (x ∈ V) = true from by rw [decide_eq_true_eq, ← h]; exact List.getElem_mem hkl))
      generalize V[k] = y at p1 HY HX
      have i1 : (0 : Int) ≤ (k : Int) := by omega
      have i2 : (k : Int) < (n : Int) := by omega
      by_cases e : y = x
      · have b1 : (y == x) = true := by simpa using e
        have HZ := Lib.hid (HX.out e)
        clear e HY HX
        go_wp2
        go_ret
        exact ⟨ret_bool HZ.out.symm, hbl⟩
      · have b1 : (y == x) = false := by simpa using e
        have HZ := Lib.hid (HY.out e)
        clear e HY HX
        go_wp2
        go_roundw
        case rel => exact ⟨k + 1, by omega, by go_num, hbl, HZ⟩
        case measure => simp [intOf]; omega
    · have HZ := Lib.hid (show decide (x ∈ V) = false from by
        rw [decide_eq_false_iff_not]
        intro hx
        obtain ⟨j, hj, e⟩ := List.getElem_of_mem hx
        exact absurd e (hno.out j hj (by have := HN.out; omega)))
      go_wp2
      go_ret
      exact ⟨ret_bool HZ.out.symm, hbl⟩

set_option maxRecDepth 100000 in
set_option maxHeartbeats 2000000 in
theorem l6Nodes_any (N : Int) (A : Option Addr) (n c : Nat) (L : List Arc3) (ho : okB N L = true) (A2 : Option Addr) (k c2 : Nat) (V : List Int) (hk : k = V.length) (hkc : k ≤ c2) (w : World) (hkm : k ≤ 9223372036854775807) (H2 : IntsAt w w.heap.size A2 V) :
    Calls Try.prog 70 #[.agg #[.int .i64 N, .slice A n c], .slice A2 k c2] w fun e w' => e = .returned (.bool (unB N V)) ∧ Bl w w' := by
  have K2 := Lib.hid H2
  have HK := Lib.hid hk
  have HO := Lib.hid ho
  clear H2 hk ho
  go_enter Try.func70, Try.ntmps70
  go_wp2_with fail
  go_loopw [5] (fun i wr => ∃ j : Nat, j ≤ k ∧ i = .int .i64 j ∧ Bl (w.alloc (.cells #[.int .i64 N, .slice A n c] 42)) wr ∧ Hid ((∀ t (h : t < V.length), t < j → 0 ≤ V[t] ∧ V[t] < N) ∧ (V.take j).Nodup)) (fun i _ => k - (intOf i).toNat)
  case atStart => exact ⟨0, by omega, rfl, Bl.refl _, Lib.hid ⟨fun t h h' => absurd h' (by omega), by simp⟩⟩
  case round =>
    obtain ⟨j, hj, rfl, hbl, hno⟩ := hrel
    have hbw : Bl w wr := (Bl.alloc_ (Bl.refl w) _).trans_ hbl
    have BW := Lib.hid hbw
    have BB := Lib.hid hbl
    by_cases hlt : j < k
    · have hjl : j < V.length := by have := HK.out; omega
      obtain ⟨g2, o2, rfl, hg2, hc2⟩ := K2.out.cell (by omega)
      have p1 := hc2 j hjl
      clear hc2
      have HX := Lib.hid (rfl : V[j] = V[j])
      have YES := Lib.hid (fun h : V[j] ∈ V.take j => nodup_hurt hjl h)
      have NOT := Lib.hid (fun h : ¬ (0 ≤ V[j] ∧ V[j] < N) => (show ¬ ((∀ v ∈ V, 0 ≤ v ∧ v < N) ∧ V.Nodup) from fun hv => h (hv.1 _ (List.getElem_mem hjl))))
      have NO := Lib.hid (fun (h0 : 0 ≤ V[j] ∧ V[j] < N) (h : V[j] ∉ V.take j) => (show (∀ t (h : t < V.length), t < j + 1 → 0 ≤ V[t] ∧ V[t] < N) ∧ (V.take (j + 1)).Nodup from ⟨fun t ht htj => by
        rcases Nat.lt_or_ge t j with h' | h'
        · exact hno.out.1 t ht h'
        · obtain rfl : t = j := by omega
          exact h0, nodup_step hjl hno.out.2 h⟩))
      have HNB := Lib.hid (nodeB_ok (v := V[j]) HO.out)
      have TAK := Lib.hid (show IntsAt w w.heap.size (some ⟨g2, o2, none⟩) (V.take j) from by
        have := CellsAt.take_ K2.out j
        rwa [show (csI V).take j = csI (V.take j) from by simp [csI, List.map_take]] at this)
      have LEN := Lib.hid (show j = (V.take j).length from by rw [List.length_take]; omega)
      clear HX
      generalize V[j] = x at *
      have i0 : (0 : Int) ≤ (j : Int) := by omega
      have i1 : (j : Int) < (k : Int) := by omega
      have i2 : (j : Int) ≤ (c2 : Int) := by omega
      have HSH := Lib.hid (show ∀ wx, Bl wr wx → Bl wr wx ∧ wx.cell? ⟨w.heap.size, 0, none⟩ = some (.int .i64 N) ∧ wx.cell? ⟨w.heap.size, 1, none⟩ = some (.slice A n c) ∧ wx.cell? ⟨g2, o2 + j, none⟩ = some (.int .i64 x) from fun wx hb => by
        obtain ⟨y0, y1⟩ := box2 (hbl.trans_ hb)
        exact ⟨hb, y0, y1, ((bcell (hbw.trans_ hb)).1 _ _ hg2).trans p1⟩)
      clear p1 hbl hbw
      by_cases hin : 0 ≤ x ∧ x < N
      · have hd : decide (0 ≤ x ∧ x < N) = true := by simpa using hin
        have HD := Lib.hid hd
        clear hd
        by_cases hmem : x ∈ V.take j
        · have hd2 : decide (x ∈ V.take j) = true := decide_eq_true hmem
          have HD2 := Lib.hid hd2
          have HY := Lib.hid (YES.out hmem)
          clear YES NO NOT hmem hd2
          go_wp2_with fail
          refine wp_region_held_drew (S := fun wx => Bl wr wx ∧ wx.cell? ⟨w.heap.size, 0, none⟩ = some (.int .i64 N) ∧ wx.cell? ⟨w.heap.size, 1, none⟩ = some (.slice A n c) ∧ wx.cell? ⟨g2, o2 + j, none⟩ = some (.int .i64 x)) (by kernel_rfl) ?_ (fun hHeld => ?_)
          · (exact HSH.out _ (by repeat' (first | exact Bl.refl _ | with_reducible assumption | with_reducible refine Bl.drew_ ?_ | with_reducible refine Bl.drewN_ ?_ _ | with_reducible refine Bl.alloc_ ?_ _ | with_reducible refine Bl.trans_ ?_ (by assumption) | with_reducible refine Bl.trans_ ?_ (And.left (by assumption)))))
          refine wpAnyH_take (i := 0) (v := ?_) rfl (by kernel_rfl) (by kernel_rfl) (by kernel_rfl) (fun _ _ _ h => h) (Or.inl ⟨by kernel_rfl, ?_⟩) (by assumption) ?_
          rotate_left
          · (intro wx hSw; (try dsimp only at hSw); go_simp; try (with_reducible rfl))
          try simp only [Act.put, List.getElem_toArray, List.getElem_cons_succ, List.getElem_cons_zero, List.setIfInBounds_toArray, List.set_cons_zero, List.set_cons_succ]
          refine wpAnyH_take (i := 1) (v := ?_) rfl (by kernel_rfl) (by kernel_rfl) (by kernel_rfl) (fun _ _ _ h => h) (Or.inl ⟨by kernel_rfl, ?_⟩) (by assumption) ?_
          rotate_left
          · (intro wx hSw; (try dsimp only at hSw); go_simp; try (with_reducible rfl))
          try simp only [Act.put, List.getElem_toArray, List.getElem_cons_succ, List.getElem_cons_zero, List.setIfInBounds_toArray, List.set_cons_zero, List.set_cons_succ]
          refine wpAnyH_take (i := 2) (v := ?_) rfl (by kernel_rfl) (by kernel_rfl) (by kernel_rfl) (fun _ _ _ h => h) (Or.inl ⟨by kernel_rfl, ?_⟩) (by assumption) ?_
          rotate_left
          · (intro wx hSw; (try dsimp only at hSw); go_simp; try (with_reducible rfl))
          try simp only [Act.put, List.getElem_toArray, List.getElem_cons_succ, List.getElem_cons_zero, List.setIfInBounds_toArray, List.set_cons_zero, List.set_cons_succ]
          refine wpAnyH_take (i := 3) (v := ?_) rfl (by kernel_rfl) (by kernel_rfl) (by kernel_rfl) (fun _ _ _ h => h) (Or.inl ⟨by kernel_rfl, ?_⟩) (by assumption) ?_
          rotate_left
          · (intro wx hSw; (try dsimp only at hSw); go_simp; try (with_reducible rfl))
          try simp only [Act.put, List.getElem_toArray, List.getElem_cons_succ, List.getElem_cons_zero, List.setIfInBounds_toArray, List.set_cons_zero, List.set_cons_succ]
          refine wpAnyH_take (i := 4) (v := ?_) rfl (by kernel_rfl) (by kernel_rfl) (by kernel_rfl) (fun _ _ _ h => h) (Or.inl ⟨by kernel_rfl, ?_⟩) (by assumption) ?_
          rotate_left
          · (intro wx hSw; (try dsimp only at hSw); go_simp; try (with_reducible rfl))
          try simp only [Act.put, List.getElem_toArray, List.getElem_cons_succ, List.getElem_cons_zero, List.setIfInBounds_toArray, List.set_cons_zero, List.set_cons_succ]
          refine wpAnyH_ready (rs := [5]) (by kernel_rfl) (by simp) ?_
          refine AllReadyH.cons rfl (fun K hK => ?_) AllReadyH.nil
          go_simp
          (go_at_call 88; refine (l1Node_any N x _ _).mono ?_; rintro e w5 ⟨rfl, hb5⟩; rw [HNB.out, HD.out])
          try (go_wp2_with fail)
          refine hK.out _ _ ?_ (fun hHeld => ?_)
          · (exact HSH.out _ (by repeat' (first | exact Bl.refl _ | with_reducible assumption | with_reducible refine Bl.drew_ ?_ | with_reducible refine Bl.drewN_ ?_ _ | with_reducible refine Bl.alloc_ ?_ _ | with_reducible refine Bl.trans_ ?_ (by assumption) | with_reducible refine Bl.trans_ ?_ (And.left (by assumption)))))
          clear hK K
          try simp only [Act.put, List.getElem_toArray, List.getElem_cons_succ, List.getElem_cons_zero, List.setIfInBounds_toArray, List.set_cons_zero, List.set_cons_succ]
          refine wpAnyH_take (i := 6) (v := ?_) rfl (by kernel_rfl) (by kernel_rfl) (by kernel_rfl) (fun _ _ _ h => h) (Or.inl ⟨by kernel_rfl, ?_⟩) (by assumption) ?_
          rotate_left
          · (intro wx hSw; (try dsimp only at hSw); go_simp; try (with_reducible rfl))
          try simp only [Act.put, List.getElem_toArray, List.getElem_cons_succ, List.getElem_cons_zero, List.setIfInBounds_toArray, List.set_cons_zero, List.set_cons_succ]
          refine wpAnyH_take (i := 7) (v := ?_) rfl (by kernel_rfl) (by kernel_rfl) (by kernel_rfl) (fun _ _ _ h => h) (Or.inl ⟨by kernel_rfl, ?_⟩) (by assumption) ?_
          rotate_left
          · (intro wx hSw; (try dsimp only at hSw); go_simp; try (with_reducible rfl))
          try simp only [Act.put, List.getElem_toArray, List.getElem_cons_succ, List.getElem_cons_zero, List.setIfInBounds_toArray, List.set_cons_zero, List.set_cons_succ]
          refine wpAnyH_take (i := 8) (v := ?_) rfl (by kernel_rfl) (by kernel_rfl) (by kernel_rfl) (fun _ _ _ h => h) (Or.inl ⟨by kernel_rfl, ?_⟩) (by assumption) ?_
          rotate_left
          · (intro wx hSw; (try dsimp only at hSw); go_simp; try (with_reducible rfl))
          try simp only [Act.put, List.getElem_toArray, List.getElem_cons_succ, List.getElem_cons_zero, List.setIfInBounds_toArray, List.set_cons_zero, List.set_cons_succ]
          refine wpAnyH_take (i := 9) (v := ?_) rfl (by kernel_rfl) (by kernel_rfl) (by kernel_rfl) (fun _ _ _ h => h) (Or.inl ⟨by kernel_rfl, ?_⟩) (by assumption) ?_
          rotate_left
          · (intro wx hSw; (try dsimp only at hSw); go_simp; try (with_reducible rfl))
          try simp only [Act.put, List.getElem_toArray, List.getElem_cons_succ, List.getElem_cons_zero, List.setIfInBounds_toArray, List.set_cons_zero, List.set_cons_succ]
          refine wpAnyH_take (i := 10) (v := ?_) rfl (by kernel_rfl) (by kernel_rfl) (by kernel_rfl) (fun _ _ _ h => h) (Or.inl ⟨by kernel_rfl, ?_⟩) (by assumption) ?_
          rotate_left
          · (intro wx hSw; (try dsimp only at hSw); go_simp; try (with_reducible rfl))
          try simp only [Act.put, List.getElem_toArray, List.getElem_cons_succ, List.getElem_cons_zero, List.setIfInBounds_toArray, List.set_cons_zero, List.set_cons_succ]
          refine wpAnyH_take (i := 11) (v := ?_) rfl (by kernel_rfl) (by kernel_rfl) (by kernel_rfl) (fun _ _ _ h => h) (Or.inl ⟨by kernel_rfl, ?_⟩) (by assumption) ?_
          rotate_left
          · (intro wx hSw; (try dsimp only at hSw); go_simp; try (with_reducible rfl))
          try simp only [Act.put, List.getElem_toArray, List.getElem_cons_succ, List.getElem_cons_zero, List.setIfInBounds_toArray, List.set_cons_zero, List.set_cons_succ]
          refine wpAnyH_take (i := 12) (v := ?_) rfl (by kernel_rfl) (by kernel_rfl) (by kernel_rfl) (fun _ _ _ h => h) (Or.inl ⟨by kernel_rfl, ?_⟩) (by assumption) ?_
          rotate_left
          · (intro wx hSw; (try dsimp only at hSw); go_simp; try (with_reducible rfl))
          try simp only [Act.put, List.getElem_toArray, List.getElem_cons_succ, List.getElem_cons_zero, List.setIfInBounds_toArray, List.set_cons_zero, List.set_cons_succ]
          refine wpAnyH_take (i := 13) (v := ?_) rfl (by kernel_rfl) (by kernel_rfl) (by kernel_rfl) (fun _ _ _ h => h) (Or.inl ⟨by kernel_rfl, ?_⟩) (by assumption) ?_
          rotate_left
          · (intro wx hSw; (try dsimp only at hSw); go_simp; try (with_reducible rfl))
          try simp only [Act.put, List.getElem_toArray, List.getElem_cons_succ, List.getElem_cons_zero, List.setIfInBounds_toArray, List.set_cons_zero, List.set_cons_succ]
          refine wpAnyH_take (i := 14) (v := ?_) rfl (by kernel_rfl) (by kernel_rfl) (by kernel_rfl) (fun _ _ _ h => h) (Or.inl ⟨by kernel_rfl, ?_⟩) (by assumption) ?_
          rotate_left
          · (intro wx hSw; (try dsimp only at hSw); go_simp; try (with_reducible rfl))
          try simp only [Act.put, List.getElem_toArray, List.getElem_cons_succ, List.getElem_cons_zero, List.setIfInBounds_toArray, List.set_cons_zero, List.set_cons_succ]
          refine wpAnyH_ready (rs := [15]) (by kernel_rfl) (by simp) ?_
          refine AllReadyH.cons rfl (fun K hK => ?_) AllReadyH.nil
          go_simp
          (go_at_call 111; refine (l1Has_any _ _ (V.take j) j LEN.out x _ (by omega) (TAK.out.bl (BW.out.trans_ (by repeat' (first | exact Bl.refl _ | with_reducible assumption | with_reducible refine Bl.drew_ ?_ | with_reducible refine Bl.drewN_ ?_ _ | with_reducible refine Bl.alloc_ ?_ _ | with_reducible refine Bl.trans_ ?_ (by assumption) | with_reducible refine Bl.trans_ ?_ (And.left (by assumption))))))).mono ?_; rintro e w6 ⟨rfl, hb6⟩; rw [HD2.out])
          try (go_wp2_with fail)
          refine hK.out _ _ ?_ (fun hHeld => ?_)
          · (exact HSH.out _ (by repeat' (first | exact Bl.refl _ | with_reducible assumption | with_reducible refine Bl.drew_ ?_ | with_reducible refine Bl.drewN_ ?_ _ | with_reducible refine Bl.alloc_ ?_ _ | with_reducible refine Bl.trans_ ?_ (by assumption) | with_reducible refine Bl.trans_ ?_ (And.left (by assumption)))))
          clear hK K
          try simp only [Act.put, List.getElem_toArray, List.getElem_cons_succ, List.getElem_cons_zero, List.setIfInBounds_toArray, List.set_cons_zero, List.set_cons_succ]
          refine wpAnyH_take (i := 16) (v := ?_) rfl (by kernel_rfl) (by kernel_rfl) (by kernel_rfl) (fun _ _ _ h => h) (Or.inl ⟨by kernel_rfl, ?_⟩) (by assumption) ?_
          rotate_left
          · (intro wx hSw; (try dsimp only at hSw); go_simp; try (with_reducible rfl))
          try simp only [Act.put, List.getElem_toArray, List.getElem_cons_succ, List.getElem_cons_zero, List.setIfInBounds_toArray, List.set_cons_zero, List.set_cons_succ]
          refine wpAnyH_done (by kernel_rfl) ?_ _
          go_wp2
          go_ret
          refine ⟨ret_bool ?_, BW.out.trans_ (by repeat' (first | exact Bl.refl _ | with_reducible assumption | with_reducible refine Bl.drew_ ?_ | with_reducible refine Bl.drewN_ ?_ _ | with_reducible refine Bl.alloc_ ?_ _ | with_reducible refine Bl.trans_ ?_ (by assumption) | with_reducible refine Bl.trans_ ?_ (And.left (by assumption))))⟩
          unfold unB
          exact (decide_eq_false fun h => HY.out h.2).symm
        · have hd2 : decide (x ∈ V.take j) = false := decide_eq_false hmem
          have HD2 := Lib.hid hd2
          have HZ := Lib.hid (NO.out hin hmem)
          clear YES NO NOT hmem hd2
          go_wp2_with fail
          refine wp_region_held_drew (S := fun wx => Bl wr wx ∧ wx.cell? ⟨w.heap.size, 0, none⟩ = some (.int .i64 N) ∧ wx.cell? ⟨w.heap.size, 1, none⟩ = some (.slice A n c) ∧ wx.cell? ⟨g2, o2 + j, none⟩ = some (.int .i64 x)) (by kernel_rfl) ?_ (fun hHeld => ?_)
          · (exact HSH.out _ (by repeat' (first | exact Bl.refl _ | with_reducible assumption | with_reducible refine Bl.drew_ ?_ | with_reducible refine Bl.drewN_ ?_ _ | with_reducible refine Bl.alloc_ ?_ _ | with_reducible refine Bl.trans_ ?_ (by assumption) | with_reducible refine Bl.trans_ ?_ (And.left (by assumption)))))
          refine wpAnyH_take (i := 0) (v := ?_) rfl (by kernel_rfl) (by kernel_rfl) (by kernel_rfl) (fun _ _ _ h => h) (Or.inl ⟨by kernel_rfl, ?_⟩) (by assumption) ?_
          rotate_left
          · (intro wx hSw; (try dsimp only at hSw); go_simp; try (with_reducible rfl))
          try simp only [Act.put, List.getElem_toArray, List.getElem_cons_succ, List.getElem_cons_zero, List.setIfInBounds_toArray, List.set_cons_zero, List.set_cons_succ]
          refine wpAnyH_take (i := 1) (v := ?_) rfl (by kernel_rfl) (by kernel_rfl) (by kernel_rfl) (fun _ _ _ h => h) (Or.inl ⟨by kernel_rfl, ?_⟩) (by assumption) ?_
          rotate_left
          · (intro wx hSw; (try dsimp only at hSw); go_simp; try (with_reducible rfl))
          try simp only [Act.put, List.getElem_toArray, List.getElem_cons_succ, List.getElem_cons_zero, List.setIfInBounds_toArray, List.set_cons_zero, List.set_cons_succ]
          refine wpAnyH_take (i := 2) (v := ?_) rfl (by kernel_rfl) (by kernel_rfl) (by kernel_rfl) (fun _ _ _ h => h) (Or.inl ⟨by kernel_rfl, ?_⟩) (by assumption) ?_
          rotate_left
          · (intro wx hSw; (try dsimp only at hSw); go_simp; try (with_reducible rfl))
          try simp only [Act.put, List.getElem_toArray, List.getElem_cons_succ, List.getElem_cons_zero, List.setIfInBounds_toArray, List.set_cons_zero, List.set_cons_succ]
          refine wpAnyH_take (i := 3) (v := ?_) rfl (by kernel_rfl) (by kernel_rfl) (by kernel_rfl) (fun _ _ _ h => h) (Or.inl ⟨by kernel_rfl, ?_⟩) (by assumption) ?_
          rotate_left
          · (intro wx hSw; (try dsimp only at hSw); go_simp; try (with_reducible rfl))
          try simp only [Act.put, List.getElem_toArray, List.getElem_cons_succ, List.getElem_cons_zero, List.setIfInBounds_toArray, List.set_cons_zero, List.set_cons_succ]
          refine wpAnyH_take (i := 4) (v := ?_) rfl (by kernel_rfl) (by kernel_rfl) (by kernel_rfl) (fun _ _ _ h => h) (Or.inl ⟨by kernel_rfl, ?_⟩) (by assumption) ?_
          rotate_left
          · (intro wx hSw; (try dsimp only at hSw); go_simp; try (with_reducible rfl))
          try simp only [Act.put, List.getElem_toArray, List.getElem_cons_succ, List.getElem_cons_zero, List.setIfInBounds_toArray, List.set_cons_zero, List.set_cons_succ]
          refine wpAnyH_ready (rs := [5]) (by kernel_rfl) (by simp) ?_
          refine AllReadyH.cons rfl (fun K hK => ?_) AllReadyH.nil
          go_simp
          (go_at_call 88; refine (l1Node_any N x _ _).mono ?_; rintro e w5 ⟨rfl, hb5⟩; rw [HNB.out, HD.out])
          try (go_wp2_with fail)
          refine hK.out _ _ ?_ (fun hHeld => ?_)
          · (exact HSH.out _ (by repeat' (first | exact Bl.refl _ | with_reducible assumption | with_reducible refine Bl.drew_ ?_ | with_reducible refine Bl.drewN_ ?_ _ | with_reducible refine Bl.alloc_ ?_ _ | with_reducible refine Bl.trans_ ?_ (by assumption) | with_reducible refine Bl.trans_ ?_ (And.left (by assumption)))))
          clear hK K
          try simp only [Act.put, List.getElem_toArray, List.getElem_cons_succ, List.getElem_cons_zero, List.setIfInBounds_toArray, List.set_cons_zero, List.set_cons_succ]
          refine wpAnyH_take (i := 6) (v := ?_) rfl (by kernel_rfl) (by kernel_rfl) (by kernel_rfl) (fun _ _ _ h => h) (Or.inl ⟨by kernel_rfl, ?_⟩) (by assumption) ?_
          rotate_left
          · (intro wx hSw; (try dsimp only at hSw); go_simp; try (with_reducible rfl))
          try simp only [Act.put, List.getElem_toArray, List.getElem_cons_succ, List.getElem_cons_zero, List.setIfInBounds_toArray, List.set_cons_zero, List.set_cons_succ]
          refine wpAnyH_take (i := 7) (v := ?_) rfl (by kernel_rfl) (by kernel_rfl) (by kernel_rfl) (fun _ _ _ h => h) (Or.inl ⟨by kernel_rfl, ?_⟩) (by assumption) ?_
          rotate_left
          · (intro wx hSw; (try dsimp only at hSw); go_simp; try (with_reducible rfl))
          try simp only [Act.put, List.getElem_toArray, List.getElem_cons_succ, List.getElem_cons_zero, List.setIfInBounds_toArray, List.set_cons_zero, List.set_cons_succ]
          refine wpAnyH_take (i := 8) (v := ?_) rfl (by kernel_rfl) (by kernel_rfl) (by kernel_rfl) (fun _ _ _ h => h) (Or.inl ⟨by kernel_rfl, ?_⟩) (by assumption) ?_
          rotate_left
          · (intro wx hSw; (try dsimp only at hSw); go_simp; try (with_reducible rfl))
          try simp only [Act.put, List.getElem_toArray, List.getElem_cons_succ, List.getElem_cons_zero, List.setIfInBounds_toArray, List.set_cons_zero, List.set_cons_succ]
          refine wpAnyH_take (i := 9) (v := ?_) rfl (by kernel_rfl) (by kernel_rfl) (by kernel_rfl) (fun _ _ _ h => h) (Or.inl ⟨by kernel_rfl, ?_⟩) (by assumption) ?_
          rotate_left
          · (intro wx hSw; (try dsimp only at hSw); go_simp; try (with_reducible rfl))
          try simp only [Act.put, List.getElem_toArray, List.getElem_cons_succ, List.getElem_cons_zero, List.setIfInBounds_toArray, List.set_cons_zero, List.set_cons_succ]
          refine wpAnyH_take (i := 10) (v := ?_) rfl (by kernel_rfl) (by kernel_rfl) (by kernel_rfl) (fun _ _ _ h => h) (Or.inl ⟨by kernel_rfl, ?_⟩) (by assumption) ?_
          rotate_left
          · (intro wx hSw; (try dsimp only at hSw); go_simp; try (with_reducible rfl))
          try simp only [Act.put, List.getElem_toArray, List.getElem_cons_succ, List.getElem_cons_zero, List.setIfInBounds_toArray, List.set_cons_zero, List.set_cons_succ]
          refine wpAnyH_take (i := 11) (v := ?_) rfl (by kernel_rfl) (by kernel_rfl) (by kernel_rfl) (fun _ _ _ h => h) (Or.inl ⟨by kernel_rfl, ?_⟩) (by assumption) ?_
          rotate_left
          · (intro wx hSw; (try dsimp only at hSw); go_simp; try (with_reducible rfl))
          try simp only [Act.put, List.getElem_toArray, List.getElem_cons_succ, List.getElem_cons_zero, List.setIfInBounds_toArray, List.set_cons_zero, List.set_cons_succ]
          refine wpAnyH_take (i := 12) (v := ?_) rfl (by kernel_rfl) (by kernel_rfl) (by kernel_rfl) (fun _ _ _ h => h) (Or.inl ⟨by kernel_rfl, ?_⟩) (by assumption) ?_
          rotate_left
          · (intro wx hSw; (try dsimp only at hSw); go_simp; try (with_reducible rfl))
          try simp only [Act.put, List.getElem_toArray, List.getElem_cons_succ, List.getElem_cons_zero, List.setIfInBounds_toArray, List.set_cons_zero, List.set_cons_succ]
          refine wpAnyH_take (i := 13) (v := ?_) rfl (by kernel_rfl) (by kernel_rfl) (by kernel_rfl) (fun _ _ _ h => h) (Or.inl ⟨by kernel_rfl, ?_⟩) (by assumption) ?_
          rotate_left
          · (intro wx hSw; (try dsimp only at hSw); go_simp; try (with_reducible rfl))
          try simp only [Act.put, List.getElem_toArray, List.getElem_cons_succ, List.getElem_cons_zero, List.setIfInBounds_toArray, List.set_cons_zero, List.set_cons_succ]
          refine wpAnyH_take (i := 14) (v := ?_) rfl (by kernel_rfl) (by kernel_rfl) (by kernel_rfl) (fun _ _ _ h => h) (Or.inl ⟨by kernel_rfl, ?_⟩) (by assumption) ?_
          rotate_left
          · (intro wx hSw; (try dsimp only at hSw); go_simp; try (with_reducible rfl))
          try simp only [Act.put, List.getElem_toArray, List.getElem_cons_succ, List.getElem_cons_zero, List.setIfInBounds_toArray, List.set_cons_zero, List.set_cons_succ]
          refine wpAnyH_ready (rs := [15]) (by kernel_rfl) (by simp) ?_
          refine AllReadyH.cons rfl (fun K hK => ?_) AllReadyH.nil
          go_simp
          (go_at_call 111; refine (l1Has_any _ _ (V.take j) j LEN.out x _ (by omega) (TAK.out.bl (BW.out.trans_ (by repeat' (first | exact Bl.refl _ | with_reducible assumption | with_reducible refine Bl.drew_ ?_ | with_reducible refine Bl.drewN_ ?_ _ | with_reducible refine Bl.alloc_ ?_ _ | with_reducible refine Bl.trans_ ?_ (by assumption) | with_reducible refine Bl.trans_ ?_ (And.left (by assumption))))))).mono ?_; rintro e w6 ⟨rfl, hb6⟩; rw [HD2.out])
          try (go_wp2_with fail)
          refine hK.out _ _ ?_ (fun hHeld => ?_)
          · (exact HSH.out _ (by repeat' (first | exact Bl.refl _ | with_reducible assumption | with_reducible refine Bl.drew_ ?_ | with_reducible refine Bl.drewN_ ?_ _ | with_reducible refine Bl.alloc_ ?_ _ | with_reducible refine Bl.trans_ ?_ (by assumption) | with_reducible refine Bl.trans_ ?_ (And.left (by assumption)))))
          clear hK K
          try simp only [Act.put, List.getElem_toArray, List.getElem_cons_succ, List.getElem_cons_zero, List.setIfInBounds_toArray, List.set_cons_zero, List.set_cons_succ]
          refine wpAnyH_take (i := 16) (v := ?_) rfl (by kernel_rfl) (by kernel_rfl) (by kernel_rfl) (fun _ _ _ h => h) (Or.inl ⟨by kernel_rfl, ?_⟩) (by assumption) ?_
          rotate_left
          · (intro wx hSw; (try dsimp only at hSw); go_simp; try (with_reducible rfl))
          try simp only [Act.put, List.getElem_toArray, List.getElem_cons_succ, List.getElem_cons_zero, List.setIfInBounds_toArray, List.set_cons_zero, List.set_cons_succ]
          refine wpAnyH_done (by kernel_rfl) ?_ _
          go_wp2
          go_roundw
          case rel =>
            exact ⟨j + 1, by omega, by go_num, BB.out.trans_ (by repeat' (first | exact Bl.refl _ | with_reducible assumption | with_reducible refine Bl.drew_ ?_ | with_reducible refine Bl.drewN_ ?_ _ | with_reducible refine Bl.alloc_ ?_ _ | with_reducible refine Bl.trans_ ?_ (by assumption) | with_reducible refine Bl.trans_ ?_ (And.left (by assumption)))), HZ⟩
          case measure => simp [intOf]; omega
      · have hd : decide (0 ≤ x ∧ x < N) = false := by simpa using hin
        have HD := Lib.hid hd
        have HZ := Lib.hid (NOT.out hin)
        clear hd YES NO NOT hin
        go_wp2_with fail
        refine wp_region_held_drew (S := fun wx => Bl wr wx ∧ wx.cell? ⟨w.heap.size, 0, none⟩ = some (.int .i64 N) ∧ wx.cell? ⟨w.heap.size, 1, none⟩ = some (.slice A n c) ∧ wx.cell? ⟨g2, o2 + j, none⟩ = some (.int .i64 x)) (by kernel_rfl) ?_ (fun hHeld => ?_)
        · (exact HSH.out _ (by repeat' (first | exact Bl.refl _ | with_reducible assumption | with_reducible refine Bl.drew_ ?_ | with_reducible refine Bl.drewN_ ?_ _ | with_reducible refine Bl.alloc_ ?_ _ | with_reducible refine Bl.trans_ ?_ (by assumption) | with_reducible refine Bl.trans_ ?_ (And.left (by assumption)))))
        refine wpAnyH_take (i := 0) (v := ?_) rfl (by kernel_rfl) (by kernel_rfl) (by kernel_rfl) (fun _ _ _ h => h) (Or.inl ⟨by kernel_rfl, ?_⟩) (by assumption) ?_
        rotate_left
        · (intro wx hSw; (try dsimp only at hSw); go_simp; try (with_reducible rfl))
        try simp only [Act.put, List.getElem_toArray, List.getElem_cons_succ, List.getElem_cons_zero, List.setIfInBounds_toArray, List.set_cons_zero, List.set_cons_succ]
        refine wpAnyH_take (i := 1) (v := ?_) rfl (by kernel_rfl) (by kernel_rfl) (by kernel_rfl) (fun _ _ _ h => h) (Or.inl ⟨by kernel_rfl, ?_⟩) (by assumption) ?_
        rotate_left
        · (intro wx hSw; (try dsimp only at hSw); go_simp; try (with_reducible rfl))
        try simp only [Act.put, List.getElem_toArray, List.getElem_cons_succ, List.getElem_cons_zero, List.setIfInBounds_toArray, List.set_cons_zero, List.set_cons_succ]
        refine wpAnyH_take (i := 2) (v := ?_) rfl (by kernel_rfl) (by kernel_rfl) (by kernel_rfl) (fun _ _ _ h => h) (Or.inl ⟨by kernel_rfl, ?_⟩) (by assumption) ?_
        rotate_left
        · (intro wx hSw; (try dsimp only at hSw); go_simp; try (with_reducible rfl))
        try simp only [Act.put, List.getElem_toArray, List.getElem_cons_succ, List.getElem_cons_zero, List.setIfInBounds_toArray, List.set_cons_zero, List.set_cons_succ]
        refine wpAnyH_take (i := 3) (v := ?_) rfl (by kernel_rfl) (by kernel_rfl) (by kernel_rfl) (fun _ _ _ h => h) (Or.inl ⟨by kernel_rfl, ?_⟩) (by assumption) ?_
        rotate_left
        · (intro wx hSw; (try dsimp only at hSw); go_simp; try (with_reducible rfl))
        try simp only [Act.put, List.getElem_toArray, List.getElem_cons_succ, List.getElem_cons_zero, List.setIfInBounds_toArray, List.set_cons_zero, List.set_cons_succ]
        refine wpAnyH_take (i := 4) (v := ?_) rfl (by kernel_rfl) (by kernel_rfl) (by kernel_rfl) (fun _ _ _ h => h) (Or.inl ⟨by kernel_rfl, ?_⟩) (by assumption) ?_
        rotate_left
        · (intro wx hSw; (try dsimp only at hSw); go_simp; try (with_reducible rfl))
        try simp only [Act.put, List.getElem_toArray, List.getElem_cons_succ, List.getElem_cons_zero, List.setIfInBounds_toArray, List.set_cons_zero, List.set_cons_succ]
        refine wpAnyH_ready (rs := [5]) (by kernel_rfl) (by simp) ?_
        refine AllReadyH.cons rfl (fun K hK => ?_) AllReadyH.nil
        go_simp
        (go_at_call 88; refine (l1Node_any N x _ _).mono ?_; rintro e w5 ⟨rfl, hb5⟩; rw [HNB.out, HD.out])
        try (go_wp2_with fail)
        refine hK.out _ _ ?_ (fun hHeld => ?_)
        · (exact HSH.out _ (by repeat' (first | exact Bl.refl _ | with_reducible assumption | with_reducible refine Bl.drew_ ?_ | with_reducible refine Bl.drewN_ ?_ _ | with_reducible refine Bl.alloc_ ?_ _ | with_reducible refine Bl.trans_ ?_ (by assumption) | with_reducible refine Bl.trans_ ?_ (And.left (by assumption)))))
        clear hK K
        try simp only [Act.put, List.getElem_toArray, List.getElem_cons_succ, List.getElem_cons_zero, List.setIfInBounds_toArray, List.set_cons_zero, List.set_cons_succ]
        refine wpAnyH_take (i := 6) (v := ?_) rfl (by kernel_rfl) (by kernel_rfl) (by kernel_rfl) (fun _ _ _ h => h) (Or.inl ⟨by kernel_rfl, ?_⟩) (by assumption) ?_
        rotate_left
        · (intro wx hSw; (try dsimp only at hSw); go_simp; try (with_reducible rfl))
        try simp only [Act.put, List.getElem_toArray, List.getElem_cons_succ, List.getElem_cons_zero, List.setIfInBounds_toArray, List.set_cons_zero, List.set_cons_succ]
        refine wpAnyH_take (i := 7) (v := ?_) rfl (by kernel_rfl) (by kernel_rfl) (by kernel_rfl) (fun _ _ _ h => h) (Or.inl ⟨by kernel_rfl, ?_⟩) (by assumption) ?_
        rotate_left
        · (intro wx hSw; (try dsimp only at hSw); go_simp; try (with_reducible rfl))
        try simp only [Act.put, List.getElem_toArray, List.getElem_cons_succ, List.getElem_cons_zero, List.setIfInBounds_toArray, List.set_cons_zero, List.set_cons_succ]
        refine wpAnyH_take (i := 8) (v := undef) rfl (by kernel_rfl) (by kernel_rfl) (by kernel_rfl) (fun _ _ _ h => h) (Or.inr ⟨by kernel_rfl, rfl⟩) (by assumption) ?_
        try simp only [Act.put, List.getElem_toArray, List.getElem_cons_succ, List.getElem_cons_zero, List.setIfInBounds_toArray, List.set_cons_zero, List.set_cons_succ]
        refine wpAnyH_take (i := 9) (v := undef) rfl (by kernel_rfl) (by kernel_rfl) (by kernel_rfl) (fun _ _ _ h => h) (Or.inr ⟨by kernel_rfl, rfl⟩) (by assumption) ?_
        try simp only [Act.put, List.getElem_toArray, List.getElem_cons_succ, List.getElem_cons_zero, List.setIfInBounds_toArray, List.set_cons_zero, List.set_cons_succ]
        refine wpAnyH_take (i := 10) (v := undef) rfl (by kernel_rfl) (by kernel_rfl) (by kernel_rfl) (fun _ _ _ h => h) (Or.inr ⟨by kernel_rfl, rfl⟩) (by assumption) ?_
        try simp only [Act.put, List.getElem_toArray, List.getElem_cons_succ, List.getElem_cons_zero, List.setIfInBounds_toArray, List.set_cons_zero, List.set_cons_succ]
        refine wpAnyH_take (i := 11) (v := undef) rfl (by kernel_rfl) (by kernel_rfl) (by kernel_rfl) (fun _ _ _ h => h) (Or.inr ⟨by kernel_rfl, rfl⟩) (by assumption) ?_
        try simp only [Act.put, List.getElem_toArray, List.getElem_cons_succ, List.getElem_cons_zero, List.setIfInBounds_toArray, List.set_cons_zero, List.set_cons_succ]
        refine wpAnyH_take (i := 12) (v := undef) rfl (by kernel_rfl) (by kernel_rfl) (by kernel_rfl) (fun _ _ _ h => h) (Or.inr ⟨by kernel_rfl, rfl⟩) (by assumption) ?_
        try simp only [Act.put, List.getElem_toArray, List.getElem_cons_succ, List.getElem_cons_zero, List.setIfInBounds_toArray, List.set_cons_zero, List.set_cons_succ]
        refine wpAnyH_take (i := 13) (v := undef) rfl (by kernel_rfl) (by kernel_rfl) (by kernel_rfl) (fun _ _ _ h => h) (Or.inr ⟨by kernel_rfl, rfl⟩) (by assumption) ?_
        try simp only [Act.put, List.getElem_toArray, List.getElem_cons_succ, List.getElem_cons_zero, List.setIfInBounds_toArray, List.set_cons_zero, List.set_cons_succ]
        refine wpAnyH_take (i := 14) (v := undef) rfl (by kernel_rfl) (by kernel_rfl) (by kernel_rfl) (fun _ _ _ h => h) (Or.inr ⟨by kernel_rfl, rfl⟩) (by assumption) ?_
        try simp only [Act.put, List.getElem_toArray, List.getElem_cons_succ, List.getElem_cons_zero, List.setIfInBounds_toArray, List.set_cons_zero, List.set_cons_succ]
        refine wpAnyH_ready (rs := [15]) (by kernel_rfl) (by simp) ?_
        refine AllReadyH.cons rfl (fun K hK => ?_) AllReadyH.nil
        go_simp
        refine hK.out _ _ ?_ (fun hHeld => ?_)
        · (exact HSH.out _ (by repeat' (first | exact Bl.refl _ | with_reducible assumption | with_reducible refine Bl.drew_ ?_ | with_reducible refine Bl.drewN_ ?_ _ | with_reducible refine Bl.alloc_ ?_ _ | with_reducible refine Bl.trans_ ?_ (by assumption) | with_reducible refine Bl.trans_ ?_ (And.left (by assumption)))))
        clear hK K
        try simp only [Act.put, List.getElem_toArray, List.getElem_cons_succ, List.getElem_cons_zero, List.setIfInBounds_toArray, List.set_cons_zero, List.set_cons_succ]
        refine wpAnyH_take (i := 16) (v := ?_) rfl (by kernel_rfl) (by kernel_rfl) (by kernel_rfl) (fun _ _ _ h => h) (Or.inl ⟨by kernel_rfl, ?_⟩) (by assumption) ?_
        rotate_left
        · (intro wx hSw; (try dsimp only at hSw); go_simp; try (with_reducible rfl))
        try simp only [Act.put, List.getElem_toArray, List.getElem_cons_succ, List.getElem_cons_zero, List.setIfInBounds_toArray, List.set_cons_zero, List.set_cons_succ]
        refine wpAnyH_done (by kernel_rfl) ?_ _
        go_wp2
        go_ret
        refine ⟨ret_bool ?_, BW.out.trans_ (by repeat' (first | exact Bl.refl _ | with_reducible assumption | with_reducible refine Bl.drew_ ?_ | with_reducible refine Bl.drewN_ ?_ _ | with_reducible refine Bl.alloc_ ?_ _ | with_reducible refine Bl.trans_ ?_ (by assumption) | with_reducible refine Bl.trans_ ?_ (And.left (by assumption))))⟩
        unfold unB
        exact (decide_eq_false HZ.out).symm
    · have HZ := Lib.hid (show (∀ v ∈ V, 0 ≤ v ∧ v < N) ∧ V.Nodup from ⟨fun v hv => by
        obtain ⟨t, ht, rfl⟩ := List.mem_iff_getElem.1 hv
        exact hno.out.1 t ht (by have := HK.out; omega), by
        have := hno.out.2
        rwa [List.take_of_length_le (by have := HK.out; omega)] at this⟩)
      go_wp2
      go_ret
      refine ⟨ret_bool ?_, BW.out⟩
      unfold unB
      exact (decide_eq_true HZ.out).symm

end Go.Proofs.Ytmdmbobjdhjadaa

set_option linter.unusedSimpArgs false
set_option linter.unusedVariables false
namespace Go.Proofs.Ytmdmbobjdhjadaa
open Go.RowKit

/-- From A on slices lie one behind the other, and each reads as its list of numbers; all of them lie in blocks from b on, below B. -/
def RowsAt (w : World) (b B : Nat) (A : Option Addr) (R : List (List Int)) : Prop :=
  0 < R.length → ∃ g off, A = some ⟨g, off, none⟩ ∧ (b ≤ g ∧ g < B) ∧ ∀ j (h : j < R.length), ∃ A' c', w.cell? ⟨g, off + j, none⟩ = some (.slice A' R[j].length c') ∧ IntsAt w B A' R[j] ∧ ∀ g', blockOf A' = some g' → 0 < R[j].length → b ≤ g'
theorem RowsAt.keep {w w' : World} {b B : Nat} {A : Option Addr} {R : List (List Int)} (h : RowsAt w b B A R) (hk : ∀ k o, b ≤ k → k < B → w'.cell? ⟨k, o, none⟩ = w.cell? ⟨k, o, none⟩) : RowsAt w' b B A R := fun h0 => by
  obtain ⟨g, off, e, hg, hc⟩ := h h0
  refine ⟨g, off, e, hg, fun j hj => ?_⟩
  obtain ⟨A', c', h1, h2, h3⟩ := hc j hj
  refine ⟨A', c', by rw [hk _ _ hg.1 hg.2]; exact h1, fun hp => ?_, h3⟩
  obtain ⟨g', off', rfl, hg', hc'⟩ := h2 hp
  exact ⟨g', off', rfl, hg', fun i hi => by rw [hk _ _ (h3 g' rfl (by rw [csI_len] at hp; exact hp)) hg']; exact hc' i hi⟩
theorem RowsAt.more {w : World} {b B B' : Nat} {A : Option Addr} {R : List (List Int)} (h : RowsAt w b B A R) (hB : B ≤ B') : RowsAt w b B' A R := fun h0 => by
  obtain ⟨g, off, e, hg, hc⟩ := h h0
  refine ⟨g, off, e, ⟨hg.1, by omega⟩, fun j hj => ?_⟩
  obtain ⟨A', c', h1, h2, h3⟩ := hc j hj
  exact ⟨A', c', h1, h2.more hB, h3⟩
theorem RowsAt.low {w : World} {b b' B : Nat} {A : Option Addr} {R : List (List Int)} (h : RowsAt w b B A R) (hb : b' ≤ b) : RowsAt w b' B A R := fun h0 => by
  obtain ⟨g, off, e, hg, hc⟩ := h h0
  refine ⟨g, off, e, ⟨by omega, hg.2⟩, fun j hj => ?_⟩
  obtain ⟨A', c', h1, h2, h3⟩ := hc j hj
  exact ⟨A', c', h1, h2, fun g' e' hp => Nat.le_trans hb (h3 g' e' hp)⟩
theorem RowsAt.bl {w w' : World} {b : Nat} {A : Option Addr} {R : List (List Int)} (h : RowsAt w b w.heap.size A R) (hb : Bl w w') : RowsAt w' b w'.heap.size A R :=
  (h.keep fun k o _ hk => (bcell hb).1 k o hk).more hb.size
theorem RowsAt.bl' {w w' : World} {b B : Nat} {A : Option Addr} {R : List (List Int)} (h : RowsAt w b B A R) (hB : B ≤ w.heap.size) (hb : Bl w w') : RowsAt w' b B A R :=
  h.keep fun k o _ hk => (bcell hb).1 k o (by omega)
theorem RowsAt.nil_ (w : World) (b B : Nat) (A : Option Addr) : RowsAt w b B A [] := fun h => absurd h (by simp)
theorem RowsAt.turn {w w' : World} {b B : Nat} {A : Option Addr} {R : List (List Int)} {S : Nat → Prop} (h : RowsAt w b B A R) (hB : B ≤ w.heap.size) (k : Turn S w w') (hS : ∀ g, b ≤ g → g < B → ¬ S g) : RowsAt w' b B A R :=
  h.keep fun g o h1 h2 => k.cell (by omega) (hS g h1 h2) o
/-- One of the rows. -/
theorem RowsAt.row {w : World} {b B : Nat} {A : Option Addr} {R : List (List Int)} (h : RowsAt w b B A R) {j : Nat} (hj : j < R.length) :
    ∃ g off A' c', A = some ⟨g, off, none⟩ ∧ g < B ∧ w.cell? ⟨g, off + j, none⟩ = some (.slice A' R[j].length c') ∧ IntsAt w B A' R[j] := by
  obtain ⟨g, off, e, hg, hc⟩ := h (by omega)
  obtain ⟨A', c', h1, h2, -⟩ := hc j hj
  exact ⟨g, off, A', c', e, hg.2, h1, h2⟩

end Go.Proofs.Ytmdmbobjdhjadaa

set_option linter.unusedSimpArgs false
set_option linter.unusedVariables false
namespace Go.Proofs.Ytmdmbobjdhjadaa
open Go.RowKit

/-- How many numbers there are in all rows. -/
def sumL : List (List Int) → Nat
  | [] => 0
  | r :: R => r.length + sumL R
theorem sumL_snoc (R : List (List Int)) (r : List Int) : sumL (R ++ [r]) = sumL R + r.length := by
  induction R with
  | nil => simp [sumL]
  | cons a t ih => simp only [List.cons_append, sumL, ih]; omega
theorem sumL_take {R : List (List Int)} {j : Nat} (h : j < R.length) : sumL (R.take (j + 1)) = sumL (R.take j) + R[j].length := by
  rw [List.take_succ_eq_append_getElem h, sumL_snoc]
theorem sumL_le {R : List (List Int)} {r : List Int} (h : r ∈ R) : r.length ≤ sumL R := by
  induction R with
  | nil => simp at h
  | cons a t ih =>
    unfold sumL
    rcases List.mem_cons.1 h with rfl | h
    · omega
    · have := ih h; omega

/-- What is left of l behind s, or -1. -/
def SzPost (l : Int) (s : Nat) (w : World) (e : Ending) (w' : World) : Prop := ∃ x : Int, e = .returned (.int .i64 x) ∧ (x = -1 ∨ (0 ≤ x ∧ x = l - (s : Nat))) ∧ Bl w w'

set_option maxHeartbeats 400000 in
theorem szRow_any (A : Option Addr) (n c : Nat) (l : Int) (w : World) (hn : n ≤ 9223372036854775807) (hl0 : 0 ≤ l) (hl1 : l ≤ 1048576) :
    Calls Try.prog 105 #[.agg #[.slice A n c], .int .i64 l] w (SzPost l n w) := by
  by_cases b1 : l - n < 0
  · go_enter Try.func105, Try.ntmps105
    go_wp2_with fail
    refine (szInt64S_any A n c l _ hn hl0 hl1).mono ?_
    rintro e w1 ⟨rfl, rfl⟩
    rw [if_pos b1]
    go_wp2
    go_ret
    exact ⟨_, rfl, .inl rfl, (by repeat' (first | exact Bl.refl _ | with_reducible assumption | with_reducible refine Bl.drew_ ?_ | with_reducible refine Bl.drewN_ ?_ _ | with_reducible refine Bl.alloc_ ?_ _ | with_reducible refine Bl.trans_ ?_ (by assumption) | with_reducible refine Bl.trans_ ?_ (And.left (by assumption))))⟩
  · have b2 : decide (l - (n : Int) < 0) = false := by simpa using b1
    have b3 : (0 : Int) ≤ l - (n : Int) := by omega
    go_enter Try.func105, Try.ntmps105
    go_wp2_with fail
    refine (szInt64S_any A n c l _ hn hl0 hl1).mono ?_
    rintro e w1 ⟨rfl, rfl⟩
    rw [if_neg (by omega)]
    go_wp2
    go_ret
    exact ⟨_, rfl, .inr ⟨b3, rfl⟩, (by repeat' (first | exact Bl.refl _ | with_reducible assumption | with_reducible refine Bl.drew_ ?_ | with_reducible refine Bl.drewN_ ?_ _ | with_reducible refine Bl.alloc_ ?_ _ | with_reducible refine Bl.trans_ ?_ (by assumption) | with_reducible refine Bl.trans_ ?_ (And.left (by assumption))))⟩

set_option maxHeartbeats 1000000 in
theorem szRowS_any (A : Option Addr) (n c : Nat) (R : List (List Int)) (hn : n = R.length) (l : Int) (w : World) (hm : n ≤ 9223372036854775807) (hr : ∀ r ∈ R, r.length ≤ 9223372036854775807) (hl0 : 0 ≤ l) (hl1 : l ≤ 1048576) (H : RowsAt w 0 w.heap.size A R) :
    Calls Try.prog 59 #[.slice A n c, .int .i64 l] w (SzPost l (n + sumL R) w) := by
  have K := Lib.hid H
  have HN := Lib.hid hn
  have HR := Lib.hid hr
  clear H hn hr
  by_cases b1 : l - n < 0
  · go_enter Try.func59, Try.ntmps59
    go_wp2
    go_ret
    exact ⟨_, rfl, .inl rfl, (by repeat' (first | exact Bl.refl _ | with_reducible assumption | with_reducible refine Bl.drew_ ?_ | with_reducible refine Bl.drewN_ ?_ _ | with_reducible refine Bl.alloc_ ?_ _ | with_reducible refine Bl.trans_ ?_ (by assumption) | with_reducible refine Bl.trans_ ?_ (And.left (by assumption))))⟩
  · have b2 : decide (l - (n : Int) < 0) = false := by simpa using b1
    have b3 : (0 : Int) ≤ l - (n : Int) := by omega
    go_enter Try.func59, Try.ntmps59
    go_wp2
    go_loopw [1, 5] (fun x i wr => ∃ (j : Nat) (m : Int), j ≤ n ∧ i = .int .i64 j ∧ x = .int .i64 m ∧ (0 ≤ m ∧ m ≤ l) ∧ Hid (m = l - n - (sumL (R.take j) : Nat)) ∧ Bl w wr) (fun _ i _ => n - (intOf i).toNat)
    case atStart => exact ⟨0, _, by omega, rfl, rfl, ⟨b3, by omega⟩, Lib.hid (by simp [sumL]), Bl.refl _⟩
    case round =>
      obtain ⟨j, m, hj, rfl, rfl, ⟨hm0, hm1⟩, hmm, hbl⟩ := hrel
      by_cases hlt : j < n
      · have hjl : j < R.length := by have := HN.out; omega
        obtain ⟨g, off, A', c', rfl, hg, hc, -⟩ := K.out.row hjl
        rw [← (bcell hbl).1 _ _ hg] at hc
        have HL := Lib.hid (HR.out _ (List.getElem_mem hjl))
        have HS := Lib.hid (sumL_take hjl)
        have HT := Lib.hid (show sumL (R.take (j + 1)) ≤ sumL R from by
          have := (List.take_append_drop (j + 1) R)
          have h2 : ∀ X Y : List (List Int), sumL X ≤ sumL (X ++ Y) := fun X Y => by
            induction X with
            | nil => simp [sumL]
            | cons a t ih => simp only [List.cons_append, sumL]; omega
          have h3 := h2 (R.take (j + 1)) (R.drop (j + 1))
          rwa [this] at h3)
        generalize R[j].length = rl at *
        have i0 : (0 : Int) ≤ (j : Int) := by omega
        have i1 : (j : Int) < (n : Int) := by omega
        have BB := Lib.hid hbl
        go_wp2_with fail
        refine (szRow_any A' rl c' m _ HL.out hm0 (by omega)).mono ?_
        rintro e w1 ⟨x, rfl, hx, hb1⟩
        have B1 := Lib.hid (BB.out.trans_ hb1)
        clear hb1 hbl
        rcases hx with rfl | ⟨hx0, hx1⟩
        · go_wp2
          go_ret
          exact ⟨_, rfl, .inl rfl, B1.out⟩
        · have b4 : decide (x < 0) = false := by simpa using hx0
          have HX := Lib.hid hx1
          clear hx1
          go_wp2
          go_roundw
          case rel => exact ⟨j + 1, x, by omega, by go_num, rfl, ⟨hx0, by have := HX.out; omega⟩, Lib.hid (by have h1 := hmm.out; have h2 := HX.out; have h3 := HS.out; omega), B1.out⟩
          case measure => simp [intOf]; omega
      · have HX := Lib.hid (show m = l - ((n + sumL R : Nat) : Int) from by
          have h1 := hmm.out
          rw [List.take_of_length_le (by have := HN.out; omega)] at h1
          omega)
        go_wp2
        go_ret
        exact ⟨_, rfl, .inr ⟨hm0, HX.out⟩, hbl⟩

set_option maxHeartbeats 1000000 in
theorem toRow_any (A : Option Addr) (n c : Nat) (V : List Int) (hn : n = V.length) (w : World) (hm : n ≤ 1048576) (H1 : IntsAt w w.heap.size A V) :
    Calls Try.prog 106 #[.agg #[.slice A n c]] w fun e w' => ∃ g, e = .returned (.agg #[.slice (some ⟨g, 0, none⟩) n n]) ∧ IntsAt w' w'.heap.size (some ⟨g, 0, none⟩) V ∧ w.heap.size < g ∧ Bl w w' := by
  have K1 := Lib.hid H1
  have HN := Lib.hid hn
  clear H1 hn
  go_enter Try.func106, Try.ntmps106
  go_wp2_with fail
  refine (toInt64S_any A n c V HN.out _ hm (K1.out.bl (by repeat' (first | exact Bl.refl _ | with_reducible assumption | with_reducible refine Bl.drew_ ?_ | with_reducible refine Bl.drewN_ ?_ _ | with_reducible refine Bl.alloc_ ?_ _ | with_reducible refine Bl.trans_ ?_ (by assumption) | with_reducible refine Bl.trans_ ?_ (And.left (by assumption)))))).mono ?_
  rintro e w1 ⟨rfl, hi1, hb1⟩
  have HI := Lib.hid hi1
  have s1 := hb1.size
  simp only [World.size_alloc] at s1
  have p1 : w1.cell? ⟨w.heap.size + 1, 0, none⟩ = some (.slice none 0 0) ∧ w1.frozen? ⟨w.heap.size + 1, 0, none⟩ = false := by
    obtain ⟨x, y⟩ := bcell hb1
    exact ⟨(x _ _ (by simp)).trans (by simp [go_sem]), (y _ _ (by simp)).trans (by simp [go_sem])⟩
  have p2 : w1.cell? ⟨w.heap.size + 1 + 1, 0, none⟩ = some (.slice none 0 0) ∧ w1.frozen? ⟨w.heap.size + 1 + 1, 0, none⟩ = false := by
    obtain ⟨x, y⟩ := bcell hb1
    exact ⟨(x _ _ (by simp)).trans (by simp [go_sem]), (y _ _ (by simp)).trans (by simp [go_sem])⟩
  obtain ⟨c1, f1⟩ := p1
  obtain ⟨c2, f2⟩ := p2
  have BW := Lib.hid (show Bl w w1 from (((Bl.refl w).alloc_ _).alloc_ _).alloc_ _ |>.trans_ hb1)
  clear hi1 hb1
  have n1 : w.heap.size + 1 + 1 ≠ w.heap.size + 1 := by omega
  have n2 : w.heap.size + 1 ≠ w.heap.size + 1 + 1 := by omega
  go_wp2
  refine bodyPost_ret (v := .agg #[.slice (some ⟨w.heap.size + 1 + 1 + 1, 0, none⟩) n n]) (by simp [results, Try.results106, go_sem, c1, c2, f1, f2]) rfl ?_
  refine ⟨_, rfl, ?_, by omega, ?_⟩
  · have h : IntsAt w1 w1.heap.size (some ⟨w.heap.size + 1 + 1 + 1, 0, none⟩) V := by simpa only [World.size_alloc] using HI.out
    exact ((h.set_ (fun g e => by simp [blockOf] at e; show w.heap.size + 1 + 1 ≠ g; omega) _).set_ (fun g e => by simp [blockOf] at e; show w.heap.size + 1 ≠ g; omega) _).more (by simp)
  · exact Bl.set_ (Bl.set_ BW.out (by show w.heap.size ≤ w.heap.size + 1 + 1; omega) _) (by show w.heap.size ≤ w.heap.size + 1; omega) _

theorem infoRow : (Try.prog.info? 80).map (fun i => (i.zero, i.size, i.bytes)) = some (some (.agg #[.slice none 0 0]), 1, 24) := by kernel_rfl
def mkR (n : Nat) : Array Value := madeCells (Value.agg #[.slice none 0 0]).cells (n * 1)
theorem size_mkR (n : Nat) : (mkR n).size = n := by unfold mkR; rw [size_madeCells, Nat.mul_one]
theorem mkR_row (w : World) (n : Nat) (t : TypeId) : (w.alloc (.cells (mkR n) t)).rowIs w.heap.size t n (fun i => (mkR n).getD i undef) := by
  have h := World.rowIs_alloc w (mkR n) t (fun i => (mkR n).getD i undef) (fun i hi => by simp [Array.getD, hi])
  rwa [size_mkR] at h
theorem make_rows (n : Nat) (hn : n ≤ 1048576) (w : World) : (Instr.makeSlice 28 (.int .i64 (n : Int)) (.int .i64 (n : Int))).run Try.prog w = .ok (.slice (some ⟨w.heap.size, 0, none⟩) n n) (w.alloc (.cells (mkR n) 80)) := by
  obtain ⟨i0, hi, hz0, hz1, hz2⟩ := info_parts infoRow
  have h := run_make_rowN (P := Try.prog) 28 80 i0 _ Try.underlying28 hi hz0 .i64 .i64 n n (Nat.le_refl _) (by rw [hz2]; omega) (by omega) w
  rw [hz1] at h
  exact h

set_option maxRecDepth 100000 in
set_option maxHeartbeats 2000000 in
theorem toRowS_any (A : Option Addr) (n c : Nat) (R : List (List Int)) (hn : n = R.length) (w : World) (hm : n ≤ 1048576) (hr : ∀ r ∈ R, r.length ≤ 1048576) (H : RowsAt w 0 w.heap.size A R) :
    Calls Try.prog 63 #[.slice A n c] w fun e w' => e = .returned (.slice (some ⟨w.heap.size, 0, none⟩) n n) ∧ RowsAt w' w.heap.size w'.heap.size (some ⟨w.heap.size, 0, none⟩) R ∧ Bl w w' := by
  have K := Lib.hid H
  have HN := Lib.hid hn
  have HR := Lib.hid hr
  clear H hn hr
  have hmk := make_rows n hm
  go_enter Try.func63, Try.ntmps63
  go_wp2
  clear hmk
  go_loopw [4] (fun i wr => ∃ k : Nat, k ≤ n ∧ i = .int .i64 k ∧ Bl w wr ∧ ∃ f, wr.rowIs w.heap.size 80 n f ∧ ∀ j (h : j < k) (h' : j < R.length), ∃ g, f j = .slice (some ⟨g, 0, none⟩) R[j].length R[j].length ∧ w.heap.size < g ∧ IntsAt wr wr.heap.size (some ⟨g, 0, none⟩) R[j]) (fun i _ => n - (intOf i).toNat)
  case atStart => exact ⟨0, by omega, rfl, (by repeat' (first | exact Bl.refl _ | with_reducible assumption | with_reducible refine Bl.drew_ ?_ | with_reducible refine Bl.drewN_ ?_ _ | with_reducible refine Bl.alloc_ ?_ _ | with_reducible refine Bl.trans_ ?_ (by assumption) | with_reducible refine Bl.trans_ ?_ (And.left (by assumption)))), _, mkR_row _ _ _, fun j h => absurd h (by omega)⟩
  case round =>
    obtain ⟨k, hk, rfl, hbl, f, hrow, hf⟩ := hrel
    by_cases hlt : k < n
    · have hkl : k < R.length := by have := HN.out; omega
      obtain ⟨g1, o1, A', c', rfl, hg1, hc1, hi1⟩ := K.out.row hkl
      rw [← (bcell hbl).1 _ _ hg1] at hc1
      have KI := Lib.hid hi1
      have F := Lib.hid hf
      have RO := Lib.hid hrow
      have BB := Lib.hid hbl
      have hsl := hbl.size
      have hwl : w.heap.size < wr.heap.size := hrow.lt
      clear hf hrow hi1 hbl
      have HL := Lib.hid (HR.out _ (List.getElem_mem hkl))
      have i0 : (0 : Int) ≤ (k : Int) := by omega
      have i1 : (k : Int) < (n : Int) := by omega
      obtain ⟨rl, hrl⟩ : ∃ rl, rl = R[k].length := ⟨_, rfl⟩
      rw [← hrl] at hc1
      have HRL := Lib.hid hrl
      clear hrl
      go_wp2_with fail
      refine (toRow_any A' rl c' R[k] HRL.out _ (by rw [HRL.out]; exact HL.out) (KI.out.bl (BB.out.trans_ (by repeat' (first | exact Bl.refl _ | with_reducible assumption | with_reducible refine Bl.drew_ ?_ | with_reducible refine Bl.drewN_ ?_ _ | with_reducible refine Bl.alloc_ ?_ _ | with_reducible refine Bl.trans_ ?_ (by assumption) | with_reducible refine Bl.trans_ ?_ (And.left (by assumption))))))).mono ?_
      rintro e w1 ⟨g, rfl, hi2, hg2, hb2⟩
      have RO1 := Lib.hid (row_bl RO.out hb2)
      have z1 := RO1.out.cell (i := k) (by omega)
      have y1 := RO1.out.frozen k
      have HI2 := Lib.hid hi2
      have B2 := Lib.hid hb2
      have B1 := Lib.hid (BB.out.trans_ hb2)
      clear hi2 hb2
      go_wp2
      go_roundw
      case rel =>
        refine ⟨k + 1, by omega, by go_num, Bl.set_ B1.out (Nat.le_refl _) _, _, RO1.out.set k _, fun j hj hj' => ?_⟩
        rcases Nat.lt_or_ge j k with h | h
        · rw [if_neg (by omega)]
          obtain ⟨g', e1, e2, e3⟩ := F.out j h hj'
          exact ⟨g', e1, e2, ((e3.bl B2.out).set_ (fun x e => by simp [blockOf] at e; show w.heap.size ≠ x; omega) _).more (by simp)⟩
        · have e : j = k := by omega
          subst e
          rw [if_pos rfl]
          exact ⟨g, by rw [HRL.out], by omega, (HI2.out.set_ (fun x e => by simp [blockOf] at e; show w.heap.size ≠ x; omega) _).more (by simp)⟩
      case measure => simp [intOf]; omega
    · go_wp2
      go_ret
      have e : k = n := by omega
      subst e
      refine ⟨rfl, fun h0 => ⟨w.heap.size, 0, rfl, ⟨Nat.le_refl _, hrow.lt⟩, fun j hj => ?_⟩, hbl⟩
      have hjk : j < k := by have := HN.out; omega
      obtain ⟨g', e1, e2, e3⟩ := hf j hjk hj
      refine ⟨some ⟨g', 0, none⟩, R[j].length, ?_, e3, fun g'' e => ?_⟩
      · rw [← e1, Nat.zero_add]
        exact hrow.cell hjk
      · intro _
        simp [blockOf] at e
        omega

set_option maxHeartbeats 1000000 in
theorem eqRow_yes (A1 A2 : Option Addr) (c1 c2 : Nat) (V : List Int) (n : Nat) (hn : n = V.length) (w : World) (hm : n ≤ 9223372036854775807) (H1 : IntsAt w w.heap.size A1 V) (H2 : IntsAt w w.heap.size A2 V) :
    Calls Try.prog 109 #[.agg #[.slice A1 n c1], .agg #[.slice A2 n c2]] w fun e w' => e = .returned (.bool true) ∧ Bl w w' := by
  have K1 := Lib.hid H1
  have K2 := Lib.hid H2
  have HN := Lib.hid hn
  clear H1 H2 hn
  go_enter Try.func109, Try.ntmps109
  go_wp2_with fail
  refine (eqInt64S_yes _ _ _ _ V n HN.out _ hm (K1.out.bl (by repeat' (first | exact Bl.refl _ | with_reducible assumption | with_reducible refine Bl.drew_ ?_ | with_reducible refine Bl.drewN_ ?_ _ | with_reducible refine Bl.alloc_ ?_ _ | with_reducible refine Bl.trans_ ?_ (by assumption) | with_reducible refine Bl.trans_ ?_ (And.left (by assumption))))) (K2.out.bl (by repeat' (first | exact Bl.refl _ | with_reducible assumption | with_reducible refine Bl.drew_ ?_ | with_reducible refine Bl.drewN_ ?_ _ | with_reducible refine Bl.alloc_ ?_ _ | with_reducible refine Bl.trans_ ?_ (by assumption) | with_reducible refine Bl.trans_ ?_ (And.left (by assumption)))))).mono ?_
  rintro e w1 ⟨rfl, hb1⟩
  go_wp2
  go_ret
  exact ⟨rfl, (by repeat' (first | exact Bl.refl _ | with_reducible assumption | with_reducible refine Bl.drew_ ?_ | with_reducible refine Bl.drewN_ ?_ _ | with_reducible refine Bl.alloc_ ?_ _ | with_reducible refine Bl.trans_ ?_ (by assumption) | with_reducible refine Bl.trans_ ?_ (And.left (by assumption))))⟩

set_option maxRecDepth 100000 in
set_option maxHeartbeats 1000000 in
theorem eqRowS_yes (A1 A2 : Option Addr) (c1 c2 b1 b2 : Nat) (R : List (List Int)) (n : Nat) (hn : n = R.length) (w : World) (hm : n ≤ 9223372036854775807) (hr : ∀ r ∈ R, r.length ≤ 9223372036854775807) (H1 : RowsAt w b1 w.heap.size A1 R) (H2 : RowsAt w b2 w.heap.size A2 R) :
    Calls Try.prog 67 #[.slice A1 n c1, .slice A2 n c2] w fun e w' => e = .returned (.bool true) ∧ Bl w w' := by
  have K1 := Lib.hid H1
  have K2 := Lib.hid H2
  have HN := Lib.hid hn
  have HR := Lib.hid hr
  clear H1 H2 hn hr
  have hnn : ((n : Int) != (n : Int)) = false := by simp
  go_enter Try.func67, Try.ntmps67
  go_wp2
  go_loopw [5] (fun i wr => ∃ k : Nat, k ≤ n ∧ i = .int .i64 k ∧ Bl w wr) (fun i _ => n - (intOf i).toNat)
  case atStart => exact ⟨0, by omega, rfl, Bl.refl _⟩
  case round =>
    obtain ⟨k, hk, rfl, hbl⟩ := hrel
    by_cases hlt : k < n
    · have hkl : k < R.length := by have := HN.out; omega
      obtain ⟨g1, o1, A3, c3, rfl, hg1, hc1, hi1⟩ := K1.out.row hkl
      obtain ⟨g2, o2, A4, c4, rfl, hg2, hc2, hi2⟩ := K2.out.row hkl
      rw [← (bcell hbl).1 _ _ hg1] at hc1
      rw [← (bcell hbl).1 _ _ hg2] at hc2
      have I1 := Lib.hid (hi1.bl hbl)
      have I2 := Lib.hid (hi2.bl hbl)
      have HL := Lib.hid (HR.out _ (List.getElem_mem hkl))
      obtain ⟨rl, hrl⟩ : ∃ rl, rl = R[k].length := ⟨_, rfl⟩
      rw [← hrl] at hc1 hc2
      have HRL := Lib.hid hrl
      have BB := Lib.hid hbl
      have i0 : (0 : Int) ≤ (k : Int) := by omega
      have i1 : (k : Int) < (n : Int) := by omega
      clear hrl hi1 hi2 hbl
      go_wp2_with fail
      go_still_tail 8, (by kernel_rfl)
      change wpList _ _ _ _ _ wr.drew
      go_wp2_with fail
      refine (eqRow_yes A3 A4 c3 c4 R[k] rl HRL.out _ (by rw [HRL.out]; exact HL.out) (I1.out.bl (by repeat' (first | exact Bl.refl _ | with_reducible assumption | with_reducible refine Bl.drew_ ?_ | with_reducible refine Bl.drewN_ ?_ _ | with_reducible refine Bl.alloc_ ?_ _ | with_reducible refine Bl.trans_ ?_ (by assumption) | with_reducible refine Bl.trans_ ?_ (And.left (by assumption))))) (I2.out.bl (by repeat' (first | exact Bl.refl _ | with_reducible assumption | with_reducible refine Bl.drew_ ?_ | with_reducible refine Bl.drewN_ ?_ _ | with_reducible refine Bl.alloc_ ?_ _ | with_reducible refine Bl.trans_ ?_ (by assumption) | with_reducible refine Bl.trans_ ?_ (And.left (by assumption)))))).mono ?_
      rintro e w1 ⟨rfl, hb1⟩
      have B1 := Lib.hid (BB.out.trans_ (show Bl wr w1 from (by repeat' (first | exact Bl.refl _ | with_reducible assumption | with_reducible refine Bl.drew_ ?_ | with_reducible refine Bl.drewN_ ?_ _ | with_reducible refine Bl.alloc_ ?_ _ | with_reducible refine Bl.trans_ ?_ (by assumption) | with_reducible refine Bl.trans_ ?_ (And.left (by assumption))))))
      clear hc1 hc2
      go_wp2
      go_roundw
      case rel => exact ⟨k + 1, by omega, by go_num, B1.out⟩
      case measure => simp [intOf]; omega
    · go_wp2
      go_ret
      exact ⟨rfl, hbl⟩

end Go.Proofs.Ytmdmbobjdhjadaa

set_option linter.unusedSimpArgs false
set_option linter.unusedVariables false
namespace Go.Proofs.Ytmdmbobjdhjadaa
open Go.RowKit

/-- What a double loop has seen of the shortest paths by way of a node. -/
def seenST (N : Int) (L : List Arc3) (v : Int) (q s t : Nat) (x : Int) : Prop :=
  ∃ s' t' : Nat, s' < q ∧ t' < q ∧ (s' < s ∨ (s' = s ∧ t' < t)) ∧ 0 ≤ dAt (distL N L s') v ∧ 0 ≤ dAt (distL N L v) t' ∧ dAt (distL N L s') v + dAt (distL N L v) t' = dAt (distL N L s') t' ∧ x = min (dAt (distL N L s') v) (dAt (distL N L v) t')
section
variable {N : Int} {L : List Arc3} {v : Int} {q s t : Nat} {m : Int}
theorem seen_start : IsMax (seenST N L v q 0 0) 0 := ⟨.inl rfl, by omega, by
  rintro x ⟨s', t', h1, h2, h3, -⟩
  omega⟩
theorem seen_row (h : IsMax (seenST N L v q s q) m) : IsMax (seenST N L v q (s + 1) 0) m := h.of fun x => by
  constructor
  · rintro ⟨s', t', h1, h2, h3, h4⟩
    exact ⟨s', t', h1, h2, by omega, h4⟩
  · rintro ⟨s', t', h1, h2, h3, h4⟩
    exact ⟨s', t', h1, h2, by omega, h4⟩
theorem seen_on (hs : s < q) (ht : t < q) {a b c : Int} (ha : dAt (distL N L s) v = a) (hb : dAt (distL N L v) t = b) (hc : dAt (distL N L s) t = c) (h1 : 0 ≤ a) (h2 : 0 ≤ b) (h3 : a + b = c) (h : IsMax (seenST N L v q s t) m) : IsMax (seenST N L v q s (t + 1)) (max m (min a b)) := by
  obtain ⟨k1, k2, k3⟩ := h
  subst ha hb hc
  refine ⟨?_, by omega, ?_⟩
  · rcases Int.le_total m (min (dAt (distL N L s) v) (dAt (distL N L v) t)) with hle | hle
    · rw [Int.max_eq_right hle]
      exact .inr ⟨s, t, hs, ht, by omega, h1, h2, h3, rfl⟩
    · rw [Int.max_eq_left hle]
      rcases k1 with k1 | ⟨s', t', a1, a2, a3, a4⟩
      · exact .inl k1
      · exact .inr ⟨s', t', a1, a2, by omega, a4⟩
  · rintro x ⟨s', t', a1, a2, a3, a4, a5, a6, rfl⟩
    by_cases e : s' = s ∧ t' = t
    · obtain ⟨rfl, rfl⟩ := e
      omega
    · have := k3 _ ⟨s', t', a1, a2, by omega, a4, a5, a6, rfl⟩
      omega
theorem seen_off {a b c : Int} (ha : dAt (distL N L s) v = a) (hb : dAt (distL N L v) t = b) (hc : dAt (distL N L s) t = c) (hn : ¬ (0 ≤ a ∧ 0 ≤ b ∧ a + b = c)) (h : IsMax (seenST N L v q s t) m) : IsMax (seenST N L v q s (t + 1)) m := by
  subst ha hb hc
  refine h.of fun x => ?_
  constructor
  · rintro ⟨s', t', a1, a2, a3, a4⟩
    exact ⟨s', t', a1, a2, by omega, a4⟩
  · rintro ⟨s', t', a1, a2, a3, a4, a5, a6, a7⟩
    by_cases e : s' = s ∧ t' = t
    · obtain ⟨rfl, rfl⟩ := e
      exact absurd ⟨a4, a5, a6⟩ hn
    · exact ⟨s', t', a1, a2, by omega, a4, a5, a6, a7⟩
end
theorem seen_all {q v : Nat} {L : List Arc3} {m : Int} (ho : okB q L = true) (hv : v < q) (h : IsMax (seenST q L (v : Int) q q 0) m) : m = (reachS q (allS q L q)).getD v 0 := by
  have h1 := reach_max ho (v := v) (by omega)
  simp only [Int.toNat_natCast] at h1
  refine (h.of fun x => ?_).uniq h1
  constructor
  · rintro ⟨s', t', a1, a2, a3, a4⟩
    exact ⟨s', t', by simpa using a1, by simpa using a2, a4⟩
  · rintro ⟨s', t', a1, a2, a4⟩
    simp only [Int.toNat_natCast] at a1 a2
    exact ⟨s', t', a1, a2, .inl a1, a4⟩

/-- A list of rows of numbers that grows. -/
def RowsOf (w : World) (B : Nat) (pv : Value) (R : List (List Int)) : Prop :=
  ∃ C : List Value, Owns 80 1 w B pv R.length C ∧ ∀ j (h : j < R.length), ∃ A' c', C[j]? = some (.slice A' R[j].length c') ∧ IntsAt w w.heap.size A' R[j] ∧ ∀ g, blockOf A' = some g → g < w.heap.size ∧ pv.ownBlock ≠ some g
theorem RowsOf.bl {w w' : World} {B : Nat} {pv : Value} {R : List (List Int)} (h : RowsOf w B pv R) (b : Bl w w') : RowsOf w' B pv R := by
  obtain ⟨C, h1, h2⟩ := h
  refine ⟨C, h1.bl b, fun j hj => ?_⟩
  obtain ⟨A', c', a1, a2, a3⟩ := h2 j hj
  exact ⟨A', c', a1, a2.bl b, fun g hg => ⟨Nat.lt_of_lt_of_le (a3 g hg).1 b.size, (a3 g hg).2⟩⟩
theorem RowsOf.snoc {w w' : World} {B k : Nat} {pv pv' : Value} {R : List (List Int)} {r : List Int} {C : List Value} {A : Option Addr} {l c : Nat}
    (hC : ∀ j (h : j < R.length), ∃ A' c', C[j]? = some (.slice A' R[j].length c') ∧ IntsAt w w.heap.size A' R[j] ∧ ∀ g, blockOf A' = some g → g < w.heap.size ∧ pv.ownBlock ≠ some g)
    (hl : C.length = R.length) (hr : IntsAt w w.heap.size A r) (hne : ∀ g, blockOf A = some g → g < w.heap.size ∧ pv.ownBlock ≠ some g) (hk : k = R.length) (hrl : l = r.length)
    (hown : w'.ownsRow B 80 1 pv' (k + 1) (C ++ [.slice A l c])) (hg : w.grownBy w' pv.ownBlock) (hb : pv'.ownBlock = pv.ownBlock ∨ pv'.ownBlock = some w.heap.size) : RowsOf w' B pv' (R ++ [r]) := by
  subst hk hrl
  refine ⟨C ++ [.slice A r.length c], by rw [List.length_append]; exact hown, fun j hj => ?_⟩
  have keep : ∀ (A' : Option Addr) (V : List Int), IntsAt w w.heap.size A' V → (∀ g, blockOf A' = some g → g < w.heap.size ∧ pv.ownBlock ≠ some g) → IntsAt w' w'.heap.size A' V ∧ ∀ g, blockOf A' = some g → g < w'.heap.size ∧ pv'.ownBlock ≠ some g := fun A' V h1 h2 => by
    refine ⟨(h1.grown_ (Nat.le_refl _) hg (fun g e _ h => (h2 g e).2 h.symm)).more hg.size, fun g e => ⟨Nat.lt_of_lt_of_le (h2 g e).1 hg.size, fun h => ?_⟩⟩
    rcases hb with hb | hb
    · exact (h2 g e).2 (hb.symm.trans h)
    · have h3 := hb.symm.trans h
      have := (h2 g e).1
      injection h3 with h3
      omega
  by_cases e : j < R.length
  · obtain ⟨A', c', a1, a2, a3⟩ := hC j e
    obtain ⟨k1, k2⟩ := keep A' _ a2 a3
    have e1 : (R ++ [r])[j]'hj = R[j] := List.getElem_append_left e
    rw [e1]
    exact ⟨A', c', by rw [List.getElem?_append_left (by omega)]; exact a1, k1, k2⟩
  · have e0 : j = R.length := by simp at hj; omega
    subst e0
    obtain ⟨k1, k2⟩ := keep A _ hr hne
    have e1 : (R ++ [r])[R.length]'hj = r := by simp
    rw [e1]
    exact ⟨A, c, by rw [List.getElem?_append_right (by omega), hl]; simp, k1, k2⟩
theorem RowsOf.row {w : World} {B : Nat} {pv : Value} {R : List (List Int)} (h : RowsOf w B pv R) (hp : 0 < R.length) :
    ∃ g c, pv = .slice (some ⟨g, 0, none⟩) R.length c ∧ g < w.heap.size ∧ ∀ j (hj : j < R.length), ∃ A' c', w.cell? ⟨g, j, none⟩ = some (.slice A' R[j].length c') ∧ IntsAt w w.heap.size A' R[j] := by
  obtain ⟨C, h1, h2⟩ := h
  have hl := h1.len
  obtain ⟨A, c, rfl, -, -, -, hs⟩ := Owns.shape h1
  obtain ⟨g, rfl, -, hg, -, hc⟩ := hs hp
  refine ⟨g, c, rfl, hg, fun j hj => ?_⟩
  obtain ⟨A', c', a1, a2, -⟩ := h2 j hj
  have hj' : j < C.length := by omega
  refine ⟨A', c', (hc j hj').trans ?_, a2⟩
  rw [List.getElem?_eq_getElem hj'] at a1
  exact a1
/-- The rows of all distances. -/
def rowsK (q : Nat) (L : List Arc3) (k : Nat) : List (List Int) := (List.range k).map fun (j : Nat) => distL q L (j : Int)
theorem rowsK_len (q : Nat) (L : List Arc3) (k : Nat) : (rowsK q L k).length = k := by simp [rowsK]
theorem rowsK_at {q : Nat} {L : List Arc3} {k j : Nat} (h : j < (rowsK q L k).length) : (rowsK q L k)[j] = distL q L (j : Int) := by simp [rowsK]
theorem rowsK_succ (q : Nat) (L : List Arc3) (k : Nat) : rowsK q L (k + 1) = rowsK q L k ++ [distL q L (k : Int)] := by simp [rowsK, List.range_succ]

set_option maxRecDepth 100000 in
set_option maxHeartbeats 4000000 in
theorem l5Reach_any (q : Nat) (A : Option Addr) (n c : Nat) (L : List Arc3) (hn : n = L.length) (ho : okB (q : Int) L = true) (w : World) (hm : n ≤ 1048576) (H1 : ArcsAt w w.heap.size A L) :
    Calls Try.prog 84 #[.agg #[.int .i64 (q : Int), .slice A n c]] w (NumsMade (reachS q (allS q L q)) w) := by
  obtain ⟨i0, hi, hz0, hz1, hz2⟩ := info_parts infoRow
  have I0 := Lib.hid hi
  have I1 := Lib.hid hz0
  have I2 := Lib.hid hz1
  have I3 := Lib.hid hz2
  obtain ⟨j0, hj, hy0, hy1, hy2⟩ := info_parts infoInt
  have J0 := Lib.hid hj
  have J1 := Lib.hid hy0
  have J2 := Lib.hid hy1
  have J3 := Lib.hid hy2
  have K1 := Lib.hid H1
  have HN := Lib.hid hn
  have HO := Lib.hid ho
  have hN1 := (okB_elim ho).1
  have hN24 := (okB_elim ho).2.1
  clear H1 hn ho hi hz0 hz1 hz2 hj hy0 hy1 hy2
  go_enter Try.func84, Try.ntmps84
  go_wp2_with fail
  go_loopw [3, 4] (fun pv i wr => ∃ k : Nat, k ≤ q ∧ i = .int .i64 k ∧ RowsOf wr (w.heap.size + 1) pv (rowsK q L k) ∧ Bl (w.alloc (.cells #[.int .i64 (q : Int), .slice A n c] 42)) wr) (fun _ i _ => q - (intOf i).toNat)
  case atStart =>
    refine ⟨0, by omega, rfl, ⟨[], ?_, fun j hj => absurd hj (by simp [rowsK])⟩, Bl.alloc_ (Bl.refl _) _⟩
    have h := World.ownsRow_made (base := w.heap.size + 1) (e := 80) (size := 1) (w.alloc (.cells #[.int .i64 (q : Int), .slice A n c] 42)) #[] 0 (by simp) (by unfold maxLen; omega) rfl
    rw [World.size_alloc] at h
    exact h
  case round =>
    obtain ⟨k, hk, rfl, hrows, hbl⟩ := hrel
    have RR := Lib.hid hrows
    have BB := Lib.hid hbl
    obtain ⟨q0, q1⟩ := box2 hbl
    have hsz : w.heap.size < wr.heap.size := by have := hbl.size; simp at this; omega
    clear hrows hbl
    by_cases hlt : k < q
    · have hk0 : (0 : Int) ≤ (k : Int) := by omega
      have hk1 : (k : Int) < (q : Int) := by omega
      go_wp2_with fail
      refine (l3Dist_any q k A n c L HN.out HO.out hk0 hk1 _ hm (K1.out.bl (((Bl.alloc_ (Bl.refl w) _).trans_ BB.out).trans_ (by repeat' (first | exact Bl.refl _ | with_reducible assumption | with_reducible refine Bl.drew_ ?_ | with_reducible refine Bl.drewN_ ?_ _ | with_reducible refine Bl.alloc_ ?_ _ | with_reducible refine Bl.trans_ ?_ (by assumption) | with_reducible refine Bl.trans_ ?_ (And.left (by assumption))))))).mono ?_
      rintro e w4 ⟨v4, rfl, hv4, hb4⟩
      have hl : (distL q L k).length = q := by rw [distL_len HO.out hk0 hk1]; simp
      obtain ⟨A5, c5, rfl, hc5, hi5, -, hl5⟩ := OwnN.shape hv4
      obtain ⟨C, hC1, hC2⟩ := RR.out.bl (show Bl wr w4 from (by repeat' (first | exact Bl.refl _ | with_reducible assumption | with_reducible refine Bl.drew_ ?_ | with_reducible refine Bl.drewN_ ?_ _ | with_reducible refine Bl.alloc_ ?_ _ | with_reducible refine Bl.trans_ ?_ (by assumption) | with_reducible refine Bl.trans_ ?_ (And.left (by assumption)))))
      rw [rowsK_len] at hC1
      have OC := Lib.hid hC1
      have OC2 := Lib.hid hC2
      have HI := Lib.hid hi5
      have HL5 := Lib.hid hl5
      have B4 := Lib.hid (show Bl wr w4 from (by repeat' (first | exact Bl.refl _ | with_reducible assumption | with_reducible refine Bl.drew_ ?_ | with_reducible refine Bl.drewN_ ?_ _ | with_reducible refine Bl.alloc_ ?_ _ | with_reducible refine Bl.trans_ ?_ (by assumption) | with_reducible refine Bl.trans_ ?_ (And.left (by assumption)))))
      rw [hl]
      have HLL := Lib.hid hl
      have s4 := B4.out.size
      clear hC1 hC2 hv4 hi5 hl5 hl hb4 q0 q1
      go_wp2_with (at_builtin; refine wpList_append_any _ rfl (.tmp 19) (.tmp 24) _ rfl (w.heap.size + 1) 80 i0 _ 1 24 Try.underlying28 I0.out I1.out I2.out I3.out rfl (by decide) _ k C rfl (World.ownsRow.alloc OC.out _) (w4.heap.size + 1) (some ⟨w4.heap.size, 0, none⟩) 1 1 [.slice A5 q c5] rfl ?c0 (by simp [Value.oneCell']) ?c3 ?c4 ?c5 ?_)
      case c0 =>
        refine ⟨rfl, fun _ => ⟨_, rfl, by show w4.heap.size < w4.heap.size + 1; omega, fun x u hj => ?_⟩⟩
        match x, hj with
        | 0, hj => simp at hj; subst hj; simp [Addr.add, go_sem]
        | (x + 1), hj => simp at hj
      case c3 => unfold maxLen; omega
      case c4 => omega
      case c5 => simp; omega
      intro v' w8 hown' hgrow hwh
      have BA : Bl w4 (w4.alloc (.cells #[.slice A5 q c5] 80)) := Bl.alloc_ (Bl.refl _) _
      have hOwnlt := Owns.lt OC.out
      have R8 := Lib.hid (RowsOf.snoc (R := rowsK q L k) (r := distL q L k) (C := C) (A := A5) (l := q) (c := c5) (k := k)
        (fun j hj => by
          obtain ⟨A', c', a1, a2, a3⟩ := OC2.out j hj
          exact ⟨A', c', a1, a2.bl BA, fun g hg => ⟨Nat.lt_of_lt_of_le (a3 g hg).1 BA.size, (a3 g hg).2⟩⟩)
        (by rw [OC.out.len, rowsK_len, Nat.mul_one]) (HI.out.bl BA) (fun g hg => ⟨Nat.lt_of_lt_of_le (HL5.out g hg).2 BA.size, fun h => by
          have h1 := HL5.out g hg
          obtain ⟨C9, k1, -⟩ := RR.out
          have h2 := Owns.lt k1 g h
          try simp at h1
          omega⟩) (rowsK_len q L k).symm HLL.out.symm hown' hgrow (by simpa using hwh))
      rw [← rowsK_succ] at R8
      have B8 := Lib.hid (show Bl (w.alloc (.cells #[.int .i64 (q : Int), .slice A n c] 42)) w8 from ((BB.out.trans_ B4.out).trans_ BA).grown_ hgrow (fun g hg => by have := hOwnlt g hg; simp; omega))
      clear hown' hgrow hwh BA hOwnlt
      go_wp2
      go_roundw
      case rel => exact ⟨k + 1, by omega, by go_num, R8.out, B8.out⟩
      case measure => simp [intOf]; omega
    · obtain rfl : k = q := by omega
      obtain ⟨w2, hw2⟩ : ∃ w2, w2 = wr := ⟨_, rfl⟩
      subst hw2
      have RF := Lib.hid (RR.out.row (by rw [rowsK_len]; omega))
      clear RR
      have ORD := Lib.hid (show Bl w w2 from (Bl.alloc_ (Bl.refl w) _).trans_ BB.out)
      have hRS := reachS_len k (allS (k : Int) L k)
      obtain ⟨g, cg, rfl, hgl, hrow⟩ := RF.out
      rw [rowsK_len]
      have HR := Lib.hid (show ∀ (j v : Nat), j < k → v < k → ∃ (g' o' c' : Nat), w2.cell? ⟨g, j, none⟩ = some (.slice (some ⟨g', o', none⟩) k c') ∧ g' < w2.heap.size ∧ w2.cell? ⟨g', o' + v, none⟩ = some (.int .i64 (dAt (distL k L (j : Int)) (v : Int))) from fun j v hj hv => by
        obtain ⟨A', c', a1, a2⟩ := hrow j (by rw [rowsK_len]; exact hj)
        rw [rowsK_at] at a1 a2
        have hl : (distL k L (j : Int)).length = k := by rw [distL_len HO.out (by omega) (by omega)]; simp
        rw [hl] at a1
        obtain ⟨g', o', rfl, hg', hc'⟩ := a2.cell (by omega)
        refine ⟨g', o', c', a1, hg', ?_⟩
        have := hc' v (by omega)
        rw [this, dAt_at (by omega)])
      have HTOP := Lib.hid (show ∀ (j : Nat) (v : Int), j < k → dAt (distL k L (j : Int)) v ≤ 23000 from fun j v hj => (distL_is (arcsIn_of_ok HO.out) hN24 (show (0 : Int) ≤ (j : Int) by omega) (by omega)).top (arcsIn_of_ok HO.out) hN24 (by omega) (by omega) v)
      clear RF hrow K1
      go_wp2_with fail
      have O0 := Lib.hid (show OwnN (w2.alloc (.cells #[] 2)) w2.heap.size (.slice (some ⟨w2.heap.size, 0, none⟩) 0 0) ((reachS k (allS k L k)).take 0) from by
        have h := World.ownsRow_made (base := w2.heap.size) (e := 2) (size := 1) w2 #[] 0 (by simp) (by unfold maxLen; omega) rfl
        simpa [OwnN, Owns, csI] using h)
      clear q0 q1
      go_loopw [5, 6] (fun ov i wx => ∃ v : Nat, v ≤ k ∧ i = .int .i64 v ∧ OwnN wx w2.heap.size ov ((reachS k (allS k L k)).take v) ∧ Bl w2 wx) (fun _ i _ => k - (intOf i).toNat)
      case atStart => exact ⟨0, by omega, rfl, O0.out, Bl.alloc_ (Bl.refl _) _⟩
      case round =>
        obtain ⟨v, hv, rfl, hO, hbx⟩ := hrel
        have OX := Lib.hid hO
        have BX := Lib.hid hbx
        clear hO hbx
        obtain ⟨wx, hwx⟩ : ∃ wx, wx = wr := ⟨_, rfl⟩
        subst hwx
        obtain ⟨q0, q1⟩ := box2 (BB.out.trans_ BX.out)
        have sx := BX.out.size
        by_cases hvk : v < k
        · have hvk' : (v : Int) < (k : Int) := by omega
          have v0 : (0 : Int) ≤ (v : Int) := by omega
          go_wp2_with fail
          clear q0 q1
          go_loopw [7, 8] (fun m i wr => ∃ (x : Int) (s : Nat), s ≤ k ∧ i = .int .i64 s ∧ m = .int .i64 x ∧ IsMax (seenST k L (v : Int) k s 0) x ∧ Bl wx wr) (fun _ i _ => k - (intOf i).toNat)
          case atStart => exact ⟨0, 0, by omega, rfl, rfl, seen_start, Bl.refl _⟩
          case round =>
            obtain ⟨x, s, hs, rfl, rfl, hmx, hby⟩ := hrel
            have MX := Lib.hid hmx
            have BY := Lib.hid hby
            clear hmx hby
            obtain ⟨wy, hwy⟩ : ∃ wy, wy = wr := ⟨_, rfl⟩
            subst hwy
            obtain ⟨q0, q1⟩ := box2 ((BB.out.trans_ BX.out).trans_ BY.out)
            by_cases hsk : s < k
            · have hsk' : (s : Int) < (k : Int) := by omega
              have s0 : (0 : Int) ≤ (s : Int) := by omega
              go_wp2_with fail
              clear q0 q1
              go_loopw [7, 9] (fun m i wr => ∃ (x : Int) (t : Nat), t ≤ k ∧ i = .int .i64 t ∧ m = .int .i64 x ∧ IsMax (seenST k L (v : Int) k s t) x ∧ Bl wy wr) (fun _ i _ => k - (intOf i).toNat)
              case atStart => exact ⟨x, 0, by omega, rfl, rfl, MX.out, Bl.refl _⟩
              case round =>
                clear MX
                obtain ⟨x, t, ht, rfl, rfl, hmx, hbz⟩ := hrel
                have MX := Lib.hid hmx
                have BZ := Lib.hid hbz
                clear hmx hbz
                obtain ⟨q0, q1⟩ := box2 (((BB.out.trans_ BX.out).trans_ BY.out).trans_ BZ.out)
                by_cases htk : t < k
                · have htk' : (t : Int) < (k : Int) := by omega
                  have t0 : (0 : Int) ≤ (t : Int) := by omega
                  have BW := Lib.hid ((BX.out.trans_ BY.out).trans_ BZ.out)
                  obtain ⟨g1, o1, c1, r1, l1, e1⟩ := HR.out s v hsk hvk
                  obtain ⟨g2, o2, c2, r2, l2, e2⟩ := HR.out v t hvk htk
                  obtain ⟨g3, o3, c3, r3, l3, e3⟩ := HR.out s t hsk htk
                  have m1 := HTOP.out s (v : Int) hsk
                  have m2 := HTOP.out v (t : Int) hvk
                  rw [r1] at r3
                  injection r3 with r3
                  injection r3 with r31 r32 r33
                  injection r31 with r31
                  injection r31 with r311 r312
                  subst r311 r312 r33
                  have ON := Lib.hid (fun h1 h2 h3 => seen_on (s := s) (t := t) (v := (v : Int)) hsk htk rfl rfl rfl h1 h2 h3 MX.out)
                  have OFF := Lib.hid (fun hn => seen_off (s := s) (t := t) (v := (v : Int)) rfl rfl rfl hn MX.out)
                  have hb := (bcell BW.out).1
                  rw [← hb _ _ hgl] at r1 r2
                  rw [← hb _ _ l1] at e1 e3
                  rw [← hb _ _ l2] at e2
                  generalize dAt (distL (k : Int) L (s : Int)) (v : Int) = a at *
                  generalize dAt (distL (k : Int) L (v : Int)) (t : Int) = b at *
                  generalize dAt (distL (k : Int) L (s : Int)) (t : Int) = d at *
                  clear hb MX HTOP HR
                  by_cases h1 : 0 ≤ a
                  · by_cases h2 : 0 ≤ b
                    · by_cases h3 : a + b = d
                      · have HM := Lib.hid (ON.out h1 h2 h3)
                        clear ON OFF
                        go_wp2
                        go_roundw
                        case rel => exact ⟨_, t + 1, by omega, by go_num, rfl, HM.out, BZ.out⟩
                        case measure => simp [intOf]; omega
                      · have HM := Lib.hid (OFF.out (fun h => h3 h.2.2))
                        have hb3 : (a + b == d) = false := by simpa using h3
                        clear ON OFF
                        go_wp2
                        go_roundw
                        case rel => exact ⟨_, t + 1, by omega, by go_num, rfl, HM.out, BZ.out⟩
                        case measure => simp [intOf]; omega
                    · have HM := Lib.hid (OFF.out (fun h => h2 h.2.1))
                      clear ON OFF
                      go_wp2
                      go_roundw
                      case rel => exact ⟨_, t + 1, by omega, by go_num, rfl, HM.out, BZ.out⟩
                      case measure => simp [intOf]; omega
                  · have HM := Lib.hid (OFF.out (fun h => h1 h.1))
                    clear ON OFF
                    go_wp2
                    go_roundw
                    case rel => exact ⟨_, t + 1, by omega, by go_num, rfl, HM.out, BZ.out⟩
                    case measure => simp [intOf]; omega
                · obtain rfl : t = k := by omega
                  have HM := Lib.hid (seen_row MX.out)
                  clear MX HTOP HR
                  go_wp2
                  go_roundw
                  case rel => exact ⟨x, s + 1, by omega, by go_num, rfl, HM.out, BY.out.trans_ BZ.out⟩
                  case measure => simp [intOf]; omega
            · obtain rfl : s = k := by omega
              have HV := Lib.hid (seen_all HO.out hvk MX.out)
              have OZ := Lib.hid (OX.out.bl BY.out)
              have BZ := Lib.hid (BX.out.trans_ BY.out)
              have hvl : v < (reachS s (allS (s : Int) L s)).length := by rw [hRS]; exact hvk
              have TS := Lib.hid (show (reachS s (allS (s : Int) L s)).take (v + 1) = (reachS s (allS (s : Int) L s)).take v ++ [x] from by
                rw [List.take_succ_eq_append_getElem hvl, HV.out]
                simp [hvl])
              have tl : ((reachS s (allS (s : Int) L s)).take v).length = v := by rw [List.length_take]; omega
              generalize (reachS s (allS (s : Int) L s)).take v = P at *
              have sz := BZ.out.size
              have LT := Lib.hid (Owns.lt OZ.out)
              have TL := Lib.hid tl
              clear MX HTOP HR OX
              go_wp2_with (at_builtin; refine wpList_append_any _ rfl (.tmp 86) (.tmp 88) _ rfl w2.heap.size 2 j0 _ 1 8 Try.underlying22 J0.out J1.out J2.out J3.out rfl (by decide) _ P.length (csI P) rfl (World.ownsRow.alloc OZ.out _) (wy.heap.size + 1) (some ⟨wy.heap.size, 0, none⟩) 1 1 [.int .i64 x] rfl ?c0 (by simp [Value.oneCell']) ?c3 ?c4 ?c5 ?_)
              case c0 =>
                refine ⟨rfl, fun _ => ⟨_, rfl, by show wy.heap.size < wy.heap.size + 1; omega, fun y u hj => ?_⟩⟩
                match y, hj with
                | 0, hj => simp at hj; subst hj; simp [Addr.add, go_sem]
                | (y + 1), hj => simp at hj
              case c3 => unfold maxLen; omega
              case c4 => omega
              case c5 => simp; omega
              intro v' w8 hown' hgrow hwh
              have O8 := Lib.hid (OwnN.snoc (V := P) (x := x) (n := v) TL.out.symm hown')
              have B8 := Lib.hid (show Bl w2 w8 from (BZ.out.alloc_ (.cells #[.int .i64 x] 2)).grown_ hgrow (fun g hg => (LT.out g hg).1))
              clear hown' hgrow hwh
              go_wp2
              go_roundw
              case rel => exact ⟨v + 1, by omega, by go_num, by rw [TS.out]; exact O8.out, B8.out⟩
              case measure => simp [intOf]; omega
        · obtain rfl : v = k := by omega
          have HF := Lib.hid (show (reachS v (allS (v : Int) L v)).take v = reachS v (allS (v : Int) L v) from List.take_of_length_le (by omega))
          clear HTOP HR
          go_wp2
          go_ret
          exact ⟨_, rfl, by rw [← HF.out]; exact OX.out.low ORD.out.size, ORD.out.trans_ BX.out⟩

set_option maxHeartbeats 400000 in
theorem specReachOf_any (N : Int) (A : Option Addr) (n c : Nat) (L : List Arc3) (hn : n = L.length) (w : World) (hm : n ≤ 1048576) (H1 : ArcsAt w w.heap.size A L) :
    Calls Try.prog 35 #[.agg #[.int .i64 N, .slice A n c]] w (NumsMade (reachL N L) w) := by
  have K1 := Lib.hid H1
  have HN := Lib.hid hn
  clear H1 hn
  cases ho : okB N L with
  | false =>
    have HO := Lib.hid ho
    clear ho
    go_enter Try.func35, Try.ntmps35
    go_wp2_with fail
    refine (specOk_any N A n c L HN.out _ (by omega) (K1.out.bl (by repeat' (first | exact Bl.refl _ | with_reducible assumption | with_reducible refine Bl.drew_ ?_ | with_reducible refine Bl.drewN_ ?_ _ | with_reducible refine Bl.alloc_ ?_ _ | with_reducible refine Bl.trans_ ?_ (by assumption) | with_reducible refine Bl.trans_ ?_ (And.left (by assumption)))))).mono ?_
    rintro e w1 ⟨rfl, hb1⟩
    rw [HO.out]
    go_wp2
    go_ret
    refine ⟨_, rfl, ?_, (by repeat' (first | exact Bl.refl _ | with_reducible assumption | with_reducible refine Bl.drew_ ?_ | with_reducible refine Bl.drewN_ ?_ _ | with_reducible refine Bl.alloc_ ?_ _ | with_reducible refine Bl.trans_ ?_ (by assumption) | with_reducible refine Bl.trans_ ?_ (And.left (by assumption))))⟩
    unfold reachL
    rw [HO.out, if_neg (by simp)]
    have h := World.ownsRow_made (base := w.heap.size) (e := 2) (size := 1) w1 #[] 0 (by have := hb1.size; simp at this; omega) (by unfold maxLen; omega) rfl
    simpa [OwnN, Owns, csI] using h
  | true =>
    have HO := Lib.hid ho
    have hN1 := (okB_elim ho).1
    clear ho
    obtain ⟨q, rfl⟩ : ∃ q : Nat, N = q := ⟨N.toNat, by omega⟩
    go_enter Try.func35, Try.ntmps35
    go_wp2_with fail
    refine (specOk_any (q : Int) A n c L HN.out _ (by omega) (K1.out.bl (by repeat' (first | exact Bl.refl _ | with_reducible assumption | with_reducible refine Bl.drew_ ?_ | with_reducible refine Bl.drewN_ ?_ _ | with_reducible refine Bl.alloc_ ?_ _ | with_reducible refine Bl.trans_ ?_ (by assumption) | with_reducible refine Bl.trans_ ?_ (And.left (by assumption)))))).mono ?_
    rintro e w1 ⟨rfl, hb1⟩
    rw [HO.out]
    obtain ⟨q0, q1⟩ := box2 hb1
    go_wp2_with fail
    refine (l5Reach_any q A n c L HN.out HO.out _ (by omega) (K1.out.bl (by repeat' (first | exact Bl.refl _ | with_reducible assumption | with_reducible refine Bl.drew_ ?_ | with_reducible refine Bl.drewN_ ?_ _ | with_reducible refine Bl.alloc_ ?_ _ | with_reducible refine Bl.trans_ ?_ (by assumption) | with_reducible refine Bl.trans_ ?_ (And.left (by assumption)))))).mono ?_
    rintro e w2 ⟨v, rfl, hv, hb2⟩
    have HV := Lib.hid hv
    have s1 := hb1.size
    clear hv
    go_wp2
    go_ret
    refine ⟨_, rfl, ?_, (by repeat' (first | exact Bl.refl _ | with_reducible assumption | with_reducible refine Bl.drew_ ?_ | with_reducible refine Bl.drewN_ ?_ _ | with_reducible refine Bl.alloc_ ?_ _ | with_reducible refine Bl.trans_ ?_ (by assumption) | with_reducible refine Bl.trans_ ?_ (And.left (by assumption))))⟩
    unfold reachL
    rw [HO.out, if_pos rfl]
    simp only [Int.toNat_natCast]
    refine OwnN.low HV.out ?_
    simp at s1 ⊢
    omega

end Go.Proofs.Ytmdmbobjdhjadaa

set_option linter.unusedSimpArgs false
set_option linter.unusedVariables false
namespace Go.Proofs.Ytmdmbobjdhjadaa
open Go.RowKit

/-- The first k of these numbers are none of them less than the reaches. -/
def notLess (N : Int) (L : List Arc3) (V : List Int) (k : Nat) : Bool := (List.range k).all fun i => decide ((reachL N L).getD i 0 ≤ V.getD i 0)
theorem notLess_zero (N : Int) (L : List Arc3) (V : List Int) : notLess N L V 0 = true := rfl
theorem notLess_succ (N : Int) (L : List Arc3) (V : List Int) (k : Nat) : notLess N L V (k + 1) = (notLess N L V k && decide ((reachL N L).getD k 0 ≤ V.getD k 0)) := by
  unfold notLess
  rw [List.range_succ, List.all_append]
  simp
theorem notLess_false {N : Int} {L : List Arc3} {V : List Int} {k : Nat} (h : notLess N L V k = false) : ∀ m, notLess N L V (k + m) = false
  | 0 => h
  | m + 1 => by rw [show k + (m + 1) = (k + m) + 1 from by omega, notLess_succ, notLess_false h m, Bool.false_and]
/-- Are these numbers right as reaches? -/
def reachB (N : Int) (L : List Arc3) (V : List Int) : Bool := okB N L && decide ((V.length : Int) = N) && notLess N L V V.length
theorem reachB_ok {N : Int} {L : List Arc3} {V : List Int} (h : reachB N L V = true) : okB N L = true ∧ (V.length : Int) = N := by
  unfold reachB at h
  simp only [Bool.and_eq_true, decide_eq_true_eq] at h
  exact h.1
theorem reachL_ok {q : Nat} {L : List Arc3} (h : okB (q : Int) L = true) : reachL q L = reachS q (allS q L q) := by
  unfold reachL
  rw [if_pos h]
  simp
theorem reachL_q {q : Nat} {L : List Arc3} (h : okB (q : Int) L = true) : (reachL q L).length = q := by rw [reachL_ok h, reachS_len]
theorem ret_boolw {a b : Bool} (h : a = b) : Ending.returned (.bool a) = .returned (.bool b) := by rw [h]

set_option maxRecDepth 100000 in
set_option maxHeartbeats 1000000 in
theorem specReachOk_any (N : Int) (A : Option Addr) (n c : Nat) (L : List Arc3) (hn : n = L.length) (A2 : Option Addr) (k c2 : Nat) (V : List Int) (hk : k = V.length) (w : World) (hm : n ≤ 1048576) (hkm : k ≤ 1048576) (H1 : ArcsAt w w.heap.size A L) (H2 : IntsAt w w.heap.size A2 V) :
    Calls Try.prog 38 #[.agg #[.int .i64 N, .slice A n c], .slice A2 k c2] w fun e w' => e = .returned (.bool (reachB N L V)) ∧ Bl w w' := by
  have K1 := Lib.hid H1
  have K2 := Lib.hid H2
  have HN := Lib.hid hn
  have HK := Lib.hid hk
  clear H1 H2 hn hk
  cases ho : okB N L with
  | false =>
    have HR := Lib.hid (show reachB N L V = false from by unfold reachB; rw [ho, Bool.false_and, Bool.false_and])
    have HO := Lib.hid ho
    clear ho
    go_enter Try.func38, Try.ntmps38
    go_wp2_with fail
    refine (specOk_any N A n c L HN.out _ (by omega) (K1.out.bl (by repeat' (first | exact Bl.refl _ | with_reducible assumption | with_reducible refine Bl.drew_ ?_ | with_reducible refine Bl.drewN_ ?_ _ | with_reducible refine Bl.alloc_ ?_ _ | with_reducible refine Bl.trans_ ?_ (by assumption) | with_reducible refine Bl.trans_ ?_ (And.left (by assumption)))))).mono ?_
    rintro e w1 ⟨rfl, hb1⟩
    rw [HO.out]
    go_wp2
    go_ret
    exact ⟨ret_boolw HR.out.symm, (by repeat' (first | exact Bl.refl _ | with_reducible assumption | with_reducible refine Bl.drew_ ?_ | with_reducible refine Bl.drewN_ ?_ _ | with_reducible refine Bl.alloc_ ?_ _ | with_reducible refine Bl.trans_ ?_ (by assumption) | with_reducible refine Bl.trans_ ?_ (And.left (by assumption))))⟩
  | true =>
    have HO := Lib.hid ho
    have hN1 := (okB_elim ho).1
    have hN24 := (okB_elim ho).2.1
    clear ho
    by_cases hkN : (k : Int) = N
    · subst hkN
      have hne : ((k : Int) != (k : Int)) = false := by simp
      go_enter Try.func38, Try.ntmps38
      go_wp2_with fail
      refine (specOk_any (k : Int) A n c L HN.out _ (by omega) (K1.out.bl (by repeat' (first | exact Bl.refl _ | with_reducible assumption | with_reducible refine Bl.drew_ ?_ | with_reducible refine Bl.drewN_ ?_ _ | with_reducible refine Bl.alloc_ ?_ _ | with_reducible refine Bl.trans_ ?_ (by assumption) | with_reducible refine Bl.trans_ ?_ (And.left (by assumption)))))).mono ?_
      rintro e w1 ⟨rfl, hb1⟩
      rw [HO.out]
      obtain ⟨q0, q1⟩ := box2 hb1
      have BB := Lib.hid (show Bl w w1 from (by repeat' (first | exact Bl.refl _ | with_reducible assumption | with_reducible refine Bl.drew_ ?_ | with_reducible refine Bl.drewN_ ?_ _ | with_reducible refine Bl.alloc_ ?_ _ | with_reducible refine Bl.trans_ ?_ (by assumption) | with_reducible refine Bl.trans_ ?_ (And.left (by assumption)))))
      go_wp2_with fail
      refine (l5Reach_any k A n c L HN.out HO.out _ (by omega) (K1.out.bl (by repeat' (first | exact Bl.refl _ | with_reducible assumption | with_reducible refine Bl.drew_ ?_ | with_reducible refine Bl.drewN_ ?_ _ | with_reducible refine Bl.alloc_ ?_ _ | with_reducible refine Bl.trans_ ?_ (by assumption) | with_reducible refine Bl.trans_ ?_ (And.left (by assumption)))))).mono ?_
      rintro e w2 ⟨v, rfl, hv, hb2⟩
      rw [← reachL_ok HO.out] at hv
      obtain ⟨A3, c3, rfl, -, hA3, -, -⟩ := OwnN.shape hv
      rw [reachL_q HO.out]
      have V3 := Lib.hid hA3
      have B2 := Lib.hid (show Bl w w2 from (by repeat' (first | exact Bl.refl _ | with_reducible assumption | with_reducible refine Bl.drew_ ?_ | with_reducible refine Bl.drewN_ ?_ _ | with_reducible refine Bl.alloc_ ?_ _ | with_reducible refine Bl.trans_ ?_ (by assumption) | with_reducible refine Bl.trans_ ?_ (And.left (by assumption)))))
      have RQ := Lib.hid (reachL_q HO.out)
      clear hv hA3 q0 q1 hb2
      go_wp2_with fail
      go_loopw [6] (fun i wr => ∃ j : Nat, j ≤ k ∧ i = .int .i64 j ∧ Bl w2 wr ∧ notLess k L V j = true) (fun i _ => k - (intOf i).toNat)
      case atStart => exact ⟨0, by omega, rfl, Bl.refl _, rfl⟩
      case round =>
        obtain ⟨j, hj, rfl, hbl, hnl⟩ := hrel
        have NL := Lib.hid hnl
        clear hnl
        by_cases hlt : j < k
        · have hj1 : j < V.length := by have := HK.out; omega
          have hj2 : j < (reachL k L).length := by rw [RQ.out]; exact hlt
          obtain ⟨g2, o2, rfl, hg2, hc2⟩ := K2.out.cell (by omega)
          obtain ⟨g3, o3, rfl, hg3, hc3⟩ := V3.out.cell (by omega)
          have p2 := hc2 j hj1
          have p3 := hc3 j hj2
          have e2 : V.getD j 0 = V[j] := by simp [hj1]
          have e3 : (reachL k L).getD j 0 = (reachL k L)[j] := by simp [hj2]
          have NS := Lib.hid (notLess_succ k L V j)
          have NF := Lib.hid (show notLess k L V (j + 1) = false → reachB k L V = false from fun h => by
            have := notLess_false h (V.length - (j + 1))
            rw [show j + 1 + (V.length - (j + 1)) = V.length from by omega] at this
            unfold reachB
            rw [this, Bool.and_false])
          rw [e2, e3, NL.out, Bool.true_and] at NS
          generalize V[j] = a at *
          generalize (reachL (k : Int) L)[j] = b at *
          have HSH := Lib.hid (show ∀ wx, Bl wr wx → Bl wr wx ∧ wx.cell? ⟨g2, o2 + j, none⟩ = some (.int .i64 a) ∧ wx.cell? ⟨g3, o3 + j, none⟩ = some (.int .i64 b) from fun wx hb =>
            ⟨hb, ((bcell ((B2.out.trans_ hbl).trans_ hb)).1 _ _ hg2).trans p2, ((bcell (hbl.trans_ hb)).1 _ _ hg3).trans p3⟩)
          have hj0 : (0 : Int) ≤ (j : Int) := by omega
          have hj3 : (j : Int) < (k : Int) := by omega
          clear hc2 hc3 p2 p3 e2 e3
          go_wp2_with fail
          refine wp_region_held_drew (S := fun wx => Bl wr wx ∧ wx.cell? ⟨g2, o2 + j, none⟩ = some (.int .i64 a) ∧ wx.cell? ⟨g3, o3 + j, none⟩ = some (.int .i64 b)) (by kernel_rfl) ?_ (fun hHeld => ?_)
          · (exact HSH.out _ (by repeat' (first | exact Bl.refl _ | with_reducible assumption | with_reducible refine Bl.drew_ ?_ | with_reducible refine Bl.drewN_ ?_ _ | with_reducible refine Bl.alloc_ ?_ _ | with_reducible refine Bl.trans_ ?_ (by assumption) | with_reducible refine Bl.trans_ ?_ (And.left (by assumption)))))
          refine wpAnyH_take (i := 0) (v := ?_) rfl (by kernel_rfl) (by kernel_rfl) (by kernel_rfl) (fun _ _ _ h => h) (Or.inl ⟨by kernel_rfl, ?_⟩) (by assumption) ?_
          rotate_left
          · (intro wx hSw; (try dsimp only at hSw); go_simp; try (with_reducible rfl))
          try simp only [Act.put, List.getElem_toArray, List.getElem_cons_succ, List.getElem_cons_zero, List.setIfInBounds_toArray, List.set_cons_zero, List.set_cons_succ]
          refine wpAnyH_take (i := 1) (v := ?_) rfl (by kernel_rfl) (by kernel_rfl) (by kernel_rfl) (fun _ _ _ h => h) (Or.inl ⟨by kernel_rfl, ?_⟩) (by assumption) ?_
          rotate_left
          · (intro wx hSw; (try dsimp only at hSw); go_simp; try (with_reducible rfl))
          try simp only [Act.put, List.getElem_toArray, List.getElem_cons_succ, List.getElem_cons_zero, List.setIfInBounds_toArray, List.set_cons_zero, List.set_cons_succ]
          refine wpAnyH_take (i := 2) (v := ?_) rfl (by kernel_rfl) (by kernel_rfl) (by kernel_rfl) (fun _ _ _ h => h) (Or.inl ⟨by kernel_rfl, ?_⟩) (by assumption) ?_
          rotate_left
          · (intro wx hSw; (try dsimp only at hSw); go_simp; try (with_reducible rfl))
          try simp only [Act.put, List.getElem_toArray, List.getElem_cons_succ, List.getElem_cons_zero, List.setIfInBounds_toArray, List.set_cons_zero, List.set_cons_succ]
          refine wpAnyH_take (i := 3) (v := ?_) rfl (by kernel_rfl) (by kernel_rfl) (by kernel_rfl) (fun _ _ _ h => h) (Or.inl ⟨by kernel_rfl, ?_⟩) (by assumption) ?_
          rotate_left
          · (intro wx hSw; (try dsimp only at hSw); go_simp; try (with_reducible rfl))
          try simp only [Act.put, List.getElem_toArray, List.getElem_cons_succ, List.getElem_cons_zero, List.setIfInBounds_toArray, List.set_cons_zero, List.set_cons_succ]
          refine wpAnyH_take (i := 4) (v := ?_) rfl (by kernel_rfl) (by kernel_rfl) (by kernel_rfl) (fun _ _ _ h => h) (Or.inl ⟨by kernel_rfl, ?_⟩) (by assumption) ?_
          rotate_left
          · (intro wx hSw; (try dsimp only at hSw); go_simp; try (with_reducible rfl))
          try simp only [Act.put, List.getElem_toArray, List.getElem_cons_succ, List.getElem_cons_zero, List.setIfInBounds_toArray, List.set_cons_zero, List.set_cons_succ]
          refine wpAnyH_take (i := 5) (v := ?_) rfl (by kernel_rfl) (by kernel_rfl) (by kernel_rfl) (fun _ _ _ h => h) (Or.inl ⟨by kernel_rfl, ?_⟩) (by assumption) ?_
          rotate_left
          · (intro wx hSw; (try dsimp only at hSw); go_simp; try (with_reducible rfl))
          try simp only [Act.put, List.getElem_toArray, List.getElem_cons_succ, List.getElem_cons_zero, List.setIfInBounds_toArray, List.set_cons_zero, List.set_cons_succ]
          refine wpAnyH_take (i := 6) (v := ?_) rfl (by kernel_rfl) (by kernel_rfl) (by kernel_rfl) (fun _ _ _ h => h) (Or.inl ⟨by kernel_rfl, ?_⟩) (by assumption) ?_
          rotate_left
          · (intro wx hSw; (try dsimp only at hSw); go_simp; try (with_reducible rfl))
          try simp only [Act.put, List.getElem_toArray, List.getElem_cons_succ, List.getElem_cons_zero, List.setIfInBounds_toArray, List.set_cons_zero, List.set_cons_succ]
          refine wpAnyH_take (i := 7) (v := ?_) rfl (by kernel_rfl) (by kernel_rfl) (by kernel_rfl) (fun _ _ _ h => h) (Or.inl ⟨by kernel_rfl, ?_⟩) (by assumption) ?_
          rotate_left
          · (intro wx hSw; (try dsimp only at hSw); go_simp; try (with_reducible rfl))
          try simp only [Act.put, List.getElem_toArray, List.getElem_cons_succ, List.getElem_cons_zero, List.setIfInBounds_toArray, List.set_cons_zero, List.set_cons_succ]
          refine wpAnyH_take (i := 8) (v := ?_) rfl (by kernel_rfl) (by kernel_rfl) (by kernel_rfl) (fun _ _ _ h => h) (Or.inl ⟨by kernel_rfl, ?_⟩) (by assumption) ?_
          rotate_left
          · (intro wx hSw; (try dsimp only at hSw); go_simp; try (with_reducible rfl))
          try simp only [Act.put, List.getElem_toArray, List.getElem_cons_succ, List.getElem_cons_zero, List.setIfInBounds_toArray, List.set_cons_zero, List.set_cons_succ]
          refine wpAnyH_done (by kernel_rfl) ?_ _
          by_cases hab : a < b
          · have hd : decide (b ≤ a) = false := by simp; omega
            have RB := Lib.hid (NF.out (by rw [NS.out, hd]))
            go_wp2
            go_ret
            exact ⟨ret_boolw RB.out.symm, (B2.out.trans_ hbl).trans_ (by repeat' (first | exact Bl.refl _ | with_reducible assumption | with_reducible refine Bl.drew_ ?_ | with_reducible refine Bl.drewN_ ?_ _ | with_reducible refine Bl.alloc_ ?_ _ | with_reducible refine Bl.trans_ ?_ (by assumption) | with_reducible refine Bl.trans_ ?_ (And.left (by assumption))))⟩
          · have hd : decide (b ≤ a) = true := by simp; omega
            have NT := Lib.hid (show notLess k L V (j + 1) = true from by rw [NS.out, hd])
            go_wp2
            go_roundw
            case rel => exact ⟨j + 1, by omega, by go_num, hbl.trans_ (by repeat' (first | exact Bl.refl _ | with_reducible assumption | with_reducible refine Bl.drew_ ?_ | with_reducible refine Bl.drewN_ ?_ _ | with_reducible refine Bl.alloc_ ?_ _ | with_reducible refine Bl.trans_ ?_ (by assumption) | with_reducible refine Bl.trans_ ?_ (And.left (by assumption)))), NT.out⟩
            case measure => simp [intOf]; omega
        · have RB := Lib.hid (show reachB k L V = true from by
            unfold reachB
            rw [HO.out, show V.length = j from by have := HK.out; omega, NL.out]
            simp; omega)
          go_wp2
          go_ret
          exact ⟨ret_boolw RB.out.symm, B2.out.trans_ hbl⟩
    · have hne : ((k : Int) != N) = true := by simpa using hkN
      have HR := Lib.hid (show reachB N L V = false from by unfold reachB; rw [show decide ((V.length : Int) = N) = false from by rw [← HK.out]; simpa using hkN, Bool.and_false, Bool.false_and])
      go_enter Try.func38, Try.ntmps38
      go_wp2_with fail
      refine (specOk_any N A n c L HN.out _ (by omega) (K1.out.bl (by repeat' (first | exact Bl.refl _ | with_reducible assumption | with_reducible refine Bl.drew_ ?_ | with_reducible refine Bl.drewN_ ?_ _ | with_reducible refine Bl.alloc_ ?_ _ | with_reducible refine Bl.trans_ ?_ (by assumption) | with_reducible refine Bl.trans_ ?_ (And.left (by assumption)))))).mono ?_
      rintro e w1 ⟨rfl, hb1⟩
      rw [HO.out]
      obtain ⟨q0, q1⟩ := box2 hb1
      go_wp2
      go_ret
      exact ⟨ret_boolw HR.out.symm, (by repeat' (first | exact Bl.refl _ | with_reducible assumption | with_reducible refine Bl.drew_ ?_ | with_reducible refine Bl.drewN_ ?_ _ | with_reducible refine Bl.alloc_ ?_ _ | with_reducible refine Bl.trans_ ?_ (by assumption) | with_reducible refine Bl.trans_ ?_ (And.left (by assumption))))⟩

end Go.Proofs.Ytmdmbobjdhjadaa

set_option linter.unusedSimpArgs false
set_option linter.unusedVariables false
namespace Go.Proofs.Ytmdmbobjdhjadaa
open Go.RowKit

section
variable {F : Fence} {n : Nat} {P : Program} {ops : Array Oper} {Q : Exit → Act → World → Prop} {md : Region.Mode} {S : World → Prop} {k : Nat}

/-- Does an operation wait for all others? -/
def lastB (md : Region.Mode) (ops : Array Oper) (k : Nat) : Bool := (List.range ops.size).all fun j => j == k || (match ops[k]? with | some o => o.after.any fun e => Region.binds md e && e.on == j | none => false)
theorem lastB_spec {j : Nat} {o : Oper} (h : lastB md ops k = true) (ho : ops[k]? = some o) (hj : j < ops.size) (hne : j ≠ k) : ∃ e ∈ o.after, Region.binds md e = true ∧ e.on = j := by
  unfold lastB at h
  rw [List.all_eq_true] at h
  have h1 := h j (List.mem_range.2 hj)
  rw [ho] at h1
  rw [Bool.or_eq_true] at h1
  rcases h1 with h1 | h1
  · exact absurd (by simpa using h1) hne
  · obtain ⟨i, hi, h2⟩ := Array.any_eq_true.1 h1
    rw [Bool.and_eq_true] at h2
    exact ⟨_, Array.getElem_mem hi, h2.1, by simpa using h2.2⟩
theorem ops_lt {i : Nat} {o : Oper} (h : ops[i]? = some o) : i < ops.size := (Array.getElem?_eq_some_iff.1 h).1

/-- Whatever order is picked from here on, and S holds behind every operation that is carried out. -/
def wpAnyHK (F : Fence) (n : Nat) (P : Program) (md : Region.Mode) (ops : Array Oper) (Q : Exit → Act → World → Prop) (S : World → Prop) (k : Nat) : Nat → Array Bool → Act → World → Prop
  | 0, listed, a, w => Region.ready md ops listed = [] ∧ Q .normal a w
  | fuel + 1, listed, a, w =>
    (Region.ready md ops listed = [] → Q .normal a w) ∧
    ∀ i ∈ Region.ready md ops listed, wpOpIn F n P ops Q i (fun a' w' => (i ≠ k → S w') ∧ wpAnyHK F n P md ops Q S k fuel (listed.setIfInBounds i true) a' w') a w

theorem wpAnyIn_of_heldK : ∀ (fuel : Nat) (listed : Array Bool) (a : Act) (w : World), wpAnyHK F n P md ops Q S k fuel listed a w → wpAnyIn F n P md ops Q fuel listed a w
  | 0, _, _, _, h => h
  | fuel + 1, _, _, _, h => ⟨h.1, fun i hi => wpOpIn_mono (fun a' w' h' => wpAnyIn_of_heldK fuel _ a' w' h'.2) (h.2 i hi)⟩

theorem wpAnyHK_first {i : Nat} {oi : Oper} {v : Value} (hd : noDefer ops = true) (hl : lastB md ops k = true) (hi : ops[i]? = some oi) (hsel : ∀ (j : Nat) (o : Oper) cs b, ops[j]? = some o → o.op ≠ .select cs b)
    (hQ : ∀ c a w, Q (.panic c) (a.put oi.dst v) w → Q (.panic c) a w) :
    ∀ (fuel : Nat) (listed : Array Bool) (a : Act) (w : World),
      (∀ j oj, ops[j]? = some oj → j ≠ i → listed.getD j true = false → (∀ e ∈ oj.after, Region.binds md e = true → e.on ≠ i) → oi.apart ops oj = true) →
      i ∈ Region.ready md ops listed → YieldsF P ops S oi v a → S w →
      wpAnyHK F n P md ops Q S k fuel (listed.setIfInBounds i true) (a.put oi.dst v) w → wpAnyHK F n P md ops Q S k (fuel + 1) listed a w := by
  intro fuel
  induction fuel with
  | zero =>
    intro listed a w _ hr hy hS H
    refine ⟨fun h => (by rw [h] at hr; cases hr), fun j hj => ?_⟩
    by_cases hji : j = i
    · subst hji; exact hy.wpOpIn hd hi hS ⟨fun _ => hS, H⟩
    · have := ready_mono hj hji
      rw [H.1] at this
      cases this
  | succ fuel ih =>
    intro listed a w hfree hr hy hS H
    refine ⟨fun h => (by rw [h] at hr; cases hr), fun j hj => ?_⟩
    by_cases hji : j = i
    · subst hji; exact hy.wpOpIn hd hi hS ⟨fun _ => hS, H⟩
    · have h1 := H.2 j (ready_mono hj hji)
      obtain ⟨hjun, oj, hoj, hall⟩ := mem_ready.1 hj
      have hnot : ∀ e ∈ oj.after, Region.binds md e = true → e.on ≠ i := fun e he hb heq => by
        have h1 := hall e he hb
        have h0 := (mem_ready.1 hr).1
        rw [heq] at h1
        rcases Nat.lt_or_ge i listed.size with h' | h'
        · simp [h'] at h0 h1; rw [h0] at h1; cases h1
        · simp [Array.getElem?_eq_none h'] at h1
      have h2 := wpOpIn_putF hd hoj (hfree j oj hoj hji hjun hnot) (fun cs b => hsel i oi cs b hi) (fun cs b => hsel j oj cs b hoj) hQ hy h1
      have hfree' : ∀ k ok, ops[k]? = some ok → k ≠ i → (listed.setIfInBounds j true).getD k true = false →
          (∀ e ∈ ok.after, Region.binds md e = true → e.on ≠ i) → oi.apart ops ok = true := fun k ok hk hki hun hno => by
        refine hfree k ok hk hki ?_ hno
        by_cases hjk : j = k
        · subst hjk; exact hjun
        · rw [getD_set_ne true hjk] at hun; exact hun
      have hjk : j ≠ k := fun e => by
        subst e
        obtain ⟨e, he, hb, heq⟩ := lastB_spec hl hoj (ops_lt hi) (Ne.symm hji)
        exact hnot e he hb heq
      refine wpOpIn_mono (fun a' w' h3 => ⟨fun _ => h3.2.1 hjk, ih (listed.setIfInBounds j true) a' w' hfree' (ready_mono hr (Ne.symm hji)) h3.1 (h3.2.1 hjk) ?_⟩) h2
      rw [Array.setIfInBounds_comm _ _ hji]
      exact h3.2.2

theorem wpAnyHK_take {i : Nat} {oi : Oper} {v : Value} {fuel : Nat} {listed : Array Bool} {a : Act} {w : World} (hd : noDefer ops = true) (hl : lastB md ops k = true) (hi : ops[i]? = some oi)
    (hs : Region.noSelect ops = true) (hf : Region.free md ops listed i = true) (hr : (Region.ready md ops listed).contains i = true)
    (hQ : ∀ c a w, Q (.panic c) (a.put oi.dst v) w → Q (.panic c) a w) (hy : YieldsIf P ops S oi v a) (hb : ∀ w, oi.about P w a.eval = none) (hS : S w)
    (h : wpAnyHK F n P md ops Q S k fuel (listed.setIfInBounds i true) (a.put oi.dst v) w) : wpAnyHK F n P md ops Q S k (fuel + 1) listed a w :=
  wpAnyHK_first hd hl hi (Region.noSelect_spec hs) hQ fuel listed a w (Region.free_spec hi hf) (by simpa using hr) ⟨hy, hb⟩ hS h

theorem wpAnyHK_done {listed : Array Bool} {a : Act} {w : World} (hr : Region.ready md ops listed = []) (h : Q .normal a w) :
    ∀ fuel, wpAnyHK F n P md ops Q S k fuel listed a w
  | 0 => ⟨hr, h⟩
  | _ + 1 => ⟨fun _ => h, by rw [hr]; simp⟩

def AllReadyHK (F : Fence) (n : Nat) (P : Program) (md : Region.Mode) (ops : Array Oper) (Q : Exit → Act → World → Prop) (S : World → Prop) (k : Nat) (fuel : Nat) (listed : Array Bool) (a : Act) (w : World) (rs : List Nat) : Prop :=
  ∀ i ∈ rs, wpOpIn F n P ops Q i (fun a' w' => (i ≠ k → S w') ∧ wpAnyHK F n P md ops Q S k fuel (listed.setIfInBounds i true) a' w') a w
theorem AllReadyHK.nil {fuel : Nat} {listed : Array Bool} {a : Act} {w : World} : AllReadyHK F n P md ops Q S k fuel listed a w [] := fun _ h => by cases h
theorem AllReadyHK.cons {fuel : Nat} {listed : Array Bool} {a : Act} {w : World} {i : Nat} {o : Oper} {rs : List Nat} (ho : ops[i]? = some o)
    (h : ∀ K' : Act → World → Prop, Shut (∀ a w, S w → (S w → wpAnyHK F n P md ops Q S k fuel (listed.setIfInBounds i true) a w) → K' a w) → if Region.wanted o (yielded ops a.tmps) = true then Oper.wpIn F n P o a w K' Q else (∀ f, o.about P w a.eval = some f → F.fn f) ∧ K' (a.put o.dst undef) w)
    (hs : AllReadyHK F n P md ops Q S k fuel listed a w rs) : AllReadyHK F n P md ops Q S k fuel listed a w (i :: rs) := fun j hj => by
  rcases List.mem_cons.1 hj with rfl | hj
  · exact wpOpIn_step ho (fun K' hK => h K' (fun a w hS hW => hK a w ⟨fun _ => hS, hW hS⟩))
  · exact hs j hj
theorem AllReadyHK.last {fuel : Nat} {listed : Array Bool} {a : Act} {w : World} {o : Oper} (ho : ops[k]? = some o)
    (h : ∀ K' : Act → World → Prop, Shut (∀ a w, wpAnyHK F n P md ops Q S k fuel (listed.setIfInBounds k true) a w → K' a w) → if Region.wanted o (yielded ops a.tmps) = true then Oper.wpIn F n P o a w K' Q else (∀ f, o.about P w a.eval = some f → F.fn f) ∧ K' (a.put o.dst undef) w) : AllReadyHK F n P md ops Q S k fuel listed a w [k] := fun j hj => by
  obtain rfl : j = k := by simpa using hj
  exact wpOpIn_step ho (fun K' hK => h K' (fun a w hW => hK a w ⟨fun h => absurd rfl h, hW⟩))
theorem wpAnyHK_ready {rs : List Nat} {fuel : Nat} {listed : Array Bool} {a : Act} {w : World} (hr : Region.ready md ops listed = rs) (hne : rs ≠ [])
    (h : AllReadyHK F n P md ops Q S k fuel listed a w rs) : wpAnyHK F n P md ops Q S k (fuel + 1) listed a w :=
  ⟨fun h0 => absurd (hr ▸ h0) hne, hr ▸ h⟩
theorem wpIn_region_heldK (k : Nat) {id : Nat} {a : Act} {w : World} (hm : P.follows .mixedOrders = true) (hS : S w.drew)
    (h : S w.drew → wpAnyHK F n P .any ops Q S k ops.size (Array.replicate ops.size false) a w.drew) : (Code.region id ops true).wpIn F n P Q a w :=
  wpIn_region_any hm (wpAnyIn_of_heldK _ _ _ _ (h hS))
end

end Go.Proofs.Ytmdmbobjdhjadaa

set_option linter.unusedSimpArgs false
set_option linter.unusedVariables false
namespace Go.Proofs.Ytmdmbobjdhjadaa
open Go.RowKit Go.Shelf
attribute [local go_sem] Oper.semAt_some

set_option maxHeartbeats 400000 in
theorem lesser_any (x y z : Int) (w : World) :
    Calls Try.prog 87 #[.agg #[.int .i64 x, .int .i64 y, .int .i64 z]] w fun e w' => e = .returned (.int .i64 (min y z)) ∧ Bl w w' := by
  go_enter Try.func87, Try.ntmps87
  go_wp2
  go_ret
  exact ⟨rfl, (by repeat' (first | exact Bl.refl _ | with_reducible assumption | with_reducible refine Bl.drew_ ?_ | with_reducible refine Bl.drewN_ ?_ _ | with_reducible refine Bl.alloc_ ?_ _ | with_reducible refine Bl.trans_ ?_ (by assumption) | with_reducible refine Bl.trans_ ?_ (And.left (by assumption))))⟩

theorem OwnN.put_ {w : World} {B g n c : Nat} {V : List Int} (h : OwnN w B (.slice (some ⟨g, 0, none⟩) n c) V) (hn : n = V.length) (d : Nat) (x : Int) : OwnN (w.setCell ⟨g, d, none⟩ (.int .i64 x)) B (.slice (some ⟨g, 0, none⟩) n c) (V.set d x) := by
  subst hn
  have h1 := (Owns.stored (show Owns 2 1 w B (.slice (some ⟨g, 0, none⟩) V.length c) V.length (csI V) from h) d (.int .i64 x)).1
  have e : (csI V).set d (.int .i64 x) = csI (V.set d x) := by simp [csI, List.map_set]
  rw [e] at h1
  unfold OwnN
  rw [List.length_set]
  exact h1
theorem OwnN.turn_ {w w' : World} {B : Nat} {v : Value} {V : List Int} {S : Nat → Prop} (h : OwnN w B v V) (k : Turn S w w') (hS : ∀ g, v.ownBlock = some g → ¬ S g) : OwnN w' B v V := Owns.turn h k hS
theorem OwnN.cell_ {w : World} {B g n c : Nat} {V : List Int} (h : OwnN w B (.slice (some ⟨g, 0, none⟩) n c) V) (hn : n = V.length) {d : Nat} (hd : d < V.length) : w.cell? ⟨g, d, none⟩ = some (.int .i64 V[d]) ∧ w.frozen? ⟨g, d, none⟩ = false ∧ g < w.heap.size := by
  subst hn
  have h' : w.ownsRow B 2 1 (.slice (some ⟨g, 0, none⟩) V.length c) V.length (csI V) := h
  refine ⟨?_, World.ownsRow.frozenAt h' d, (Owns.lt h g rfl).2⟩
  rw [World.ownsRow.cellAt h' d (by rw [Nat.mul_one]; exact hd), List.getElem?_eq_getElem (by rw [csI_len]; exact hd), csI_at]

theorem mk1_list (n : Nat) : mk1 n = (csI (List.replicate n 0)).toArray := by
  refine Array.ext (by simp [size_mk1, csI_len]) fun i h1 h2 => ?_
  unfold mk1
  simp [csI, madeCells, Nat.mod_one]
theorem own_zeros (w : World) (B n : Nat) (hB : B ≤ w.heap.size) (hn : n ≤ 1048576) : OwnN (w.alloc (.cells (mk1 n) 2)) B (.slice (some ⟨w.heap.size, 0, none⟩) n n) (List.replicate n 0) := by
  have hl : (mk1 n).size = n * 1 := by rw [size_mk1, Nat.mul_one]
  refine ⟨by simp [csI_len], .inr ⟨w.heap.size, n, mk1 n, by simp, hB, ?_, by simp, by unfold maxLen; omega, hl, ?_⟩⟩
  · exact World.alloc_heap_new w _
  · rw [mk1_list]
    simp [csI_len, List.take_of_length_le]

set_option maxHeartbeats 400000 in
theorem shortest_any (N : Int) (A : Option Addr) (n c : Nat) (w : World) :
    Calls Try.prog 86 #[.agg #[.int .i64 N, .slice A n c]] w fun e w' => e = .returned (.func (.func 119) #[] #[.pointer (some ⟨w.heap.size, 0, none⟩)]) ∧ w' = w.alloc (.cells #[.int .i64 N, .slice A n c] 42) := by
  go_enter Try.func86, Try.ntmps86
  go_wp2
  go_ret
  exact ⟨rfl, rfl⟩

set_option maxRecDepth 100000 in
set_option maxHeartbeats 4000000 in
theorem implReachOf_any (N : Int) (A : Option Addr) (n c : Nat) (L : List Arc3) (hn : n = L.length) (hc : n ≤ c) (w : World) (hm : n ≤ 1048576) (H1 : ArcsAt w w.heap.size A L) :
    Calls Try.prog 36 #[.agg #[.int .i64 N, .slice A n c]] w (NumsMade (reachL N L) w) := by
  have K1 := Lib.hid H1
  have HN := Lib.hid hn
  clear H1 hn
  cases ho : okB N L with
  | false =>
    have HO := Lib.hid ho
    clear ho
    refine (callsIn_wide (n := 0)).1 ?_
    refine callsIn_of_wp_marks Try.func36 rfl trivial ?_ rfl
    simp only [Try.ntmps36, List.size_toArray, List.length_cons, List.length_nil, Nat.reduceAdd, Nat.reduceSub, Array.replicate_succ, Array.replicate_zero, List.push_toArray, List.append_toArray, List.nil_append, List.cons_append]
    gi_wp2_with fail
    refine ⟨trivial, rfl, CallsIn.mono (callsIn_wide.2 (implOk_any N A n c L HN.out _ (by omega) (K1.out.bl (by repeat' (first | exact Bl.refl _ | with_reducible assumption | with_reducible refine Bl.drew_ ?_ | with_reducible refine Bl.drewN_ ?_ _ | with_reducible refine Bl.alloc_ ?_ _ | with_reducible refine Bl.trans_ ?_ (by assumption) | with_reducible refine Bl.trans_ ?_ (And.left (by assumption))))))) ?_⟩
    rintro e w1 ⟨rfl, hb1⟩
    rw [HO.out]
    gi_wp2_with fail
    refine leaves_marks [] [] _ (MarksD.nil_ _) fun w' t' => ?_
    refine ⟨_, by simp [results, Try.results36, go_sem]; rfl, ?_⟩
    refine ⟨_, rfl, by unfold reachL; rw [HO.out, if_neg (by simp)]; exact OwnN.nil_ _ _, Turn.to_bl ((Bl.alloc_ (Bl.refl w) _).trans_ hb1) t' (fun i hi => by simp at hi)⟩
  | true =>
    have HO := Lib.hid ho
    have hN1 := (okB_elim ho).1
    have hN24 := (okB_elim ho).2.1
    clear ho
    obtain ⟨q, rfl⟩ : ∃ q : Nat, N = q := ⟨N.toNat, by omega⟩
    have hmk := make_nums q (by omega)
    refine (callsIn_wide (n := 0)).1 ?_
    refine callsIn_of_wp_marks Try.func36 rfl trivial ?_ rfl
    simp only [Try.ntmps36, List.size_toArray, List.length_cons, List.length_nil, Nat.reduceAdd, Nat.reduceSub, Array.replicate_succ, Array.replicate_zero, List.push_toArray, List.append_toArray, List.nil_append, List.cons_append]
    gi_wp2_with fail
    refine ⟨trivial, rfl, CallsIn.mono (callsIn_wide.2 (implOk_any q A n c L HN.out _ (by omega) (K1.out.bl (by repeat' (first | exact Bl.refl _ | with_reducible assumption | with_reducible refine Bl.drew_ ?_ | with_reducible refine Bl.drewN_ ?_ _ | with_reducible refine Bl.alloc_ ?_ _ | with_reducible refine Bl.trans_ ?_ (by assumption) | with_reducible refine Bl.trans_ ?_ (And.left (by assumption))))))) ?_⟩
    rintro e w1 ⟨rfl, hb1⟩
    rw [HO.out]
    obtain ⟨q0, q1⟩ := box2 hb1
    have hsw : w.heap.size < w1.heap.size := by have := hb1.size; simp at this; omega
    have BW := Lib.hid (show Bl w w1 from (Bl.alloc_ (Bl.refl w) _).trans_ hb1)
    have OWN0 := Lib.hid (own_zeros w1 w.heap.size q BW.out.size (by omega))
    clear hb1
    gi_wp2_with fail
    refine ⟨trivial, rfl, CallsIn.mono (callsIn_wide.2 (shortest_any q A n c _)) ?_⟩
    rintro e w6 ⟨rfl, hw6⟩
    have HW6 := Lib.hid hw6
    clear hw6 hmk
    gi_wp2_with fail
    have hs6 : w6.heap.size = w1.heap.size + 3 := by rw [HW6.out]; simp
    have BX : Bl (w1.alloc (.cells (mk1 q) 2)) w6 := by rw [HW6.out]; exact ((Bl.refl _).alloc_ _).alloc_ _
    have BW6 := Lib.hid (show Bl w w6 from (BW.out.alloc_ _).trans_ BX)
    have O6 : OwnN w6 w.heap.size (.slice (some ⟨w1.heap.size, 0, none⟩) q q) (reachS q []) := by rw [reachS_nil]; exact OWN0.out.bl BX
    have V6 : w6.cell? ⟨w1.heap.size + 1, 0, none⟩ = some (.slice (some ⟨w1.heap.size, 0, none⟩) q q) := by rw [HW6.out]; simp [go_sem]
    have hin : SIn w6 (w1.heap.size + 2) q A n c L := by
      refine ⟨?_, ?_, K1.out.bl BW6.out⟩ <;> (rw [HW6.out]; simp [go_sem])
    clear BX q0 q1 OWN0
    refine wpIn_range (gf := 119) (lb := #[.pointer (some ⟨w1.heap.size + 2, 0, none⟩)]) ?e1 ?e2
      (short_stops q A n c (w1.heap.size + 2) L HN.out hc hm HO.out w6 hin) (Bl.refl _) (fun i hi => sBlocks_lt hin hi) ?e3
      (fun pre K W' => (∀ i, K i ↔ (i = w1.heap.size ∨ i = w1.heap.size + 1)) ∧ OwnN W' w.heap.size (.slice (some ⟨w1.heap.size, 0, none⟩) q q) (reachS q pre) ∧ W'.cell? ⟨w1.heap.size + 1, 0, none⟩ = some (.slice (some ⟨w1.heap.size, 0, none⟩) q q))
      (fun _ _ _ _ => False)
      (fun pre x a K W' => ∃ xb : Nat, ∃ z0 z1 z2 z5 z6 z7 z8 z9 z10 z11 z12 z13 z14 z15 z16 z17 z18 z19 z20 z21 z22 z23 z24 z25 z26 : Value, (∀ i, K i ↔ (i = w1.heap.size ∨ i = w1.heap.size + 1 ∨ i = xb)) ∧ OwnN W' w.heap.size (.slice (some ⟨w1.heap.size, 0, none⟩) q q) (reachS q pre) ∧ W'.cell? ⟨w1.heap.size + 1, 0, none⟩ = some (.slice (some ⟨w1.heap.size, 0, none⟩) q q) ∧
        ((xb ≠ w1.heap.size ∧ xb ≠ w1.heap.size + 1) ∧ W'.cell? ⟨xb, 0, none⟩ = some (.int .i64 x.1) ∧ W'.cell? ⟨xb, 1, none⟩ = some (.int .i64 x.2.1) ∧ W'.cell? ⟨xb, 2, none⟩ = some (.int .i64 x.2.2)) ∧ a = { tmps := #[z0, z1, z2, .pointer (some ⟨w1.heap.size + 1, 0, none⟩), .pointer (some ⟨xb, 0, none⟩), z5, z6, z7, z8, z9, z10, z11, z12, z13, z14, z15, z16, z17, z18, z19, z20, z21, z22, z23, z24, z25, z26], defers := [] })
      (fun i => i = w1.heap.size ∨ i = w1.heap.size + 1) ?hK0 ?hI (fun _ _ _ _ _ h _ => h) ?hM ?hlt ⟨fun i => Iff.rfl, O6, V6⟩ ?assign ?body ?done (fun _ _ _ _ _ _ _ h _ _ _ => h.elim)
    case e1 => rfl
    case e2 => exact enters_of Try.func119 (by kernel_rfl) rfl
    case e3 => exact fun x => rfl
    case hK0 =>
      rintro i hi (h | ⟨hl, h⟩)
      · omega
      · obtain ⟨g, off, rfl, hg, -⟩ := K1.out hl
        have : g = i := by simpa [blockOf] using h
        omega
    case hI =>
      rintro pre K X Y ⟨hk, ho, hv⟩ ht
      exact ⟨hk, ho.turn_ ht (fun g hg h => h ((hk g).2 (.inl (by simpa [Value.ownBlock] using hg.symm)))), (ht.cells (World.block_lt_of_cell? _ _ hv) (fun h => h ((hk _).2 (.inr rfl))) 0).1.trans hv⟩
    case hM =>
      rintro pre x a K X Y ⟨xb, z0, z1, z2, z5, z6, z7, z8, z9, z10, z11, z12, z13, z14, z15, z16, z17, z18, z19, z20, z21, z22, z23, z24, z25, z26, hk, ho, hv, ⟨hne, c0, c1, c2⟩, he⟩ ht
      have hx := World.block_lt_of_cell? _ _ c0
      have hs := fun o => (ht.cells hx (fun h => h ((hk _).2 (.inr (.inr rfl)))) o).1
      exact ⟨xb, z0, z1, z2, z5, z6, z7, z8, z9, z10, z11, z12, z13, z14, z15, z16, z17, z18, z19, z20, z21, z22, z23, z24, z25, z26, hk, ho.turn_ ht (fun g hg h => h ((hk g).2 (.inl (by simpa [Value.ownBlock] using hg.symm)))), (ht.cells (World.block_lt_of_cell? _ _ hv) (fun h => h ((hk _).2 (.inr (.inl rfl)))) 0).1.trans hv, ⟨hne, (hs 0).trans c0, (hs 1).trans c1, (hs 2).trans c2⟩, he⟩
    case hlt =>
      rintro pre K X ⟨hk, ho, hv⟩ i hi
      rcases (hk i).1 hi with rfl | rfl
      · exact (Owns.lt ho _ rfl).2
      · exact World.block_lt_of_cell? _ _ hv
    case assign =>
      rintro l pre ⟨x, y, z⟩ K X R ⟨hk, ho, hv⟩ hpre hR
      have KK9 := Lib.hid hk
      have OO9 := Lib.hid ho
      have VV9 := Lib.hid hv
      have HR := Lib.hid hR
      clear hk ho hv hpre hR hs6 O6 V6 hin
      dsimp only [encP]
      gi_wp2_with fail
      have h1 := (Owns.lt OO9.out _ rfl).2
      have h2 := World.block_lt_of_cell? _ _ VV9.out
      simp only at h2
      have BN : Bl X (X.alloc (.cells #[.int .i64 x, .int .i64 y, .int .i64 z] 106)) := Bl.alloc_ (Bl.refl X) _
      refine HR.out _ (fun i => i = w1.heap.size ∨ i = w1.heap.size + 1 ∨ i = X.heap.size) _ ⟨Turn.of_bl BN, fun i hi => ?_⟩ ⟨X.heap.size, _, _, _, _, _, _, _, _, _, _, _, _, _, _, _, _, _, _, _, _, _, _, _, _, _, fun i => Iff.rfl, OO9.out.bl BN, ((bcell BN).1 _ _ h2).trans VV9.out, ⟨⟨by omega, by omega⟩, by simp [go_sem], by simp [go_sem], by simp [go_sem]⟩, rfl⟩
      rcases hi with h | h | h
      · exact .inl ((KK9.out i).2 (.inl h))
      · exact .inl ((KK9.out i).2 (.inr h))
      · exact .inr (Nat.le_of_eq h.symm)
    case body =>
      rintro l pre ⟨x, y, z⟩ a₁ K X ⟨xb, z0, z1, z2, z5, z6, z7, z8, z9, z10, z11, z12, z13, z14, z15, z16, z17, z18, z19, z20, z21, z22, z23, z24, z25, z26, hk, ho, hv, ⟨hne, c0, c1, c2⟩, rfl⟩ ⟨Z, hZ⟩
      have hmem : (x, y, z) ∈ allS (q : Int) L (q : Int).toNat := by rw [hZ]; simp
      obtain ⟨s9, t9, hs9, ht9, hp9⟩ := mem_allS.1 hmem
      obtain ⟨⟨p0, p1⟩, -⟩ := mem_passK.1 (mem_selST.1 hp9).1
      simp only at p0 p1 c0 c1 c2
      obtain ⟨u, rfl⟩ : ∃ u : Nat, x = u := ⟨x.toNat, by omega⟩
      have hu : u < q := by simpa using p1
      have hu0 : (0 : Int) ≤ (u : Int) := by omega
      have hu1 : (u : Int) < (q : Int) := by omega
      have hrl := reachS_len q pre
      obtain ⟨d0, d1, d2⟩ := ho.cell_ hrl.symm (d := u) (by rw [hrl]; exact hu)
      have SN := Lib.hid (show reachS q (pre ++ [((u : Int), y, z)]) = (reachS q pre).set u (max ((reachS q pre)[u]'(by rw [hrl]; exact hu)) (min y z)) from by
        rw [reachS_snoc]
        simp [lessP, hrl, hu])
      generalize (reachS q pre)[u]'(by rw [hrl]; exact hu) = r at d0 SN
      have HRL := Lib.hid hrl
      have hxl := World.block_lt_of_cell? _ _ c0
      have hvl := World.block_lt_of_cell? _ _ hv
      simp only at hxl hvl
      have HSH := Lib.hid (show ∀ wx, Bl X wx → wx.cell? ⟨w1.heap.size + 1, 0, none⟩ = some (.slice (some ⟨w1.heap.size, 0, none⟩) q q) ∧ wx.cell? ⟨xb, 0, none⟩ = some (.int .i64 (u : Int)) ∧ wx.cell? ⟨xb, 1, none⟩ = some (.int .i64 y) ∧ wx.cell? ⟨xb, 2, none⟩ = some (.int .i64 z) ∧ wx.cell? ⟨w1.heap.size, u, none⟩ = some (.int .i64 r) from fun wx hb => by
        have h := (bcell hb).1
        exact ⟨(h _ _ hvl).trans hv, (h _ _ hxl).trans c0, (h _ _ hxl).trans c1, (h _ _ hxl).trans c2, (h _ _ d2).trans d0⟩)
      have KK9 := Lib.hid hk
      have OO9 := Lib.hid ho
      have VV9 := Lib.hid hv
      have FR9 := Lib.hid d1
      obtain ⟨hne1, hne2⟩ := hne
      clear hk ho hv hs6 O6 V6 hin hmem hs9 ht9 hp9 p0 p1 c0 c1 c2 d0 d1 hZ hrl
      gi_wp2_with fail
      refine wpIn_region_heldK (S := fun wx => wx.cell? ⟨w1.heap.size + 1, 0, none⟩ = some (.slice (some ⟨w1.heap.size, 0, none⟩) q q) ∧ wx.cell? ⟨xb, 0, none⟩ = some (.int .i64 (u : Int)) ∧ wx.cell? ⟨xb, 1, none⟩ = some (.int .i64 y) ∧ wx.cell? ⟨xb, 2, none⟩ = some (.int .i64 z) ∧ wx.cell? ⟨w1.heap.size, u, none⟩ = some (.int .i64 r)) 12 (by kernel_rfl) ?_ (fun hHeld => ?_)
      · (exact HSH.out _ (by repeat' (first | exact Bl.refl _ | with_reducible assumption | with_reducible refine Bl.drew_ ?_ | with_reducible refine Bl.drewN_ ?_ _ | with_reducible refine Bl.alloc_ ?_ _ | with_reducible refine Bl.trans_ ?_ (by assumption) | with_reducible refine Bl.trans_ ?_ (And.left (by assumption)))))
      refine wpAnyHK_take (i := 0) (v := ?_) (by kernel_rfl) (by kernel_rfl) rfl (by kernel_rfl) (by kernel_rfl) (by kernel_rfl) (fun _ _ _ h => h) (Or.inl ⟨by kernel_rfl, ?_⟩) (fun _ => rfl) (by assumption) ?_
      rotate_left
      · (intro wx hSw; (try dsimp only at hSw); go_simp; try (with_reducible rfl))
      try simp only [Act.put, List.getElem_toArray, List.getElem_cons_succ, List.getElem_cons_zero, List.setIfInBounds_toArray, List.set_cons_zero, List.set_cons_succ]
      refine wpAnyHK_take (i := 1) (v := ?_) (by kernel_rfl) (by kernel_rfl) rfl (by kernel_rfl) (by kernel_rfl) (by kernel_rfl) (fun _ _ _ h => h) (Or.inl ⟨by kernel_rfl, ?_⟩) (fun _ => rfl) (by assumption) ?_
      rotate_left
      · (intro wx hSw; (try dsimp only at hSw); go_simp; try (with_reducible rfl))
      try simp only [Act.put, List.getElem_toArray, List.getElem_cons_succ, List.getElem_cons_zero, List.setIfInBounds_toArray, List.set_cons_zero, List.set_cons_succ]
      refine wpAnyHK_take (i := 2) (v := ?_) (by kernel_rfl) (by kernel_rfl) rfl (by kernel_rfl) (by kernel_rfl) (by kernel_rfl) (fun _ _ _ h => h) (Or.inl ⟨by kernel_rfl, ?_⟩) (fun _ => rfl) (by assumption) ?_
      rotate_left
      · (intro wx hSw; (try dsimp only at hSw); go_simp; try (with_reducible rfl))
      try simp only [Act.put, List.getElem_toArray, List.getElem_cons_succ, List.getElem_cons_zero, List.setIfInBounds_toArray, List.set_cons_zero, List.set_cons_succ]
      refine wpAnyHK_take (i := 3) (v := ?_) (by kernel_rfl) (by kernel_rfl) rfl (by kernel_rfl) (by kernel_rfl) (by kernel_rfl) (fun _ _ _ h => h) (Or.inl ⟨by kernel_rfl, ?_⟩) (fun _ => rfl) (by assumption) ?_
      rotate_left
      · (intro wx hSw; (try dsimp only at hSw); go_simp; try (with_reducible rfl))
      try simp only [Act.put, List.getElem_toArray, List.getElem_cons_succ, List.getElem_cons_zero, List.setIfInBounds_toArray, List.set_cons_zero, List.set_cons_succ]
      refine wpAnyHK_take (i := 4) (v := ?_) (by kernel_rfl) (by kernel_rfl) rfl (by kernel_rfl) (by kernel_rfl) (by kernel_rfl) (fun _ _ _ h => h) (Or.inl ⟨by kernel_rfl, ?_⟩) (fun _ => rfl) (by assumption) ?_
      rotate_left
      · (intro wx hSw; (try dsimp only at hSw); go_simp; try (with_reducible rfl))
      try simp only [Act.put, List.getElem_toArray, List.getElem_cons_succ, List.getElem_cons_zero, List.setIfInBounds_toArray, List.set_cons_zero, List.set_cons_succ]
      refine wpAnyHK_take (i := 5) (v := ?_) (by kernel_rfl) (by kernel_rfl) rfl (by kernel_rfl) (by kernel_rfl) (by kernel_rfl) (fun _ _ _ h => h) (Or.inl ⟨by kernel_rfl, ?_⟩) (fun _ => rfl) (by assumption) ?_
      rotate_left
      · (intro wx hSw; (try dsimp only at hSw); go_simp; try (with_reducible rfl))
      try simp only [Act.put, List.getElem_toArray, List.getElem_cons_succ, List.getElem_cons_zero, List.setIfInBounds_toArray, List.set_cons_zero, List.set_cons_succ]
      refine wpAnyHK_take (i := 6) (v := ?_) (by kernel_rfl) (by kernel_rfl) rfl (by kernel_rfl) (by kernel_rfl) (by kernel_rfl) (fun _ _ _ h => h) (Or.inl ⟨by kernel_rfl, ?_⟩) (fun _ => rfl) (by assumption) ?_
      rotate_left
      · (intro wx hSw; (try dsimp only at hSw); go_simp; try (with_reducible rfl))
      try simp only [Act.put, List.getElem_toArray, List.getElem_cons_succ, List.getElem_cons_zero, List.setIfInBounds_toArray, List.set_cons_zero, List.set_cons_succ]
      refine wpAnyHK_take (i := 7) (v := ?_) (by kernel_rfl) (by kernel_rfl) rfl (by kernel_rfl) (by kernel_rfl) (by kernel_rfl) (fun _ _ _ h => h) (Or.inl ⟨by kernel_rfl, ?_⟩) (fun _ => rfl) (by assumption) ?_
      rotate_left
      · (intro wx hSw; (try dsimp only at hSw); go_simp; try (with_reducible rfl))
      try simp only [Act.put, List.getElem_toArray, List.getElem_cons_succ, List.getElem_cons_zero, List.setIfInBounds_toArray, List.set_cons_zero, List.set_cons_succ]
      refine wpAnyHK_take (i := 8) (v := ?_) (by kernel_rfl) (by kernel_rfl) rfl (by kernel_rfl) (by kernel_rfl) (by kernel_rfl) (fun _ _ _ h => h) (Or.inl ⟨by kernel_rfl, ?_⟩) (fun _ => rfl) (by assumption) ?_
      rotate_left
      · (intro wx hSw; (try dsimp only at hSw); go_simp; try (with_reducible rfl))
      try simp only [Act.put, List.getElem_toArray, List.getElem_cons_succ, List.getElem_cons_zero, List.setIfInBounds_toArray, List.set_cons_zero, List.set_cons_succ]
      refine wpAnyHK_ready (rs := [9]) (by kernel_rfl) (by simp) ?_
      refine AllReadyHK.cons rfl (fun K hK => ?_) AllReadyHK.nil
      go_simp
      (refine ⟨by first | trivial | exact fun _ _ => trivial, by first | rfl | (intro h; simp [Fence.wide] at h), CallsIn.inRound _ (CallsIn.mono (callsIn_wide.2 (lesser_any _ _ _ _)) ?_)⟩; rintro e w7 ⟨rfl, hb7⟩; have c7 := (HSH.out w7 (Bl.trans_ ((Bl.refl X).drew_) hb7)).2.2.2.2; have f7 : w7.frozen? ⟨w1.heap.size, u, none⟩ = false := (((bcell (Bl.trans_ ((Bl.refl X).drew_) hb7)).2 _ _ d2).trans FR9.out))
      try (gi_wp2_with fail)
      refine hK.out _ _ ?_ (fun hHeld => ?_)
      · (exact HSH.out _ (by repeat' (first | exact Bl.refl _ | with_reducible assumption | with_reducible refine Bl.drew_ ?_ | with_reducible refine Bl.drewN_ ?_ _ | with_reducible refine Bl.alloc_ ?_ _ | with_reducible refine Bl.trans_ ?_ (by assumption) | with_reducible refine Bl.trans_ ?_ (And.left (by assumption)))))
      clear hK K
      try simp only [Act.put, List.getElem_toArray, List.getElem_cons_succ, List.getElem_cons_zero, List.setIfInBounds_toArray, List.set_cons_zero, List.set_cons_succ]
      refine wpAnyHK_ready (rs := [10]) (by kernel_rfl) (by simp) ?_
      refine AllReadyHK.cons rfl (fun K hK => ?_) AllReadyHK.nil
      go_simp
      refine hK.out _ _ ?_ (fun hHeld => ?_)
      · (exact HSH.out _ (by repeat' (first | exact Bl.refl _ | with_reducible assumption | with_reducible refine Bl.drew_ ?_ | with_reducible refine Bl.drewN_ ?_ _ | with_reducible refine Bl.alloc_ ?_ _ | with_reducible refine Bl.trans_ ?_ (by assumption) | with_reducible refine Bl.trans_ ?_ (And.left (by assumption)))))
      clear hK K
      try simp only [Act.put, List.getElem_toArray, List.getElem_cons_succ, List.getElem_cons_zero, List.setIfInBounds_toArray, List.set_cons_zero, List.set_cons_succ]
      refine wpAnyHK_take (i := 11) (v := ?_) (by kernel_rfl) (by kernel_rfl) rfl (by kernel_rfl) (by kernel_rfl) (by kernel_rfl) (fun _ _ _ h => h) (Or.inl ⟨by kernel_rfl, ?_⟩) (fun _ => rfl) (by assumption) ?_
      rotate_left
      · (intro wx hSw; (try dsimp only at hSw); go_simp; try (with_reducible rfl))
      try simp only [Act.put, List.getElem_toArray, List.getElem_cons_succ, List.getElem_cons_zero, List.setIfInBounds_toArray, List.set_cons_zero, List.set_cons_succ]
      refine wpAnyHK_ready (rs := [12]) (by kernel_rfl) (by simp) ?_
      refine AllReadyHK.last rfl (fun K hK => ?_)
      go_simp
      refine hK.out _ _ ?_
      clear hK K
      try simp only [Act.put, List.getElem_toArray, List.getElem_cons_succ, List.getElem_cons_zero, List.setIfInBounds_toArray, List.set_cons_zero, List.set_cons_succ]
      refine wpAnyHK_done (by kernel_rfl) ?_ _
      have B7 := Lib.hid (show Bl X w7 from (by repeat' (first | exact Bl.refl _ | with_reducible assumption | with_reducible refine Bl.drew_ ?_ | with_reducible refine Bl.drewN_ ?_ _ | with_reducible refine Bl.alloc_ ?_ _ | with_reducible refine Bl.trans_ ?_ (by assumption) | with_reducible refine Bl.trans_ ?_ (And.left (by assumption)))))
      gi_wp2_with fail
      refine ⟨fun i => i = w1.heap.size ∨ i = w1.heap.size + 1, ⟨Turn.set (p := ⟨w1.heap.size, u, none⟩) (Turn.of_bl B7.out) (.inl ((KK9.out _).2 (.inl rfl))) _, fun i hi => .inl ((KK9.out i).2 (by rcases hi with h | h <;> simp [h]))⟩, fun i => Iff.rfl, ?_, ?_⟩
      · rw [SN.out]
        exact (OO9.out.bl B7.out).put_ HRL.out.symm u _
      · rw [World.cell?_setCell_other _ _ _ _ (by simp)]
        exact ((bcell B7.out).1 _ _ hvl).trans VV9.out
    case done =>
      rintro D xs K X hD hall ⟨hk, ho, hv⟩ hT hKD hdef
      have OO9 := Lib.hid ho
      have HT := Lib.hid hT
      have HD := Lib.hid hdef
      have HAL := Lib.hid (show reachS q xs = reachL q L from by unfold reachL; rw [if_pos HO.out]; unfold AllSP at hall; rw [hall]; simp)
      have HLL := Lib.hid (show q = (reachS q xs).length from (reachS_len q xs).symm)
      have hDs : w6.heap.size ≤ D := hD
      have hs6' := hs6
      clear ho hT hdef hk hall hKD hin O6 V6 hD hs6
      gi_wp2_with fail
      refine leaves_marks [D] _ _ ((MarksD.nil_ X).cons HD.out (by simp)) fun w' t' => ?_
      refine ⟨_, by simp [results, Try.results36, go_sem]; rfl, ?_⟩
      refine ⟨_, rfl, ?_, ?_⟩
      · rw [← HAL.out]
        exact OO9.out.turn_ t' (fun g hg h => by
          have e1 : w1.heap.size = g := by simpa [Value.ownBlock] using hg
          have e2 : g = D := by simpa using h
          omega)
      · have hb := Turn.to_bl BW6.out HT.out (fun i hi => by have := BW.out.size; rcases hi with h | h <;> omega)
        exact Turn.to_bl hb t' (fun i hi => by have : i = D := by simpa using hi
                                               have := BW6.out.size; omega)

end Go.Proofs.Ytmdmbobjdhjadaa

set_option linter.unusedSimpArgs false
set_option linter.unusedVariables false
namespace Go.Proofs.Ytmdmbobjdhjadaa
open Go.RowKit

set_option maxRecDepth 100000 in
set_option maxHeartbeats 1000000 in
theorem implReachOk_any (N : Int) (A : Option Addr) (n c : Nat) (L : List Arc3) (hn : n = L.length) (A2 : Option Addr) (k c2 : Nat) (V : List Int) (hk : k = V.length) (hc : n ≤ c) (w : World) (hm : n ≤ 1048576) (hkm : k ≤ 1048576) (H1 : ArcsAt w w.heap.size A L) (H2 : IntsAt w w.heap.size A2 V) :
    Calls Try.prog 39 #[.agg #[.int .i64 N, .slice A n c], .slice A2 k c2] w fun e w' => e = .returned (.bool (reachB N L V)) ∧ Bl w w' := by
  have K1 := Lib.hid H1
  have K2 := Lib.hid H2
  have HN := Lib.hid hn
  have HK := Lib.hid hk
  clear H1 H2 hn hk
  cases ho : okB N L with
  | false =>
    have HR := Lib.hid (show reachB N L V = false from by unfold reachB; rw [ho, Bool.false_and, Bool.false_and])
    have HO := Lib.hid ho
    clear ho
    go_enter Try.func39, Try.ntmps39
    go_wp2_with fail
    refine (implOk_any N A n c L HN.out _ (by omega) (K1.out.bl (by repeat' (first | exact Bl.refl _ | with_reducible assumption | with_reducible refine Bl.drew_ ?_ | with_reducible refine Bl.drewN_ ?_ _ | with_reducible refine Bl.alloc_ ?_ _ | with_reducible refine Bl.trans_ ?_ (by assumption) | with_reducible refine Bl.trans_ ?_ (And.left (by assumption)))))).mono ?_
    rintro e w1 ⟨rfl, hb1⟩
    rw [HO.out]
    go_wp2
    go_ret
    exact ⟨ret_boolw HR.out.symm, (by repeat' (first | exact Bl.refl _ | with_reducible assumption | with_reducible refine Bl.drew_ ?_ | with_reducible refine Bl.drewN_ ?_ _ | with_reducible refine Bl.alloc_ ?_ _ | with_reducible refine Bl.trans_ ?_ (by assumption) | with_reducible refine Bl.trans_ ?_ (And.left (by assumption))))⟩
  | true =>
    have HO := Lib.hid ho
    have hN1 := (okB_elim ho).1
    have hN24 := (okB_elim ho).2.1
    clear ho
    by_cases hkN : (k : Int) = N
    · subst hkN
      have hne : ((k : Int) != (k : Int)) = false := by simp
      go_enter Try.func39, Try.ntmps39
      go_wp2_with fail
      refine (implOk_any (k : Int) A n c L HN.out _ (by omega) (K1.out.bl (by repeat' (first | exact Bl.refl _ | with_reducible assumption | with_reducible refine Bl.drew_ ?_ | with_reducible refine Bl.drewN_ ?_ _ | with_reducible refine Bl.alloc_ ?_ _ | with_reducible refine Bl.trans_ ?_ (by assumption) | with_reducible refine Bl.trans_ ?_ (And.left (by assumption)))))).mono ?_
      rintro e w1 ⟨rfl, hb1⟩
      rw [HO.out]
      obtain ⟨q0, q1⟩ := box2 hb1
      have BB := Lib.hid (show Bl w w1 from (by repeat' (first | exact Bl.refl _ | with_reducible assumption | with_reducible refine Bl.drew_ ?_ | with_reducible refine Bl.drewN_ ?_ _ | with_reducible refine Bl.alloc_ ?_ _ | with_reducible refine Bl.trans_ ?_ (by assumption) | with_reducible refine Bl.trans_ ?_ (And.left (by assumption)))))
      go_wp2_with fail
      refine (implReachOf_any k A n c L HN.out hc _ (by omega) (K1.out.bl (by repeat' (first | exact Bl.refl _ | with_reducible assumption | with_reducible refine Bl.drew_ ?_ | with_reducible refine Bl.drewN_ ?_ _ | with_reducible refine Bl.alloc_ ?_ _ | with_reducible refine Bl.trans_ ?_ (by assumption) | with_reducible refine Bl.trans_ ?_ (And.left (by assumption)))))).mono ?_
      rintro e w2 ⟨v, rfl, hv, hb2⟩
      obtain ⟨A3, c3, rfl, -, hA3, -, -⟩ := OwnN.shape hv
      rw [reachL_q HO.out]
      have V3 := Lib.hid hA3
      have B2 := Lib.hid (show Bl w w2 from (by repeat' (first | exact Bl.refl _ | with_reducible assumption | with_reducible refine Bl.drew_ ?_ | with_reducible refine Bl.drewN_ ?_ _ | with_reducible refine Bl.alloc_ ?_ _ | with_reducible refine Bl.trans_ ?_ (by assumption) | with_reducible refine Bl.trans_ ?_ (And.left (by assumption)))))
      have RQ := Lib.hid (reachL_q HO.out)
      clear hv hA3 q0 q1 hb2
      go_wp2_with fail
      go_loopw [20] (fun i wr => ∃ j : Nat, j ≤ k ∧ i = .int .i64 j ∧ Bl w2 wr ∧ notLess k L V j = true) (fun i _ => k - (intOf i).toNat)
      case atStart => exact ⟨0, by omega, rfl, Bl.refl _, rfl⟩
      case round =>
        obtain ⟨j, hj, rfl, hbl, hnl⟩ := hrel
        have NL := Lib.hid hnl
        clear hnl
        by_cases hlt : j < k
        · have hj1 : j < V.length := by have := HK.out; omega
          have hj2 : j < (reachL k L).length := by rw [RQ.out]; exact hlt
          obtain ⟨g2, o2, rfl, hg2, hc2⟩ := K2.out.cell (by omega)
          obtain ⟨g3, o3, rfl, hg3, hc3⟩ := V3.out.cell (by omega)
          have p2 := hc2 j hj1
          have p3 := hc3 j hj2
          have e2 : V.getD j 0 = V[j] := by simp [hj1]
          have e3 : (reachL k L).getD j 0 = (reachL k L)[j] := by simp [hj2]
          have NS := Lib.hid (notLess_succ k L V j)
          have NF := Lib.hid (show notLess k L V (j + 1) = false → reachB k L V = false from fun h => by
            have := notLess_false h (V.length - (j + 1))
            rw [show j + 1 + (V.length - (j + 1)) = V.length from by omega] at this
            unfold reachB
            rw [this, Bool.and_false])
          rw [e2, e3, NL.out, Bool.true_and] at NS
          generalize V[j] = a at *
          generalize (reachL (k : Int) L)[j] = b at *
          have HSH := Lib.hid (show ∀ wx, Bl wr wx → Bl wr wx ∧ wx.cell? ⟨g2, o2 + j, none⟩ = some (.int .i64 a) ∧ wx.cell? ⟨g3, o3 + j, none⟩ = some (.int .i64 b) from fun wx hb =>
            ⟨hb, ((bcell ((B2.out.trans_ hbl).trans_ hb)).1 _ _ hg2).trans p2, ((bcell (hbl.trans_ hb)).1 _ _ hg3).trans p3⟩)
          have hj0 : (0 : Int) ≤ (j : Int) := by omega
          have hj3 : (j : Int) < (k : Int) := by omega
          clear hc2 hc3 p2 p3 e2 e3
          obtain ⟨hbz, y2, y3⟩ := HSH.out wr (Bl.refl _)
          by_cases hab : a < b
          · have hd : decide (b ≤ a) = false := by simp; omega
            have RB := Lib.hid (NF.out (by rw [NS.out, hd]))
            go_wp2
            go_ret
            exact ⟨ret_boolw RB.out.symm, (B2.out.trans_ hbl).trans_ (by repeat' (first | exact Bl.refl _ | with_reducible assumption | with_reducible refine Bl.drew_ ?_ | with_reducible refine Bl.drewN_ ?_ _ | with_reducible refine Bl.alloc_ ?_ _ | with_reducible refine Bl.trans_ ?_ (by assumption) | with_reducible refine Bl.trans_ ?_ (And.left (by assumption))))⟩
          · have hd : decide (b ≤ a) = true := by simp; omega
            have NT := Lib.hid (show notLess k L V (j + 1) = true from by rw [NS.out, hd])
            go_wp2
            go_roundw
            case rel => exact ⟨j + 1, by omega, by go_num, hbl.trans_ (by repeat' (first | exact Bl.refl _ | with_reducible assumption | with_reducible refine Bl.drew_ ?_ | with_reducible refine Bl.drewN_ ?_ _ | with_reducible refine Bl.alloc_ ?_ _ | with_reducible refine Bl.trans_ ?_ (by assumption) | with_reducible refine Bl.trans_ ?_ (And.left (by assumption)))), NT.out⟩
            case measure => simp [intOf]; omega
        · have RB := Lib.hid (show reachB k L V = true from by
            unfold reachB
            rw [HO.out, show V.length = j from by have := HK.out; omega, NL.out]
            simp; omega)
          go_wp2
          go_ret
          exact ⟨ret_boolw RB.out.symm, B2.out.trans_ hbl⟩
    · have hne : ((k : Int) != N) = true := by simpa using hkN
      have HR := Lib.hid (show reachB N L V = false from by unfold reachB; rw [show decide ((V.length : Int) = N) = false from by rw [← HK.out]; simpa using hkN, Bool.and_false, Bool.false_and])
      go_enter Try.func39, Try.ntmps39
      go_wp2_with fail
      refine (implOk_any N A n c L HN.out _ (by omega) (K1.out.bl (by repeat' (first | exact Bl.refl _ | with_reducible assumption | with_reducible refine Bl.drew_ ?_ | with_reducible refine Bl.drewN_ ?_ _ | with_reducible refine Bl.alloc_ ?_ _ | with_reducible refine Bl.trans_ ?_ (by assumption) | with_reducible refine Bl.trans_ ?_ (And.left (by assumption)))))).mono ?_
      rintro e w1 ⟨rfl, hb1⟩
      rw [HO.out]
      obtain ⟨q0, q1⟩ := box2 hb1
      go_wp2
      go_ret
      exact ⟨ret_boolw HR.out.symm, (by repeat' (first | exact Bl.refl _ | with_reducible assumption | with_reducible refine Bl.drew_ ?_ | with_reducible refine Bl.drewN_ ?_ _ | with_reducible refine Bl.alloc_ ?_ _ | with_reducible refine Bl.trans_ ?_ (by assumption) | with_reducible refine Bl.trans_ ?_ (And.left (by assumption))))⟩

end Go.Proofs.Ytmdmbobjdhjadaa
