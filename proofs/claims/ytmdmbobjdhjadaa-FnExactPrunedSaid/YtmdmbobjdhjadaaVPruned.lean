/-
  What is proved here: arcs that are marked hold the marks, and nothing else has turned; the walk of the exact law on Outs: at every graph and node that can be read it returns true and leaves what was there as it was; spec.Reversed turns the arcs of a right graph and puts them in order, as the model does; which nodes reaches leave, told; the model's Pruned and QueryReach; impl.leftBy tells the nodes that reaches leave; impl.reachAsked; the code's reachAsked and Pruned; toInt64S makes new memory that can be marked; the walk of the exact law on Pruned: at every graph and all numbers that can be read it returns true and leaves what was there as it was. No conditions beyond those that each theorem states.
-/
import Derived.Test.YtmdmbobjdhjadaaE1
import Derived.Test.YtmdmbobjdhjadaaB1
import Derived.Test.YtmdmbobjdhjadaaTW
import Derived.Test.YtmdmbobjdhjadaaVC
import Derived.Test.YtmdmbobjdhjadaaVA
set_option linter.unusedSimpArgs false
set_option linter.unusedVariables false
namespace Go.Proofs.Ytmdmbobjdhjadaa
open Go.RowKit

/-- The slice may be written: it leads to a row of its own. -/
def RowW (w : World) (A : Option Addr) (n : Nat) : Prop := 0 < n → ∃ g m f, A = some ⟨g, 0, none⟩ ∧ n * 3 ≤ m ∧ w.rowIs g 130 m f
/-- The slice holds the numbers from k on. -/
def MarkedAt (w : World) (A : Option Addr) (n : Nat) (k : Int) : Prop := 0 < n → ∃ g, A = some ⟨g, 0, none⟩ ∧ g < w.heap.size ∧ ∀ j, j < n →
  w.cell? ⟨g, j * 3, none⟩ = some (.int .i64 (k + 3 * j)) ∧ w.cell? ⟨g, j * 3 + 1, none⟩ = some (.int .i64 (k + 3 * j + 1)) ∧ w.cell? ⟨g, j * 3 + 2, none⟩ = some (.int .i64 (k + 3 * j + 2))
theorem MarkedAt.bl {w w' : World} {A : Option Addr} {n : Nat} {k : Int} (h : MarkedAt w A n k) (hb : Bl w w') : MarkedAt w' A n k := fun h0 => by
  obtain ⟨g, e, hg, hc⟩ := h h0
  have hh := (bcell hb).1
  exact ⟨g, e, Nat.lt_of_lt_of_le hg hb.size, fun j hj => by rw [hh _ _ hg, hh _ _ hg, hh _ _ hg]; exact hc j hj⟩
theorem RowW.bl {w w' : World} {A : Option Addr} {n : Nat} (h : RowW w A n) (hb : Bl w w') : RowW w' A n := fun h0 => by
  obtain ⟨g, m, f, e, hm, hr⟩ := h h0
  exact ⟨g, m, f, e, hm, row_bl hr hb⟩
theorem OwnA.row {w : World} {B : Nat} {A : Option Addr} {n c : Nat} {L : List Arc3} (h : OwnA w B (.slice A n c) L) (hn : n = L.length) : RowW w A n := fun h0 => by
  have h' : w.ownsRow B 130 3 (.slice A n c) L.length (cs3 L) := h
  rcases h'.2 with ⟨e, h1⟩ | ⟨g, cap, cur, e, hB, hg, hnc, hcm, hcs, htake⟩
  · omega
  · injection e with e1 e2 e3
    exact ⟨g, cur.size, fun i => cur.getD i undef, e1, by omega, cur, hg, rfl, fun i hi => by simp [Array.getD, hi]⟩

theorem only_setCell {a w : World} {g : Nat} (h : a.grownBy w (some g)) {p : Addr} (hp : p.block = g ∨ a.heap.size ≤ p.block) (u : Value) : a.grownBy (w.setCell p u) (some g) :=
  ⟨h.os, h.tape, h.output, by simpa [World.setCell] using h.size, fun i hi hne => (Below.heap_setCell w p u i (by
    rintro rfl
    rcases hp with hp | hp
    · exact hne (by rw [hp])
    · omega)).trans (h.block i hi hne)⟩

/-- What the marks leave. -/
def MarkPost (A : Option Addr) (n : Nat) (k : Int) (w : World) (e : Ending) (w' : World) : Prop :=
  e = .returned (.int .i64 (k + 3 * n)) ∧ MarkedAt w' A n k ∧ w.grownBy w' (blockOf A) ∧ RowW w' A n

set_option maxHeartbeats 1000000 in
theorem markArcS_any (A : Option Addr) (n c : Nat) (k : Int) (w : World) (hn : n ≤ 1048576) (hk0 : 0 ≤ k) (hk1 : k ≤ 1099511627776) (HR : RowW w A n) :
    Calls Try.prog 76 #[.slice A n c, .int .i64 k] w (MarkPost A n k w) := by
  have R := Lib.hid HR
  clear HR
  rcases Nat.eq_zero_or_pos n with rfl | hpos
  · go_enter Try.func76, Try.ntmps76
    go_wp2
    refine wp_loop_rounds 1 ?_
    rw [rounds_succ]
    go_wp2
    go_ret
    exact ⟨ret_int (by simp), fun h => absurd h (by omega), World.grownBy.refl w _, R.out⟩
  · obtain ⟨g, m, f, rfl, hm, hr⟩ := R.out hpos
    have hg := hr.lt
    have R0 := Lib.hid hr
    clear hr R
    go_enter Try.func76, Try.ntmps76
    go_wp2
    go_loopw [1, 5] (fun q i wr => ∃ (j : Nat) (f : Nat → Value), j ≤ n ∧ i = .int .i64 j ∧ q = .int .i64 (k + 3 * j) ∧ wr.rowIs g 130 m f ∧ w.grownBy wr (some g) ∧ wr.heap.size = w.heap.size ∧
      ∀ t, t < j → f (t * 3) = .int .i64 (k + 3 * t) ∧ f (t * 3 + 1) = .int .i64 (k + 3 * t + 1) ∧ f (t * 3 + 2) = .int .i64 (k + 3 * t + 2)) (fun _ i _ => n - (intOf i).toNat)
    case atStart => exact ⟨0, f, by omega, rfl, by simp, R0.out, World.grownBy.refl w _, rfl, fun t h => absurd h (by omega)⟩
    case round =>
      obtain ⟨j, f', hj, rfl, rfl, hr, hgr, hsz, hf⟩ := hrel
      have R1 := Lib.hid hr
      have G := Lib.hid hgr
      have Z := Lib.hid hsz
      have F := Lib.hid hf
      clear hr hgr hsz hf
      by_cases hlt : j < n
      · have z1 := R1.out.cell (i := j * 3) (by omega)
        have z2 := R1.out.cell (i := j * 3 + 1) (by omega)
        have z3 := R1.out.cell (i := j * 3 + 2) (by omega)
        have y1 := R1.out.frozen (j * 3)
        have y2 := R1.out.frozen (j * 3 + 1)
        have y3 := R1.out.frozen (j * 3 + 2)
        go_wp2
        go_roundw
        case rel =>
          refine ⟨j + 1, _, by omega, by go_num, by go_num, ((R1.out.set (j * 3) _).set (j * 3 + 1) _).set (j * 3 + 2) _, only_setCell (only_setCell (only_setCell G.out (.inl rfl) _) (.inl rfl) _) (.inl rfl) _, by rw [World.size_setCell, World.size_setCell, World.size_setCell]; exact Z.out, fun t ht => ?_⟩
          rcases Nat.lt_or_ge t j with h | h
          · rw [if_neg (by omega), if_neg (by omega), if_neg (by omega), if_neg (by omega), if_neg (by omega), if_neg (by omega), if_neg (by omega), if_neg (by omega), if_neg (by omega)]
            exact F.out t h
          · have e : t = j := by omega
            subst e
            exact ⟨by rw [if_neg (by omega), if_neg (by omega), if_pos rfl], by rw [if_neg (by omega), if_pos rfl], by rw [if_pos rfl]; congr 1; omega⟩
        case measure => simp [intOf]; omega
      · go_wp2
        go_ret
        have e : j = n := by omega
        subst e
        refine ⟨ret_int rfl, fun _ => ⟨g, rfl, by rw [Z.out]; exact hg, fun t ht => ?_⟩, G.out, fun _ => ⟨g, m, f', rfl, hm, R1.out⟩⟩
        obtain ⟨e1, e2, e3⟩ := F.out t ht
        exact ⟨by rw [← e1]; exact R1.out.cell (by omega), by rw [← e2]; exact R1.out.cell (by omega), by rw [← e3]; exact R1.out.cell (by omega)⟩

set_option maxHeartbeats 400000 in
theorem markGraph_any (N : Int) (A : Option Addr) (n c : Nat) (k : Int) (w : World) (hn : n ≤ 1048576) (hk0 : 0 ≤ k) (hk1 : k ≤ 1099511627776) (HR : RowW w A n) :
    Calls Try.prog 27 #[.agg #[.int .i64 N, .slice A n c], .int .i64 k] w (MarkPost A n k w) := by
  have R := Lib.hid HR
  clear HR
  go_enter Try.func27, Try.ntmps27
  go_wp2_with fail
  refine (markArcS_any A n c k _ hn hk0 hk1 (R.out.bl (by repeat' (first | exact Bl.refl _ | with_reducible assumption | with_reducible refine Bl.drew_ ?_ | with_reducible refine Bl.drewN_ ?_ _ | with_reducible refine Bl.alloc_ ?_ _ | with_reducible refine Bl.trans_ ?_ (by assumption) | with_reducible refine Bl.trans_ ?_ (And.left (by assumption)))))).mono ?_
  rintro e w1 ⟨rfl, hmk, hgr, hro⟩
  have M := Lib.hid hmk
  have G := Lib.hid hgr
  have O := Lib.hid hro
  clear hmk hgr hro
  go_wp2
  go_ret
  exact ⟨ret_int rfl, M.out, grown_of_bl (by repeat' (first | exact Bl.refl _ | with_reducible assumption | with_reducible refine Bl.drew_ ?_ | with_reducible refine Bl.drewN_ ?_ _ | with_reducible refine Bl.alloc_ ?_ _ | with_reducible refine Bl.trans_ ?_ (by assumption) | with_reducible refine Bl.trans_ ?_ (And.left (by assumption)))) G.out, O.out⟩

set_option maxHeartbeats 1000000 in
theorem heldArcS_any (A : Option Addr) (n c : Nat) (k : Int) (w : World) (hn : n ≤ 1048576) (hk0 : 0 ≤ k) (hk1 : k ≤ 1099511627776) (HM : MarkedAt w A n k) :
    Calls Try.prog 100 #[.slice A n c, .int .i64 k] w fun e w' => e = .returned (.int .i64 (k + 3 * n)) ∧ w = w' := by
  have M := Lib.hid HM
  clear HM
  rcases Nat.eq_zero_or_pos n with rfl | hpos
  · go_enter Try.func100, Try.ntmps100
    go_wp2
    refine wp_loop_rounds 1 ?_
    rw [rounds_succ]
    go_wp2
    go_ret
    exact ⟨ret_int (by simp), rfl⟩
  · obtain ⟨g, rfl, hg, hc⟩ := M.out hpos
    have C := Lib.hid hc
    clear hc M
    go_enter Try.func100, Try.ntmps100
    go_wp2
    go_loop [1, 5] (fun q i => ∃ j : Nat, j ≤ n ∧ i = .int .i64 j ∧ q = .int .i64 (k + 3 * j)) (fun _ i => n - (intOf i).toNat)
    case atStart => exact ⟨0, by omega, rfl, by simp⟩
    case round =>
      obtain ⟨j, hj, rfl, rfl⟩ := hrel
      by_cases hlt : j < n
      · obtain ⟨z1, z2, z3⟩ := C.out j hlt
        have b1 : (k + 3 * (j : Int) != k + 3 * j) = false := by simp
        have b2 : (k + 3 * (j : Int) + 1 != k + 3 * j + 1) = false := by simp
        have b3 : (k + 3 * (j : Int) + 2 != k + 3 * j + 1 + 1) = false := by simp; omega
        go_wp2
        go_round
        case rel => exact ⟨j + 1, by omega, by go_num, by go_num⟩
        case measure => simp [intOf]; omega
      · go_wp2
        go_ret
        have e : j = n := by omega
        subst e
        exact ⟨ret_int rfl, rfl⟩

end Go.Proofs.Ytmdmbobjdhjadaa

set_option linter.unusedSimpArgs false
set_option linter.unusedVariables false
namespace Go.Proofs.Ytmdmbobjdhjadaa
open Go.RowKit

set_option maxHeartbeats 400000 in
theorem toArcS_row (A : Option Addr) (n c : Nat) (L : List Arc3) (hn : n = L.length) (w : World) (hm : n ≤ 1048576) (H1 : ArcsAt w w.heap.size A L) :
    Calls Try.prog 72 #[.slice A n c] w fun e w' => e = .returned (.slice (some ⟨w.heap.size, 0, none⟩) n n) ∧ ArcsAt w' w'.heap.size (some ⟨w.heap.size, 0, none⟩) L ∧ Bl w w' ∧ RowW w' (some ⟨w.heap.size, 0, none⟩) n ∧ w.heap.size < w'.heap.size := by
  have K1 := Lib.hid H1
  have HN := Lib.hid hn
  clear H1 hn
  have hmk := make_arcs n hm
  go_enter Try.func72, Try.ntmps72
  go_wp2
  clear hmk
  go_loopw [4] (fun i wr => ∃ k : Nat, k ≤ n ∧ i = .int .i64 k ∧ Bl w wr ∧ ∃ f, wr.rowIs w.heap.size 130 (n * 3) f ∧ ∀ j (h : j < k) (h' : j < L.length), f (j * 3) = .int .i64 L[j].1 ∧ f (j * 3 + 1) = .int .i64 L[j].2.1 ∧ f (j * 3 + 2) = .int .i64 L[j].2.2) (fun i _ => n - (intOf i).toNat)
  case atStart => exact ⟨0, by omega, rfl, (by repeat' (first | exact Bl.refl _ | with_reducible assumption | with_reducible refine Bl.drew_ ?_ | with_reducible refine Bl.drewN_ ?_ _ | with_reducible refine Bl.alloc_ ?_ _ | with_reducible refine Bl.trans_ ?_ (by assumption) | with_reducible refine Bl.trans_ ?_ (And.left (by assumption)))), _, mk3_row _ _ _, fun j h => absurd h (by omega)⟩
  case round =>
    obtain ⟨k, hk, rfl, hbl, f, hrow, hf⟩ := hrel
    by_cases hlt : k < n
    · have hkl : k < L.length := by have := HN.out; omega
      obtain ⟨g1, o1, rfl, hg1, hc1⟩ := K1.out (by omega)
      obtain ⟨p1, p2, p3⟩ := hc1 k hkl
      rw [← (bcell hbl).1 _ _ hg1] at p1 p2 p3
      have F := Lib.hid hf
      have R := Lib.hid hrow
      clear hf hrow hc1
      go_wp2_with fail
      refine (toArc_any _ _ _ _).mono ?_
      rintro e w1 ⟨rfl, hb⟩
      have R1 := Lib.hid (row_bl R.out hb)
      have z1 := R1.out.cell (i := k * 3) (by omega)
      have z2 := R1.out.cell (i := k * 3 + 1) (by omega)
      have z3 := R1.out.cell (i := k * 3 + 2) (by omega)
      have y1 := R1.out.frozen (k * 3)
      have y2 := R1.out.frozen (k * 3 + 1)
      have y3 := R1.out.frozen (k * 3 + 2)
      go_wp2
      go_roundw
      case rel =>
        refine ⟨k + 1, by omega, by go_num, ((Bl.set_ (Bl.set_ (Bl.set_ (hbl.trans_ hb) (Nat.le_refl _) _) (Nat.le_refl _) _) (Nat.le_refl _) _)), _, (((R1.out.set (k * 3) _).set (k * 3 + 1) _).set (k * 3 + 2) _), fun j hj hj' => ?_⟩
        rcases Nat.lt_or_ge j k with h | h
        · rw [if_neg (by omega), if_neg (by omega), if_neg (by omega), if_neg (by omega), if_neg (by omega), if_neg (by omega), if_neg (by omega), if_neg (by omega), if_neg (by omega)]
          exact F.out j h hj'
        · have e : j = k := by omega
          subst e
          exact ⟨by rw [if_neg (by omega), if_neg (by omega), if_pos rfl], by rw [if_neg (by omega), if_pos rfl], by rw [if_pos rfl]⟩
      case measure => simp [intOf]; omega
    · go_wp2
      go_ret
      have e : k = n := by omega
      subst e
      refine ⟨rfl, fun h0 => ⟨w.heap.size, 0, rfl, hrow.lt, fun j hj => ?_⟩, hbl, fun _ => ⟨_, _, f, rfl, Nat.le_refl _, hrow⟩, hrow.lt⟩
      have hjk : j < k := by have := HN.out; omega
      obtain ⟨e1, e2, e3⟩ := hf j hjk hj
      rw [← e1, ← e2, ← e3]
      exact ⟨by rw [Nat.zero_add]; exact hrow.cell (by omega), by rw [Nat.zero_add]; exact hrow.cell (by omega), by rw [Nat.zero_add]; exact hrow.cell (by omega)⟩


/-- What toGraph leaves, and that its arcs may be written. -/
def GraphRow (N : Int) (n : Nat) (L : List Arc3) (w : World) (e : Ending) (w' : World) : Prop :=
  ∃ g, e = .returned (.agg #[.int .i64 N, .slice (some ⟨g, 0, none⟩) n n]) ∧ ArcsAt w' w'.heap.size (some ⟨g, 0, none⟩) L ∧ w.heap.size ≤ g ∧ Bl w w' ∧ RowW w' (some ⟨g, 0, none⟩) n ∧ g < w'.heap.size

set_option maxHeartbeats 400000 in
theorem toGraph_row (N : Int) (A : Option Addr) (n c : Nat) (L : List Arc3) (hn : n = L.length) (w : World) (hm : n ≤ 1048576) (H1 : ArcsAt w w.heap.size A L) :
    Calls Try.prog 22 #[.agg #[.int .i64 N, .slice A n c]] w (GraphRow N n L w) := by
  have K1 := Lib.hid H1
  have HN := Lib.hid hn
  clear H1 hn
  go_enter Try.func22, Try.ntmps22
  go_wp2_with fail
  refine (toArcS_row _ _ _ L HN.out _ hm (K1.out.bl (by repeat' (first | exact Bl.refl _ | with_reducible assumption | with_reducible refine Bl.drew_ ?_ | with_reducible refine Bl.drewN_ ?_ _ | with_reducible refine Bl.alloc_ ?_ _ | with_reducible refine Bl.trans_ ?_ (by assumption) | with_reducible refine Bl.trans_ ?_ (And.left (by assumption)))))).mono ?_
  rintro e w1 ⟨rfl, ha, hb, hro, hlt1⟩
  obtain ⟨hc, hf⟩ := bcell hb
  have HA := Lib.hid ha
  have hs := hb.size
  have HR := Lib.hid hro
  clear ha hro
  go_wp2
  refine bodyPost_ret (v := .agg #[.int .i64 N, .slice (some ⟨w.heap.size + 1 + 1 + 1, 0, none⟩) n n]) (by simp [results, Try.results22, go_sem, hc]) rfl ?_
  have HA' : ArcsAt w1 w1.heap.size (some ⟨w.heap.size + 1 + 1 + 1, 0, none⟩) L := by simpa only [World.size_alloc] using HA.out
  have HR' : RowW w1 (some ⟨w.heap.size + 1 + 1 + 1, 0, none⟩) n := by simpa only [World.size_alloc] using HR.out
  refine ⟨_, rfl, ?_, by omega, Bl.set_ (Bl.set_ (Bl.set_ (by repeat' (first | exact Bl.refl _ | with_reducible assumption | with_reducible refine Bl.drew_ ?_ | with_reducible refine Bl.drewN_ ?_ _ | with_reducible refine Bl.alloc_ ?_ _ | with_reducible refine Bl.trans_ ?_ (by assumption) | with_reducible refine Bl.trans_ ?_ (And.left (by assumption)))) ?_ _) ?_ _) ?_ _, fun h0 => ?_, by rw [World.size_setCell, World.size_setCell, World.size_setCell]; simpa only [World.size_alloc] using hlt1⟩
  · rw [World.size_setCell, World.size_setCell, World.size_setCell]
    exact ((HA'.set (by simp) _).set (by show w.heap.size + 1 ≠ w.heap.size + 1 + 1 + 1; omega) _).set (by show w.heap.size + 1 ≠ w.heap.size + 1 + 1 + 1; omega) _
  · show w.heap.size ≤ w.heap.size + 1 + 1; omega
  · show w.heap.size ≤ w.heap.size + 1; omega
  · show w.heap.size ≤ w.heap.size + 1; omega
  · obtain ⟨g, m, f, e, hm', hr⟩ := HR' h0
    injection e with e
    injection e with e1 e2 e3
    subst e1
    exact ⟨_, m, f, rfl, hm', ((hr.setOther (by show w.heap.size + 1 + 1 + 1 ≠ w.heap.size + 1 + 1; omega) _).setOther (by show w.heap.size + 1 + 1 + 1 ≠ w.heap.size + 1; omega) _).setOther (by show w.heap.size + 1 + 1 + 1 ≠ w.heap.size + 1; omega) _⟩

theorem ArcsAt.grown_ {w w' : World} {B : Nat} {A : Option Addr} {L : List Arc3} {row : Option Nat} (h : ArcsAt w B A L) (hB : B ≤ w.heap.size) (hg : w.grownBy w' row)
    (hne : ∀ g, blockOf A = some g → g < B → some g ≠ row) : ArcsAt w' B A L := fun hp => by
  obtain ⟨g, off, rfl, hlt, hc⟩ := h hp
  have hb := hg.block g (by omega) (hne g rfl hlt)
  exact ⟨g, off, rfl, hlt, fun k hk => by
    have q : ∀ o, w'.cell? ⟨g, o, none⟩ = w.cell? ⟨g, o, none⟩ := fun o => World.cell?_of_block hb
    rw [q, q, q]
    exact hc k hk⟩
theorem RowW.grown_ {w w' : World} {A : Option Addr} {n : Nat} {row : Option Nat} (h : RowW w A n) (hg : w.grownBy w' row) (hne : ∀ g, blockOf A = some g → some g ≠ row) : RowW w' A n := fun hp => by
  obtain ⟨g, m, f, rfl, hm, hr⟩ := h hp
  exact ⟨g, m, f, rfl, hm, hr.of_block (hg.block g hr.lt (hne g rfl))⟩
theorem OwnA.lt_ {w : World} {B : Nat} {A : Option Addr} {n c : Nat} {L : List Arc3} (h : OwnA w B (.slice A n c) L) : ∀ g, blockOf A = some g → B ≤ g ∧ g < w.heap.size := fun g hg =>
  h.lt g (by rw [ownBlock_slice]; exact hg)
theorem outsL_len (N : Int) (L : List Arc3) (u : Int) : (outsL N L u).length ≤ L.length := by
  unfold outsL
  split
  · exact List.length_filter_le _ _
  · simp

end Go.Proofs.Ytmdmbobjdhjadaa

set_option linter.unusedSimpArgs false
set_option linter.unusedVariables false
namespace Go.Proofs.Ytmdmbobjdhjadaa
open Go.RowKit

set_option maxRecDepth 100000 in
set_option maxHeartbeats 4000000 in
theorem l1Reverse_any (N : Int) (A : Option Addr) (n c : Nat) (L : List Arc3) (hn : n = L.length) (w : World) (hm : n ≤ 1048576) (H1 : ArcsAt w w.heap.size A L) :
    Calls Try.prog 89 #[.agg #[.int .i64 N, .slice A n c]] w (GraphMade1 N (revL L) w) := by
  have K1 := Lib.hid H1
  have HN := Lib.hid hn
  clear H1 hn
  have T0 := Lib.hid (show TS w (.cells #[.int .i64 N, .slice A n c] 42) (w.heap.size + 1) (w.heap.size + 2) N (.slice none 0 0) [] (((w.alloc (.cells #[.int .i64 N, .slice A n c] 42)).alloc (.cells #[.int .i64 0, .slice none 0 0] 42)).alloc (.cells #[.int .i64 N, .slice none 0 0] 42)) from by
    refine ⟨?_, ?_, OwnA.nil_ _ _, (by repeat' (first | exact Bl.refl _ | with_reducible assumption | with_reducible refine Bl.drew_ ?_ | with_reducible refine Bl.drewN_ ?_ _ | with_reducible refine Bl.alloc_ ?_ _ | with_reducible refine Bl.trans_ ?_ (by assumption) | with_reducible refine Bl.trans_ ?_ (And.left (by assumption)))), by omega, by omega⟩
    · have := Two.new ((w.alloc (.cells #[.int .i64 N, .slice A n c] 42)).alloc (.cells #[.int .i64 0, .slice none 0 0] 42)) (.int .i64 N) (.slice none 0 0)
      simpa using this
    · have := Two.new (w.alloc (.cells #[.int .i64 N, .slice A n c] 42)) (.int .i64 0) (.slice none 0 0)
      have := this.bl (Bl.alloc_ (Bl.refl _) (.cells #[.int .i64 N, .slice none 0 0] 42))
      simpa using this)
  go_enter Try.func89, Try.ntmps89
  go_wp2_with fail
  go_loopw [4] (fun i wr => ∃ (k : Nat) (q : Value), k ≤ n ∧ i = .int .i64 k ∧ TS w (.cells #[.int .i64 N, .slice A n c] 42) (w.heap.size + 1) (w.heap.size + 2) N q (revK L k) wr) (fun i _ => n - (intOf i).toNat)
  case atStart => exact ⟨0, _, by omega, rfl, T0.out⟩
  case round =>
    obtain ⟨k, q, hk, rfl, hT⟩ := hrel
    obtain ⟨h00, h01⟩ := box2 hT.bl
    obtain ⟨c0, c1, f0, f1⟩ := hT.box.facts
    obtain ⟨AQ, cq, rfl, hAQ, -⟩ := hT.own.shape
    have T := Lib.hid hT
    have Q := Lib.hid hAQ
    have hbw : Bl w wr := (Bl.alloc_ (Bl.refl w) _).trans_ hT.bl
    have HB := Lib.hid hbw
    clear hT hAQ T0
    by_cases hlt : k < n
    · have hkl : k < L.length := by have := HN.out; omega
      obtain ⟨g1, o1, rfl, hg1, hc1⟩ := K1.out (by omega)
      obtain ⟨p1, p2, p3⟩ := hc1 k hkl
      clear hc1
      rw [← (bcell hbw).1 _ _ hg1] at p1 p2 p3
      have RK := Lib.hid (revK_succ hkl)
      have hlen := revK_len L k (by omega)
      generalize hx : L[k].1 = x at p1
      generalize hy : L[k].2.1 = y at p2
      generalize hz : L[k].2.2 = z at p3
      have HE := Lib.hid (show turnA L[k] = (y, x, z) from by unfold turnA; rw [hx, hy, hz])
      clear hx hy hz hbw
      obtain ⟨l, hl⟩ : ∃ l, l = (revK L k).length := ⟨_, rfl⟩
      rw [← hl] at hlen c1 T
      have HL := Lib.hid hl
      clear hl
      have u1 : (0 : Int) ≤ (k : Int) := by omega
      have u2 : (k : Int) < (n : Int) := by omega
      go_wp2_with fail
      have TD := Lib.hid (T.out.bl_ (show Bl wr wr.drew from (by repeat' (first | exact Bl.refl _ | with_reducible assumption | with_reducible refine Bl.drew_ ?_ | with_reducible refine Bl.drewN_ ?_ _ | with_reducible refine Bl.alloc_ ?_ _ | with_reducible refine Bl.trans_ ?_ (by assumption) | with_reducible refine Bl.trans_ ?_ (And.left (by assumption))))))
      have e0 := (TD.out.box.facts).1
      go_still_tail 21, (by kernel_rfl)
      change wpList _ _ _ _ _ wr.drew
      go_wp2_with fail
      refine (l1Put_any y x z AQ l cq (revK L k) HL.out _ (by omega) (Q.out.bl (by repeat' (first | exact Bl.refl _ | with_reducible assumption | with_reducible refine Bl.drew_ ?_ | with_reducible refine Bl.drewN_ ?_ _ | with_reducible refine Bl.alloc_ ?_ _ | with_reducible refine Bl.trans_ ?_ (by assumption) | with_reducible refine Bl.trans_ ?_ (And.left (by assumption)))))).mono ?_
      rintro e w9 ⟨v4, rfl, ho, hb⟩
      obtain ⟨AB, cb, rfl, -, -⟩ := ho.shape
      have hlen2 := putL_len (y, x, z) (revK L k)
      have U4 := Lib.hid (TD.out.bl_ hb)
      have O4 := Lib.hid (U4.out.put (q2 := _) (L2 := putL (y, x, z) (revK L k)) (ho.low (World.rowIs.lt TD.out.box)))
      obtain ⟨d0, d1, k0, k1⟩ := U4.out.box.facts
      clear ho c0 c1 f0 f1 e0
      go_wp2
      go_roundw
      case rel => exact ⟨k + 1, _, by omega, by go_num, by rw [RK.out, HE.out]; exact O4.out⟩
      case measure => simp [intOf]; omega
    · obtain rfl : k = n := by omega
      have RA := Lib.hid (show revK L k = revL L from by rw [HN.out]; exact revK_all L)
      obtain ⟨r0, r1, fr0, fr1⟩ := T.out.res.facts
      go_wp2
      refine bodyPost_ret (v := .agg #[.int .i64 N, .slice AQ (revK L k).length cq]) (by simp [results, Try.results89, go_sem, r0, r1, fr0, fr1]) rfl ?_
      have := T.out.fin (.int .i64 N) (.slice AQ (revK L k).length cq)
      rw [RA.out] at this ⊢
      exact ⟨_, rfl, this.1, this.2⟩

set_option maxRecDepth 100000 in
set_option maxHeartbeats 1000000 in
theorem specReversed_any (N : Int) (A : Option Addr) (n c : Nat) (L : List Arc3) (hn : n = L.length) (w : World) (hm : n ≤ 1048576) (H1 : ArcsAt w w.heap.size A L) :
    Calls Try.prog 51 #[.agg #[.int .i64 N, .slice A n c]] w (GraphMade1 (revN N L) (revG N L) w) := by
  have K1 := Lib.hid H1
  have HN := Lib.hid hn
  clear H1 hn
  cases ho : okB N L with
  | false =>
    have HO := Lib.hid ho
    clear ho
    go_enter Try.func51, Try.ntmps51
    go_wp2_with fail
    refine (specOk_any N A n c L HN.out _ (by omega) (K1.out.bl (by repeat' (first | exact Bl.refl _ | with_reducible assumption | with_reducible refine Bl.drew_ ?_ | with_reducible refine Bl.drewN_ ?_ _ | with_reducible refine Bl.alloc_ ?_ _ | with_reducible refine Bl.trans_ ?_ (by assumption) | with_reducible refine Bl.trans_ ?_ (And.left (by assumption)))))).mono ?_
    rintro e w1 ⟨rfl, hb1⟩
    rw [HO.out]
    obtain ⟨h00, h01, h10, h11, f10, f11, hsz⟩ := box22 hb1
    go_wp2
    refine bodyPost_ret (v := .agg #[.int .i64 0, .slice none 0 0]) (by simp [results, Try.results51, go_sem, h10, h11, f10, f11]) rfl ?_
    refine ⟨.slice none 0 0, by unfold revN; rw [HO.out]; rfl, by unfold revG; rw [HO.out, if_neg (by simp)]; exact OwnA.nil_ _ _, ?_⟩
    exact Bl.set_ (Bl.set_ ((Bl.alloc_ (Bl.alloc_ (Bl.refl w) _) _).trans_ hb1) (Nat.le_succ _) _) (Nat.le_succ _) _
  | true =>
    have HO := Lib.hid ho
    clear ho
    go_enter Try.func51, Try.ntmps51
    go_wp2_with fail
    refine (specOk_any N A n c L HN.out _ (by omega) (K1.out.bl (by repeat' (first | exact Bl.refl _ | with_reducible assumption | with_reducible refine Bl.drew_ ?_ | with_reducible refine Bl.drewN_ ?_ _ | with_reducible refine Bl.alloc_ ?_ _ | with_reducible refine Bl.trans_ ?_ (by assumption) | with_reducible refine Bl.trans_ ?_ (And.left (by assumption)))))).mono ?_
    rintro e w1 ⟨rfl, hb1⟩
    rw [HO.out]
    obtain ⟨h00, h01, h10, h11, f10, f11, hsz⟩ := box22 hb1
    go_wp2_with fail
    refine (l1Reverse_any N A n c L HN.out _ hm (K1.out.bl (by repeat' (first | exact Bl.refl _ | with_reducible assumption | with_reducible refine Bl.drew_ ?_ | with_reducible refine Bl.drewN_ ?_ _ | with_reducible refine Bl.alloc_ ?_ _ | with_reducible refine Bl.trans_ ?_ (by assumption) | with_reducible refine Bl.trans_ ?_ (And.left (by assumption)))))).mono ?_
    rintro e w2 ⟨v, rfl, hv, hb2⟩
    have HV := Lib.hid hv
    have hb2 := hb1.trans_ hb2
    obtain ⟨A2, c2, rfl, -, -⟩ := hv.shape
    clear hv h00 h01 h10 h11 f10 f11
    obtain ⟨h00, h01, h10, h11, f10, f11, hsz2⟩ := box22 hb2
    go_wp2
    refine bodyPost_ret (v := .agg #[.int .i64 N, .slice A2 (revL L).length c2]) (by simp [results, Try.results51, go_sem, h10, h11, f10, f11]) rfl ?_
    refine ⟨_, by unfold revN; rw [HO.out]; rfl, ?_, Bl.set_ (Bl.set_ ((Bl.alloc_ (Bl.alloc_ (Bl.refl w) _) _).trans_ hb2) (Nat.le_succ _) _) (Nat.le_succ _) _⟩
    unfold revG
    rw [HO.out, if_pos rfl]
    exact ((HV.out.set_ (by show w.heap.size + 1 < _; omega) _).set_ (by show w.heap.size + 1 < _; omega) _).low (by omega)

end Go.Proofs.Ytmdmbobjdhjadaa

set_option linter.unusedSimpArgs false
set_option linter.unusedVariables false
namespace Go.Proofs.Ytmdmbobjdhjadaa
open Go.RowKit

def leftB (D E V : List Int) (v : Int) : Bool := decide (0 ≤ dAt D v ∧ 0 ≤ dAt E v ∧ min (dAt D v) (dAt E v) ≤ V.getD v.toNat 0)
/-- The nodes below k that reaches leave. -/
def leftK (D E V : List Int) (k : Nat) : List Int := ((List.range k).map Int.ofNat).filter (leftB D E V)
theorem leftK_zero (D E V : List Int) : leftK D E V 0 = [] := rfl
theorem leftK_yes {D E V : List Int} {k : Nat} (h : leftB D E V (k : Int) = true) : leftK D E V (k + 1) = leftK D E V k ++ [(k : Int)] := by
  unfold leftK
  rw [List.range_succ, List.map_append, List.filter_append]
  simp [h]
theorem leftK_no {D E V : List Int} {k : Nat} (h : leftB D E V (k : Int) = false) : leftK D E V (k + 1) = leftK D E V k := by
  unfold leftK
  rw [List.range_succ, List.map_append, List.filter_append]
  simp [h]
theorem leftK_len (D E V : List Int) (k : Nat) : (leftK D E V k).length ≤ k := by
  unfold leftK
  have := List.length_filter_le (leftB D E V) ((List.range k).map Int.ofNat)
  simp at this
  exact this
theorem leftB_at {D E V : List Int} {k : Nat} (h : k < D.length) (h' : k < E.length) (h2 : k < V.length) : leftB D E V (k : Int) = decide (0 ≤ D[k] ∧ 0 ≤ E[k] ∧ min D[k] E[k] ≤ V[k]) := by
  unfold leftB
  rw [dAt_at h, dAt_at h']
  simp [h2]
theorem leftK_same {D E D' E' V : List Int} {k : Nat} (hD : ∀ v : Int, 0 ≤ v → v < k → dAt D v = dAt D' v) (hE : ∀ v : Int, 0 ≤ v → v < k → dAt E v = dAt E' v) : leftK D E V k = leftK D' E' V k := by
  unfold leftK
  refine List.filter_congr fun v hv => ?_
  obtain ⟨j, hj, rfl⟩ := List.mem_map.1 hv
  rw [List.mem_range] at hj
  have h0 : (0 : Int) ≤ Int.ofNat j := Int.natCast_nonneg j
  have h1 : Int.ofNat j < (k : Int) := by show (j : Int) < (k : Int); omega
  unfold leftB
  rw [hD _ h0 h1, hE _ h0 h1]
/-- Are reaches asked as they should be? -/
def askB (N : Int) (L : List Arc3) (V : List Int) (s t : Int) : Bool := reachB N L V && (decide (0 ≤ s ∧ s < N) && decide (0 ≤ t ∧ t < N))
theorem askB_no1 {N s t : Int} {L : List Arc3} {V : List Int} (h : reachB N L V = false) : askB N L V s t = false := by unfold askB; rw [h, Bool.false_and]
theorem askB_no2 {N s t : Int} {L : List Arc3} {V : List Int} (h : decide (0 ≤ s ∧ s < N) = false) : askB N L V s t = false := by unfold askB; rw [h, Bool.false_and, Bool.and_false]
theorem askB_no3 {N s t : Int} {L : List Arc3} {V : List Int} (h : decide (0 ≤ t ∧ t < N) = false) : askB N L V s t = false := by unfold askB; rw [h, Bool.and_false, Bool.and_false]
theorem askB_yes {N s t : Int} {L : List Arc3} {V : List Int} (h : reachB N L V = true) (hs : decide (0 ≤ s ∧ s < N) = true) (ht : decide (0 ≤ t ∧ t < N) = true) : askB N L V s t = true := by unfold askB; rw [h, hs, ht]; rfl
theorem askB_elim {N s t : Int} {L : List Arc3} {V : List Int} (h : askB N L V s t = true) : reachB N L V = true ∧ (0 ≤ s ∧ s < N) ∧ (0 ≤ t ∧ t < N) := by
  unfold askB at h
  simp only [Bool.and_eq_true, decide_eq_true_eq] at h
  exact h
def prunedL (N : Int) (L : List Arc3) (V : List Int) (s t : Int) : List Int := if askB N L V s t = true then leftK (distL N L s) (distL N (revL L) t) V N.toNat else []
theorem prunedL_no {N s t : Int} {L : List Arc3} {V : List Int} (h : askB N L V s t = false) : prunedL N L V s t = [] := if_neg (by rw [h]; simp)
theorem prunedL_len (N : Int) (L : List Arc3) (V : List Int) (s t : Int) : (prunedL N L V s t).length ≤ 1048576 := by
  unfold prunedL
  split
  · rename_i h
    have h1 := (okB_elim (reachB_ok (askB_elim h).1).1).2.1
    have h2 := leftK_len (distL N L s) (distL N (revL L) t) V N.toNat
    omega
  · simp

set_option maxRecDepth 100000 in
set_option maxHeartbeats 4000000 in
theorem specPruned_any (N s t : Int) (A : Option Addr) (n c : Nat) (L : List Arc3) (hn : n = L.length) (A2 : Option Addr) (kk c2 : Nat) (V : List Int) (hk : kk = V.length) (w : World) (hm : n ≤ 1048576) (hkm : kk ≤ 1048576) (H1 : ArcsAt w w.heap.size A L) (H2 : IntsAt w w.heap.size A2 V) :
    Calls Try.prog 40 #[.agg #[.int .i64 N, .slice A n c], .slice A2 kk c2, .int .i64 s, .int .i64 t] w (NumsMade (prunedL N L V s t) w) := by
  obtain ⟨i0, hi, hz0, hz1, hz2⟩ := info_parts infoInt
  have I0 := Lib.hid hi
  have I1 := Lib.hid hz0
  have I2 := Lib.hid hz1
  have I3 := Lib.hid hz2
  have K1 := Lib.hid H1
  have K2 := Lib.hid H2
  have HN := Lib.hid hn
  have HK := Lib.hid hk
  have O0 := Lib.hid (show ∀ wx, Bl ((w.alloc (.cells #[.int .i64 N, .slice A n c] 42)).alloc (.cells #[] 2)) wx → OwnN wx (w.heap.size + 1) (.slice (some ⟨w.heap.size + 1, 0, none⟩) 0 0) [] from fun wx hb => by
    have h := World.ownsRow_made (base := w.heap.size + 1) (e := 2) (size := 1) (w.alloc (.cells #[.int .i64 N, .slice A n c] 42)) #[] 0 (by simp) (by unfold maxLen; omega) rfl
    rw [World.size_alloc] at h
    exact OwnN.bl h hb)
  have BX := Lib.hid (show ∀ wx, Bl ((w.alloc (.cells #[.int .i64 N, .slice A n c] 42)).alloc (.cells #[] 2)) wx → wx.cell? ⟨w.heap.size, 0, none⟩ = some (.int .i64 N) ∧ wx.cell? ⟨w.heap.size, 1, none⟩ = some (.slice A n c) from fun wx hb => box2 ((Bl.alloc_ (Bl.refl (w.alloc (.cells #[.int .i64 N, .slice A n c] 42))) _).trans_ hb))
  have BW := Lib.hid (show ∀ wx, Bl ((w.alloc (.cells #[.int .i64 N, .slice A n c] 42)).alloc (.cells #[] 2)) wx → Bl w wx from fun wx hb => (Bl.alloc_ (Bl.alloc_ (Bl.refl w) _) _).trans_ hb)
  clear H1 H2 hn hk hi hz0 hz1 hz2
  cases hr : reachB N L V with
  | false =>
    have AB := Lib.hid (prunedL_no (askB_no1 (s := s) (t := t) hr))
    have RB := Lib.hid hr
    clear hr
    go_enter Try.func40, Try.ntmps40
    go_wp2_with fail
    refine (specReachOk_any N A n c L HN.out A2 kk c2 V HK.out _ hm hkm (K1.out.bl (by repeat' (first | exact Bl.refl _ | with_reducible assumption | with_reducible refine Bl.drew_ ?_ | with_reducible refine Bl.drewN_ ?_ _ | with_reducible refine Bl.alloc_ ?_ _ | with_reducible refine Bl.trans_ ?_ (by assumption) | with_reducible refine Bl.trans_ ?_ (And.left (by assumption))))) (K2.out.bl (by repeat' (first | exact Bl.refl _ | with_reducible assumption | with_reducible refine Bl.drew_ ?_ | with_reducible refine Bl.drewN_ ?_ _ | with_reducible refine Bl.alloc_ ?_ _ | with_reducible refine Bl.trans_ ?_ (by assumption) | with_reducible refine Bl.trans_ ?_ (And.left (by assumption)))))).mono ?_
    rintro e w1 ⟨rfl, hb1⟩
    rw [RB.out]
    go_wp2
    go_ret
    exact ⟨_, rfl, by rw [AB.out]; exact (O0.out _ hb1).low (by omega), BW.out _ hb1⟩
  | true =>
    have RB := Lib.hid hr
    have HO := Lib.hid (reachB_ok hr).1
    have ho := HO.out
    have HNS := Lib.hid (nodeB_ok (v := s) ho)
    have HNT := Lib.hid (nodeB_ok (v := t) ho)
    clear hr
    by_cases hs : 0 ≤ s ∧ s < N
    · have hsd : decide (0 ≤ s ∧ s < N) = true := by simpa using hs
      have HS := Lib.hid hsd
      by_cases ht : 0 ≤ t ∧ t < N
      · have htd : decide (0 ≤ t ∧ t < N) = true := by simpa using ht
        have HT := Lib.hid htd
        have AB := Lib.hid (askB_yes RB.out hsd htd)
        clear hsd htd
        go_enter Try.func40, Try.ntmps40
        go_wp2_with fail
        refine (specReachOk_any N A n c L HN.out A2 kk c2 V HK.out _ hm hkm (K1.out.bl (by repeat' (first | exact Bl.refl _ | with_reducible assumption | with_reducible refine Bl.drew_ ?_ | with_reducible refine Bl.drewN_ ?_ _ | with_reducible refine Bl.alloc_ ?_ _ | with_reducible refine Bl.trans_ ?_ (by assumption) | with_reducible refine Bl.trans_ ?_ (And.left (by assumption))))) (K2.out.bl (by repeat' (first | exact Bl.refl _ | with_reducible assumption | with_reducible refine Bl.drew_ ?_ | with_reducible refine Bl.drewN_ ?_ _ | with_reducible refine Bl.alloc_ ?_ _ | with_reducible refine Bl.trans_ ?_ (by assumption) | with_reducible refine Bl.trans_ ?_ (And.left (by assumption)))))).mono ?_
        rintro e w1 ⟨rfl, hb1⟩
        rw [RB.out]
        obtain ⟨q0, q1⟩ := BX.out _ hb1
        go_wp2_with fail
        refine (l1Node_any N s _ _).mono ?_
        rintro e w2 ⟨rfl, hb2⟩
        rw [HNS.out, HS.out]
        have hb2 := hb1.trans_ hb2
        obtain ⟨q0, q1⟩ := BX.out _ hb2
        go_wp2_with fail
        refine (l1Node_any N t _ _).mono ?_
        rintro e w3 ⟨rfl, hb3⟩
        rw [HNT.out, HT.out]
        have hb3 := hb2.trans_ hb3
        obtain ⟨q0, q1⟩ := BX.out _ hb3
        have hN24 := (okB_elim ho).2.1
        have hL150 := (okB_elim ho).2.2.1
        have HRO := Lib.hid (revL_ok ho)
        have HRL := Lib.hid (revL_len (okB_elim ho).2.2.2.2)
        have HD := Lib.hid (distL_is (s := s) (arcsIn_of_ok ho) hN24 hs.1 hs.2)
        have HE := Lib.hid (distL_is (s := t) (arcsIn_of_ok (revL_ok ho)) hN24 ht.1 ht.2)
        have HDT := Lib.hid (fun v => distL_top (s := s) ho hs.1 hs.2 v)
        have HET := Lib.hid (fun v => distL_top (s := t) (revL_ok ho) ht.1 ht.2 v)
        have HDl := Lib.hid (show (distL N L s).length = N.toNat from distL_len ho hs.1 hs.2)
        have HEl := Lib.hid (show (distL N (revL L) t).length = N.toNat from distL_len (revL_ok ho) ht.1 ht.2)
        have HV := Lib.hid (show prunedL N L V s t = leftK (distL N L s) (distL N (revL L) t) V N.toNat from by
          unfold prunedL
          rw [if_pos AB.out])
        have hVl := (reachB_ok RB.out).2
        go_wp2_with fail
        refine (l3Dist_any N s A n c L HN.out HO.out hs.1 hs.2 _ hm (K1.out.bl (BW.out _ hb3))).mono ?_
        rintro e w4 ⟨v4, rfl, hv4, hb4⟩
        obtain ⟨A4, c4, rfl, -, hi4, -, lo4⟩ := OwnN.shape hv4
        have LO4 := Lib.hid (show ∀ g, blockOf A4 = some g → w.heap.size + 1 < g from fun g hg => by have := lo4 g hg; have := hb3.size; simp at this; omega)
        have J4 := Lib.hid hi4
        have hb4 := hb3.trans_ hb4
        obtain ⟨q0, q1⟩ := BX.out _ hb4
        clear hv4 hi4
        go_wp2_with fail
        refine (l1Reverse_any N A n c L HN.out _ hm (K1.out.bl (BW.out _ hb4))).mono ?_
        rintro e w5 ⟨v5, rfl, hv5, hb5⟩
        obtain ⟨A5, c5, rfl, ha5, -⟩ := hv5.shape
        have J5 := Lib.hid ha5
        have JJ5 := Lib.hid (J4.out.bl hb5)
        have hb5 := hb4.trans_ hb5
        clear hv5 ha5
        go_wp2_with fail
        refine (l3Dist_any N t A5 (revL L).length c5 (revL L) rfl HRO.out ht.1 ht.2 _ (by rw [HRL.out]; omega) J5.out).mono ?_
        rintro e w6 ⟨v6, rfl, hv6, hb6⟩
        obtain ⟨A6, c6, rfl, -, hi6, -, lo6⟩ := OwnN.shape hv6
        have LO6 := Lib.hid (show ∀ g, blockOf A6 = some g → w.heap.size + 1 < g from fun g hg => by have := lo6 g hg; have := hb5.size; simp at this; omega)
        have J6 := Lib.hid hi6
        have JJ6 := Lib.hid (JJ5.out.bl hb6)
        have hb6 := hb5.trans_ hb6
        have O6 := Lib.hid (O0.out _ hb6)
        have P6 := Lib.hid hb6
        clear hv6 hi6 q0 q1 hb1 hb2 hb3 hb4 hb5 hb6 ho
        obtain ⟨k, rfl⟩ : ∃ k : Nat, N = k := ⟨N.toNat, by omega⟩
        have hDl := HDl.out
        have hEl := HEl.out
        rw [Int.toNat_natCast] at hDl hEl
        obtain ⟨q, rfl⟩ : ∃ q : Nat, t = q := ⟨t.toNat, by omega⟩
        have hqk : q < k := by omega
        rw [hDl, hEl]
        generalize distL k L s = D at *
        generalize distL k (revL L) q = E at *
        go_wp2_with fail
        go_loopw [9, 12] (fun vv i wr => ∃ (j : Nat) (v : Value), j ≤ k ∧ v = vv ∧ i = .int .i64 j ∧ OwnN wr (w.heap.size + 1) v (leftK D E V j) ∧ Turn (fun i => i = w.heap.size + 1) w6 wr ∧ ∀ g, v.ownBlock = some g → g = w.heap.size + 1 ∨ w6.heap.size ≤ g) (fun _ i _ => k - (intOf i).toNat)
        case atStart => exact ⟨0, _, by omega, rfl, rfl, by rw [leftK_zero]; exact O6.out, Turn.refl _ _, fun g hg => by simp [Value.ownBlock] at hg; omega⟩
        case round =>
          obtain ⟨j, v, hj, rfl, rfl, hO, hT, hVO⟩ := hrel
          have O := Lib.hid hO
          have hG : Bl (w.alloc (.cells #[.int .i64 (k : Int), .slice A n c] 42)) wr := Turn.to_bl ((Bl.alloc_ (Bl.refl _) _).trans_ P6.out) hT (fun i e => by simp; omega)
          obtain ⟨q0, q1⟩ := box2 hG
          have T := Lib.hid hT
          have VO := Lib.hid hVO
          have hsz := hG.size
          simp only [World.size_alloc] at hsz
          have hszT := hT.size
          have hs6 := P6.out.size
          simp only [World.size_alloc] at hs6
          have hwl := leftK_len D E V j
          clear hO
          by_cases hlt : j < k
          · have i1 : (j : Int) < (k : Int) := by omega
            have hjD : j < D.length := by omega
            have hjE : j < E.length := by omega
            have hjV : j < V.length := by omega
            obtain ⟨g1, o1, rfl, hg1, hc1⟩ := (show IntsAt wr w6.heap.size A4 D from CellsAt.turn JJ6.out (Nat.le_refl _) hT (fun g hg _ e => by have := LO4.out g hg; omega)).cell (by omega)
            obtain ⟨g2, o2, rfl, hg2, hc2⟩ := (show IntsAt wr w6.heap.size A6 E from CellsAt.turn J6.out (Nat.le_refl _) hT (fun g hg _ e => by have := LO6.out g hg; omega)).cell (by omega)
            have p1 := hc1 j hjD
            have p2 := hc2 j hjE
            obtain ⟨g3, o3, rfl, hg3, hc3⟩ := K2.out.cell (by omega)
            have p3 := ((bcell ((Bl.alloc_ (Bl.refl w) _).trans_ hG)).1 _ _ hg3).trans (hc3 j hjV)
            clear hc1 hc2 hc3
            have BY := Lib.hid (leftB_at (V := V) hjD hjE hjV)
            have YES := Lib.hid (fun h => leftK_yes (D := D) (E := E) (V := V) (k := j) h)
            have NO := Lib.hid (fun h => leftK_no (D := D) (E := E) (V := V) (k := j) h)
            have hd0 := HDT.out j
            have he0 := HET.out j
            rw [dAt_at hjD] at hd0
            rw [dAt_at hjE] at he0
            generalize D[j] = d at *
            generalize E[j] = e at *
            generalize V[j] = r at *
            have j0 : (0 : Int) ≤ (j : Int) := by omega
            have ik : (j : Int) < (kk : Int) := by have := HK.out; omega
            have sz0 : w.heap.size ≤ wr.heap.size := by omega
            have HSH := Lib.hid (show ∀ wx, Bl wr wx → Bl wr wx ∧ wx.cell? ⟨g1, o1 + j, none⟩ = some (.int .i64 d) ∧ wx.cell? ⟨g2, o2 + j, none⟩ = some (.int .i64 e) ∧ wx.cell? ⟨g3, o3 + j, none⟩ = some (.int .i64 r) from fun wx hb =>
              ⟨hb, ((bcell hb).1 _ _ (by omega)).trans p1, ((bcell hb).1 _ _ (by omega)).trans p2, ((bcell hb).1 _ _ (by omega)).trans p3⟩)
            clear p1 p2 p3
            clear hd0 he0
            by_cases h1 : 0 ≤ d
            · have b1 : decide (0 ≤ d) = true := by simpa using h1
              by_cases h2 : 0 ≤ e
              · have b2 : decide (0 ≤ e) = true := by simpa using h2
                by_cases h3 : min d e ≤ r
                · have b3 : decide (min d e ≤ r) = true := by simpa using h3
                  have HY := Lib.hid (YES.out (by rw [BY.out, decide_eq_true_eq]; exact ⟨h1, h2, h3⟩))
                  clear YES NO BY
                  go_wp2_with fail
                  refine wp_region_held_drew (S := fun wx => Bl wr wx ∧ wx.cell? ⟨g1, o1 + j, none⟩ = some (.int .i64 d) ∧ wx.cell? ⟨g2, o2 + j, none⟩ = some (.int .i64 e) ∧ wx.cell? ⟨g3, o3 + j, none⟩ = some (.int .i64 r)) (by kernel_rfl) ?_ (fun hHeld => ?_)
                  · (exact HSH.out _ (by repeat' (first | exact Bl.refl _ | with_reducible assumption | with_reducible refine Bl.drew_ ?_ | with_reducible refine Bl.drewN_ ?_ _ | with_reducible refine Bl.alloc_ ?_ _ | with_reducible refine Bl.trans_ ?_ (by assumption) | with_reducible refine Bl.trans_ ?_ (And.left (by assumption)))))
                  refine wpAnyH_take (i := 0) (v := ?_) rfl (by kernel_rfl) (by kernel_rfl) (by kernel_rfl) (fun _ _ _ h => h) (Or.inl ⟨by kernel_rfl, ?_⟩) (by assumption) ?_
                  rotate_left
                  · (intro wx hSw; (try dsimp only at hSw); go_simp; try (with_reducible rfl))
                  try simp only [Act.put, List.getElem_toArray, List.getElem_cons_succ, List.getElem_cons_zero, List.setIfInBounds_toArray, List.set_cons_zero, List.set_cons_succ]
                  refine wpAnyH_take (i := 1) (v := ?_) rfl (by kernel_rfl) (by kernel_rfl) (by kernel_rfl) (fun _ _ _ h => h) (Or.inl ⟨by kernel_rfl, ?_⟩) (by assumption) ?_
                  rotate_left
                  · (intro wx hSw; (try dsimp only at hSw); go_simp; try (with_reducible rfl))
                  try simp only [Act.put, List.getElem_toArray, List.getElem_cons_succ, List.getElem_cons_zero, List.setIfInBounds_toArray, List.set_cons_zero, List.set_cons_succ]
                  refine wpAnyH_take (i := 2) (v := ?_) rfl (by kernel_rfl) (by kernel_rfl) (by kernel_rfl) (fun _ _ _ h => h) (Or.inl ⟨by kernel_rfl, ?_⟩) (by assumption) ?_
                  rotate_left
                  · (intro wx hSw; (try dsimp only at hSw); go_simp; try (with_reducible rfl))
                  try simp only [Act.put, List.getElem_toArray, List.getElem_cons_succ, List.getElem_cons_zero, List.setIfInBounds_toArray, List.set_cons_zero, List.set_cons_succ]
                  refine wpAnyH_take (i := 3) (v := ?_) rfl (by kernel_rfl) (by kernel_rfl) (by kernel_rfl) (fun _ _ _ h => h) (Or.inl ⟨by kernel_rfl, ?_⟩) (by assumption) ?_
                  rotate_left
                  · (intro wx hSw; (try dsimp only at hSw); go_simp; try (with_reducible rfl))
                  try simp only [Act.put, List.getElem_toArray, List.getElem_cons_succ, List.getElem_cons_zero, List.setIfInBounds_toArray, List.set_cons_zero, List.set_cons_succ]
                  refine wpAnyH_take (i := 4) (v := ?_) rfl (by kernel_rfl) (by kernel_rfl) (by kernel_rfl) (fun _ _ _ h => h) (Or.inl ⟨by kernel_rfl, ?_⟩) (by assumption) ?_
                  rotate_left
                  · (intro wx hSw; (try dsimp only at hSw); go_simp; try (with_reducible rfl))
                  try simp only [Act.put, List.getElem_toArray, List.getElem_cons_succ, List.getElem_cons_zero, List.setIfInBounds_toArray, List.set_cons_zero, List.set_cons_succ]
                  refine wpAnyH_take (i := 5) (v := ?_) rfl (by kernel_rfl) (by kernel_rfl) (by kernel_rfl) (fun _ _ _ h => h) (Or.inl ⟨by kernel_rfl, ?_⟩) (by assumption) ?_
                  rotate_left
                  · (intro wx hSw; (try dsimp only at hSw); go_simp; try (with_reducible rfl))
                  try simp only [Act.put, List.getElem_toArray, List.getElem_cons_succ, List.getElem_cons_zero, List.setIfInBounds_toArray, List.set_cons_zero, List.set_cons_succ]
                  refine wpAnyH_take (i := 6) (v := ?_) rfl (by kernel_rfl) (by kernel_rfl) (by kernel_rfl) (fun _ _ _ h => h) (Or.inl ⟨by kernel_rfl, ?_⟩) (by assumption) ?_
                  rotate_left
                  · (intro wx hSw; (try dsimp only at hSw); go_simp; try (with_reducible rfl))
                  try simp only [Act.put, List.getElem_toArray, List.getElem_cons_succ, List.getElem_cons_zero, List.setIfInBounds_toArray, List.set_cons_zero, List.set_cons_succ]
                  refine wpAnyH_take (i := 7) (v := ?_) rfl (by kernel_rfl) (by kernel_rfl) (by kernel_rfl) (fun _ _ _ h => h) (Or.inl ⟨by kernel_rfl, ?_⟩) (by assumption) ?_
                  rotate_left
                  · (intro wx hSw; (try dsimp only at hSw); go_simp; try (with_reducible rfl))
                  try simp only [Act.put, List.getElem_toArray, List.getElem_cons_succ, List.getElem_cons_zero, List.setIfInBounds_toArray, List.set_cons_zero, List.set_cons_succ]
                  refine wpAnyH_take (i := 8) (v := ?_) rfl (by kernel_rfl) (by kernel_rfl) (by kernel_rfl) (fun _ _ _ h => h) (Or.inl ⟨by kernel_rfl, ?_⟩) (by assumption) ?_
                  rotate_left
                  · (intro wx hSw; (try dsimp only at hSw); go_simp; try (with_reducible rfl))
                  try simp only [Act.put, List.getElem_toArray, List.getElem_cons_succ, List.getElem_cons_zero, List.setIfInBounds_toArray, List.set_cons_zero, List.set_cons_succ]
                  refine wpAnyH_take (i := 9) (v := ?_) rfl (by kernel_rfl) (by kernel_rfl) (by kernel_rfl) (fun _ _ _ h => h) (Or.inl ⟨by kernel_rfl, ?_⟩) (by assumption) ?_
                  rotate_left
                  · (intro wx hSw; (try dsimp only at hSw); go_simp; try (with_reducible rfl))
                  try simp only [Act.put, List.getElem_toArray, List.getElem_cons_succ, List.getElem_cons_zero, List.setIfInBounds_toArray, List.set_cons_zero, List.set_cons_succ]
                  refine wpAnyH_take (i := 10) (v := ?_) rfl (by kernel_rfl) (by kernel_rfl) (by kernel_rfl) (fun _ _ _ h => h) (Or.inl ⟨by kernel_rfl, ?_⟩) (by assumption) ?_
                  rotate_left
                  · (intro wx hSw; (try dsimp only at hSw); go_simp; try (with_reducible rfl))
                  try simp only [Act.put, List.getElem_toArray, List.getElem_cons_succ, List.getElem_cons_zero, List.setIfInBounds_toArray, List.set_cons_zero, List.set_cons_succ]
                  refine wpAnyH_take (i := 11) (v := ?_) rfl (by kernel_rfl) (by kernel_rfl) (by kernel_rfl) (fun _ _ _ h => h) (Or.inl ⟨by kernel_rfl, ?_⟩) (by assumption) ?_
                  rotate_left
                  · (intro wx hSw; (try dsimp only at hSw); go_simp; try (with_reducible rfl))
                  try simp only [Act.put, List.getElem_toArray, List.getElem_cons_succ, List.getElem_cons_zero, List.setIfInBounds_toArray, List.set_cons_zero, List.set_cons_succ]
                  refine wpAnyH_take (i := 12) (v := ?_) rfl (by kernel_rfl) (by kernel_rfl) (by kernel_rfl) (fun _ _ _ h => h) (Or.inl ⟨by kernel_rfl, ?_⟩) (by assumption) ?_
                  rotate_left
                  · (intro wx hSw; (try dsimp only at hSw); go_simp; try (with_reducible rfl))
                  try simp only [Act.put, List.getElem_toArray, List.getElem_cons_succ, List.getElem_cons_zero, List.setIfInBounds_toArray, List.set_cons_zero, List.set_cons_succ]
                  refine wpAnyH_take (i := 13) (v := ?_) rfl (by kernel_rfl) (by kernel_rfl) (by kernel_rfl) (fun _ _ _ h => h) (Or.inl ⟨by kernel_rfl, ?_⟩) (by assumption) ?_
                  rotate_left
                  · (intro wx hSw; (try dsimp only at hSw); go_simp; try (with_reducible rfl))
                  try simp only [Act.put, List.getElem_toArray, List.getElem_cons_succ, List.getElem_cons_zero, List.setIfInBounds_toArray, List.set_cons_zero, List.set_cons_succ]
                  refine wpAnyH_take (i := 14) (v := ?_) rfl (by kernel_rfl) (by kernel_rfl) (by kernel_rfl) (fun _ _ _ h => h) (Or.inl ⟨by kernel_rfl, ?_⟩) (by assumption) ?_
                  rotate_left
                  · (intro wx hSw; (try dsimp only at hSw); go_simp; try (with_reducible rfl))
                  try simp only [Act.put, List.getElem_toArray, List.getElem_cons_succ, List.getElem_cons_zero, List.setIfInBounds_toArray, List.set_cons_zero, List.set_cons_succ]
                  refine wpAnyH_take (i := 15) (v := ?_) rfl (by kernel_rfl) (by kernel_rfl) (by kernel_rfl) (fun _ _ _ h => h) (Or.inl ⟨by kernel_rfl, ?_⟩) (by assumption) ?_
                  rotate_left
                  · (intro wx hSw; (try dsimp only at hSw); go_simp; try (with_reducible rfl))
                  try simp only [Act.put, List.getElem_toArray, List.getElem_cons_succ, List.getElem_cons_zero, List.setIfInBounds_toArray, List.set_cons_zero, List.set_cons_succ]
                  refine wpAnyH_take (i := 16) (v := ?_) rfl (by kernel_rfl) (by kernel_rfl) (by kernel_rfl) (fun _ _ _ h => h) (Or.inl ⟨by kernel_rfl, ?_⟩) (by assumption) ?_
                  rotate_left
                  · (intro wx hSw; (try dsimp only at hSw); go_simp; try (with_reducible rfl))
                  try simp only [Act.put, List.getElem_toArray, List.getElem_cons_succ, List.getElem_cons_zero, List.setIfInBounds_toArray, List.set_cons_zero, List.set_cons_succ]
                  refine wpAnyH_take (i := 17) (v := ?_) rfl (by kernel_rfl) (by kernel_rfl) (by kernel_rfl) (fun _ _ _ h => h) (Or.inl ⟨by kernel_rfl, ?_⟩) (by assumption) ?_
                  rotate_left
                  · (intro wx hSw; (try dsimp only at hSw); go_simp; try (with_reducible rfl))
                  try simp only [Act.put, List.getElem_toArray, List.getElem_cons_succ, List.getElem_cons_zero, List.setIfInBounds_toArray, List.set_cons_zero, List.set_cons_succ]
                  refine wpAnyH_take (i := 18) (v := ?_) rfl (by kernel_rfl) (by kernel_rfl) (by kernel_rfl) (fun _ _ _ h => h) (Or.inl ⟨by kernel_rfl, ?_⟩) (by assumption) ?_
                  rotate_left
                  · (intro wx hSw; (try dsimp only at hSw); go_simp; try (with_reducible rfl))
                  try simp only [Act.put, List.getElem_toArray, List.getElem_cons_succ, List.getElem_cons_zero, List.setIfInBounds_toArray, List.set_cons_zero, List.set_cons_succ]
                  refine wpAnyH_take (i := 19) (v := ?_) rfl (by kernel_rfl) (by kernel_rfl) (by kernel_rfl) (fun _ _ _ h => h) (Or.inl ⟨by kernel_rfl, ?_⟩) (by assumption) ?_
                  rotate_left
                  · (intro wx hSw; (try dsimp only at hSw); go_simp; try (with_reducible rfl))
                  try simp only [Act.put, List.getElem_toArray, List.getElem_cons_succ, List.getElem_cons_zero, List.setIfInBounds_toArray, List.set_cons_zero, List.set_cons_succ]
                  refine wpAnyH_take (i := 20) (v := ?_) rfl (by kernel_rfl) (by kernel_rfl) (by kernel_rfl) (fun _ _ _ h => h) (Or.inl ⟨by kernel_rfl, ?_⟩) (by assumption) ?_
                  rotate_left
                  · (intro wx hSw; (try dsimp only at hSw); go_simp; try (with_reducible rfl))
                  try simp only [Act.put, List.getElem_toArray, List.getElem_cons_succ, List.getElem_cons_zero, List.setIfInBounds_toArray, List.set_cons_zero, List.set_cons_succ]
                  refine wpAnyH_take (i := 21) (v := ?_) rfl (by kernel_rfl) (by kernel_rfl) (by kernel_rfl) (fun _ _ _ h => h) (Or.inl ⟨by kernel_rfl, ?_⟩) (by assumption) ?_
                  rotate_left
                  · (intro wx hSw; (try dsimp only at hSw); go_simp; try (with_reducible rfl))
                  try simp only [Act.put, List.getElem_toArray, List.getElem_cons_succ, List.getElem_cons_zero, List.setIfInBounds_toArray, List.set_cons_zero, List.set_cons_succ]
                  refine wpAnyH_take (i := 22) (v := ?_) rfl (by kernel_rfl) (by kernel_rfl) (by kernel_rfl) (fun _ _ _ h => h) (Or.inl ⟨by kernel_rfl, ?_⟩) (by assumption) ?_
                  rotate_left
                  · (intro wx hSw; (try dsimp only at hSw); go_simp; try (with_reducible rfl))
                  try simp only [Act.put, List.getElem_toArray, List.getElem_cons_succ, List.getElem_cons_zero, List.setIfInBounds_toArray, List.set_cons_zero, List.set_cons_succ]
                  refine wpAnyH_take (i := 23) (v := ?_) rfl (by kernel_rfl) (by kernel_rfl) (by kernel_rfl) (fun _ _ _ h => h) (Or.inl ⟨by kernel_rfl, ?_⟩) (by assumption) ?_
                  rotate_left
                  · (intro wx hSw; (try dsimp only at hSw); go_simp; try (with_reducible rfl))
                  try simp only [Act.put, List.getElem_toArray, List.getElem_cons_succ, List.getElem_cons_zero, List.setIfInBounds_toArray, List.set_cons_zero, List.set_cons_succ]
                  refine wpAnyH_take (i := 24) (v := ?_) rfl (by kernel_rfl) (by kernel_rfl) (by kernel_rfl) (fun _ _ _ h => h) (Or.inl ⟨by kernel_rfl, ?_⟩) (by assumption) ?_
                  rotate_left
                  · (intro wx hSw; (try dsimp only at hSw); go_simp; try (with_reducible rfl))
                  try simp only [Act.put, List.getElem_toArray, List.getElem_cons_succ, List.getElem_cons_zero, List.setIfInBounds_toArray, List.set_cons_zero, List.set_cons_succ]
                  refine wpAnyH_ready (rs := [25]) (by kernel_rfl) (by simp) ?_
                  refine AllReadyH.cons rfl (fun K hK => ?_) AllReadyH.nil
                  go_simp
                  refine hK.out _ _ ?_ (fun hHeld => ?_)
                  · (exact HSH.out _ (by repeat' (first | exact Bl.refl _ | with_reducible assumption | with_reducible refine Bl.drew_ ?_ | with_reducible refine Bl.drewN_ ?_ _ | with_reducible refine Bl.alloc_ ?_ _ | with_reducible refine Bl.trans_ ?_ (by assumption) | with_reducible refine Bl.trans_ ?_ (And.left (by assumption)))))
                  clear hK K
                  try simp only [Act.put, List.getElem_toArray, List.getElem_cons_succ, List.getElem_cons_zero, List.setIfInBounds_toArray, List.set_cons_zero, List.set_cons_succ]
                  refine wpAnyH_take (i := 26) (v := ?_) rfl (by kernel_rfl) (by kernel_rfl) (by kernel_rfl) (fun _ _ _ h => h) (Or.inl ⟨by kernel_rfl, ?_⟩) (by assumption) ?_
                  rotate_left
                  · (intro wx hSw; (try dsimp only at hSw); go_simp; try (with_reducible rfl))
                  try simp only [Act.put, List.getElem_toArray, List.getElem_cons_succ, List.getElem_cons_zero, List.setIfInBounds_toArray, List.set_cons_zero, List.set_cons_succ]
                  refine wpAnyH_take (i := 27) (v := ?_) rfl (by kernel_rfl) (by kernel_rfl) (by kernel_rfl) (fun _ _ _ h => h) (Or.inl ⟨by kernel_rfl, ?_⟩) (by assumption) ?_
                  rotate_left
                  · (intro wx hSw; (try dsimp only at hSw); go_simp; try (with_reducible rfl))
                  try simp only [Act.put, List.getElem_toArray, List.getElem_cons_succ, List.getElem_cons_zero, List.setIfInBounds_toArray, List.set_cons_zero, List.set_cons_succ]
                  refine wpAnyH_done (by kernel_rfl) ?_ _
                  go_wp2_with (at_builtin; refine wpList_append_any _ rfl (.tmp 72) (.tmp 74) _ rfl (w.heap.size + 1) 2 i0 _ 1 8 Try.underlying22 I0.out I1.out I2.out I3.out rfl (by decide) _ (leftK D E V j).length (csI (leftK D E V j)) rfl (World.ownsRow.alloc (OwnN.bl O.out (by repeat' (first | exact Bl.refl _ | with_reducible assumption | with_reducible refine Bl.drew_ ?_ | with_reducible refine Bl.drewN_ ?_ _ | with_reducible refine Bl.alloc_ ?_ _ | with_reducible refine Bl.trans_ ?_ (by assumption) | with_reducible refine Bl.trans_ ?_ (And.left (by assumption))))) _) (wr.heap.size + 1) (some ⟨wr.heap.size, 0, none⟩) 1 1 [.int .i64 (j : Int)] rfl ?c0 (by simp [Value.oneCell']) ?c3 ?c4 ?c5 ?_)
                  case c0 =>
                    refine ⟨rfl, fun _ => ⟨_, rfl, by show wr.heap.size < wr.heap.size + 1; omega, fun x u hj => ?_⟩⟩
                    match x, hj with
                    | 0, hj => simp at hj; subst hj; (try simp [Addr.add, go_sem]); (try exact cell_new_drewN _ _ _ _)
                    | (x + 1), hj => simp at hj
                  case c3 => unfold maxLen; omega
                  case c4 => omega
                  case c5 => simp; omega
                  intro v' w7 hown' hgrow hwh
                  have O7 := Lib.hid (OwnN.snoc (V := leftK D E V j) (x := (j : Int)) (n := (leftK D E V j).length) rfl (by simpa using hown'))
                  rw [← HY.out] at O7
                  have T7 : Hid (Turn (fun i => i = w.heap.size + 1) w6 w7) := by
                    refine Lib.hid (Turn.trans (T.out.bl ?_) (Turn.of_grown (S := fun i => v.ownBlock = some i) hgrow (fun i e => e)) (fun i hi e => by rcases VO.out i e with h | h; exact h; omega))
                    first | exact (Bl.refl wr).alloc_ _ | exact ((Bl.refl wr).alloc_ _).drew_ | exact ((Bl.refl wr).alloc_ _).drewN_ _
                  have VO7 := Lib.hid (show ∀ g, v'.ownBlock = some g → g = w.heap.size + 1 ∨ w6.heap.size ≤ g from fun g hg => by
                    rcases hwh with h | h
                    · exact VO.out g (by rw [← h]; exact hg)
                    · right; rw [h] at hg; injection hg with hg; have := T.out.size; (try simp only [World.size_alloc] at hg); first | omega | (have h2 : wr.heap.size + 1 = g := hg; omega))
                  clear hown' hgrow hwh
                  go_wp2
                  go_roundw
                  case rel => exact ⟨j + 1, _, by omega, rfl, by go_num, O7.out, T7.out, VO7.out⟩
                  case measure => simp [intOf]; omega
                · have b3 : decide (min d e ≤ r) = false := by simpa using h3
                  have HY := Lib.hid (NO.out (by rw [BY.out, decide_eq_false_iff_not]; omega))
                  clear YES NO BY
                  go_wp2_with fail
                  refine wp_region_held_drew (S := fun wx => Bl wr wx ∧ wx.cell? ⟨g1, o1 + j, none⟩ = some (.int .i64 d) ∧ wx.cell? ⟨g2, o2 + j, none⟩ = some (.int .i64 e) ∧ wx.cell? ⟨g3, o3 + j, none⟩ = some (.int .i64 r)) (by kernel_rfl) ?_ (fun hHeld => ?_)
                  · (exact HSH.out _ (by repeat' (first | exact Bl.refl _ | with_reducible assumption | with_reducible refine Bl.drew_ ?_ | with_reducible refine Bl.drewN_ ?_ _ | with_reducible refine Bl.alloc_ ?_ _ | with_reducible refine Bl.trans_ ?_ (by assumption) | with_reducible refine Bl.trans_ ?_ (And.left (by assumption)))))
                  refine wpAnyH_take (i := 0) (v := ?_) rfl (by kernel_rfl) (by kernel_rfl) (by kernel_rfl) (fun _ _ _ h => h) (Or.inl ⟨by kernel_rfl, ?_⟩) (by assumption) ?_
                  rotate_left
                  · (intro wx hSw; (try dsimp only at hSw); go_simp; try (with_reducible rfl))
                  try simp only [Act.put, List.getElem_toArray, List.getElem_cons_succ, List.getElem_cons_zero, List.setIfInBounds_toArray, List.set_cons_zero, List.set_cons_succ]
                  refine wpAnyH_take (i := 1) (v := ?_) rfl (by kernel_rfl) (by kernel_rfl) (by kernel_rfl) (fun _ _ _ h => h) (Or.inl ⟨by kernel_rfl, ?_⟩) (by assumption) ?_
                  rotate_left
                  · (intro wx hSw; (try dsimp only at hSw); go_simp; try (with_reducible rfl))
                  try simp only [Act.put, List.getElem_toArray, List.getElem_cons_succ, List.getElem_cons_zero, List.setIfInBounds_toArray, List.set_cons_zero, List.set_cons_succ]
                  refine wpAnyH_take (i := 2) (v := ?_) rfl (by kernel_rfl) (by kernel_rfl) (by kernel_rfl) (fun _ _ _ h => h) (Or.inl ⟨by kernel_rfl, ?_⟩) (by assumption) ?_
                  rotate_left
                  · (intro wx hSw; (try dsimp only at hSw); go_simp; try (with_reducible rfl))
                  try simp only [Act.put, List.getElem_toArray, List.getElem_cons_succ, List.getElem_cons_zero, List.setIfInBounds_toArray, List.set_cons_zero, List.set_cons_succ]
                  refine wpAnyH_take (i := 3) (v := ?_) rfl (by kernel_rfl) (by kernel_rfl) (by kernel_rfl) (fun _ _ _ h => h) (Or.inl ⟨by kernel_rfl, ?_⟩) (by assumption) ?_
                  rotate_left
                  · (intro wx hSw; (try dsimp only at hSw); go_simp; try (with_reducible rfl))
                  try simp only [Act.put, List.getElem_toArray, List.getElem_cons_succ, List.getElem_cons_zero, List.setIfInBounds_toArray, List.set_cons_zero, List.set_cons_succ]
                  refine wpAnyH_take (i := 4) (v := ?_) rfl (by kernel_rfl) (by kernel_rfl) (by kernel_rfl) (fun _ _ _ h => h) (Or.inl ⟨by kernel_rfl, ?_⟩) (by assumption) ?_
                  rotate_left
                  · (intro wx hSw; (try dsimp only at hSw); go_simp; try (with_reducible rfl))
                  try simp only [Act.put, List.getElem_toArray, List.getElem_cons_succ, List.getElem_cons_zero, List.setIfInBounds_toArray, List.set_cons_zero, List.set_cons_succ]
                  refine wpAnyH_take (i := 5) (v := ?_) rfl (by kernel_rfl) (by kernel_rfl) (by kernel_rfl) (fun _ _ _ h => h) (Or.inl ⟨by kernel_rfl, ?_⟩) (by assumption) ?_
                  rotate_left
                  · (intro wx hSw; (try dsimp only at hSw); go_simp; try (with_reducible rfl))
                  try simp only [Act.put, List.getElem_toArray, List.getElem_cons_succ, List.getElem_cons_zero, List.setIfInBounds_toArray, List.set_cons_zero, List.set_cons_succ]
                  refine wpAnyH_take (i := 6) (v := ?_) rfl (by kernel_rfl) (by kernel_rfl) (by kernel_rfl) (fun _ _ _ h => h) (Or.inl ⟨by kernel_rfl, ?_⟩) (by assumption) ?_
                  rotate_left
                  · (intro wx hSw; (try dsimp only at hSw); go_simp; try (with_reducible rfl))
                  try simp only [Act.put, List.getElem_toArray, List.getElem_cons_succ, List.getElem_cons_zero, List.setIfInBounds_toArray, List.set_cons_zero, List.set_cons_succ]
                  refine wpAnyH_take (i := 7) (v := ?_) rfl (by kernel_rfl) (by kernel_rfl) (by kernel_rfl) (fun _ _ _ h => h) (Or.inl ⟨by kernel_rfl, ?_⟩) (by assumption) ?_
                  rotate_left
                  · (intro wx hSw; (try dsimp only at hSw); go_simp; try (with_reducible rfl))
                  try simp only [Act.put, List.getElem_toArray, List.getElem_cons_succ, List.getElem_cons_zero, List.setIfInBounds_toArray, List.set_cons_zero, List.set_cons_succ]
                  refine wpAnyH_take (i := 8) (v := ?_) rfl (by kernel_rfl) (by kernel_rfl) (by kernel_rfl) (fun _ _ _ h => h) (Or.inl ⟨by kernel_rfl, ?_⟩) (by assumption) ?_
                  rotate_left
                  · (intro wx hSw; (try dsimp only at hSw); go_simp; try (with_reducible rfl))
                  try simp only [Act.put, List.getElem_toArray, List.getElem_cons_succ, List.getElem_cons_zero, List.setIfInBounds_toArray, List.set_cons_zero, List.set_cons_succ]
                  refine wpAnyH_take (i := 9) (v := ?_) rfl (by kernel_rfl) (by kernel_rfl) (by kernel_rfl) (fun _ _ _ h => h) (Or.inl ⟨by kernel_rfl, ?_⟩) (by assumption) ?_
                  rotate_left
                  · (intro wx hSw; (try dsimp only at hSw); go_simp; try (with_reducible rfl))
                  try simp only [Act.put, List.getElem_toArray, List.getElem_cons_succ, List.getElem_cons_zero, List.setIfInBounds_toArray, List.set_cons_zero, List.set_cons_succ]
                  refine wpAnyH_take (i := 10) (v := ?_) rfl (by kernel_rfl) (by kernel_rfl) (by kernel_rfl) (fun _ _ _ h => h) (Or.inl ⟨by kernel_rfl, ?_⟩) (by assumption) ?_
                  rotate_left
                  · (intro wx hSw; (try dsimp only at hSw); go_simp; try (with_reducible rfl))
                  try simp only [Act.put, List.getElem_toArray, List.getElem_cons_succ, List.getElem_cons_zero, List.setIfInBounds_toArray, List.set_cons_zero, List.set_cons_succ]
                  refine wpAnyH_take (i := 11) (v := ?_) rfl (by kernel_rfl) (by kernel_rfl) (by kernel_rfl) (fun _ _ _ h => h) (Or.inl ⟨by kernel_rfl, ?_⟩) (by assumption) ?_
                  rotate_left
                  · (intro wx hSw; (try dsimp only at hSw); go_simp; try (with_reducible rfl))
                  try simp only [Act.put, List.getElem_toArray, List.getElem_cons_succ, List.getElem_cons_zero, List.setIfInBounds_toArray, List.set_cons_zero, List.set_cons_succ]
                  refine wpAnyH_take (i := 12) (v := ?_) rfl (by kernel_rfl) (by kernel_rfl) (by kernel_rfl) (fun _ _ _ h => h) (Or.inl ⟨by kernel_rfl, ?_⟩) (by assumption) ?_
                  rotate_left
                  · (intro wx hSw; (try dsimp only at hSw); go_simp; try (with_reducible rfl))
                  try simp only [Act.put, List.getElem_toArray, List.getElem_cons_succ, List.getElem_cons_zero, List.setIfInBounds_toArray, List.set_cons_zero, List.set_cons_succ]
                  refine wpAnyH_take (i := 13) (v := ?_) rfl (by kernel_rfl) (by kernel_rfl) (by kernel_rfl) (fun _ _ _ h => h) (Or.inl ⟨by kernel_rfl, ?_⟩) (by assumption) ?_
                  rotate_left
                  · (intro wx hSw; (try dsimp only at hSw); go_simp; try (with_reducible rfl))
                  try simp only [Act.put, List.getElem_toArray, List.getElem_cons_succ, List.getElem_cons_zero, List.setIfInBounds_toArray, List.set_cons_zero, List.set_cons_succ]
                  refine wpAnyH_take (i := 14) (v := ?_) rfl (by kernel_rfl) (by kernel_rfl) (by kernel_rfl) (fun _ _ _ h => h) (Or.inl ⟨by kernel_rfl, ?_⟩) (by assumption) ?_
                  rotate_left
                  · (intro wx hSw; (try dsimp only at hSw); go_simp; try (with_reducible rfl))
                  try simp only [Act.put, List.getElem_toArray, List.getElem_cons_succ, List.getElem_cons_zero, List.setIfInBounds_toArray, List.set_cons_zero, List.set_cons_succ]
                  refine wpAnyH_take (i := 15) (v := ?_) rfl (by kernel_rfl) (by kernel_rfl) (by kernel_rfl) (fun _ _ _ h => h) (Or.inl ⟨by kernel_rfl, ?_⟩) (by assumption) ?_
                  rotate_left
                  · (intro wx hSw; (try dsimp only at hSw); go_simp; try (with_reducible rfl))
                  try simp only [Act.put, List.getElem_toArray, List.getElem_cons_succ, List.getElem_cons_zero, List.setIfInBounds_toArray, List.set_cons_zero, List.set_cons_succ]
                  refine wpAnyH_take (i := 16) (v := ?_) rfl (by kernel_rfl) (by kernel_rfl) (by kernel_rfl) (fun _ _ _ h => h) (Or.inl ⟨by kernel_rfl, ?_⟩) (by assumption) ?_
                  rotate_left
                  · (intro wx hSw; (try dsimp only at hSw); go_simp; try (with_reducible rfl))
                  try simp only [Act.put, List.getElem_toArray, List.getElem_cons_succ, List.getElem_cons_zero, List.setIfInBounds_toArray, List.set_cons_zero, List.set_cons_succ]
                  refine wpAnyH_take (i := 17) (v := ?_) rfl (by kernel_rfl) (by kernel_rfl) (by kernel_rfl) (fun _ _ _ h => h) (Or.inl ⟨by kernel_rfl, ?_⟩) (by assumption) ?_
                  rotate_left
                  · (intro wx hSw; (try dsimp only at hSw); go_simp; try (with_reducible rfl))
                  try simp only [Act.put, List.getElem_toArray, List.getElem_cons_succ, List.getElem_cons_zero, List.setIfInBounds_toArray, List.set_cons_zero, List.set_cons_succ]
                  refine wpAnyH_take (i := 18) (v := ?_) rfl (by kernel_rfl) (by kernel_rfl) (by kernel_rfl) (fun _ _ _ h => h) (Or.inl ⟨by kernel_rfl, ?_⟩) (by assumption) ?_
                  rotate_left
                  · (intro wx hSw; (try dsimp only at hSw); go_simp; try (with_reducible rfl))
                  try simp only [Act.put, List.getElem_toArray, List.getElem_cons_succ, List.getElem_cons_zero, List.setIfInBounds_toArray, List.set_cons_zero, List.set_cons_succ]
                  refine wpAnyH_take (i := 19) (v := ?_) rfl (by kernel_rfl) (by kernel_rfl) (by kernel_rfl) (fun _ _ _ h => h) (Or.inl ⟨by kernel_rfl, ?_⟩) (by assumption) ?_
                  rotate_left
                  · (intro wx hSw; (try dsimp only at hSw); go_simp; try (with_reducible rfl))
                  try simp only [Act.put, List.getElem_toArray, List.getElem_cons_succ, List.getElem_cons_zero, List.setIfInBounds_toArray, List.set_cons_zero, List.set_cons_succ]
                  refine wpAnyH_take (i := 20) (v := ?_) rfl (by kernel_rfl) (by kernel_rfl) (by kernel_rfl) (fun _ _ _ h => h) (Or.inl ⟨by kernel_rfl, ?_⟩) (by assumption) ?_
                  rotate_left
                  · (intro wx hSw; (try dsimp only at hSw); go_simp; try (with_reducible rfl))
                  try simp only [Act.put, List.getElem_toArray, List.getElem_cons_succ, List.getElem_cons_zero, List.setIfInBounds_toArray, List.set_cons_zero, List.set_cons_succ]
                  refine wpAnyH_take (i := 21) (v := ?_) rfl (by kernel_rfl) (by kernel_rfl) (by kernel_rfl) (fun _ _ _ h => h) (Or.inl ⟨by kernel_rfl, ?_⟩) (by assumption) ?_
                  rotate_left
                  · (intro wx hSw; (try dsimp only at hSw); go_simp; try (with_reducible rfl))
                  try simp only [Act.put, List.getElem_toArray, List.getElem_cons_succ, List.getElem_cons_zero, List.setIfInBounds_toArray, List.set_cons_zero, List.set_cons_succ]
                  refine wpAnyH_take (i := 22) (v := ?_) rfl (by kernel_rfl) (by kernel_rfl) (by kernel_rfl) (fun _ _ _ h => h) (Or.inl ⟨by kernel_rfl, ?_⟩) (by assumption) ?_
                  rotate_left
                  · (intro wx hSw; (try dsimp only at hSw); go_simp; try (with_reducible rfl))
                  try simp only [Act.put, List.getElem_toArray, List.getElem_cons_succ, List.getElem_cons_zero, List.setIfInBounds_toArray, List.set_cons_zero, List.set_cons_succ]
                  refine wpAnyH_take (i := 23) (v := ?_) rfl (by kernel_rfl) (by kernel_rfl) (by kernel_rfl) (fun _ _ _ h => h) (Or.inl ⟨by kernel_rfl, ?_⟩) (by assumption) ?_
                  rotate_left
                  · (intro wx hSw; (try dsimp only at hSw); go_simp; try (with_reducible rfl))
                  try simp only [Act.put, List.getElem_toArray, List.getElem_cons_succ, List.getElem_cons_zero, List.setIfInBounds_toArray, List.set_cons_zero, List.set_cons_succ]
                  refine wpAnyH_take (i := 24) (v := ?_) rfl (by kernel_rfl) (by kernel_rfl) (by kernel_rfl) (fun _ _ _ h => h) (Or.inl ⟨by kernel_rfl, ?_⟩) (by assumption) ?_
                  rotate_left
                  · (intro wx hSw; (try dsimp only at hSw); go_simp; try (with_reducible rfl))
                  try simp only [Act.put, List.getElem_toArray, List.getElem_cons_succ, List.getElem_cons_zero, List.setIfInBounds_toArray, List.set_cons_zero, List.set_cons_succ]
                  refine wpAnyH_ready (rs := [25]) (by kernel_rfl) (by simp) ?_
                  refine AllReadyH.cons rfl (fun K hK => ?_) AllReadyH.nil
                  go_simp
                  refine hK.out _ _ ?_ (fun hHeld => ?_)
                  · (exact HSH.out _ (by repeat' (first | exact Bl.refl _ | with_reducible assumption | with_reducible refine Bl.drew_ ?_ | with_reducible refine Bl.drewN_ ?_ _ | with_reducible refine Bl.alloc_ ?_ _ | with_reducible refine Bl.trans_ ?_ (by assumption) | with_reducible refine Bl.trans_ ?_ (And.left (by assumption)))))
                  clear hK K
                  try simp only [Act.put, List.getElem_toArray, List.getElem_cons_succ, List.getElem_cons_zero, List.setIfInBounds_toArray, List.set_cons_zero, List.set_cons_succ]
                  refine wpAnyH_take (i := 26) (v := ?_) rfl (by kernel_rfl) (by kernel_rfl) (by kernel_rfl) (fun _ _ _ h => h) (Or.inl ⟨by kernel_rfl, ?_⟩) (by assumption) ?_
                  rotate_left
                  · (intro wx hSw; (try dsimp only at hSw); go_simp; try (with_reducible rfl))
                  try simp only [Act.put, List.getElem_toArray, List.getElem_cons_succ, List.getElem_cons_zero, List.setIfInBounds_toArray, List.set_cons_zero, List.set_cons_succ]
                  refine wpAnyH_take (i := 27) (v := ?_) rfl (by kernel_rfl) (by kernel_rfl) (by kernel_rfl) (fun _ _ _ h => h) (Or.inl ⟨by kernel_rfl, ?_⟩) (by assumption) ?_
                  rotate_left
                  · (intro wx hSw; (try dsimp only at hSw); go_simp; try (with_reducible rfl))
                  try simp only [Act.put, List.getElem_toArray, List.getElem_cons_succ, List.getElem_cons_zero, List.setIfInBounds_toArray, List.set_cons_zero, List.set_cons_succ]
                  refine wpAnyH_done (by kernel_rfl) ?_ _
                  go_wp2
                  go_roundw
                  case rel => exact ⟨j + 1, _, by omega, rfl, by go_num, by rw [HY.out]; exact OwnN.bl O.out (by repeat' (first | exact Bl.refl _ | with_reducible assumption | with_reducible refine Bl.drew_ ?_ | with_reducible refine Bl.drewN_ ?_ _ | with_reducible refine Bl.alloc_ ?_ _ | with_reducible refine Bl.trans_ ?_ (by assumption) | with_reducible refine Bl.trans_ ?_ (And.left (by assumption)))), T.out.bl (by repeat' (first | exact Bl.refl _ | with_reducible assumption | with_reducible refine Bl.drew_ ?_ | with_reducible refine Bl.drewN_ ?_ _ | with_reducible refine Bl.alloc_ ?_ _ | with_reducible refine Bl.trans_ ?_ (by assumption) | with_reducible refine Bl.trans_ ?_ (And.left (by assumption)))), VO.out⟩
                  case measure => simp [intOf]; omega
              · have b2 : decide (0 ≤ e) = false := by simpa using h2
                have HY := Lib.hid (NO.out (by rw [BY.out, decide_eq_false_iff_not]; omega))
                clear YES NO BY
                go_wp2_with fail
                refine wp_region_held_drew (S := fun wx => Bl wr wx ∧ wx.cell? ⟨g1, o1 + j, none⟩ = some (.int .i64 d) ∧ wx.cell? ⟨g2, o2 + j, none⟩ = some (.int .i64 e) ∧ wx.cell? ⟨g3, o3 + j, none⟩ = some (.int .i64 r)) (by kernel_rfl) ?_ (fun hHeld => ?_)
                · (exact HSH.out _ (by repeat' (first | exact Bl.refl _ | with_reducible assumption | with_reducible refine Bl.drew_ ?_ | with_reducible refine Bl.drewN_ ?_ _ | with_reducible refine Bl.alloc_ ?_ _ | with_reducible refine Bl.trans_ ?_ (by assumption) | with_reducible refine Bl.trans_ ?_ (And.left (by assumption)))))
                refine wpAnyH_take (i := 0) (v := ?_) rfl (by kernel_rfl) (by kernel_rfl) (by kernel_rfl) (fun _ _ _ h => h) (Or.inl ⟨by kernel_rfl, ?_⟩) (by assumption) ?_
                rotate_left
                · (intro wx hSw; (try dsimp only at hSw); go_simp; try (with_reducible rfl))
                try simp only [Act.put, List.getElem_toArray, List.getElem_cons_succ, List.getElem_cons_zero, List.setIfInBounds_toArray, List.set_cons_zero, List.set_cons_succ]
                refine wpAnyH_take (i := 1) (v := ?_) rfl (by kernel_rfl) (by kernel_rfl) (by kernel_rfl) (fun _ _ _ h => h) (Or.inl ⟨by kernel_rfl, ?_⟩) (by assumption) ?_
                rotate_left
                · (intro wx hSw; (try dsimp only at hSw); go_simp; try (with_reducible rfl))
                try simp only [Act.put, List.getElem_toArray, List.getElem_cons_succ, List.getElem_cons_zero, List.setIfInBounds_toArray, List.set_cons_zero, List.set_cons_succ]
                refine wpAnyH_take (i := 2) (v := ?_) rfl (by kernel_rfl) (by kernel_rfl) (by kernel_rfl) (fun _ _ _ h => h) (Or.inl ⟨by kernel_rfl, ?_⟩) (by assumption) ?_
                rotate_left
                · (intro wx hSw; (try dsimp only at hSw); go_simp; try (with_reducible rfl))
                try simp only [Act.put, List.getElem_toArray, List.getElem_cons_succ, List.getElem_cons_zero, List.setIfInBounds_toArray, List.set_cons_zero, List.set_cons_succ]
                refine wpAnyH_take (i := 3) (v := ?_) rfl (by kernel_rfl) (by kernel_rfl) (by kernel_rfl) (fun _ _ _ h => h) (Or.inl ⟨by kernel_rfl, ?_⟩) (by assumption) ?_
                rotate_left
                · (intro wx hSw; (try dsimp only at hSw); go_simp; try (with_reducible rfl))
                try simp only [Act.put, List.getElem_toArray, List.getElem_cons_succ, List.getElem_cons_zero, List.setIfInBounds_toArray, List.set_cons_zero, List.set_cons_succ]
                refine wpAnyH_take (i := 4) (v := ?_) rfl (by kernel_rfl) (by kernel_rfl) (by kernel_rfl) (fun _ _ _ h => h) (Or.inl ⟨by kernel_rfl, ?_⟩) (by assumption) ?_
                rotate_left
                · (intro wx hSw; (try dsimp only at hSw); go_simp; try (with_reducible rfl))
                try simp only [Act.put, List.getElem_toArray, List.getElem_cons_succ, List.getElem_cons_zero, List.setIfInBounds_toArray, List.set_cons_zero, List.set_cons_succ]
                refine wpAnyH_take (i := 5) (v := ?_) rfl (by kernel_rfl) (by kernel_rfl) (by kernel_rfl) (fun _ _ _ h => h) (Or.inl ⟨by kernel_rfl, ?_⟩) (by assumption) ?_
                rotate_left
                · (intro wx hSw; (try dsimp only at hSw); go_simp; try (with_reducible rfl))
                try simp only [Act.put, List.getElem_toArray, List.getElem_cons_succ, List.getElem_cons_zero, List.setIfInBounds_toArray, List.set_cons_zero, List.set_cons_succ]
                refine wpAnyH_take (i := 6) (v := ?_) rfl (by kernel_rfl) (by kernel_rfl) (by kernel_rfl) (fun _ _ _ h => h) (Or.inl ⟨by kernel_rfl, ?_⟩) (by assumption) ?_
                rotate_left
                · (intro wx hSw; (try dsimp only at hSw); go_simp; try (with_reducible rfl))
                try simp only [Act.put, List.getElem_toArray, List.getElem_cons_succ, List.getElem_cons_zero, List.setIfInBounds_toArray, List.set_cons_zero, List.set_cons_succ]
                refine wpAnyH_take (i := 7) (v := ?_) rfl (by kernel_rfl) (by kernel_rfl) (by kernel_rfl) (fun _ _ _ h => h) (Or.inl ⟨by kernel_rfl, ?_⟩) (by assumption) ?_
                rotate_left
                · (intro wx hSw; (try dsimp only at hSw); go_simp; try (with_reducible rfl))
                try simp only [Act.put, List.getElem_toArray, List.getElem_cons_succ, List.getElem_cons_zero, List.setIfInBounds_toArray, List.set_cons_zero, List.set_cons_succ]
                refine wpAnyH_take (i := 8) (v := ?_) rfl (by kernel_rfl) (by kernel_rfl) (by kernel_rfl) (fun _ _ _ h => h) (Or.inl ⟨by kernel_rfl, ?_⟩) (by assumption) ?_
                rotate_left
                · (intro wx hSw; (try dsimp only at hSw); go_simp; try (with_reducible rfl))
                try simp only [Act.put, List.getElem_toArray, List.getElem_cons_succ, List.getElem_cons_zero, List.setIfInBounds_toArray, List.set_cons_zero, List.set_cons_succ]
                refine wpAnyH_take (i := 9) (v := ?_) rfl (by kernel_rfl) (by kernel_rfl) (by kernel_rfl) (fun _ _ _ h => h) (Or.inl ⟨by kernel_rfl, ?_⟩) (by assumption) ?_
                rotate_left
                · (intro wx hSw; (try dsimp only at hSw); go_simp; try (with_reducible rfl))
                try simp only [Act.put, List.getElem_toArray, List.getElem_cons_succ, List.getElem_cons_zero, List.setIfInBounds_toArray, List.set_cons_zero, List.set_cons_succ]
                refine wpAnyH_take (i := 10) (v := ?_) rfl (by kernel_rfl) (by kernel_rfl) (by kernel_rfl) (fun _ _ _ h => h) (Or.inl ⟨by kernel_rfl, ?_⟩) (by assumption) ?_
                rotate_left
                · (intro wx hSw; (try dsimp only at hSw); go_simp; try (with_reducible rfl))
                try simp only [Act.put, List.getElem_toArray, List.getElem_cons_succ, List.getElem_cons_zero, List.setIfInBounds_toArray, List.set_cons_zero, List.set_cons_succ]
                refine wpAnyH_take (i := 11) (v := ?_) rfl (by kernel_rfl) (by kernel_rfl) (by kernel_rfl) (fun _ _ _ h => h) (Or.inl ⟨by kernel_rfl, ?_⟩) (by assumption) ?_
                rotate_left
                · (intro wx hSw; (try dsimp only at hSw); go_simp; try (with_reducible rfl))
                try simp only [Act.put, List.getElem_toArray, List.getElem_cons_succ, List.getElem_cons_zero, List.setIfInBounds_toArray, List.set_cons_zero, List.set_cons_succ]
                refine wpAnyH_take (i := 12) (v := ?_) rfl (by kernel_rfl) (by kernel_rfl) (by kernel_rfl) (fun _ _ _ h => h) (Or.inl ⟨by kernel_rfl, ?_⟩) (by assumption) ?_
                rotate_left
                · (intro wx hSw; (try dsimp only at hSw); go_simp; try (with_reducible rfl))
                try simp only [Act.put, List.getElem_toArray, List.getElem_cons_succ, List.getElem_cons_zero, List.setIfInBounds_toArray, List.set_cons_zero, List.set_cons_succ]
                refine wpAnyH_take (i := 13) (v := undef) rfl (by kernel_rfl) (by kernel_rfl) (by kernel_rfl) (fun _ _ _ h => h) (Or.inr ⟨by kernel_rfl, rfl⟩) (by assumption) ?_
                try simp only [Act.put, List.getElem_toArray, List.getElem_cons_succ, List.getElem_cons_zero, List.setIfInBounds_toArray, List.set_cons_zero, List.set_cons_succ]
                refine wpAnyH_take (i := 14) (v := undef) rfl (by kernel_rfl) (by kernel_rfl) (by kernel_rfl) (fun _ _ _ h => h) (Or.inr ⟨by kernel_rfl, rfl⟩) (by assumption) ?_
                try simp only [Act.put, List.getElem_toArray, List.getElem_cons_succ, List.getElem_cons_zero, List.setIfInBounds_toArray, List.set_cons_zero, List.set_cons_succ]
                refine wpAnyH_take (i := 15) (v := undef) rfl (by kernel_rfl) (by kernel_rfl) (by kernel_rfl) (fun _ _ _ h => h) (Or.inr ⟨by kernel_rfl, rfl⟩) (by assumption) ?_
                try simp only [Act.put, List.getElem_toArray, List.getElem_cons_succ, List.getElem_cons_zero, List.setIfInBounds_toArray, List.set_cons_zero, List.set_cons_succ]
                refine wpAnyH_take (i := 16) (v := undef) rfl (by kernel_rfl) (by kernel_rfl) (by kernel_rfl) (fun _ _ _ h => h) (Or.inr ⟨by kernel_rfl, rfl⟩) (by assumption) ?_
                try simp only [Act.put, List.getElem_toArray, List.getElem_cons_succ, List.getElem_cons_zero, List.setIfInBounds_toArray, List.set_cons_zero, List.set_cons_succ]
                refine wpAnyH_take (i := 17) (v := undef) rfl (by kernel_rfl) (by kernel_rfl) (by kernel_rfl) (fun _ _ _ h => h) (Or.inr ⟨by kernel_rfl, rfl⟩) (by assumption) ?_
                try simp only [Act.put, List.getElem_toArray, List.getElem_cons_succ, List.getElem_cons_zero, List.setIfInBounds_toArray, List.set_cons_zero, List.set_cons_succ]
                refine wpAnyH_take (i := 18) (v := undef) rfl (by kernel_rfl) (by kernel_rfl) (by kernel_rfl) (fun _ _ _ h => h) (Or.inr ⟨by kernel_rfl, rfl⟩) (by assumption) ?_
                try simp only [Act.put, List.getElem_toArray, List.getElem_cons_succ, List.getElem_cons_zero, List.setIfInBounds_toArray, List.set_cons_zero, List.set_cons_succ]
                refine wpAnyH_take (i := 19) (v := undef) rfl (by kernel_rfl) (by kernel_rfl) (by kernel_rfl) (fun _ _ _ h => h) (Or.inr ⟨by kernel_rfl, rfl⟩) (by assumption) ?_
                try simp only [Act.put, List.getElem_toArray, List.getElem_cons_succ, List.getElem_cons_zero, List.setIfInBounds_toArray, List.set_cons_zero, List.set_cons_succ]
                refine wpAnyH_take (i := 20) (v := undef) rfl (by kernel_rfl) (by kernel_rfl) (by kernel_rfl) (fun _ _ _ h => h) (Or.inr ⟨by kernel_rfl, rfl⟩) (by assumption) ?_
                try simp only [Act.put, List.getElem_toArray, List.getElem_cons_succ, List.getElem_cons_zero, List.setIfInBounds_toArray, List.set_cons_zero, List.set_cons_succ]
                refine wpAnyH_take (i := 21) (v := undef) rfl (by kernel_rfl) (by kernel_rfl) (by kernel_rfl) (fun _ _ _ h => h) (Or.inr ⟨by kernel_rfl, rfl⟩) (by assumption) ?_
                try simp only [Act.put, List.getElem_toArray, List.getElem_cons_succ, List.getElem_cons_zero, List.setIfInBounds_toArray, List.set_cons_zero, List.set_cons_succ]
                refine wpAnyH_take (i := 22) (v := undef) rfl (by kernel_rfl) (by kernel_rfl) (by kernel_rfl) (fun _ _ _ h => h) (Or.inr ⟨by kernel_rfl, rfl⟩) (by assumption) ?_
                try simp only [Act.put, List.getElem_toArray, List.getElem_cons_succ, List.getElem_cons_zero, List.setIfInBounds_toArray, List.set_cons_zero, List.set_cons_succ]
                refine wpAnyH_take (i := 23) (v := undef) rfl (by kernel_rfl) (by kernel_rfl) (by kernel_rfl) (fun _ _ _ h => h) (Or.inr ⟨by kernel_rfl, rfl⟩) (by assumption) ?_
                try simp only [Act.put, List.getElem_toArray, List.getElem_cons_succ, List.getElem_cons_zero, List.setIfInBounds_toArray, List.set_cons_zero, List.set_cons_succ]
                refine wpAnyH_take (i := 24) (v := undef) rfl (by kernel_rfl) (by kernel_rfl) (by kernel_rfl) (fun _ _ _ h => h) (Or.inr ⟨by kernel_rfl, rfl⟩) (by assumption) ?_
                try simp only [Act.put, List.getElem_toArray, List.getElem_cons_succ, List.getElem_cons_zero, List.setIfInBounds_toArray, List.set_cons_zero, List.set_cons_succ]
                refine wpAnyH_ready (rs := [25]) (by kernel_rfl) (by simp) ?_
                refine AllReadyH.cons rfl (fun K hK => ?_) AllReadyH.nil
                go_simp
                refine hK.out _ _ ?_ (fun hHeld => ?_)
                · (exact HSH.out _ (by repeat' (first | exact Bl.refl _ | with_reducible assumption | with_reducible refine Bl.drew_ ?_ | with_reducible refine Bl.drewN_ ?_ _ | with_reducible refine Bl.alloc_ ?_ _ | with_reducible refine Bl.trans_ ?_ (by assumption) | with_reducible refine Bl.trans_ ?_ (And.left (by assumption)))))
                clear hK K
                try simp only [Act.put, List.getElem_toArray, List.getElem_cons_succ, List.getElem_cons_zero, List.setIfInBounds_toArray, List.set_cons_zero, List.set_cons_succ]
                refine wpAnyH_take (i := 26) (v := undef) rfl (by kernel_rfl) (by kernel_rfl) (by kernel_rfl) (fun _ _ _ h => h) (Or.inr ⟨by kernel_rfl, rfl⟩) (by assumption) ?_
                try simp only [Act.put, List.getElem_toArray, List.getElem_cons_succ, List.getElem_cons_zero, List.setIfInBounds_toArray, List.set_cons_zero, List.set_cons_succ]
                refine wpAnyH_take (i := 27) (v := ?_) rfl (by kernel_rfl) (by kernel_rfl) (by kernel_rfl) (fun _ _ _ h => h) (Or.inl ⟨by kernel_rfl, ?_⟩) (by assumption) ?_
                rotate_left
                · (intro wx hSw; (try dsimp only at hSw); go_simp; try (with_reducible rfl))
                try simp only [Act.put, List.getElem_toArray, List.getElem_cons_succ, List.getElem_cons_zero, List.setIfInBounds_toArray, List.set_cons_zero, List.set_cons_succ]
                refine wpAnyH_done (by kernel_rfl) ?_ _
                go_wp2
                go_roundw
                case rel => exact ⟨j + 1, _, by omega, rfl, by go_num, by rw [HY.out]; exact OwnN.bl O.out (by repeat' (first | exact Bl.refl _ | with_reducible assumption | with_reducible refine Bl.drew_ ?_ | with_reducible refine Bl.drewN_ ?_ _ | with_reducible refine Bl.alloc_ ?_ _ | with_reducible refine Bl.trans_ ?_ (by assumption) | with_reducible refine Bl.trans_ ?_ (And.left (by assumption)))), T.out.bl (by repeat' (first | exact Bl.refl _ | with_reducible assumption | with_reducible refine Bl.drew_ ?_ | with_reducible refine Bl.drewN_ ?_ _ | with_reducible refine Bl.alloc_ ?_ _ | with_reducible refine Bl.trans_ ?_ (by assumption) | with_reducible refine Bl.trans_ ?_ (And.left (by assumption)))), VO.out⟩
                case measure => simp [intOf]; omega
            · have b1 : decide (0 ≤ d) = false := by simpa using h1
              have HY := Lib.hid (NO.out (by rw [BY.out, decide_eq_false_iff_not]; omega))
              clear YES NO BY
              go_wp2_with fail
              refine wp_region_held_drew (S := fun wx => Bl wr wx ∧ wx.cell? ⟨g1, o1 + j, none⟩ = some (.int .i64 d) ∧ wx.cell? ⟨g2, o2 + j, none⟩ = some (.int .i64 e) ∧ wx.cell? ⟨g3, o3 + j, none⟩ = some (.int .i64 r)) (by kernel_rfl) ?_ (fun hHeld => ?_)
              · (exact HSH.out _ (by repeat' (first | exact Bl.refl _ | with_reducible assumption | with_reducible refine Bl.drew_ ?_ | with_reducible refine Bl.drewN_ ?_ _ | with_reducible refine Bl.alloc_ ?_ _ | with_reducible refine Bl.trans_ ?_ (by assumption) | with_reducible refine Bl.trans_ ?_ (And.left (by assumption)))))
              refine wpAnyH_take (i := 0) (v := ?_) rfl (by kernel_rfl) (by kernel_rfl) (by kernel_rfl) (fun _ _ _ h => h) (Or.inl ⟨by kernel_rfl, ?_⟩) (by assumption) ?_
              rotate_left
              · (intro wx hSw; (try dsimp only at hSw); go_simp; try (with_reducible rfl))
              try simp only [Act.put, List.getElem_toArray, List.getElem_cons_succ, List.getElem_cons_zero, List.setIfInBounds_toArray, List.set_cons_zero, List.set_cons_succ]
              refine wpAnyH_take (i := 1) (v := ?_) rfl (by kernel_rfl) (by kernel_rfl) (by kernel_rfl) (fun _ _ _ h => h) (Or.inl ⟨by kernel_rfl, ?_⟩) (by assumption) ?_
              rotate_left
              · (intro wx hSw; (try dsimp only at hSw); go_simp; try (with_reducible rfl))
              try simp only [Act.put, List.getElem_toArray, List.getElem_cons_succ, List.getElem_cons_zero, List.setIfInBounds_toArray, List.set_cons_zero, List.set_cons_succ]
              refine wpAnyH_take (i := 2) (v := ?_) rfl (by kernel_rfl) (by kernel_rfl) (by kernel_rfl) (fun _ _ _ h => h) (Or.inl ⟨by kernel_rfl, ?_⟩) (by assumption) ?_
              rotate_left
              · (intro wx hSw; (try dsimp only at hSw); go_simp; try (with_reducible rfl))
              try simp only [Act.put, List.getElem_toArray, List.getElem_cons_succ, List.getElem_cons_zero, List.setIfInBounds_toArray, List.set_cons_zero, List.set_cons_succ]
              refine wpAnyH_take (i := 3) (v := ?_) rfl (by kernel_rfl) (by kernel_rfl) (by kernel_rfl) (fun _ _ _ h => h) (Or.inl ⟨by kernel_rfl, ?_⟩) (by assumption) ?_
              rotate_left
              · (intro wx hSw; (try dsimp only at hSw); go_simp; try (with_reducible rfl))
              try simp only [Act.put, List.getElem_toArray, List.getElem_cons_succ, List.getElem_cons_zero, List.setIfInBounds_toArray, List.set_cons_zero, List.set_cons_succ]
              refine wpAnyH_take (i := 4) (v := ?_) rfl (by kernel_rfl) (by kernel_rfl) (by kernel_rfl) (fun _ _ _ h => h) (Or.inl ⟨by kernel_rfl, ?_⟩) (by assumption) ?_
              rotate_left
              · (intro wx hSw; (try dsimp only at hSw); go_simp; try (with_reducible rfl))
              try simp only [Act.put, List.getElem_toArray, List.getElem_cons_succ, List.getElem_cons_zero, List.setIfInBounds_toArray, List.set_cons_zero, List.set_cons_succ]
              refine wpAnyH_take (i := 5) (v := ?_) rfl (by kernel_rfl) (by kernel_rfl) (by kernel_rfl) (fun _ _ _ h => h) (Or.inl ⟨by kernel_rfl, ?_⟩) (by assumption) ?_
              rotate_left
              · (intro wx hSw; (try dsimp only at hSw); go_simp; try (with_reducible rfl))
              try simp only [Act.put, List.getElem_toArray, List.getElem_cons_succ, List.getElem_cons_zero, List.setIfInBounds_toArray, List.set_cons_zero, List.set_cons_succ]
              refine wpAnyH_take (i := 6) (v := undef) rfl (by kernel_rfl) (by kernel_rfl) (by kernel_rfl) (fun _ _ _ h => h) (Or.inr ⟨by kernel_rfl, rfl⟩) (by assumption) ?_
              try simp only [Act.put, List.getElem_toArray, List.getElem_cons_succ, List.getElem_cons_zero, List.setIfInBounds_toArray, List.set_cons_zero, List.set_cons_succ]
              refine wpAnyH_take (i := 7) (v := undef) rfl (by kernel_rfl) (by kernel_rfl) (by kernel_rfl) (fun _ _ _ h => h) (Or.inr ⟨by kernel_rfl, rfl⟩) (by assumption) ?_
              try simp only [Act.put, List.getElem_toArray, List.getElem_cons_succ, List.getElem_cons_zero, List.setIfInBounds_toArray, List.set_cons_zero, List.set_cons_succ]
              refine wpAnyH_take (i := 8) (v := undef) rfl (by kernel_rfl) (by kernel_rfl) (by kernel_rfl) (fun _ _ _ h => h) (Or.inr ⟨by kernel_rfl, rfl⟩) (by assumption) ?_
              try simp only [Act.put, List.getElem_toArray, List.getElem_cons_succ, List.getElem_cons_zero, List.setIfInBounds_toArray, List.set_cons_zero, List.set_cons_succ]
              refine wpAnyH_take (i := 9) (v := undef) rfl (by kernel_rfl) (by kernel_rfl) (by kernel_rfl) (fun _ _ _ h => h) (Or.inr ⟨by kernel_rfl, rfl⟩) (by assumption) ?_
              try simp only [Act.put, List.getElem_toArray, List.getElem_cons_succ, List.getElem_cons_zero, List.setIfInBounds_toArray, List.set_cons_zero, List.set_cons_succ]
              refine wpAnyH_take (i := 10) (v := undef) rfl (by kernel_rfl) (by kernel_rfl) (by kernel_rfl) (fun _ _ _ h => h) (Or.inr ⟨by kernel_rfl, rfl⟩) (by assumption) ?_
              try simp only [Act.put, List.getElem_toArray, List.getElem_cons_succ, List.getElem_cons_zero, List.setIfInBounds_toArray, List.set_cons_zero, List.set_cons_succ]
              refine wpAnyH_take (i := 11) (v := ?_) rfl (by kernel_rfl) (by kernel_rfl) (by kernel_rfl) (fun _ _ _ h => h) (Or.inl ⟨by kernel_rfl, ?_⟩) (by assumption) ?_
              rotate_left
              · (intro wx hSw; (try dsimp only at hSw); go_simp; try (with_reducible rfl))
              try simp only [Act.put, List.getElem_toArray, List.getElem_cons_succ, List.getElem_cons_zero, List.setIfInBounds_toArray, List.set_cons_zero, List.set_cons_succ]
              refine wpAnyH_take (i := 12) (v := ?_) rfl (by kernel_rfl) (by kernel_rfl) (by kernel_rfl) (fun _ _ _ h => h) (Or.inl ⟨by kernel_rfl, ?_⟩) (by assumption) ?_
              rotate_left
              · (intro wx hSw; (try dsimp only at hSw); go_simp; try (with_reducible rfl))
              try simp only [Act.put, List.getElem_toArray, List.getElem_cons_succ, List.getElem_cons_zero, List.setIfInBounds_toArray, List.set_cons_zero, List.set_cons_succ]
              refine wpAnyH_take (i := 13) (v := undef) rfl (by kernel_rfl) (by kernel_rfl) (by kernel_rfl) (fun _ _ _ h => h) (Or.inr ⟨by kernel_rfl, rfl⟩) (by assumption) ?_
              try simp only [Act.put, List.getElem_toArray, List.getElem_cons_succ, List.getElem_cons_zero, List.setIfInBounds_toArray, List.set_cons_zero, List.set_cons_succ]
              refine wpAnyH_take (i := 14) (v := undef) rfl (by kernel_rfl) (by kernel_rfl) (by kernel_rfl) (fun _ _ _ h => h) (Or.inr ⟨by kernel_rfl, rfl⟩) (by assumption) ?_
              try simp only [Act.put, List.getElem_toArray, List.getElem_cons_succ, List.getElem_cons_zero, List.setIfInBounds_toArray, List.set_cons_zero, List.set_cons_succ]
              refine wpAnyH_take (i := 15) (v := undef) rfl (by kernel_rfl) (by kernel_rfl) (by kernel_rfl) (fun _ _ _ h => h) (Or.inr ⟨by kernel_rfl, rfl⟩) (by assumption) ?_
              try simp only [Act.put, List.getElem_toArray, List.getElem_cons_succ, List.getElem_cons_zero, List.setIfInBounds_toArray, List.set_cons_zero, List.set_cons_succ]
              refine wpAnyH_take (i := 16) (v := undef) rfl (by kernel_rfl) (by kernel_rfl) (by kernel_rfl) (fun _ _ _ h => h) (Or.inr ⟨by kernel_rfl, rfl⟩) (by assumption) ?_
              try simp only [Act.put, List.getElem_toArray, List.getElem_cons_succ, List.getElem_cons_zero, List.setIfInBounds_toArray, List.set_cons_zero, List.set_cons_succ]
              refine wpAnyH_take (i := 17) (v := undef) rfl (by kernel_rfl) (by kernel_rfl) (by kernel_rfl) (fun _ _ _ h => h) (Or.inr ⟨by kernel_rfl, rfl⟩) (by assumption) ?_
              try simp only [Act.put, List.getElem_toArray, List.getElem_cons_succ, List.getElem_cons_zero, List.setIfInBounds_toArray, List.set_cons_zero, List.set_cons_succ]
              refine wpAnyH_take (i := 18) (v := undef) rfl (by kernel_rfl) (by kernel_rfl) (by kernel_rfl) (fun _ _ _ h => h) (Or.inr ⟨by kernel_rfl, rfl⟩) (by assumption) ?_
              try simp only [Act.put, List.getElem_toArray, List.getElem_cons_succ, List.getElem_cons_zero, List.setIfInBounds_toArray, List.set_cons_zero, List.set_cons_succ]
              refine wpAnyH_take (i := 19) (v := undef) rfl (by kernel_rfl) (by kernel_rfl) (by kernel_rfl) (fun _ _ _ h => h) (Or.inr ⟨by kernel_rfl, rfl⟩) (by assumption) ?_
              try simp only [Act.put, List.getElem_toArray, List.getElem_cons_succ, List.getElem_cons_zero, List.setIfInBounds_toArray, List.set_cons_zero, List.set_cons_succ]
              refine wpAnyH_take (i := 20) (v := undef) rfl (by kernel_rfl) (by kernel_rfl) (by kernel_rfl) (fun _ _ _ h => h) (Or.inr ⟨by kernel_rfl, rfl⟩) (by assumption) ?_
              try simp only [Act.put, List.getElem_toArray, List.getElem_cons_succ, List.getElem_cons_zero, List.setIfInBounds_toArray, List.set_cons_zero, List.set_cons_succ]
              refine wpAnyH_take (i := 21) (v := undef) rfl (by kernel_rfl) (by kernel_rfl) (by kernel_rfl) (fun _ _ _ h => h) (Or.inr ⟨by kernel_rfl, rfl⟩) (by assumption) ?_
              try simp only [Act.put, List.getElem_toArray, List.getElem_cons_succ, List.getElem_cons_zero, List.setIfInBounds_toArray, List.set_cons_zero, List.set_cons_succ]
              refine wpAnyH_take (i := 22) (v := undef) rfl (by kernel_rfl) (by kernel_rfl) (by kernel_rfl) (fun _ _ _ h => h) (Or.inr ⟨by kernel_rfl, rfl⟩) (by assumption) ?_
              try simp only [Act.put, List.getElem_toArray, List.getElem_cons_succ, List.getElem_cons_zero, List.setIfInBounds_toArray, List.set_cons_zero, List.set_cons_succ]
              refine wpAnyH_take (i := 23) (v := undef) rfl (by kernel_rfl) (by kernel_rfl) (by kernel_rfl) (fun _ _ _ h => h) (Or.inr ⟨by kernel_rfl, rfl⟩) (by assumption) ?_
              try simp only [Act.put, List.getElem_toArray, List.getElem_cons_succ, List.getElem_cons_zero, List.setIfInBounds_toArray, List.set_cons_zero, List.set_cons_succ]
              refine wpAnyH_take (i := 24) (v := undef) rfl (by kernel_rfl) (by kernel_rfl) (by kernel_rfl) (fun _ _ _ h => h) (Or.inr ⟨by kernel_rfl, rfl⟩) (by assumption) ?_
              try simp only [Act.put, List.getElem_toArray, List.getElem_cons_succ, List.getElem_cons_zero, List.setIfInBounds_toArray, List.set_cons_zero, List.set_cons_succ]
              refine wpAnyH_ready (rs := [25]) (by kernel_rfl) (by simp) ?_
              refine AllReadyH.cons rfl (fun K hK => ?_) AllReadyH.nil
              go_simp
              refine hK.out _ _ ?_ (fun hHeld => ?_)
              · (exact HSH.out _ (by repeat' (first | exact Bl.refl _ | with_reducible assumption | with_reducible refine Bl.drew_ ?_ | with_reducible refine Bl.drewN_ ?_ _ | with_reducible refine Bl.alloc_ ?_ _ | with_reducible refine Bl.trans_ ?_ (by assumption) | with_reducible refine Bl.trans_ ?_ (And.left (by assumption)))))
              clear hK K
              try simp only [Act.put, List.getElem_toArray, List.getElem_cons_succ, List.getElem_cons_zero, List.setIfInBounds_toArray, List.set_cons_zero, List.set_cons_succ]
              refine wpAnyH_take (i := 26) (v := undef) rfl (by kernel_rfl) (by kernel_rfl) (by kernel_rfl) (fun _ _ _ h => h) (Or.inr ⟨by kernel_rfl, rfl⟩) (by assumption) ?_
              try simp only [Act.put, List.getElem_toArray, List.getElem_cons_succ, List.getElem_cons_zero, List.setIfInBounds_toArray, List.set_cons_zero, List.set_cons_succ]
              refine wpAnyH_take (i := 27) (v := ?_) rfl (by kernel_rfl) (by kernel_rfl) (by kernel_rfl) (fun _ _ _ h => h) (Or.inl ⟨by kernel_rfl, ?_⟩) (by assumption) ?_
              rotate_left
              · (intro wx hSw; (try dsimp only at hSw); go_simp; try (with_reducible rfl))
              try simp only [Act.put, List.getElem_toArray, List.getElem_cons_succ, List.getElem_cons_zero, List.setIfInBounds_toArray, List.set_cons_zero, List.set_cons_succ]
              refine wpAnyH_done (by kernel_rfl) ?_ _
              go_wp2
              go_roundw
              case rel => exact ⟨j + 1, _, by omega, rfl, by go_num, by rw [HY.out]; exact OwnN.bl O.out (by repeat' (first | exact Bl.refl _ | with_reducible assumption | with_reducible refine Bl.drew_ ?_ | with_reducible refine Bl.drewN_ ?_ _ | with_reducible refine Bl.alloc_ ?_ _ | with_reducible refine Bl.trans_ ?_ (by assumption) | with_reducible refine Bl.trans_ ?_ (And.left (by assumption)))), T.out.bl (by repeat' (first | exact Bl.refl _ | with_reducible assumption | with_reducible refine Bl.drew_ ?_ | with_reducible refine Bl.drewN_ ?_ _ | with_reducible refine Bl.alloc_ ?_ _ | with_reducible refine Bl.trans_ ?_ (by assumption) | with_reducible refine Bl.trans_ ?_ (And.left (by assumption)))), VO.out⟩
              case measure => simp [intOf]; omega
          · obtain rfl : j = k := by omega
            go_wp2
            go_ret
            refine ⟨_, rfl, ?_, (Bl.alloc_ (Bl.refl w) _).trans_ hG⟩
            rw [HV.out, Int.toNat_natCast]
            exact O.out.low (by omega)
      · have htd : decide (0 ≤ t ∧ t < N) = false := by simpa using ht
        have HT := Lib.hid htd
        have AB := Lib.hid (prunedL_no (L := L) (V := V) (askB_no3 (s := s) htd))
        clear hsd htd
        go_enter Try.func40, Try.ntmps40
        go_wp2_with fail
        refine (specReachOk_any N A n c L HN.out A2 kk c2 V HK.out _ hm hkm (K1.out.bl (by repeat' (first | exact Bl.refl _ | with_reducible assumption | with_reducible refine Bl.drew_ ?_ | with_reducible refine Bl.drewN_ ?_ _ | with_reducible refine Bl.alloc_ ?_ _ | with_reducible refine Bl.trans_ ?_ (by assumption) | with_reducible refine Bl.trans_ ?_ (And.left (by assumption))))) (K2.out.bl (by repeat' (first | exact Bl.refl _ | with_reducible assumption | with_reducible refine Bl.drew_ ?_ | with_reducible refine Bl.drewN_ ?_ _ | with_reducible refine Bl.alloc_ ?_ _ | with_reducible refine Bl.trans_ ?_ (by assumption) | with_reducible refine Bl.trans_ ?_ (And.left (by assumption)))))).mono ?_
        rintro e w1 ⟨rfl, hb1⟩
        rw [RB.out]
        obtain ⟨q0, q1⟩ := BX.out _ hb1
        go_wp2_with fail
        refine (l1Node_any N s _ _).mono ?_
        rintro e w2 ⟨rfl, hb2⟩
        rw [HNS.out, HS.out]
        have hb2 := hb1.trans_ hb2
        obtain ⟨q0, q1⟩ := BX.out _ hb2
        go_wp2_with fail
        refine (l1Node_any N t _ _).mono ?_
        rintro e w3 ⟨rfl, hb3⟩
        rw [HNT.out, HT.out]
        have hb3 := hb2.trans_ hb3
        go_wp2
        go_ret
        exact ⟨_, rfl, by rw [AB.out]; exact (O0.out _ hb3).low (by omega), BW.out _ hb3⟩
    · have hsd : decide (0 ≤ s ∧ s < N) = false := by simpa using hs
      have HS := Lib.hid hsd
      have AB := Lib.hid (prunedL_no (L := L) (V := V) (askB_no2 (t := t) hsd))
      clear hsd
      go_enter Try.func40, Try.ntmps40
      go_wp2_with fail
      refine (specReachOk_any N A n c L HN.out A2 kk c2 V HK.out _ hm hkm (K1.out.bl (by repeat' (first | exact Bl.refl _ | with_reducible assumption | with_reducible refine Bl.drew_ ?_ | with_reducible refine Bl.drewN_ ?_ _ | with_reducible refine Bl.alloc_ ?_ _ | with_reducible refine Bl.trans_ ?_ (by assumption) | with_reducible refine Bl.trans_ ?_ (And.left (by assumption))))) (K2.out.bl (by repeat' (first | exact Bl.refl _ | with_reducible assumption | with_reducible refine Bl.drew_ ?_ | with_reducible refine Bl.drewN_ ?_ _ | with_reducible refine Bl.alloc_ ?_ _ | with_reducible refine Bl.trans_ ?_ (by assumption) | with_reducible refine Bl.trans_ ?_ (And.left (by assumption)))))).mono ?_
      rintro e w1 ⟨rfl, hb1⟩
      rw [RB.out]
      obtain ⟨q0, q1⟩ := BX.out _ hb1
      go_wp2_with fail
      refine (l1Node_any N s _ _).mono ?_
      rintro e w2 ⟨rfl, hb2⟩
      rw [HNS.out, HS.out]
      have hb2 := hb1.trans_ hb2
      go_wp2
      go_ret
      exact ⟨_, rfl, by rw [AB.out]; exact (O0.out _ hb2).low (by omega), BW.out _ hb2⟩

end Go.Proofs.Ytmdmbobjdhjadaa

set_option linter.unusedSimpArgs false
set_option linter.unusedVariables false
namespace Go.Proofs.Ytmdmbobjdhjadaa
open Go.RowKit Go.Shelf
attribute [local go_sem] Oper.semAt_some

/-- The nodes of these that reaches leave. -/
def selV (V : List Int) (pre : List Arc3) : List Int := (pre.filter fun x => decide (min x.2.1 x.2.2 ≤ V.getD x.1.toNat 0)).map (·.1)
theorem selV_yes {V : List Int} {pre : List Arc3} {x : Arc3} (h : min x.2.1 x.2.2 ≤ V.getD x.1.toNat 0) : selV V (pre ++ [x]) = selV V pre ++ [x.1] := by
  unfold selV
  rw [List.filter_append, List.map_append, List.filter_cons_of_pos (p := fun x : Arc3 => decide (min x.2.1 x.2.2 ≤ V.getD x.1.toNat 0)) (by simpa using h)]
  rfl
theorem selV_no {V : List Int} {pre : List Arc3} {x : Arc3} (h : ¬ (min x.2.1 x.2.2 ≤ V.getD x.1.toNat 0)) : selV V (pre ++ [x]) = selV V pre := by
  unfold selV
  rw [List.filter_append, List.map_append, List.filter_cons_of_neg (p := fun x : Arc3 => decide (min x.2.1 x.2.2 ≤ V.getD x.1.toNat 0)) (by simpa using h)]
  simp
theorem selV_all (D E V : List Int) : ∀ k : Nat, selV V (passK D E k) = leftK D E V k
  | 0 => rfl
  | k + 1 => by
    cases hb : bothB D E (k : Int) with
    | false =>
      rw [passK_no hb, selV_all D E V k, leftK_no]
      unfold bothB at hb
      unfold leftB
      rw [decide_eq_false_iff_not] at hb ⊢
      exact fun h => hb ⟨h.1, h.2.1⟩
    | true =>
      rw [passK_yes hb]
      unfold bothB at hb
      rw [decide_eq_true_eq] at hb
      by_cases h : min (dAt D (k : Int)) (dAt E (k : Int)) ≤ V.getD k 0
      · rw [selV_yes (by simpa using h), selV_all D E V k, leftK_yes]
        unfold leftB
        rw [decide_eq_true_eq]
        exact ⟨hb.1, hb.2, by simpa using h⟩
      · rw [selV_no (by simpa using h), selV_all D E V k, leftK_no]
        unfold leftB
        rw [decide_eq_false_iff_not]
        exact fun h' => h (by simpa using h'.2.2)
theorem passK_len_ (D E : List Int) (k : Nat) : (passK D E k).length ≤ k := by
  unfold passK
  rw [List.length_map]
  have := List.length_filter_le (bothB D E) ((List.range k).map Int.ofNat)
  simp at this
  exact this
theorem selV_len (V : List Int) (pre : List Arc3) : (selV V pre).length ≤ pre.length := by
  unfold selV
  rw [List.length_map]
  exact List.length_filter_le _ _

set_option maxRecDepth 100000 in
set_option maxHeartbeats 4000000 in
theorem leftBy_any (k : Nat) (s t : Int) (A : Option Addr) (n c : Nat) (L : List Arc3) (hn : n = L.length) (hc : n ≤ c) (ho : okB k L = true) (hs : 0 ≤ s ∧ s < k) (ht : 0 ≤ t ∧ t < k) (A2 : Option Addr) (kk c2 : Nat) (V : List Int) (hkk : kk = V.length) (hV : V.length = k) (w : World) (hm : n ≤ 1048576) (H1 : ArcsAt w w.heap.size A L) (H2 : IntsAt w w.heap.size A2 V) :
    Calls Try.prog 91 #[.agg #[.int .i64 k, .slice A n c], .slice A2 kk c2, .int .i64 s, .int .i64 t] w (NumsMade (leftK (distL k L s) (distL k (revL L) t) V k) w) := by
  obtain ⟨i0, hi, hz0, hz1, hz2⟩ := info_parts infoInt
  have I0 := Lib.hid hi
  have I1 := Lib.hid hz0
  have I2 := Lib.hid hz1
  have I3 := Lib.hid hz2
  have K1 := Lib.hid H1
  have HN := Lib.hid hn
  have HO := Lib.hid ho
  have HRO := Lib.hid (revL_ok ho)
  have HRL := Lib.hid (revL_len (okB_elim ho).2.2.2.2)
  have hN24 := (okB_elim ho).2.1
  have hk1 := (okB_elim ho).1
  have HV := Lib.hid hV
  have HKK := Lib.hid hkk
  obtain ⟨g2, o2, rfl, hg2, hc2⟩ := H2.cell (by omega)
  have CV := Lib.hid hc2
  clear H1 H2 hn hi hz0 hz1 hz2 hc2 hV hkk
  refine (callsIn_wide (n := 0)).1 ?_
  refine callsIn_of_wp_marks Try.func91 rfl trivial ?_ rfl
  simp only [Try.ntmps91, List.size_toArray, List.length_cons, List.length_nil, Nat.reduceAdd, Nat.reduceSub, Array.replicate_succ, Array.replicate_zero, List.push_toArray, List.append_toArray, List.nil_append, List.cons_append]
  gi_wp2_with fail
  obtain ⟨W, hW⟩ : ∃ W, W = (((w.alloc (.cells #[.int .i64 k, .slice A n c] 42)).alloc (.cells #[.slice (some ⟨g2, o2, none⟩) kk c2] 22)).alloc (.cells #[.slice none 0 0] 22)) := ⟨_, rfl⟩
  have HBW := Lib.hid (show Bl w W from by rw [hW]; exact ((Bl.alloc_ (Bl.refl w) _).alloc_ _).alloc_ _)
  have HSH := Lib.hid (show ∀ wx, Bl W wx → wx.cell? ⟨w.heap.size, 0, none⟩ = some (.int .i64 k) ∧ wx.cell? ⟨w.heap.size, 1, none⟩ = some (.slice A n c) from fun wx hb => by rw [hW] at hb; exact box2 ((Bl.alloc_ (Bl.alloc_ (Bl.refl _) _) _).trans_ hb))
  have HMX := Lib.hid (show ∀ wx, Bl W wx → wx.cell? ⟨w.heap.size + 1, 0, none⟩ = some (.slice (some ⟨g2, o2, none⟩) kk c2) ∧ wx.cell? ⟨w.heap.size + 2, 0, none⟩ = some (.slice none 0 0) ∧ wx.frozen? ⟨w.heap.size + 2, 0, none⟩ = false from fun wx hb => by
    obtain ⟨h1, h2⟩ := bcell hb
    have hs : W.heap.size = w.heap.size + 3 := by rw [hW]; simp
    rw [h1 _ _ (by omega), h1 _ _ (by omega), h2 _ _ (by omega), hW]
    exact ⟨by simp [go_sem], by simp [go_sem], by simp [go_sem]⟩)
  have hs0 : W.heap.size = w.heap.size + 3 := by rw [hW]; simp
  rw [← hW]
  clear hW ho
  refine wpIn_region_held (S := fun wx => wx.cell? ⟨w.heap.size, 0, none⟩ = some (.int .i64 k) ∧ wx.cell? ⟨w.heap.size, 1, none⟩ = some (.slice A n c)) (by kernel_rfl) ?_ (fun hHeld => ?_)
  · (exact HSH.out _ (by repeat' (first | exact Bl.refl _ | with_reducible assumption | with_reducible refine Bl.drew_ ?_ | with_reducible refine Bl.drewN_ ?_ _ | with_reducible refine Bl.alloc_ ?_ _ | with_reducible refine Bl.trans_ ?_ (by assumption) | with_reducible refine Bl.trans_ ?_ (And.left (by assumption)))))
  refine wpAnyH_take (i := 0) (v := ?_) rfl (by kernel_rfl) (by kernel_rfl) (by kernel_rfl) (fun _ _ _ h => h) (Or.inl ⟨by kernel_rfl, ?_⟩) (by assumption) ?_
  rotate_left
  · (intro wx hSw; (try dsimp only at hSw); go_simp; try (with_reducible rfl))
  try simp only [Act.put, List.getElem_toArray, List.getElem_cons_succ, List.getElem_cons_zero, List.setIfInBounds_toArray, List.set_cons_zero, List.set_cons_succ]
  refine wpAnyH_take (i := 1) (v := ?_) rfl (by kernel_rfl) (by kernel_rfl) (by kernel_rfl) (fun _ _ _ h => h) (Or.inl ⟨by kernel_rfl, ?_⟩) (by assumption) ?_
  rotate_left
  · (intro wx hSw; (try dsimp only at hSw); go_simp; try (with_reducible rfl))
  try simp only [Act.put, List.getElem_toArray, List.getElem_cons_succ, List.getElem_cons_zero, List.setIfInBounds_toArray, List.set_cons_zero, List.set_cons_succ]
  refine wpAnyH_take (i := 2) (v := ?_) rfl (by kernel_rfl) (by kernel_rfl) (by kernel_rfl) (fun _ _ _ h => h) (Or.inl ⟨by kernel_rfl, ?_⟩) (by assumption) ?_
  rotate_left
  · (intro wx hSw; (try dsimp only at hSw); go_simp; try (with_reducible rfl))
  try simp only [Act.put, List.getElem_toArray, List.getElem_cons_succ, List.getElem_cons_zero, List.setIfInBounds_toArray, List.set_cons_zero, List.set_cons_succ]
  refine wpAnyH_take (i := 3) (v := ?_) rfl (by kernel_rfl) (by kernel_rfl) (by kernel_rfl) (fun _ _ _ h => h) (Or.inl ⟨by kernel_rfl, ?_⟩) (by assumption) ?_
  rotate_left
  · (intro wx hSw; (try dsimp only at hSw); go_simp; try (with_reducible rfl))
  try simp only [Act.put, List.getElem_toArray, List.getElem_cons_succ, List.getElem_cons_zero, List.setIfInBounds_toArray, List.set_cons_zero, List.set_cons_succ]
  refine wpAnyH_take (i := 5) (v := ?_) rfl (by kernel_rfl) (by kernel_rfl) (by kernel_rfl) (fun _ _ _ h => h) (Or.inl ⟨by kernel_rfl, ?_⟩) (by assumption) ?_
  rotate_left
  · (intro wx hSw; (try dsimp only at hSw); go_simp; try (with_reducible rfl))
  try simp only [Act.put, List.getElem_toArray, List.getElem_cons_succ, List.getElem_cons_zero, List.setIfInBounds_toArray, List.set_cons_zero, List.set_cons_succ]
  refine wpAnyH_take (i := 7) (v := ?_) rfl (by kernel_rfl) (by kernel_rfl) (by kernel_rfl) (fun _ _ _ h => h) (Or.inl ⟨by kernel_rfl, ?_⟩) (by assumption) ?_
  rotate_left
  · (intro wx hSw; (try dsimp only at hSw); go_simp; try (with_reducible rfl))
  try simp only [Act.put, List.getElem_toArray, List.getElem_cons_succ, List.getElem_cons_zero, List.setIfInBounds_toArray, List.set_cons_zero, List.set_cons_succ]
  refine wpAnyH_ready (rs := [4]) (by kernel_rfl) (by simp) ?_
  refine AllReadyH.cons rfl (fun K hK => ?_) AllReadyH.nil
  go_simp
  (go_at_call 92; refine (distances_any k s A n c L HN.out hc HO.out hs.1 hs.2 _ (K1.out.bl (HBW.out.trans_ (by repeat' (first | exact Bl.refl _ | with_reducible assumption | with_reducible refine Bl.drew_ ?_ | with_reducible refine Bl.drewN_ ?_ _ | with_reducible refine Bl.alloc_ ?_ _ | with_reducible refine Bl.trans_ ?_ (by assumption) | with_reducible refine Bl.trans_ ?_ (And.left (by assumption))))))).mono ?_; rintro e w_1 ⟨E, rfl, hE, hEd, hb1⟩)
  try (go_wp2_with fail)
  refine hK.out _ _ ?_ (fun hHeld => ?_)
  · (exact HSH.out _ (by repeat' (first | exact Bl.refl _ | with_reducible assumption | with_reducible refine Bl.drew_ ?_ | with_reducible refine Bl.drewN_ ?_ _ | with_reducible refine Bl.alloc_ ?_ _ | with_reducible refine Bl.trans_ ?_ (by assumption) | with_reducible refine Bl.trans_ ?_ (And.left (by assumption)))))
  clear hK K
  try simp only [Act.put, List.getElem_toArray, List.getElem_cons_succ, List.getElem_cons_zero, List.setIfInBounds_toArray, List.set_cons_zero, List.set_cons_succ]
  refine wpAnyH_ready (rs := [6]) (by kernel_rfl) (by simp) ?_
  refine AllReadyH.cons rfl (fun K hK => ?_) AllReadyH.nil
  go_simp
  (go_at_call 52; refine (implReversed_any k A n c L HN.out _ hm (K1.out.bl (HBW.out.trans_ (by repeat' (first | exact Bl.refl _ | with_reducible assumption | with_reducible refine Bl.drew_ ?_ | with_reducible refine Bl.drewN_ ?_ _ | with_reducible refine Bl.alloc_ ?_ _ | with_reducible refine Bl.trans_ ?_ (by assumption) | with_reducible refine Bl.trans_ ?_ (And.left (by assumption))))))).mono ?_; rintro e w_2 ⟨v6, rfl, hv6, hb2⟩; rw [show revN (k : Int) L = (k : Int) from if_pos HO.out]; rw [show revG (k : Int) L = revL L from if_pos HO.out] at hv6; have hcap := OwnA.cap_ hv6; obtain ⟨A6, c6, rfl, ha6, -⟩ := hv6.shape; have V_2 := Lib.hid ha6; have HC6 := Lib.hid (hcap _ _ _ rfl); clear hv6 hcap ha6)
  try (go_wp2_with fail)
  refine hK.out _ _ ?_ (fun hHeld => ?_)
  · (exact HSH.out _ (by repeat' (first | exact Bl.refl _ | with_reducible assumption | with_reducible refine Bl.drew_ ?_ | with_reducible refine Bl.drewN_ ?_ _ | with_reducible refine Bl.alloc_ ?_ _ | with_reducible refine Bl.trans_ ?_ (by assumption) | with_reducible refine Bl.trans_ ?_ (And.left (by assumption)))))
  clear hK K
  try simp only [Act.put, List.getElem_toArray, List.getElem_cons_succ, List.getElem_cons_zero, List.setIfInBounds_toArray, List.set_cons_zero, List.set_cons_succ]
  refine wpAnyH_ready (rs := [8]) (by kernel_rfl) (by simp) ?_
  refine AllReadyH.cons rfl (fun K hK => ?_) AllReadyH.nil
  go_simp
  (go_at_call 92; refine (distances_any k t A6 (revL L).length c6 (revL L) rfl HC6.out HRO.out ht.1 ht.2 _ V_2.out).mono ?_; rintro e w_3 ⟨F, rfl, hF, hFd, hb3⟩)
  try (go_wp2_with fail)
  refine hK.out _ _ ?_ (fun hHeld => ?_)
  · (exact HSH.out _ (by repeat' (first | exact Bl.refl _ | with_reducible assumption | with_reducible refine Bl.drew_ ?_ | with_reducible refine Bl.drewN_ ?_ _ | with_reducible refine Bl.alloc_ ?_ _ | with_reducible refine Bl.trans_ ?_ (by assumption) | with_reducible refine Bl.trans_ ?_ (And.left (by assumption)))))
  clear hK K
  try simp only [Act.put, List.getElem_toArray, List.getElem_cons_succ, List.getElem_cons_zero, List.setIfInBounds_toArray, List.set_cons_zero, List.set_cons_succ]
  refine wpAnyH_ready (rs := [9]) (by kernel_rfl) (by simp) ?_
  refine AllReadyH.cons rfl (fun K hK => ?_) AllReadyH.nil
  go_simp
  (go_at_call 121; refine (passings_any k E F hE hF _).mono ?_; rintro e w_4 ⟨rfl, hw4⟩; have hb4 : Bl w_3 w_4 := (by rw [hw4]; exact ((Bl.alloc_ (Bl.refl _) _).alloc_ _).alloc_ _); have HW4 := Lib.hid hw4; clear hw4)
  try (go_wp2_with fail)
  refine hK.out _ _ ?_ (fun hHeld => ?_)
  · (exact HSH.out _ (by repeat' (first | exact Bl.refl _ | with_reducible assumption | with_reducible refine Bl.drew_ ?_ | with_reducible refine Bl.drewN_ ?_ _ | with_reducible refine Bl.alloc_ ?_ _ | with_reducible refine Bl.trans_ ?_ (by assumption) | with_reducible refine Bl.trans_ ?_ (And.left (by assumption)))))
  clear hK K
  try simp only [Act.put, List.getElem_toArray, List.getElem_cons_succ, List.getElem_cons_zero, List.setIfInBounds_toArray, List.set_cons_zero, List.set_cons_succ]
  refine wpAnyH_done (by kernel_rfl) ?_ _
  refine NoOut.normal ?_
  clear hHeld
  gi_wp2_with fail
  have B3 := Lib.hid (show Bl W w_3 from (by repeat' (first | exact Bl.refl _ | with_reducible assumption | with_reducible refine Bl.drew_ ?_ | with_reducible refine Bl.drewN_ ?_ _ | with_reducible refine Bl.alloc_ ?_ _ | with_reducible refine Bl.trans_ ?_ (by assumption) | with_reducible refine Bl.trans_ ?_ (And.left (by assumption)))))
  have B4 := Lib.hid (B3.out.trans_ hb4)
  have hin : PIn w_4 w_3.heap.size (w_3.heap.size + 1) (w_3.heap.size + 2) k E F := by
    rw [HW4.out]
    refine ⟨by simp [go_sem], ?_, ?_⟩
    · have h := (nums_box (w_3.alloc (.cells #[.int .i64 (k : Int)] 2)) 82 E hE).bl (Bl.alloc_ (Bl.refl _) (.cells (F.map (Value.int .i64)).toArray 82))
      rw [World.size_alloc] at h
      exact h
    · have h := nums_box ((w_3.alloc (.cells #[.int .i64 (k : Int)] 2)).alloc (.cells (E.map (Value.int .i64)).toArray 82)) 82 F hF
      rw [World.size_alloc, World.size_alloc] at h
      exact h
  have PIN := Lib.hid hin
  have hs4 : w_4.heap.size = w_3.heap.size + 3 := by rw [HW4.out]; simp
  have hs3 := B3.out.size
  have DE := Lib.hid (show E.take k = distL k L s from hEd)
  have DF := Lib.hid (show F.take k = distL k (revL L) t from hFd)
  have DTK := Lib.hid (show ∀ (X : List Int) (v : Int), X.length = 24 → 0 ≤ v → v < (k : Int) → dAt (X.take k) v = dAt X v from fun X v hX h0 h1 => by
    unfold dAt
    simp only [List.getD_eq_getElem?_getD]
    rw [List.getElem?_take, if_pos (by omega)])
  have EL := Lib.hid hE
  have FL := Lib.hid hF
  obtain ⟨m0, m1, m2⟩ := HMX.out _ B4.out
  have BW4 := Lib.hid (HBW.out.trans_ B4.out)
  obtain ⟨ob, hob⟩ : ∃ ob, ob = w.heap[g2]? := ⟨_, rfl⟩
  have HOB := Lib.hid hob
  have hg4 : w_4.heap[g2]? = ob := by have h : Below w.heap.size w w_4 := BW4.out; rw [hob]; exact h.block g2 hg2
  clear hob
  clear hb4 hb1 hb2 hb3 hE hF hEd hFd hin
  have hvb : w.heap.size + 1 + 1 = w.heap.size + 2 := rfl
  have hfin : PIn w_4 w_3.heap.size (w_3.heap.size + 1) (w_3.heap.size + 2) k E F := PIN.out
  refine wpIn_range (gf := 133) (lb := #[.pointer (some ⟨w_3.heap.size, 0, none⟩), .pointer (some ⟨w_3.heap.size + 1, 0, none⟩), .pointer (some ⟨w_3.heap.size + 2, 0, none⟩)]) ?e1 ?e2
    (pass_stops k w_3.heap.size (w_3.heap.size + 1) (w_3.heap.size + 2) E F (by omega) w_4 hfin) (Bl.refl _) (fun i hi => hfin.lt hi) ?e3
    (fun pre K W' => ∃ v, (∀ i, K i ↔ (i = w.heap.size + 2 ∨ i = w.heap.size + 1 ∨ v.ownBlock = some i ∨ i = g2)) ∧ (W'.cell? ⟨w.heap.size + 2, 0, none⟩ = some v ∧ W'.frozen? ⟨w.heap.size + 2, 0, none⟩ = false) ∧ W'.cell? ⟨w.heap.size + 1, 0, none⟩ = some (.slice (some ⟨g2, o2, none⟩) kk c2) ∧ OwnN W' (w.heap.size + 3) v (selV V pre) ∧ W'.heap[g2]? = ob ∧ w.heap.size + 3 ≤ W'.heap.size)
    (fun _ _ _ _ => False)
    (fun pre x a K W' => ∃ xb v, ∃ z0 z1 z2 z3 z4 z6 z7 z8 z11 z12 z13 z14 z15 z16 z17 z18 z19 z20 z21 z22 z23 z24 z25 z26 z27 z28 z29 z30 z31 z32 z33 z34 z35 : Value, (∀ i, K i ↔ (i = w.heap.size + 2 ∨ i = w.heap.size + 1 ∨ v.ownBlock = some i ∨ i = xb ∨ i = g2)) ∧ (W'.cell? ⟨w.heap.size + 2, 0, none⟩ = some v ∧ W'.frozen? ⟨w.heap.size + 2, 0, none⟩ = false) ∧ W'.cell? ⟨w.heap.size + 1, 0, none⟩ = some (.slice (some ⟨g2, o2, none⟩) kk c2) ∧ OwnN W' (w.heap.size + 3) v (selV V pre) ∧ (W'.heap[g2]? = ob ∧ w.heap.size + 3 ≤ W'.heap.size) ∧
      (xb ≠ w.heap.size + 2 ∧ xb ≠ w.heap.size + 1 ∧ v.ownBlock ≠ some xb ∧ xb ≠ g2 ∧ W'.cell? ⟨xb, 0, none⟩ = some (.int .i64 x.1) ∧ W'.cell? ⟨xb, 1, none⟩ = some (.int .i64 x.2.1) ∧ W'.cell? ⟨xb, 2, none⟩ = some (.int .i64 x.2.2)) ∧
      a = { tmps := #[z0, z1, z2, z3, z4, .pointer (some ⟨w.heap.size + 1, 0, none⟩), z6, z7, z8, .pointer (some ⟨w.heap.size + 1 + 1, 0, none⟩), .pointer (some ⟨xb, 0, none⟩), z11, z12, z13, z14, z15, z16, z17, z18, z19, z20, z21, z22, z23, z24, z25, z26, z27, z28, z29, z30, z31, z32, z33, z34, z35], defers := [] })
    (fun i => i = w.heap.size + 2 ∨ i = w.heap.size + 1 ∨ i = g2) ?hK0 ?hI (fun _ _ _ _ _ h _ => h) ?hM ?hlt ⟨.slice none 0 0, fun i => by simp [Value.ownBlock], ⟨m1, m2⟩, m0, OwnN.nil_ _ _, hg4, by omega⟩ ?assign ?body ?done (fun _ _ _ _ _ _ _ h _ _ _ => h.elim)
  case e1 => rfl
  case e2 => exact enters_of Try.func133 (by kernel_rfl) rfl
  case e3 => exact fun x => rfl
  case hK0 =>
    rintro i hi hp
    rcases hp with h | h | h <;> (rcases hi with h' | h' | h' <;> omega)
  case hI =>
    rintro pre K X Y ⟨v, hk, ⟨h1, h2⟩, h3, h4, h5, h6⟩ ht
    have l1 := World.block_lt_of_cell? _ _ h1
    have l3 := World.block_lt_of_cell? _ _ h3
    simp only at l1 l3
    obtain ⟨e1, e2⟩ := ht.cells l1 (fun h => h ((hk _).2 (.inl rfl))) 0
    exact ⟨v, hk, ⟨e1.trans h1, e2.trans h2⟩, (ht.cells l3 (fun h => h ((hk _).2 (.inr (.inl rfl)))) 0).1.trans h3, Owns.turn h4 ht (fun g hg h => h ((hk g).2 (.inr (.inr (.inl hg))))), (ht.block g2 (by omega) (fun h => h ((hk _).2 (.inr (.inr (.inr rfl)))))).trans h5, Nat.le_trans h6 ht.size⟩
  case hM =>
    rintro pre x a K X Y ⟨xb, v, z0, z1, z2, z3, z4, z6, z7, z8, z11, z12, z13, z14, z15, z16, z17, z18, z19, z20, z21, z22, z23, z24, z25, z26, z27, z28, z29, z30, z31, z32, z33, z34, z35, hk, ⟨h1, h2⟩, h3, h4, ⟨h5, h6⟩, ⟨n1, n2, n3, n4, c0, c1, c2⟩, he⟩ ht
    have l1 := World.block_lt_of_cell? _ _ h1
    have l3 := World.block_lt_of_cell? _ _ h3
    have lx := World.block_lt_of_cell? _ _ c0
    simp only at l1 l3 lx
    obtain ⟨e1, e2⟩ := ht.cells l1 (fun h => h ((hk _).2 (.inl rfl))) 0
    have hs := fun o => (ht.cells lx (fun h => h ((hk _).2 (.inr (.inr (.inr (.inl rfl)))))) o).1
    exact ⟨xb, v, z0, z1, z2, z3, z4, z6, z7, z8, z11, z12, z13, z14, z15, z16, z17, z18, z19, z20, z21, z22, z23, z24, z25, z26, z27, z28, z29, z30, z31, z32, z33, z34, z35, hk, ⟨e1.trans h1, e2.trans h2⟩, (ht.cells l3 (fun h => h ((hk _).2 (.inr (.inl rfl)))) 0).1.trans h3, Owns.turn h4 ht (fun g hg h => h ((hk g).2 (.inr (.inr (.inl hg))))), ⟨(ht.block g2 (by omega) (fun h => h ((hk _).2 (.inr (.inr (.inr (.inr rfl))))))).trans h5, Nat.le_trans h6 ht.size⟩, ⟨n1, n2, n3, n4, (hs 0).trans c0, (hs 1).trans c1, (hs 2).trans c2⟩, he⟩
  case hlt =>
    rintro pre K X ⟨v, hk, ⟨h1, h2⟩, h3, h4, h5, h6⟩ i hi
    rcases (hk i).1 hi with rfl | rfl | h | rfl
    · exact World.block_lt_of_cell? _ _ h1
    · exact World.block_lt_of_cell? _ _ h3
    · exact (Owns.lt h4 i h).2
    · omega
  case assign =>
    rintro l pre ⟨x, y, z⟩ K X R ⟨v, hk, ⟨h1, h2⟩, h3, h4, h5, h6⟩ hpre hR
    have HKX := Lib.hid hk
    have HC1 := Lib.hid h1
    have HC2 := Lib.hid h2
    have HC3 := Lib.hid h3
    have HC4 := Lib.hid h4
    have HC5 := Lib.hid h5
    have HR := Lib.hid hR
    have l1 := World.block_lt_of_cell? _ _ h1
    simp only at l1
    clear hk h1 h2 h3 h4 h5 hpre hR m0 m1 m2 hfin hg4
    dsimp only [encP]
    gi_wp2_with fail
    have BN : Bl X (X.alloc (.cells #[.int .i64 x, .int .i64 y, .int .i64 z] 106)) := (by repeat' (first | exact Bl.refl _ | with_reducible assumption | with_reducible refine Bl.drew_ ?_ | with_reducible refine Bl.drewN_ ?_ _ | with_reducible refine Bl.alloc_ ?_ _ | with_reducible refine Bl.trans_ ?_ (by assumption) | with_reducible refine Bl.trans_ ?_ (And.left (by assumption))))
    have hx := bcell BN
    refine HR.out _ (fun i => i = w.heap.size + 2 ∨ i = w.heap.size + 1 ∨ v.ownBlock = some i ∨ i = X.heap.size ∨ i = g2) _ ⟨Turn.of_bl BN, fun i hi => ?_⟩ ⟨X.heap.size, v, _, _, _, _, _, _, _, _, _, _, _, _, _, _, _, _, _, _, _, _, _, _, _, _, _, _, _, _, _, _, _, _, _, fun i => Iff.rfl, ⟨(hx.1 _ _ l1).trans HC1.out, (hx.2 _ _ l1).trans HC2.out⟩, (hx.1 _ _ (by omega)).trans HC3.out, OwnN.bl HC4.out BN, ⟨((show Below X.heap.size X _ from BN).block g2 (by omega)).trans HC5.out, Nat.le_trans h6 BN.size⟩,
      ⟨by omega, by omega, fun h => by have := (Owns.lt HC4.out _ h).2; omega, by omega, by simp [go_sem], by simp [go_sem], by simp [go_sem]⟩, rfl⟩
    rcases hi with h | h | h | h | h
    · exact .inl ((HKX.out i).2 (.inl h))
    · exact .inl ((HKX.out i).2 (.inr (.inl h)))
    · exact .inl ((HKX.out i).2 (.inr (.inr (.inl h))))
    · exact .inr (by omega)
    · exact .inl ((HKX.out i).2 (.inr (.inr (.inr h))))
  case body =>
    rintro l pre ⟨x, y, z⟩ a₁ K X ⟨xb, v, z0, z1, z2, z3, z4, z6, z7, z8, z11, z12, z13, z14, z15, z16, z17, z18, z19, z20, z21, z22, z23, z24, z25, z26, z27, z28, z29, z30, z31, z32, z33, z34, z35, hk, ⟨h1, h2⟩, h3, h4, ⟨h5, h6⟩, ⟨n1, n2, n3, n4, e0, e1, e2⟩, rfl⟩ ⟨Z, hZ⟩
    have hp := passK_ids E F k (x, y, z) (by rw [hZ]; simp)
    obtain ⟨⟨p0, p1⟩, -⟩ := hp
    simp only at p0 p1 e0 e1 e2
    obtain ⟨u, rfl⟩ : ∃ u : Nat, x = u := ⟨x.toNat, by omega⟩
    have huk : u < k := by omega
    have huV : u < V.length := by have := HV.out; omega
    have hu0 : (0 : Int) ≤ (u : Int) := by omega
    have hu1 : (u : Int) < (kk : Int) := by have := HV.out; have := HKK.out; omega
    have cr : X.cell? ⟨g2, o2 + u, none⟩ = some (.int .i64 V[u]) := (World.cell?_of_block (a := ⟨g2, o2 + u, none⟩) (h5.trans HOB.out)).trans (CV.out u huV)
    have gV : V.getD ((u : Int).toNat) 0 = V[u] := by simp [huV]
    have YES := Lib.hid (fun (h : min y z ≤ V[u]) => selV_yes (V := V) (pre := pre) (x := ((u : Int), y, z)) (by rw [gV]; exact h))
    have NO := Lib.hid (fun (h : ¬ min y z ≤ V[u]) => selV_no (V := V) (pre := pre) (x := ((u : Int), y, z)) (by rw [gV]; exact h))
    have l1 := World.block_lt_of_cell? _ _ h1
    have l3 := World.block_lt_of_cell? _ _ h3
    have lx := World.block_lt_of_cell? _ _ e0
    simp only at l1 l3 lx
    have HKX := Lib.hid hk
    have OW := Lib.hid h4
    have H5 := Lib.hid h5
    have C1 := Lib.hid h1
    have C2 := Lib.hid h2
    have C3 := Lib.hid h3
    have hlen : (selV V pre).length ≤ 24 := by
      have h1 := selV_len V pre
      have h2 := passK_len_ E F k
      have h3 := congrArg List.length hZ
      simp only [List.length_append, List.length_cons] at h3
      omega
    clear gV
    generalize V[u] = r at *
    have HSX := Lib.hid (show ∀ wx, Bl X wx → wx.cell? ⟨w.heap.size + 1, 0, none⟩ = some (.slice (some ⟨g2, o2, none⟩) kk c2) ∧ wx.cell? ⟨xb, 0, none⟩ = some (.int .i64 (u : Int)) ∧ wx.cell? ⟨xb, 1, none⟩ = some (.int .i64 y) ∧ wx.cell? ⟨xb, 2, none⟩ = some (.int .i64 z) ∧ wx.cell? ⟨g2, o2 + u, none⟩ = some (.int .i64 r) from fun wx hb => by
      have h := (bcell hb).1
      exact ⟨(h _ _ l3).trans h3, (h _ _ lx).trans e0, (h _ _ lx).trans e1, (h _ _ lx).trans e2, (h _ _ (by omega)).trans cr⟩)
    clear hk hZ m0 m1 m2 hfin hg4 h1 h2 h3 h4 h5 e0 e1 e2 cr
    gi_wp2_with fail
    refine wpIn_region_heldF (S := fun wx => wx.cell? ⟨w.heap.size + 1, 0, none⟩ = some (.slice (some ⟨g2, o2, none⟩) kk c2) ∧ wx.cell? ⟨xb, 0, none⟩ = some (.int .i64 (u : Int)) ∧ wx.cell? ⟨xb, 1, none⟩ = some (.int .i64 y) ∧ wx.cell? ⟨xb, 2, none⟩ = some (.int .i64 z) ∧ wx.cell? ⟨g2, o2 + u, none⟩ = some (.int .i64 r)) (by kernel_rfl) ?_ (fun hHeld => ?_)
    · (exact HSX.out _ (by repeat' (first | exact Bl.refl _ | with_reducible assumption | with_reducible refine Bl.drew_ ?_ | with_reducible refine Bl.drewN_ ?_ _ | with_reducible refine Bl.alloc_ ?_ _ | with_reducible refine Bl.trans_ ?_ (by assumption) | with_reducible refine Bl.trans_ ?_ (And.left (by assumption)))))
    refine wpAnyHF_take (i := 0) (v := ?_) (by kernel_rfl) rfl (by kernel_rfl) (by kernel_rfl) (by kernel_rfl) (fun _ _ _ h => h) (Or.inl ⟨by kernel_rfl, ?_⟩) (fun _ => rfl) (by assumption) ?_
    rotate_left
    · (intro wx hSw; (try dsimp only at hSw); go_simp; try (with_reducible rfl))
    try simp only [Act.put, List.getElem_toArray, List.getElem_cons_succ, List.getElem_cons_zero, List.setIfInBounds_toArray, List.set_cons_zero, List.set_cons_succ]
    refine wpAnyHF_take (i := 2) (v := ?_) (by kernel_rfl) rfl (by kernel_rfl) (by kernel_rfl) (by kernel_rfl) (fun _ _ _ h => h) (Or.inl ⟨by kernel_rfl, ?_⟩) (fun _ => rfl) (by assumption) ?_
    rotate_left
    · (intro wx hSw; (try dsimp only at hSw); go_simp; try (with_reducible rfl))
    try simp only [Act.put, List.getElem_toArray, List.getElem_cons_succ, List.getElem_cons_zero, List.setIfInBounds_toArray, List.set_cons_zero, List.set_cons_succ]
    refine wpAnyHF_take (i := 3) (v := ?_) (by kernel_rfl) rfl (by kernel_rfl) (by kernel_rfl) (by kernel_rfl) (fun _ _ _ h => h) (Or.inl ⟨by kernel_rfl, ?_⟩) (fun _ => rfl) (by assumption) ?_
    rotate_left
    · (intro wx hSw; (try dsimp only at hSw); go_simp; try (with_reducible rfl))
    try simp only [Act.put, List.getElem_toArray, List.getElem_cons_succ, List.getElem_cons_zero, List.setIfInBounds_toArray, List.set_cons_zero, List.set_cons_succ]
    refine wpAnyHF_take (i := 4) (v := ?_) (by kernel_rfl) rfl (by kernel_rfl) (by kernel_rfl) (by kernel_rfl) (fun _ _ _ h => h) (Or.inl ⟨by kernel_rfl, ?_⟩) (fun _ => rfl) (by assumption) ?_
    rotate_left
    · (intro wx hSw; (try dsimp only at hSw); go_simp; try (with_reducible rfl))
    try simp only [Act.put, List.getElem_toArray, List.getElem_cons_succ, List.getElem_cons_zero, List.setIfInBounds_toArray, List.set_cons_zero, List.set_cons_succ]
    refine wpAnyHF_take (i := 5) (v := ?_) (by kernel_rfl) rfl (by kernel_rfl) (by kernel_rfl) (by kernel_rfl) (fun _ _ _ h => h) (Or.inl ⟨by kernel_rfl, ?_⟩) (fun _ => rfl) (by assumption) ?_
    rotate_left
    · (intro wx hSw; (try dsimp only at hSw); go_simp; try (with_reducible rfl))
    try simp only [Act.put, List.getElem_toArray, List.getElem_cons_succ, List.getElem_cons_zero, List.setIfInBounds_toArray, List.set_cons_zero, List.set_cons_succ]
    refine wpAnyHF_take (i := 6) (v := ?_) (by kernel_rfl) rfl (by kernel_rfl) (by kernel_rfl) (by kernel_rfl) (fun _ _ _ h => h) (Or.inl ⟨by kernel_rfl, ?_⟩) (fun _ => rfl) (by assumption) ?_
    rotate_left
    · (intro wx hSw; (try dsimp only at hSw); go_simp; try (with_reducible rfl))
    try simp only [Act.put, List.getElem_toArray, List.getElem_cons_succ, List.getElem_cons_zero, List.setIfInBounds_toArray, List.set_cons_zero, List.set_cons_succ]
    refine wpAnyHF_ready (rs := [1]) (by kernel_rfl) (by simp) ?_
    refine AllReadyHF.cons rfl (fun K hK => ?_) AllReadyHF.nil
    go_simp
    (refine ⟨by first | trivial | exact fun _ _ => trivial, by first | rfl | (intro h; simp [Fence.wide] at h), CallsIn.inRound _ (CallsIn.mono (callsIn_wide.2 (lesser_any _ _ _ _)) ?_)⟩; rintro e w7 ⟨rfl, hb7⟩)
    try (gi_wp2_with fail)
    refine hK.out _ _ ?_ (fun hHeld => ?_)
    · (exact HSX.out _ (by repeat' (first | exact Bl.refl _ | with_reducible assumption | with_reducible refine Bl.drew_ ?_ | with_reducible refine Bl.drewN_ ?_ _ | with_reducible refine Bl.alloc_ ?_ _ | with_reducible refine Bl.trans_ ?_ (by assumption) | with_reducible refine Bl.trans_ ?_ (And.left (by assumption)))))
    clear hK K
    try simp only [Act.put, List.getElem_toArray, List.getElem_cons_succ, List.getElem_cons_zero, List.setIfInBounds_toArray, List.set_cons_zero, List.set_cons_succ]
    refine wpAnyHF_take (i := 7) (v := ?_) (by kernel_rfl) rfl (by kernel_rfl) (by kernel_rfl) (by kernel_rfl) (fun _ _ _ h => h) (Or.inl ⟨by kernel_rfl, ?_⟩) (fun _ => rfl) (by assumption) ?_
    rotate_left
    · (intro wx hSw; (try dsimp only at hSw); go_simp; try (with_reducible rfl))
    try simp only [Act.put, List.getElem_toArray, List.getElem_cons_succ, List.getElem_cons_zero, List.setIfInBounds_toArray, List.set_cons_zero, List.set_cons_succ]
    refine wpAnyHF_done (by kernel_rfl) ?_ _
    clear hHeld
    have B7 := Lib.hid (show Bl X w7 from (by repeat' (first | exact Bl.refl _ | with_reducible assumption | with_reducible refine Bl.drew_ ?_ | with_reducible refine Bl.drewN_ ?_ _ | with_reducible refine Bl.alloc_ ?_ _ | with_reducible refine Bl.trans_ ?_ (by assumption) | with_reducible refine Bl.trans_ ?_ (And.left (by assumption)))))
    have hx7 := bcell B7.out
    have O7 := Lib.hid (OW.out.bl B7.out)
    have h1 := (hx7.1 _ _ l1).trans C1.out
    have h2 := (hx7.2 _ _ l1).trans C2.out
    have h3 := (hx7.1 _ _ l3).trans C3.out
    have e0 := (HSX.out w7 B7.out).2.1
    have s7 := B7.out.size
    have H7 := Lib.hid (((show Below X.heap.size X _ from B7.out).block g2 (by omega)).trans H5.out)
    clear hx7 hb7
    by_cases hle : min y z ≤ r
    · have b1 : decide (min y z ≤ r) = true := by simpa using hle
      have SY := Lib.hid (YES.out hle)
      clear YES NO
      gi_wp2_with (refine wpListIn_append_any _ rfl (.tmp 30) (.tmp 33) 22 rfl (w.heap.size + 3) 2 i0 _ 1 8 Try.underlying22 I0.out I1.out I2.out I3.out rfl (by decide) v (selV V pre).length (csI (selV V pre)) rfl (World.ownsRow.alloc O7.out _) (w7.heap.size + 1) (some ⟨w7.heap.size, 0, none⟩) 1 1 [.int .i64 (u : Int)] rfl ?c0 (by simp [Value.oneCell']) ?c3 ?c4 ?c5 ?_)
      case c0 =>
        refine ⟨rfl, fun _ => ⟨_, rfl, by show w7.heap.size < w7.heap.size + 1; omega, fun j u hj => ?_⟩⟩
        match j, hj with
        | 0, hj => simp at hj; subst hj; simp [Addr.add, go_sem]
        | (j + 1), hj => simp at hj
      case c3 => unfold maxLen; omega
      case c4 => omega
      case c5 => first | omega | (simp; omega)
      intro v' w8 hown' hgrow hwh
      have O8 := Lib.hid (OwnN.snoc (V := selV V pre) (x := (u : Int)) (n := (selV V pre).length) rfl (by simpa using hown'))
      rw [← show selV V (pre ++ [((u : Int), y, z)]) = selV V pre ++ [(u : Int)] from SY.out] at O8
      have hvb : v.ownBlock ≠ some (w.heap.size + 2) := fun h => by have := (Owns.lt OW.out _ h).1; omega
      have hmb : v.ownBlock ≠ some (w.heap.size + 1) := fun h => by have := (Owns.lt OW.out _ h).1; omega
      have hgb : v.ownBlock ≠ some g2 := fun h => by have := (Owns.lt OW.out _ h).1; omega
      have hb7 := hgrow.block (w.heap.size + 2) (by simp; omega) (fun h => hvb h.symm)
      have BA : Bl w7 (w7.alloc (.cells #[.int .i64 (u : Int)] 2)) := Bl.alloc_ (Bl.refl _) _
      have hc7 := (bcell BA)
      have r1 : w8.cell? ⟨w.heap.size + 2, 0, none⟩ = some v := (World.cell?_of_block (a := ⟨w.heap.size + 2, 0, none⟩) hb7).trans ((hc7.1 _ _ (by omega)).trans h1)
      have r2 : w8.frozen? ⟨w.heap.size + 2, 0, none⟩ = false := (World.frozen?_of_block (a := ⟨w.heap.size + 2, 0, none⟩) hb7).trans ((hc7.2 _ _ (by omega)).trans h2)
      have r3 := (World.cell?_of_block (a := ⟨w.heap.size + 1, 0, none⟩) (hgrow.block (w.heap.size + 1) (by simp; omega) (fun h => hmb h.symm))).trans ((hc7.1 _ _ (by omega)).trans h3)
      have r5 := Lib.hid ((hgrow.block g2 (by simp; omega) (fun h => hgb h.symm)).trans (((show Below w7.heap.size w7 _ from BA).block g2 (by omega)).trans H7.out))
      have hv'b : ∀ g, v'.ownBlock = some g → g ≠ w.heap.size + 2 := fun g hg e => by have := (Owns.lt O8.out g hg).1; omega
      have GR := Lib.hid hgrow
      have WH := Lib.hid hwh
      have s8 := hgrow.size
      obtain ⟨A9, c9, hv9, -⟩ := OwnN.shape O8.out
      obtain ⟨z9, hz9⟩ : ∃ z9, z9 = (selV V (pre ++ [((u : Int), y, z)])).length := ⟨_, rfl⟩
      rw [← hz9] at hv9
      subst hv9
      clear hown' hgrow hwh hb7 hc7 hz9 BA
      simp at s8
      gi_wp2_with fail
      refine ⟨fun i => i = w.heap.size + 2 ∨ i = w.heap.size + 1 ∨ (Value.slice A9 z9 c9).ownBlock = some i ∨ i = g2, ⟨?_, fun i hi => ?_⟩, .slice A9 z9 c9, fun i => Iff.rfl, ⟨?_, ?_⟩, ?_, ?_, ?_, ?_⟩
      · refine Turn.set (p := ⟨w.heap.size + 2, 0, none⟩) ((Turn.of_bl (S := K) (show Bl X (w7.alloc (.cells #[.int .i64 (u : Int)] 2)) from B7.out.alloc_ _)).trans (Turn.of_grown (S := fun i => v.ownBlock = some i) GR.out (fun i e => e)) (fun i _ e => (HKX.out i).2 (.inr (.inr (.inl e))))) (.inl ((HKX.out _).2 (.inl rfl))) _
      · rcases hi with h | h | h | h
        · exact .inl ((HKX.out i).2 (.inl h))
        · exact .inl ((HKX.out i).2 (.inr (.inl h)))
        · rcases WH.out with e | e
          · exact .inl ((HKX.out i).2 (.inr (.inr (.inl (by rw [← e]; exact h)))))
          · rw [e] at h
            injection h with h
            first
              | exact .inr (by omega)
              | (simp at h; exact .inr (by omega))
        · exact .inl ((HKX.out i).2 (.inr (.inr (.inr (.inr h)))))
      · exact World.cell?_setCell_same' _ _ _ (by rw [r1]; rfl)
      · rw [World.frozen?_setCell]; exact r2
      · rw [World.cell?_setCell_other _ _ _ _ (by intro e; injection e with e; omega)]; exact r3
      · exact Owns.setOther O8.out (fun g hg => hv'b g hg) _
      · exact (Below.heap_setCell w8 ⟨w.heap.size + 2, 0, none⟩ _ g2 (by show g2 ≠ w.heap.size + 2; omega)).trans r5.out
      · simp; omega
    · have b1 : decide (min y z ≤ r) = false := by simpa using hle
      have SN := Lib.hid (NO.out (by omega))
      clear YES NO
      gi_wp2_with fail
      exact ⟨fun i => i = w.heap.size + 2 ∨ i = w.heap.size + 1 ∨ v.ownBlock = some i ∨ i = g2, ⟨Turn.of_bl B7.out, fun i hi => .inl ((HKX.out i).2 (by rcases hi with h | h | h | h; exact .inl h; exact .inr (.inl h); exact .inr (.inr (.inl h)); exact .inr (.inr (.inr (.inr h)))))⟩, v, fun i => Iff.rfl, ⟨h1, h2⟩, h3, by rw [SN.out]; exact O7.out, H7.out, by omega⟩
  case done =>
    rintro D xs K X hD rfl ⟨v, hk, ⟨h1, h2⟩, h3, h4, h5, h6⟩ hT hKD hdef
    have HKX := Lib.hid hk
    have OW := Lib.hid h4
    have HT := Lib.hid (show Turn (fun i => i = w.heap.size + 2 ∨ i = w.heap.size + 1) w_4 X from ⟨hT.os, hT.tape, hT.output, hT.size, fun i hi hn => by
      by_cases e : i = g2
      · subst e
        exact h5.trans hg4.symm
      · exact hT.block i hi (fun h => by rcases h with h | h | h; exact hn (.inl h); exact hn (.inr h); exact e h)⟩)
    have HD := Lib.hid hdef
    have HKD := Lib.hid hKD
    clear hk h2 h3 h4 h5 hT hKD hdef m0 m1 m2 hfin hg4
    gi_wp2_with fail
    refine ⟨by simp, .inl ⟨_, _, rfl, run_takeDeferred HD.out, ?_⟩⟩
    refine ⟨v, by simp [results, Try.results91, go_sem], v, rfl, ?_, ?_⟩
    · have hput := Owns.turn OW.out (turn_put (fun i => i = D) X (.deferred none) rfl) (fun g hg e => HKD.out (by rw [← e]; exact (HKX.out g).2 (.inr (.inr (.inl hg)))))
      have hsel : selV V (passK E F k) = leftK (distL k L s) (distL k (revL L) t) V k := by
        rw [selV_all]
        refine leftK_same (fun v h0 h1 => ?_) (fun v h0 h1 => ?_)
        · rw [← DTK.out E v EL.out h0 h1, DE.out]
        · rw [← DTK.out F v FL.out h0 h1, DF.out]
      rw [← hsel]
      exact Owns.low hput (by omega)
    · exact Turn.to_bl (Turn.to_bl (HBW.out.trans_ B4.out) HT.out (fun i hi => by rcases hi with h | h <;> omega)) (turn_put (fun i => i = D) X (.deferred none) rfl) (fun i hi => by rw [hi]; omega)

end Go.Proofs.Ytmdmbobjdhjadaa

set_option linter.unusedSimpArgs false
set_option linter.unusedVariables false
namespace Go.Proofs.Ytmdmbobjdhjadaa
open Go.RowKit

theorem askB_has {N s t : Int} {L : List Arc3} {V : List Int} (h : has2 N L s t = false) : askB N L V s t = false := by
  cases e : askB N L V s t with
  | false => rfl
  | true =>
    obtain ⟨h1, h2, h3⟩ := askB_elim e
    have := (reachB_ok h1).1
    unfold has2 at h
    rw [this, Bool.true_and, decide_eq_false_iff_not] at h
    exact absurd ⟨h2, h3⟩ h
theorem askB_of_has {N s t : Int} {L : List Arc3} {V : List Int} (h : has2 N L s t = true) : askB N L V s t = reachB N L V := by
  obtain ⟨h1, h2, h3⟩ := has2_of h
  unfold askB
  rw [show decide (0 ≤ s ∧ s < N) = true from by simpa using h2, show decide (0 ≤ t ∧ t < N) = true from by simpa using h3]
  simp

set_option maxRecDepth 100000 in
set_option maxHeartbeats 1000000 in
theorem reachAsked_any (N s t : Int) (A : Option Addr) (n c : Nat) (L : List Arc3) (hn : n = L.length) (hc : n ≤ c) (A2 : Option Addr) (k c2 : Nat) (V : List Int) (hk : k = V.length) (w : World) (hm : n ≤ 1048576) (hkm : k ≤ 1048576) (H1 : ArcsAt w w.heap.size A L) (H2 : IntsAt w w.heap.size A2 V) :
    Calls Try.prog 90 #[.agg #[.int .i64 N, .slice A n c], .slice A2 k c2, .int .i64 s, .int .i64 t] w fun e w' => e = .returned (.bool (askB N L V s t)) ∧ Bl w w' := by
  have K1 := Lib.hid H1
  have K2 := Lib.hid H2
  have HN := Lib.hid hn
  have HK := Lib.hid hk
  clear H1 H2 hn hk
  cases hh : has2 N L s t with
  | false =>
    have HH := Lib.hid hh
    have HA := Lib.hid (askB_has (V := V) hh)
    clear hh
    go_enter Try.func90, Try.ntmps90
    go_wp2_with fail
    refine (hasNodes_2 N s t A n c L HN.out (w.heap.size + 1) 2 _ (by omega) (K1.out.bl (by repeat' (first | exact Bl.refl _ | with_reducible assumption | with_reducible refine Bl.drew_ ?_ | with_reducible refine Bl.drewN_ ?_ _ | with_reducible refine Bl.alloc_ ?_ _ | with_reducible refine Bl.trans_ ?_ (by assumption) | with_reducible refine Bl.trans_ ?_ (And.left (by assumption))))) (by simp) (by simp [go_sem]) (by simp [go_sem])).mono ?_
    rintro e w1 ⟨rfl, hb1⟩
    rw [HH.out]
    go_wp2
    go_ret
    exact ⟨ret_boolw HA.out.symm, (by repeat' (first | exact Bl.refl _ | with_reducible assumption | with_reducible refine Bl.drew_ ?_ | with_reducible refine Bl.drewN_ ?_ _ | with_reducible refine Bl.alloc_ ?_ _ | with_reducible refine Bl.trans_ ?_ (by assumption) | with_reducible refine Bl.trans_ ?_ (And.left (by assumption))))⟩
  | true =>
    have HH := Lib.hid hh
    have HA := Lib.hid (askB_of_has (V := V) hh)
    clear hh
    go_enter Try.func90, Try.ntmps90
    go_wp2_with fail
    refine (hasNodes_2 N s t A n c L HN.out (w.heap.size + 1) 2 _ (by omega) (K1.out.bl (by repeat' (first | exact Bl.refl _ | with_reducible assumption | with_reducible refine Bl.drew_ ?_ | with_reducible refine Bl.drewN_ ?_ _ | with_reducible refine Bl.alloc_ ?_ _ | with_reducible refine Bl.trans_ ?_ (by assumption) | with_reducible refine Bl.trans_ ?_ (And.left (by assumption))))) (by simp) (by simp [go_sem]) (by simp [go_sem])).mono ?_
    rintro e w1 ⟨rfl, hb1⟩
    rw [HH.out]
    obtain ⟨q0, q1⟩ := box2 ((Bl.alloc_ (Bl.refl _) _).trans_ hb1)
    go_wp2_with fail
    refine (implReachOk_any N A n c L HN.out A2 k c2 V HK.out hc _ hm hkm (K1.out.bl (by repeat' (first | exact Bl.refl _ | with_reducible assumption | with_reducible refine Bl.drew_ ?_ | with_reducible refine Bl.drewN_ ?_ _ | with_reducible refine Bl.alloc_ ?_ _ | with_reducible refine Bl.trans_ ?_ (by assumption) | with_reducible refine Bl.trans_ ?_ (And.left (by assumption))))) (K2.out.bl (by repeat' (first | exact Bl.refl _ | with_reducible assumption | with_reducible refine Bl.drew_ ?_ | with_reducible refine Bl.drewN_ ?_ _ | with_reducible refine Bl.alloc_ ?_ _ | with_reducible refine Bl.trans_ ?_ (by assumption) | with_reducible refine Bl.trans_ ?_ (And.left (by assumption)))))).mono ?_
    rintro e w2 ⟨rfl, hb2⟩
    go_wp2
    go_ret
    exact ⟨ret_boolw HA.out.symm, (by repeat' (first | exact Bl.refl _ | with_reducible assumption | with_reducible refine Bl.drew_ ?_ | with_reducible refine Bl.drewN_ ?_ _ | with_reducible refine Bl.alloc_ ?_ _ | with_reducible refine Bl.trans_ ?_ (by assumption) | with_reducible refine Bl.trans_ ?_ (And.left (by assumption))))⟩

set_option maxRecDepth 100000 in
set_option maxHeartbeats 1000000 in
theorem implPruned_any (N s t : Int) (A : Option Addr) (n c : Nat) (L : List Arc3) (hn : n = L.length) (A2 : Option Addr) (k c2 : Nat) (V : List Int) (hk : k = V.length) (hc : n ≤ c) (w : World) (hm : n ≤ 1048576) (hkm : k ≤ 1048576) (H1 : ArcsAt w w.heap.size A L) (H2 : IntsAt w w.heap.size A2 V) :
    Calls Try.prog 41 #[.agg #[.int .i64 N, .slice A n c], .slice A2 k c2, .int .i64 s, .int .i64 t] w (NumsMade (prunedL N L V s t) w) := by
  have K1 := Lib.hid H1
  have K2 := Lib.hid H2
  have HN := Lib.hid hn
  have HK := Lib.hid hk
  clear H1 H2 hn hk
  cases hh : askB N L V s t with
  | false =>
    have HH := Lib.hid hh
    have HA := Lib.hid (prunedL_no hh)
    clear hh
    go_enter Try.func41, Try.ntmps41
    go_wp2_with fail
    refine (reachAsked_any N s t A n c L HN.out hc A2 k c2 V HK.out _ hm hkm (K1.out.bl (by repeat' (first | exact Bl.refl _ | with_reducible assumption | with_reducible refine Bl.drew_ ?_ | with_reducible refine Bl.drewN_ ?_ _ | with_reducible refine Bl.alloc_ ?_ _ | with_reducible refine Bl.trans_ ?_ (by assumption) | with_reducible refine Bl.trans_ ?_ (And.left (by assumption))))) (K2.out.bl (by repeat' (first | exact Bl.refl _ | with_reducible assumption | with_reducible refine Bl.drew_ ?_ | with_reducible refine Bl.drewN_ ?_ _ | with_reducible refine Bl.alloc_ ?_ _ | with_reducible refine Bl.trans_ ?_ (by assumption) | with_reducible refine Bl.trans_ ?_ (And.left (by assumption)))))).mono ?_
    rintro e w1 ⟨rfl, hb1⟩
    rw [HH.out]
    go_wp2
    go_ret
    exact ⟨_, rfl, by rw [HA.out]; exact OwnN.nil_ _ _, (by repeat' (first | exact Bl.refl _ | with_reducible assumption | with_reducible refine Bl.drew_ ?_ | with_reducible refine Bl.drewN_ ?_ _ | with_reducible refine Bl.alloc_ ?_ _ | with_reducible refine Bl.trans_ ?_ (by assumption) | with_reducible refine Bl.trans_ ?_ (And.left (by assumption))))⟩
  | true =>
    have HH := Lib.hid hh
    have HA := Lib.hid (show prunedL N L V s t = leftK (distL N L s) (distL N (revL L) t) V N.toNat from if_pos hh)
    obtain ⟨h1, hs, ht⟩ := askB_elim hh
    obtain ⟨ho, hVN⟩ := reachB_ok h1
    obtain ⟨q, rfl⟩ : ∃ q : Nat, N = q := ⟨N.toNat, by omega⟩
    have HO := Lib.hid ho
    have HV := Lib.hid (show V.length = q from by omega)
    clear hh h1 ho hVN
    go_enter Try.func41, Try.ntmps41
    go_wp2_with fail
    refine (reachAsked_any q s t A n c L HN.out hc A2 k c2 V HK.out _ hm hkm (K1.out.bl (by repeat' (first | exact Bl.refl _ | with_reducible assumption | with_reducible refine Bl.drew_ ?_ | with_reducible refine Bl.drewN_ ?_ _ | with_reducible refine Bl.alloc_ ?_ _ | with_reducible refine Bl.trans_ ?_ (by assumption) | with_reducible refine Bl.trans_ ?_ (And.left (by assumption))))) (K2.out.bl (by repeat' (first | exact Bl.refl _ | with_reducible assumption | with_reducible refine Bl.drew_ ?_ | with_reducible refine Bl.drewN_ ?_ _ | with_reducible refine Bl.alloc_ ?_ _ | with_reducible refine Bl.trans_ ?_ (by assumption) | with_reducible refine Bl.trans_ ?_ (And.left (by assumption)))))).mono ?_
    rintro e w1 ⟨rfl, hb1⟩
    rw [HH.out]
    obtain ⟨q0, q1⟩ := box2 hb1
    have s1 := hb1.size
    go_wp2_with fail
    refine (leftBy_any q s t A n c L HN.out hc HO.out hs ht A2 k c2 V HK.out HV.out _ hm (K1.out.bl (by repeat' (first | exact Bl.refl _ | with_reducible assumption | with_reducible refine Bl.drew_ ?_ | with_reducible refine Bl.drewN_ ?_ _ | with_reducible refine Bl.alloc_ ?_ _ | with_reducible refine Bl.trans_ ?_ (by assumption) | with_reducible refine Bl.trans_ ?_ (And.left (by assumption))))) (K2.out.bl (by repeat' (first | exact Bl.refl _ | with_reducible assumption | with_reducible refine Bl.drew_ ?_ | with_reducible refine Bl.drewN_ ?_ _ | with_reducible refine Bl.alloc_ ?_ _ | with_reducible refine Bl.trans_ ?_ (by assumption) | with_reducible refine Bl.trans_ ?_ (And.left (by assumption)))))).mono ?_
    rintro e w2 ⟨v, rfl, hv, hb2⟩
    have HVV := Lib.hid hv
    clear hv
    go_wp2
    go_ret
    refine ⟨v, rfl, ?_, (by repeat' (first | exact Bl.refl _ | with_reducible assumption | with_reducible refine Bl.drew_ ?_ | with_reducible refine Bl.drewN_ ?_ _ | with_reducible refine Bl.alloc_ ?_ _ | with_reducible refine Bl.trans_ ?_ (by assumption) | with_reducible refine Bl.trans_ ?_ (And.left (by assumption))))⟩
    rw [HA.out, Int.toNat_natCast]
    refine OwnN.low HVV.out ?_
    simp at s1 ⊢
    omega

end Go.Proofs.Ytmdmbobjdhjadaa

set_option linter.unusedSimpArgs false
set_option linter.unusedVariables false
namespace Go.Proofs.Ytmdmbobjdhjadaa
open Go.ChangeShapes Go.WideShapes Go.ChangeAt Go.RowKit

set_option maxHeartbeats 400000 in
theorem toInt64S_row (A : Option Addr) (n c : Nat) (V : List Int) (hn : n = V.length) (w : World) (hm : n ≤ 1048576) (H1 : IntsAt w w.heap.size A V) :
    Calls Try.prog 23 #[.slice A n c] w fun e w' => e = .returned (.slice (some ⟨w.heap.size, 0, none⟩) n n) ∧ IntsAt w' w'.heap.size (some ⟨w.heap.size, 0, none⟩) V ∧ Bl w w' ∧ RowsW 2 1 w' (some ⟨w.heap.size, 0, none⟩) n ∧ w.heap.size < w'.heap.size := by
  have K1 := Lib.hid H1
  have HN := Lib.hid hn
  clear H1 hn
  have hmk := make_nums n hm
  go_enter Try.func23, Try.ntmps23
  go_wp2
  clear hmk
  go_loopw [4] (fun i wr => ∃ k : Nat, k ≤ n ∧ i = .int .i64 k ∧ Bl w wr ∧ ∃ f, wr.rowIs w.heap.size 2 n f ∧ ∀ j (h : j < k) (h' : j < V.length), f j = .int .i64 V[j]) (fun i _ => n - (intOf i).toNat)
  case atStart => exact ⟨0, by omega, rfl, (by repeat' (first | exact Bl.refl _ | with_reducible assumption | with_reducible refine Bl.drew_ ?_ | with_reducible refine Bl.drewN_ ?_ _ | with_reducible refine Bl.alloc_ ?_ _ | with_reducible refine Bl.trans_ ?_ (by assumption) | with_reducible refine Bl.trans_ ?_ (And.left (by assumption)))), _, mk1_row _ _ _, fun j h => absurd h (by omega)⟩
  case round =>
    obtain ⟨k, hk, rfl, hbl, f, hrow, hf⟩ := hrel
    by_cases hlt : k < n
    · have hkl : k < V.length := by have := HN.out; omega
      obtain ⟨g1, o1, rfl, hg1, hc1⟩ := K1.out.cell (by omega)
      have p1 := hc1 k hkl
      rw [← (bcell hbl).1 _ _ hg1] at p1
      have F := Lib.hid hf
      have R := Lib.hid hrow
      clear hf hrow hc1
      have z1 := R.out.cell (i := k) (by omega)
      have y1 := R.out.frozen k
      have i0 : (0 : Int) ≤ (k : Int) := by omega
      have i1 : (k : Int) < (n : Int) := by omega
      generalize hv : V[k] = x at p1
      go_wp2
      go_roundw
      case rel =>
        refine ⟨k + 1, by omega, by go_num, Bl.set_ hbl (Nat.le_refl _) _, _, R.out.set k _, fun j hj hj' => ?_⟩
        rcases Nat.lt_or_ge j k with h | h
        · rw [if_neg (by omega)]
          exact F.out j h hj'
        · have e : j = k := by omega
          subst e
          rw [if_pos rfl, hv]
      case measure => simp [intOf]; omega
    · go_wp2
      go_ret
      have e : k = n := by omega
      subst e
      refine ⟨rfl, fun h0 => ⟨w.heap.size, 0, rfl, hrow.lt, fun j hj => ?_⟩, hbl, fun _ => ⟨w.heap.size, 0, _, f, rfl, by omega, hrow⟩, hrow.lt⟩
      rw [csI_len] at hj
      have hjk : j < k := by have := HN.out; omega
      rw [csI_at, ← hf j hjk hj, Nat.zero_add]
      exact hrow.cell hjk

end Go.Proofs.Ytmdmbobjdhjadaa

set_option linter.unusedSimpArgs false
set_option linter.unusedVariables false
namespace Go.Proofs.Ytmdmbobjdhjadaa
open Go.RowKit

set_option maxRecDepth 100000 in
set_option maxHeartbeats 4000000 in
theorem lawPruned_any (N : Int) (A : Option Addr) (n c : Nat) (L : List Arc3) (hn : n = L.length) (A2 : Option Addr) (k c2 : Nat) (P : List Int) (hk : k = P.length) (s t : Int) (w : World) (hm : n ≤ 9223372036854775807) (hkm : k ≤ 9223372036854775807) (H1 : ArcsAt w w.heap.size A L) (H2 : IntsAt w w.heap.size A2 P) :
    Calls Try.prog 9 #[.agg #[.int .i64 N, .slice A n c], .slice A2 k c2, .int .i64 s, .int .i64 t] w fun e w' => e = .returned (.bool true) ∧ Bl w w' := by
  have K1 := Lib.hid H1
  have K2 := Lib.hid H2
  have HN := Lib.hid hn
  have HK := Lib.hid hk
  clear H1 H2 hn hk
  by_cases hk1 : (1048576 : Int) < (k : Int)
  · have b1 : decide ((1048576 : Int) < (k : Int)) = true := by simpa using hk1
    go_enter Try.func9, Try.ntmps9
    go_wp2
    go_ret
    exact ⟨rfl, (by repeat' (first | exact Bl.refl _ | with_reducible assumption | with_reducible refine Bl.drew_ ?_ | with_reducible refine Bl.drewN_ ?_ _ | with_reducible refine Bl.alloc_ ?_ _ | with_reducible refine Bl.trans_ ?_ (by assumption) | with_reducible refine Bl.trans_ ?_ (And.left (by assumption))))⟩
  · have b1 : decide ((1048576 : Int) < (k : Int)) = false := by simpa using hk1
    have hk' : k ≤ 1048576 := by omega
    clear hk1
    by_cases hbig : (1048576 : Int) - n < 0
    · go_enter Try.func9, Try.ntmps9
      go_wp2_with (go_at_call 20; refine (szGraph_any _ _ _ _ _ _ hm (by omega) (by omega)).mono ?_; rintro e w' ⟨rfl, hb⟩; obtain ⟨hc, hf⟩ := bcell hb)
      go_ret
      exact ⟨rfl, (by repeat' (first | exact Bl.refl _ | with_reducible assumption | with_reducible refine Bl.drew_ ?_ | with_reducible refine Bl.drewN_ ?_ _ | with_reducible refine Bl.alloc_ ?_ _ | with_reducible refine Bl.trans_ ?_ (by assumption) | with_reducible refine Bl.trans_ ?_ (And.left (by assumption))))⟩
    · have hm' : n ≤ 1048576 := by omega
      clear hbig
      go_enter Try.func9, Try.ntmps9
      go_wp2_with fail
      refine (szGraph_small N A n c _ hm').mono ?_
      rintro e w1 ⟨rfl, hb1⟩
      obtain ⟨q0, q1⟩ := box2 hb1
      have p1 : (0 : Int) ≤ 1048576 - (n : Int) := by omega
      go_wp2_with fail
      refine (toGraph_any N A n c L HN.out _ hm' (K1.out.bl (by repeat' (first | exact Bl.refl _ | with_reducible assumption | with_reducible refine Bl.drew_ ?_ | with_reducible refine Bl.drewN_ ?_ _ | with_reducible refine Bl.alloc_ ?_ _ | with_reducible refine Bl.trans_ ?_ (by assumption) | with_reducible refine Bl.trans_ ?_ (And.left (by assumption)))))).mono ?_
      rintro e w2 ⟨g2, rfl, ha2, hg2, hb2⟩
      have hb2 := hb1.trans_ hb2
      obtain ⟨q0, q1⟩ := box2 hb2
      have HA2 := Lib.hid ha2
      clear ha2
      go_wp2_with fail
      refine (toInt64S_any A2 k c2 P HK.out _ hk' (K2.out.bl ((Bl.alloc_ (Bl.refl w) _).trans_ hb2))).mono ?_
      rintro e w3 ⟨rfl, hi3, hb3⟩
      have HI3 := Lib.hid hi3
      have HA3 := Lib.hid (HA2.out.bl hb3)
      have hb3 := hb2.trans_ hb3
      obtain ⟨q0, q1⟩ := box2 hb3
      clear hi3
      go_wp2_with fail
      refine (specPruned_any N s t _ n n L HN.out _ k k P HK.out _ hm' hk' HA3.out HI3.out).mono ?_
      rintro e w4 ⟨v0, rfl, hv0, hb4⟩
      have hb4 := hb3.trans_ hb4
      obtain ⟨q0, q1⟩ := box2 hb4
      obtain ⟨A0, c0, rfl, -, hA0, -, -⟩ := OwnN.shape hv0
      have V0 := Lib.hid hA0
      clear hv0 hA0
      obtain ⟨l, hl⟩ : ∃ l, l = (prunedL N L P s t).length := ⟨_, rfl⟩
      have hln : l ≤ 1048576 := by rw [hl]; exact prunedL_len N L P s t
      rw [← hl]
      have HL := Lib.hid hl
      clear hl
      have BW4 := Lib.hid (show Bl w w4 from (Bl.alloc_ (Bl.refl w) _).trans_ hb4)
      have sw4 : w.heap.size < w4.heap.size := by have := hb4.size; simp at this; omega
      go_wp2_with fail
      refine (toGraph_row N A n c L HN.out _ hm' (K1.out.bl BW4.out)).mono ?_
      rintro e w5 ⟨g5, rfl, ha5, hg5, hb5, hr5, hlt5⟩
      have BX5 := Lib.hid (Bl.alloc_ (Bl.refl w5) (.cells #[.int .i64 N, .slice (some ⟨g5, 0, none⟩) n n] 42))
      have HA5 := Lib.hid (ha5.bl BX5.out)
      have HR5 := Lib.hid (hr5.bl BX5.out)
      have B45 := Lib.hid hb5
      have BW5 := Lib.hid (BW4.out.trans_ (hb5.trans_ BX5.out))
      have s45 := hb5.size
      have hB5 := hb4.trans_ (hb5.trans_ BX5.out)
      clear ha5 hr5 q0 q1
      go_wp2_with fail
      refine (toInt64S_row A2 k c2 P HK.out _ hk' (K2.out.bl BW5.out)).mono ?_
      rintro e w6 ⟨rfl, hi6, hb6, hr6, hl6⟩
      simp only [World.size_alloc] at hl6
      have HI6 := Lib.hid (show IntsAt w6 w6.heap.size (some ⟨w5.heap.size + 1, 0, none⟩) P from by simpa only [World.size_alloc] using hi6)
      have HR6 := Lib.hid (show RowsW 2 1 w6 (some ⟨w5.heap.size + 1, 0, none⟩) k from by simpa only [World.size_alloc] using hr6)
      have HA6 := Lib.hid (HA5.out.bl hb6)
      have HG6 := Lib.hid (HR5.out.bl hb6)
      obtain ⟨x0, x1⟩ := box2 hb6
      have hX6 := hb6
      have hB6 := hB5.trans_ hb6
      have s6 := hb6.size
      simp only [World.size_alloc] at s6
      clear hi6 hr6
      go_wp2_with fail
      refine (implPruned_any N s t _ n n L HN.out _ k k P HK.out (Nat.le_refl _) _ hm' hk' HA6.out HI6.out).mono ?_
      rintro e w7 ⟨v1, rfl, hv1, hb7⟩
      obtain ⟨A1, c1, rfl, -, hA1, hR1, hl1⟩ := OwnN.shape hv1
      rw [← HL.out] at hR1
      rw [← HL.out]
      have V1 := Lib.hid hA1
      have W1 := Lib.hid hR1
      have L1 := Lib.hid (show ∀ g, blockOf A1 = some g → w6.heap.size ≤ g ∧ g < w7.heap.size from fun g hg => hl1 g hg)
      clear hv1 hA1 hR1 hl1
      have HI7 := Lib.hid (HI6.out.bl hb7)
      have HR7 := Lib.hid (HR6.out.bl hb7)
      have HA7 := Lib.hid (HA6.out.bl hb7)
      have HG7 := Lib.hid (HG6.out.bl hb7)
      have hX7 := hb6.trans_ hb7
      have hB7 := hB6.trans_ hb7
      have s7 := hb7.size
      have V07 := Lib.hid (V0.out.bl ((B45.out.trans_ BX5.out).trans_ hX7))
      have hbw : Bl w w7 := (Bl.alloc_ (Bl.refl w) _).trans_ hB7
      have HSH := Lib.hid (show ∀ wx, Bl w7 wx → Bl w7 wx ∧ wx.cell? ⟨w.heap.size, 0, none⟩ = some (.int .i64 N) ∧ wx.cell? ⟨w.heap.size, 1, none⟩ = some (.slice A n c) ∧ wx.cell? ⟨w5.heap.size, 0, none⟩ = some (.int .i64 N) ∧ wx.cell? ⟨w5.heap.size, 1, none⟩ = some (.slice (some ⟨g5, 0, none⟩) n n) from fun wx hb =>
        ⟨hb, (box2 (hB7.trans_ hb)).1, (box2 (hB7.trans_ hb)).2, (box2 (hX7.trans_ hb)).1, (box2 (hX7.trans_ hb)).2⟩)
      clear x0 x1
      go_wp2_with fail
      refine (eqInt64S_yes A1 A0 c1 c0 (prunedL N L P s t) l HL.out _ (by omega) V1.out V07.out).mono ?_
      rintro e w8 ⟨rfl, hb8⟩
      have P8 := hb8
      go_wp2_with fail
      refine wp_region_held_drew (S := fun wx => Bl w7 wx ∧ wx.cell? ⟨w.heap.size, 0, none⟩ = some (.int .i64 N) ∧ wx.cell? ⟨w.heap.size, 1, none⟩ = some (.slice A n c) ∧ wx.cell? ⟨w5.heap.size, 0, none⟩ = some (.int .i64 N) ∧ wx.cell? ⟨w5.heap.size, 1, none⟩ = some (.slice (some ⟨g5, 0, none⟩) n n)) (by kernel_rfl) ?_ (fun hHeld => ?_)
      · (exact HSH.out _ (by repeat' (first | exact Bl.refl _ | with_reducible assumption | with_reducible refine Bl.drew_ ?_ | with_reducible refine Bl.drewN_ ?_ _ | with_reducible refine Bl.alloc_ ?_ _ | with_reducible refine Bl.trans_ ?_ (by assumption) | with_reducible refine Bl.trans_ ?_ (And.left (by assumption)))))
      refine wpAnyH_take (i := 0) (v := ?_) rfl (by kernel_rfl) (by kernel_rfl) (by kernel_rfl) (fun _ _ _ h => h) (Or.inl ⟨by kernel_rfl, ?_⟩) (by assumption) ?_
      rotate_left
      · (intro wx hSw; (try dsimp only at hSw); go_simp; try (with_reducible rfl))
      try simp only [Act.put, List.getElem_toArray, List.getElem_cons_succ, List.getElem_cons_zero, List.setIfInBounds_toArray, List.set_cons_zero, List.set_cons_succ]
      refine wpAnyH_take (i := 1) (v := ?_) rfl (by kernel_rfl) (by kernel_rfl) (by kernel_rfl) (fun _ _ _ h => h) (Or.inl ⟨by kernel_rfl, ?_⟩) (by assumption) ?_
      rotate_left
      · (intro wx hSw; (try dsimp only at hSw); go_simp; try (with_reducible rfl))
      try simp only [Act.put, List.getElem_toArray, List.getElem_cons_succ, List.getElem_cons_zero, List.setIfInBounds_toArray, List.set_cons_zero, List.set_cons_succ]
      refine wpAnyH_ready (rs := [2]) (by kernel_rfl) (by simp) ?_
      refine AllReadyH.cons rfl (fun K hK => ?_) AllReadyH.nil
      go_simp
      (go_at_call 22; refine (toGraph_any N A n c L HN.out _ hm' (K1.out.bl (hbw.trans_ (by repeat' (first | exact Bl.refl _ | with_reducible assumption | with_reducible refine Bl.drew_ ?_ | with_reducible refine Bl.drewN_ ?_ _ | with_reducible refine Bl.alloc_ ?_ _ | with_reducible refine Bl.trans_ ?_ (by assumption) | with_reducible refine Bl.trans_ ?_ (And.left (by assumption))))))).mono ?_; rintro e w9 ⟨g9, rfl, ha9, hg9, hb9⟩; have HA9 := Lib.hid ha9; clear ha9)
      try (go_wp2_with fail)
      refine hK.out _ _ ?_ (fun hHeld => ?_)
      · (exact HSH.out _ (by repeat' (first | exact Bl.refl _ | with_reducible assumption | with_reducible refine Bl.drew_ ?_ | with_reducible refine Bl.drewN_ ?_ _ | with_reducible refine Bl.alloc_ ?_ _ | with_reducible refine Bl.trans_ ?_ (by assumption) | with_reducible refine Bl.trans_ ?_ (And.left (by assumption)))))
      clear hK K
      try simp only [Act.put, List.getElem_toArray, List.getElem_cons_succ, List.getElem_cons_zero, List.setIfInBounds_toArray, List.set_cons_zero, List.set_cons_succ]
      refine wpAnyH_ready (rs := [3]) (by kernel_rfl) (by simp) ?_
      refine AllReadyH.cons rfl (fun K hK => ?_) AllReadyH.nil
      go_simp
      (go_at_call 25; refine (eqGraph_yes N _ _ n n L n HN.out _ hm (HA7.out.bl (by repeat' (first | exact Bl.refl _ | with_reducible assumption | with_reducible refine Bl.drew_ ?_ | with_reducible refine Bl.drewN_ ?_ _ | with_reducible refine Bl.alloc_ ?_ _ | with_reducible refine Bl.trans_ ?_ (by assumption) | with_reducible refine Bl.trans_ ?_ (And.left (by assumption))))) HA9.out).mono ?_; rintro e w10 ⟨rfl, hb10⟩)
      try (go_wp2_with fail)
      refine hK.out _ _ ?_ (fun hHeld => ?_)
      · (exact HSH.out _ (by repeat' (first | exact Bl.refl _ | with_reducible assumption | with_reducible refine Bl.drew_ ?_ | with_reducible refine Bl.drewN_ ?_ _ | with_reducible refine Bl.alloc_ ?_ _ | with_reducible refine Bl.trans_ ?_ (by assumption) | with_reducible refine Bl.trans_ ?_ (And.left (by assumption)))))
      clear hK K
      try simp only [Act.put, List.getElem_toArray, List.getElem_cons_succ, List.getElem_cons_zero, List.setIfInBounds_toArray, List.set_cons_zero, List.set_cons_succ]
      refine wpAnyH_take (i := 4) (v := ?_) rfl (by kernel_rfl) (by kernel_rfl) (by kernel_rfl) (fun _ _ _ h => h) (Or.inl ⟨by kernel_rfl, ?_⟩) (by assumption) ?_
      rotate_left
      · (intro wx hSw; (try dsimp only at hSw); go_simp; try (with_reducible rfl))
      try simp only [Act.put, List.getElem_toArray, List.getElem_cons_succ, List.getElem_cons_zero, List.setIfInBounds_toArray, List.set_cons_zero, List.set_cons_succ]
      refine wpAnyH_done (by kernel_rfl) ?_ _
      have P10 : Bl w7 w10 := (by repeat' (first | exact Bl.refl _ | with_reducible assumption | with_reducible refine Bl.drew_ ?_ | with_reducible refine Bl.drewN_ ?_ _ | with_reducible refine Bl.alloc_ ?_ _ | with_reducible refine Bl.trans_ ?_ (by assumption) | with_reducible refine Bl.trans_ ?_ (And.left (by assumption))))
      go_wp2_with fail
      refine (toInt64S_any A2 k c2 P HK.out _ hk' (K2.out.bl (hbw.trans_ P10))).mono ?_
      rintro e w11 ⟨rfl, hi11, hb11⟩
      have HI11 := Lib.hid hi11
      clear hi11
      go_wp2_with fail
      refine (eqInt64S_yes _ _ k k P k HK.out _ (by omega) (HI7.out.bl (P10.trans_ hb11)) HI11.out).mono ?_
      rintro e w12 ⟨rfl, hb12⟩
      have P12 := Lib.hid (P10.trans_ (hb11.trans_ hb12))
      have s12 := P12.out.size
      obtain ⟨-, q0, q1, x0, x1⟩ := HSH.out _ P12.out
      have V012 := Lib.hid (V07.out.bl P12.out)
      have V112 := Lib.hid (V1.out.bl P12.out)
      have W12 := Lib.hid (RowsW.bl W1.out P12.out)
      have R12 := Lib.hid (RowsW.bl HR7.out P12.out)
      have M12 := Lib.hid (RowW.bl HG7.out P12.out)
      have V0L := Lib.hid (show IntsAt w12 w4.heap.size A0 (prunedL N L P s t) from V0.out.bl' (Nat.le_refl _) (((B45.out.trans_ BX5.out).trans_ hX7).trans_ P12.out))
      have C0 := Lib.hid q0
      have C1 := Lib.hid q1
      clear hb1 hb2 hb3 hb4 hb5 hb6 hb7 hb8 hb9 hb10 hb11 hb12 P8 P10 hB5 hB6 hB7 hX6 hX7 q0 q1
      go_wp2_with fail
      refine (markGraph_any N _ n n 1 _ hm' (by omega) (by omega) M12.out).mono ?_
      rintro e w13 ⟨rfl, hm13, hg13, hr13⟩
      have G13 := Lib.hid hg13
      clear hm13 hg13 hr13 x0 x1
      have s13 := G13.out.size
      have Q13 := Lib.hid (show Bl w w13 from (hbw.trans_ P12.out).grown_ G13.out (fun g hg => by
        obtain rfl : g5 = g := by simpa [blockOf] using hg
        omega))
      have V013 := Lib.hid (V0L.out.grown_ (by omega) G13.out (fun g _ hlt => by simp [blockOf]; omega))
      have V113 := Lib.hid (V112.out.grown_ (Nat.le_refl _) G13.out (fun g hg _ => by have := L1.out g hg; simp [blockOf]; omega))
      have W13 := Lib.hid (RowsW.grown_ W12.out G13.out (fun g hg => by have := L1.out g hg; simp [blockOf]; omega))
      have R13 := Lib.hid (RowsW.grown_ R12.out G13.out (fun g hg => by
        obtain rfl : w5.heap.size + 1 = g := by simpa [blockOf] using hg
        simp [blockOf]; omega))
      have D0 := Lib.hid (G13.out.cell C0.out (by simp [blockOf]; omega))
      have D1 := Lib.hid (G13.out.cell C1.out (by simp [blockOf]; omega))
      have p2 : (0 : Int) ≤ 1 + 3 * (n : Int) := by omega
      go_wp2_with fail
      refine (markN_any _ k k (1 + 3 * (n : Int)) _ hk' (by omega) (by omega) R13.out).mono ?_
      rintro e w14 ⟨rfl, hm14, hg14, hr14⟩
      have G14 := Lib.hid hg14
      clear hm14 hg14 hr14
      have s14 := G14.out.size
      have Q14 := Lib.hid (show Bl w w14 from Q13.out.grown_ G14.out (fun g hg => by
        obtain rfl : w5.heap.size + 1 = g := by simpa [blockOf] using hg
        omega))
      have V014 := Lib.hid (V013.out.grown_ (by omega) G14.out (fun g _ hlt => by simp [blockOf]; omega))
      have V114 := Lib.hid (V113.out.grown_ (by omega) G14.out (fun g hg _ e => by
        have := L1.out g hg
        obtain rfl : g = w5.heap.size + 1 := by simpa [blockOf] using e
        omega))
      have W14 := Lib.hid (RowsW.grown_ W13.out G14.out (fun g hg e => by
        have := L1.out g hg
        obtain rfl : g = w5.heap.size + 1 := by simpa [blockOf] using e
        omega))
      have E0 := Lib.hid (G14.out.cell D0.out (by simp [blockOf]; omega))
      have E1 := Lib.hid (G14.out.cell D1.out (by simp [blockOf]; omega))
      have p3 : (0 : Int) ≤ 1 + 3 * (n : Int) + (k : Int) := by omega
      go_wp2_with fail
      refine (eqInt64S_yes A1 A0 c1 c0 (prunedL N L P s t) l HL.out _ (by omega) (V114.out.more (by omega)) (V014.out.more (by omega))).mono ?_
      rintro e w15 ⟨rfl, hb15⟩
      have s15 := hb15.size
      have F0 := Lib.hid (((bcell hb15).1 _ _ (by omega)).trans E0.out)
      have F1 := Lib.hid (((bcell hb15).1 _ _ (by omega)).trans E1.out)
      go_wp2_with fail
      refine (markN_any A1 l c1 1 _ (by omega) (by omega) (by omega) (RowsW.bl W14.out hb15)).mono ?_
      rintro e w16 ⟨rfl, hm16, hg16, hr16⟩
      have G16 := Lib.hid hg16
      have M16 := Lib.hid hm16
      clear hm16 hg16 hr16
      have s16 := G16.out.size
      have ne1 : ∀ g, g < w6.heap.size → some g ≠ blockOf A1 := fun g hg h => by have := L1.out g h.symm; omega
      have Q16 := Lib.hid (show Bl w w16 from (Q14.out.trans_ hb15).grown_ G16.out (fun g hg => by have := L1.out g hg; omega))
      have V016 := Lib.hid ((V014.out.bl' (by omega) hb15).grown_ (by omega) G16.out (fun g _ hlt => ne1 g (by omega)))
      have q0 := G16.out.cell F0.out (ne1 _ (by show w.heap.size < _; omega))
      have q1 := G16.out.cell F1.out (ne1 _ (by show w.heap.size < _; omega))
      clear ne1
      go_wp2_with fail
      refine (heldInt64S_any A1 l c1 1 _ (by omega) (by omega) (by omega) M16.out).mono ?_
      rintro e w17 ⟨rfl, rfl⟩
      have p4 : (0 : Int) ≤ 1 + (l : Int) := by omega
      have p5 : ((1 : Int) + (l : Int) != 1 + (l : Int)) = false := by simp
      go_wp2_with fail
      refine (toGraph_any N A n c L HN.out _ hm' (K1.out.bl Q16.out)).mono ?_
      rintro e w17 ⟨g17, rfl, ha17, hg17, hb17⟩
      have HA17 := Lib.hid ha17
      clear ha17
      go_wp2_with fail
      refine (toInt64S_any A2 k c2 P HK.out _ hk' (K2.out.bl (Q16.out.trans_ hb17))).mono ?_
      rintro e w18 ⟨rfl, hi18, hb18⟩
      have HI18 := Lib.hid hi18
      clear hi18
      go_wp2_with fail
      refine (implPruned_any N s t _ n n L HN.out _ k k P HK.out (Nat.le_refl _) _ hm' hk' (HA17.out.bl hb18) HI18.out).mono ?_
      rintro e w19 ⟨v2, rfl, hv2, hb19⟩
      obtain ⟨A3, c3, rfl, -, hA3, -, -⟩ := OwnN.shape hv2
      have V3 := Lib.hid hA3
      clear hv2 hA3
      rw [← HL.out]
      have B19 := Lib.hid (hb17.trans_ (hb18.trans_ hb19))
      have s19 := B19.out.size
      go_wp2_with fail
      refine (eqInt64S_yes A3 A0 c3 c0 (prunedL N L P s t) l HL.out _ (by omega) V3.out ((V016.out.bl' (by omega) B19.out).more (by omega))).mono ?_
      rintro e w20 ⟨rfl, hb20⟩
      go_wp2_with fail
      refine (heldInt64S_any A1 l c1 1 _ (by omega) (by omega) (by omega) (Marks.bl M16.out (B19.out.trans_ hb20))).mono ?_
      rintro e w21 ⟨rfl, rfl⟩
      go_wp2
      go_ret
      exact ⟨rfl, Q16.out.trans_ (B19.out.trans_ hb20)⟩

end Go.Proofs.Ytmdmbobjdhjadaa
