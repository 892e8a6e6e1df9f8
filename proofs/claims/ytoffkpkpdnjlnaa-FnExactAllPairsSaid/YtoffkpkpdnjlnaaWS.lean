/-
  What is proved here: the laws' small functions on lists of rows: sizes, copies, comparisons. No conditions beyond those that each theorem states.
-/
import Derived.Test.YtoffkpkpdnjlnaaWR
import Derived.Test.YtoffkpkpdnjlnaaK3
import Derived.Outline
set_option linter.unusedSimpArgs false
set_option linter.unusedVariables false
namespace Go.Proofs.Ytoffkpkpdnjlnaa
open Go.RowKit

/-- How many numbers there are in all rows. -/
def sumL : List (List Int) → Nat
  | [] => 0
  | r :: R => r.length + sumL R
theorem sumL_snoc (R : List (List Int)) (r : List Int) : sumL (R ++ [r]) = sumL R + r.length := by
  induction R with
  | nil => simp [sumL]
  | cons a t ih => simp only [List.cons_append, sumL, ih]; omega
theorem sumL_take {R : List (List Int)} {j : Nat} (h : j < R.length) : sumL (R.take (j + 1)) = sumL (R.take j) + R[j].length := by
  rw [List.take_succ_eq_append_getElem h, sumL_snoc]
theorem sumL_le {R : List (List Int)} {r : List Int} (h : r ∈ R) : r.length ≤ sumL R := by
  induction R with
  | nil => simp at h
  | cons a t ih =>
    unfold sumL
    rcases List.mem_cons.1 h with rfl | h
    · omega
    · have := ih h; omega

/-- What is left of l behind s, or -1. -/
def SzPost (l : Int) (s : Nat) (w : World) (e : Ending) (w' : World) : Prop := ∃ x : Int, e = .returned (.int .i64 x) ∧ (x = -1 ∨ (0 ≤ x ∧ x = l - (s : Nat))) ∧ Bl w w'

set_option maxHeartbeats 400000 in
theorem szRow_any (A : Option Addr) (n c : Nat) (l : Int) (w : World) (hn : n ≤ 9223372036854775807) (hl0 : 0 ≤ l) (hl1 : l ≤ 1048576) :
    Calls Try.prog 112 #[.agg #[.slice A n c], .int .i64 l] w (SzPost l n w) := by
  by_cases b1 : l - n < 0
  · go_enter Try.func112, Try.ntmps112
    go_wp2_with fail
    refine (szInt64S_any A n c l _ hn hl0 hl1).mono ?_
    rintro e w1 ⟨rfl, rfl⟩
    rw [if_pos b1]
    go_wp2
    go_ret
    exact ⟨_, rfl, .inl rfl, (by repeat' (first | exact Bl.refl _ | with_reducible assumption | with_reducible refine Bl.drew_ ?_ | with_reducible refine Bl.drewN_ ?_ _ | with_reducible refine Bl.alloc_ ?_ _ | with_reducible refine Bl.trans_ ?_ (by assumption) | with_reducible refine Bl.trans_ ?_ (And.left (by assumption))))⟩
  · have b2 : decide (l - (n : Int) < 0) = false := by simpa using b1
    have b3 : (0 : Int) ≤ l - (n : Int) := by omega
    go_enter Try.func112, Try.ntmps112
    go_wp2_with fail
    refine (szInt64S_any A n c l _ hn hl0 hl1).mono ?_
    rintro e w1 ⟨rfl, rfl⟩
    rw [if_neg (by omega)]
    go_wp2
    go_ret
    exact ⟨_, rfl, .inr ⟨b3, rfl⟩, (by repeat' (first | exact Bl.refl _ | with_reducible assumption | with_reducible refine Bl.drew_ ?_ | with_reducible refine Bl.drewN_ ?_ _ | with_reducible refine Bl.alloc_ ?_ _ | with_reducible refine Bl.trans_ ?_ (by assumption) | with_reducible refine Bl.trans_ ?_ (And.left (by assumption))))⟩

set_option maxHeartbeats 1000000 in
theorem szRowS_any (A : Option Addr) (n c : Nat) (R : List (List Int)) (hn : n = R.length) (l : Int) (w : World) (hm : n ≤ 9223372036854775807) (hr : ∀ r ∈ R, r.length ≤ 9223372036854775807) (hl0 : 0 ≤ l) (hl1 : l ≤ 1048576) (H : RowsAt w 0 w.heap.size A R) :
    Calls Try.prog 73 #[.slice A n c, .int .i64 l] w (SzPost l (n + sumL R) w) := by
  have K := Lib.hid H
  have HN := Lib.hid hn
  have HR := Lib.hid hr
  clear H hn hr
  by_cases b1 : l - n < 0
  · go_enter Try.func73, Try.ntmps73
    go_wp2
    go_ret
    exact ⟨_, rfl, .inl rfl, (by repeat' (first | exact Bl.refl _ | with_reducible assumption | with_reducible refine Bl.drew_ ?_ | with_reducible refine Bl.drewN_ ?_ _ | with_reducible refine Bl.alloc_ ?_ _ | with_reducible refine Bl.trans_ ?_ (by assumption) | with_reducible refine Bl.trans_ ?_ (And.left (by assumption))))⟩
  · have b2 : decide (l - (n : Int) < 0) = false := by simpa using b1
    have b3 : (0 : Int) ≤ l - (n : Int) := by omega
    go_enter Try.func73, Try.ntmps73
    go_wp2
    go_loopw [1, 5] (fun x i wr => ∃ (j : Nat) (m : Int), j ≤ n ∧ i = .int .i64 j ∧ x = .int .i64 m ∧ (0 ≤ m ∧ m ≤ l) ∧ Hid (m = l - n - (sumL (R.take j) : Nat)) ∧ Bl w wr) (fun _ i _ => n - (intOf i).toNat)
    case atStart => exact ⟨0, _, by omega, rfl, rfl, ⟨b3, by omega⟩, Lib.hid (by simp [sumL]), Bl.refl _⟩
    case round =>
      obtain ⟨j, m, hj, rfl, rfl, ⟨hm0, hm1⟩, hmm, hbl⟩ := hrel
      by_cases hlt : j < n
      · have hjl : j < R.length := by have := HN.out; omega
        obtain ⟨g, off, A', c', rfl, hg, hc, -⟩ := K.out.row hjl
        rw [← (bcell hbl).1 _ _ hg] at hc
        have HL := Lib.hid (HR.out _ (List.getElem_mem hjl))
        have HS := Lib.hid (sumL_take hjl)
        have HT := Lib.hid (show sumL (R.take (j + 1)) ≤ sumL R from by
          have := (List.take_append_drop (j + 1) R)
          have h2 : ∀ X Y : List (List Int), sumL X ≤ sumL (X ++ Y) := fun X Y => by
            induction X with
            | nil => simp [sumL]
            | cons a t ih => simp only [List.cons_append, sumL]; omega
          have h3 := h2 (R.take (j + 1)) (R.drop (j + 1))
          rwa [this] at h3)
        generalize R[j].length = rl at *
        have i0 : (0 : Int) ≤ (j : Int) := by omega
        have i1 : (j : Int) < (n : Int) := by omega
        have BB := Lib.hid hbl
        go_wp2_with fail
        refine (szRow_any A' rl c' m _ HL.out hm0 (by omega)).mono ?_
        rintro e w1 ⟨x, rfl, hx, hb1⟩
        have B1 := Lib.hid (BB.out.trans_ hb1)
        clear hb1 hbl
        rcases hx with rfl | ⟨hx0, hx1⟩
        · go_wp2
          go_ret
          exact ⟨_, rfl, .inl rfl, B1.out⟩
        · have b4 : decide (x < 0) = false := by simpa using hx0
          have HX := Lib.hid hx1
          clear hx1
          go_wp2
          go_roundw
          case rel => exact ⟨j + 1, x, by omega, by go_num, rfl, ⟨hx0, by have := HX.out; omega⟩, Lib.hid (by have h1 := hmm.out; have h2 := HX.out; have h3 := HS.out; omega), B1.out⟩
          case measure => simp [intOf]; omega
      · have HX := Lib.hid (show m = l - ((n + sumL R : Nat) : Int) from by
          have h1 := hmm.out
          rw [List.take_of_length_le (by have := HN.out; omega)] at h1
          omega)
        go_wp2
        go_ret
        exact ⟨_, rfl, .inr ⟨hm0, HX.out⟩, hbl⟩

set_option maxHeartbeats 1000000 in
theorem toRow_any (A : Option Addr) (n c : Nat) (V : List Int) (hn : n = V.length) (w : World) (hm : n ≤ 1048576) (H1 : IntsAt w w.heap.size A V) :
    Calls Try.prog 113 #[.agg #[.slice A n c]] w fun e w' => ∃ g, e = .returned (.agg #[.slice (some ⟨g, 0, none⟩) n n]) ∧ IntsAt w' w'.heap.size (some ⟨g, 0, none⟩) V ∧ w.heap.size < g ∧ Bl w w' := by
  have K1 := Lib.hid H1
  have HN := Lib.hid hn
  clear H1 hn
  go_enter Try.func113, Try.ntmps113
  go_wp2_with fail
  refine (toInt64S_any A n c V HN.out _ hm (K1.out.bl (by repeat' (first | exact Bl.refl _ | with_reducible assumption | with_reducible refine Bl.drew_ ?_ | with_reducible refine Bl.drewN_ ?_ _ | with_reducible refine Bl.alloc_ ?_ _ | with_reducible refine Bl.trans_ ?_ (by assumption) | with_reducible refine Bl.trans_ ?_ (And.left (by assumption)))))).mono ?_
  rintro e w1 ⟨rfl, hi1, hb1⟩
  have HI := Lib.hid hi1
  have s1 := hb1.size
  simp only [World.size_alloc] at s1
  have p1 : w1.cell? ⟨w.heap.size + 1, 0, none⟩ = some (.slice none 0 0) ∧ w1.frozen? ⟨w.heap.size + 1, 0, none⟩ = false := by
    obtain ⟨x, y⟩ := bcell hb1
    exact ⟨(x _ _ (by simp)).trans (by simp [go_sem]), (y _ _ (by simp)).trans (by simp [go_sem])⟩
  have p2 : w1.cell? ⟨w.heap.size + 1 + 1, 0, none⟩ = some (.slice none 0 0) ∧ w1.frozen? ⟨w.heap.size + 1 + 1, 0, none⟩ = false := by
    obtain ⟨x, y⟩ := bcell hb1
    exact ⟨(x _ _ (by simp)).trans (by simp [go_sem]), (y _ _ (by simp)).trans (by simp [go_sem])⟩
  obtain ⟨c1, f1⟩ := p1
  obtain ⟨c2, f2⟩ := p2
  have BW := Lib.hid (show Bl w w1 from (((Bl.refl w).alloc_ _).alloc_ _).alloc_ _ |>.trans_ hb1)
  clear hi1 hb1
  have n1 : w.heap.size + 1 + 1 ≠ w.heap.size + 1 := by omega
  have n2 : w.heap.size + 1 ≠ w.heap.size + 1 + 1 := by omega
  go_wp2
  refine bodyPost_ret (v := .agg #[.slice (some ⟨w.heap.size + 1 + 1 + 1, 0, none⟩) n n]) (by simp [results, Try.results113, go_sem, c1, c2, f1, f2]) rfl ?_
  refine ⟨_, rfl, ?_, by omega, ?_⟩
  · have h : IntsAt w1 w1.heap.size (some ⟨w.heap.size + 1 + 1 + 1, 0, none⟩) V := by simpa only [World.size_alloc] using HI.out
    exact ((h.set_ (fun g e => by simp [blockOf] at e; show w.heap.size + 1 + 1 ≠ g; omega) _).set_ (fun g e => by simp [blockOf] at e; show w.heap.size + 1 ≠ g; omega) _).more (by simp)
  · exact Bl.set_ (Bl.set_ BW.out (by show w.heap.size ≤ w.heap.size + 1 + 1; omega) _) (by show w.heap.size ≤ w.heap.size + 1; omega) _

theorem infoRow : (Try.prog.info? 96).map (fun i => (i.zero, i.size, i.bytes)) = some (some (.agg #[.slice none 0 0]), 1, 24) := by kernel_rfl
def mkR (n : Nat) : Array Value := madeCells (Value.agg #[.slice none 0 0]).cells (n * 1)
theorem size_mkR (n : Nat) : (mkR n).size = n := by unfold mkR; rw [size_madeCells, Nat.mul_one]
theorem mkR_row (w : World) (n : Nat) (t : TypeId) : (w.alloc (.cells (mkR n) t)).rowIs w.heap.size t n (fun i => (mkR n).getD i undef) := by
  have h := World.rowIs_alloc w (mkR n) t (fun i => (mkR n).getD i undef) (fun i hi => by simp [Array.getD, hi])
  rwa [size_mkR] at h
theorem make_rows (n : Nat) (hn : n ≤ 1048576) (w : World) : (Instr.makeSlice 45 (.int .i64 (n : Int)) (.int .i64 (n : Int))).run Try.prog w = .ok (.slice (some ⟨w.heap.size, 0, none⟩) n n) (w.alloc (.cells (mkR n) 96)) := by
  obtain ⟨i0, hi, hz0, hz1, hz2⟩ := info_parts infoRow
  have h := run_make_rowN (P := Try.prog) 45 96 i0 _ Try.underlying45 hi hz0 .i64 .i64 n n (Nat.le_refl _) (by rw [hz2]; omega) (by omega) w
  rw [hz1] at h
  exact h

set_option maxRecDepth 100000 in
set_option maxHeartbeats 2000000 in
theorem toRowS_any (A : Option Addr) (n c : Nat) (R : List (List Int)) (hn : n = R.length) (w : World) (hm : n ≤ 1048576) (hr : ∀ r ∈ R, r.length ≤ 1048576) (H : RowsAt w 0 w.heap.size A R) :
    Calls Try.prog 76 #[.slice A n c] w fun e w' => e = .returned (.slice (some ⟨w.heap.size, 0, none⟩) n n) ∧ RowsAt w' w.heap.size w'.heap.size (some ⟨w.heap.size, 0, none⟩) R ∧ Bl w w' := by
  have K := Lib.hid H
  have HN := Lib.hid hn
  have HR := Lib.hid hr
  clear H hn hr
  have hmk := make_rows n hm
  go_enter Try.func76, Try.ntmps76
  go_wp2
  clear hmk
  go_loopw [4] (fun i wr => ∃ k : Nat, k ≤ n ∧ i = .int .i64 k ∧ Bl w wr ∧ ∃ f, wr.rowIs w.heap.size 96 n f ∧ ∀ j (h : j < k) (h' : j < R.length), ∃ g, f j = .slice (some ⟨g, 0, none⟩) R[j].length R[j].length ∧ w.heap.size < g ∧ IntsAt wr wr.heap.size (some ⟨g, 0, none⟩) R[j]) (fun i _ => n - (intOf i).toNat)
  case atStart => exact ⟨0, by omega, rfl, (by repeat' (first | exact Bl.refl _ | with_reducible assumption | with_reducible refine Bl.drew_ ?_ | with_reducible refine Bl.drewN_ ?_ _ | with_reducible refine Bl.alloc_ ?_ _ | with_reducible refine Bl.trans_ ?_ (by assumption) | with_reducible refine Bl.trans_ ?_ (And.left (by assumption)))), _, mkR_row _ _ _, fun j h => absurd h (by omega)⟩
  case round =>
    obtain ⟨k, hk, rfl, hbl, f, hrow, hf⟩ := hrel
    by_cases hlt : k < n
    · have hkl : k < R.length := by have := HN.out; omega
      obtain ⟨g1, o1, A', c', rfl, hg1, hc1, hi1⟩ := K.out.row hkl
      rw [← (bcell hbl).1 _ _ hg1] at hc1
      have KI := Lib.hid hi1
      have F := Lib.hid hf
      have RO := Lib.hid hrow
      have BB := Lib.hid hbl
      have hsl := hbl.size
      have hwl : w.heap.size < wr.heap.size := hrow.lt
      clear hf hrow hi1 hbl
      have HL := Lib.hid (HR.out _ (List.getElem_mem hkl))
      have i0 : (0 : Int) ≤ (k : Int) := by omega
      have i1 : (k : Int) < (n : Int) := by omega
      obtain ⟨rl, hrl⟩ : ∃ rl, rl = R[k].length := ⟨_, rfl⟩
      rw [← hrl] at hc1
      have HRL := Lib.hid hrl
      clear hrl
      go_wp2_with fail
      refine (toRow_any A' rl c' R[k] HRL.out _ (by rw [HRL.out]; exact HL.out) (KI.out.bl (BB.out.trans_ (by repeat' (first | exact Bl.refl _ | with_reducible assumption | with_reducible refine Bl.drew_ ?_ | with_reducible refine Bl.drewN_ ?_ _ | with_reducible refine Bl.alloc_ ?_ _ | with_reducible refine Bl.trans_ ?_ (by assumption) | with_reducible refine Bl.trans_ ?_ (And.left (by assumption))))))).mono ?_
      rintro e w1 ⟨g, rfl, hi2, hg2, hb2⟩
      have RO1 := Lib.hid (row_bl RO.out hb2)
      have z1 := RO1.out.cell (i := k) (by omega)
      have y1 := RO1.out.frozen k
      have HI2 := Lib.hid hi2
      have B2 := Lib.hid hb2
      have B1 := Lib.hid (BB.out.trans_ hb2)
      clear hi2 hb2
      go_wp2
      go_roundw
      case rel =>
        refine ⟨k + 1, by omega, by go_num, Bl.set_ B1.out (Nat.le_refl _) _, _, RO1.out.set k _, fun j hj hj' => ?_⟩
        rcases Nat.lt_or_ge j k with h | h
        · rw [if_neg (by omega)]
          obtain ⟨g', e1, e2, e3⟩ := F.out j h hj'
          exact ⟨g', e1, e2, ((e3.bl B2.out).set_ (fun x e => by simp [blockOf] at e; show w.heap.size ≠ x; omega) _).more (by simp)⟩
        · have e : j = k := by omega
          subst e
          rw [if_pos rfl]
          exact ⟨g, by rw [HRL.out], by omega, (HI2.out.set_ (fun x e => by simp [blockOf] at e; show w.heap.size ≠ x; omega) _).more (by simp)⟩
      case measure => simp [intOf]; omega
    · go_wp2
      go_ret
      have e : k = n := by omega
      subst e
      refine ⟨rfl, fun h0 => ⟨w.heap.size, 0, rfl, ⟨Nat.le_refl _, hrow.lt⟩, fun j hj => ?_⟩, hbl⟩
      have hjk : j < k := by have := HN.out; omega
      obtain ⟨g', e1, e2, e3⟩ := hf j hjk hj
      refine ⟨some ⟨g', 0, none⟩, R[j].length, ?_, e3, fun g'' e => ?_⟩
      · rw [← e1, Nat.zero_add]
        exact hrow.cell hjk
      · intro _
        simp [blockOf] at e
        omega

set_option maxHeartbeats 1000000 in
theorem eqRow_yes (A1 A2 : Option Addr) (c1 c2 : Nat) (V : List Int) (n : Nat) (hn : n = V.length) (w : World) (hm : n ≤ 9223372036854775807) (H1 : IntsAt w w.heap.size A1 V) (H2 : IntsAt w w.heap.size A2 V) :
    Calls Try.prog 92 #[.agg #[.slice A1 n c1], .agg #[.slice A2 n c2]] w fun e w' => e = .returned (.bool true) ∧ Bl w w' := by
  have K1 := Lib.hid H1
  have K2 := Lib.hid H2
  have HN := Lib.hid hn
  clear H1 H2 hn
  go_enter Try.func92, Try.ntmps92
  go_wp2_with fail
  refine (eqInt64S_yes _ _ _ _ V n HN.out _ hm (K1.out.bl (by repeat' (first | exact Bl.refl _ | with_reducible assumption | with_reducible refine Bl.drew_ ?_ | with_reducible refine Bl.drewN_ ?_ _ | with_reducible refine Bl.alloc_ ?_ _ | with_reducible refine Bl.trans_ ?_ (by assumption) | with_reducible refine Bl.trans_ ?_ (And.left (by assumption))))) (K2.out.bl (by repeat' (first | exact Bl.refl _ | with_reducible assumption | with_reducible refine Bl.drew_ ?_ | with_reducible refine Bl.drewN_ ?_ _ | with_reducible refine Bl.alloc_ ?_ _ | with_reducible refine Bl.trans_ ?_ (by assumption) | with_reducible refine Bl.trans_ ?_ (And.left (by assumption)))))).mono ?_
  rintro e w1 ⟨rfl, hb1⟩
  go_wp2
  go_ret
  exact ⟨rfl, (by repeat' (first | exact Bl.refl _ | with_reducible assumption | with_reducible refine Bl.drew_ ?_ | with_reducible refine Bl.drewN_ ?_ _ | with_reducible refine Bl.alloc_ ?_ _ | with_reducible refine Bl.trans_ ?_ (by assumption) | with_reducible refine Bl.trans_ ?_ (And.left (by assumption))))⟩

set_option maxRecDepth 100000 in
set_option maxHeartbeats 1000000 in
theorem eqRowS_yes (A1 A2 : Option Addr) (c1 c2 b1 b2 : Nat) (R : List (List Int)) (n : Nat) (hn : n = R.length) (w : World) (hm : n ≤ 9223372036854775807) (hr : ∀ r ∈ R, r.length ≤ 9223372036854775807) (H1 : RowsAt w b1 w.heap.size A1 R) (H2 : RowsAt w b2 w.heap.size A2 R) :
    Calls Try.prog 42 #[.slice A1 n c1, .slice A2 n c2] w fun e w' => e = .returned (.bool true) ∧ Bl w w' := by
  have K1 := Lib.hid H1
  have K2 := Lib.hid H2
  have HN := Lib.hid hn
  have HR := Lib.hid hr
  clear H1 H2 hn hr
  have hnn : ((n : Int) != (n : Int)) = false := by simp
  go_enter Try.func42, Try.ntmps42
  go_wp2
  go_loopw [5] (fun i wr => ∃ k : Nat, k ≤ n ∧ i = .int .i64 k ∧ Bl w wr) (fun i _ => n - (intOf i).toNat)
  case atStart => exact ⟨0, by omega, rfl, Bl.refl _⟩
  case round =>
    obtain ⟨k, hk, rfl, hbl⟩ := hrel
    by_cases hlt : k < n
    · have hkl : k < R.length := by have := HN.out; omega
      obtain ⟨g1, o1, A3, c3, rfl, hg1, hc1, hi1⟩ := K1.out.row hkl
      obtain ⟨g2, o2, A4, c4, rfl, hg2, hc2, hi2⟩ := K2.out.row hkl
      rw [← (bcell hbl).1 _ _ hg1] at hc1
      rw [← (bcell hbl).1 _ _ hg2] at hc2
      have I1 := Lib.hid (hi1.bl hbl)
      have I2 := Lib.hid (hi2.bl hbl)
      have HL := Lib.hid (HR.out _ (List.getElem_mem hkl))
      obtain ⟨rl, hrl⟩ : ∃ rl, rl = R[k].length := ⟨_, rfl⟩
      rw [← hrl] at hc1 hc2
      have HRL := Lib.hid hrl
      have BB := Lib.hid hbl
      have i0 : (0 : Int) ≤ (k : Int) := by omega
      have i1 : (k : Int) < (n : Int) := by omega
      clear hrl hi1 hi2 hbl
      go_wp2_with fail
      go_still_tail 8, (by kernel_rfl)
      change wpList _ _ _ _ _ wr.drew
      go_wp2_with fail
      refine (eqRow_yes A3 A4 c3 c4 R[k] rl HRL.out _ (by rw [HRL.out]; exact HL.out) (I1.out.bl (by repeat' (first | exact Bl.refl _ | with_reducible assumption | with_reducible refine Bl.drew_ ?_ | with_reducible refine Bl.drewN_ ?_ _ | with_reducible refine Bl.alloc_ ?_ _ | with_reducible refine Bl.trans_ ?_ (by assumption) | with_reducible refine Bl.trans_ ?_ (And.left (by assumption))))) (I2.out.bl (by repeat' (first | exact Bl.refl _ | with_reducible assumption | with_reducible refine Bl.drew_ ?_ | with_reducible refine Bl.drewN_ ?_ _ | with_reducible refine Bl.alloc_ ?_ _ | with_reducible refine Bl.trans_ ?_ (by assumption) | with_reducible refine Bl.trans_ ?_ (And.left (by assumption)))))).mono ?_
      rintro e w1 ⟨rfl, hb1⟩
      have B1 := Lib.hid (BB.out.trans_ (show Bl wr w1 from (by repeat' (first | exact Bl.refl _ | with_reducible assumption | with_reducible refine Bl.drew_ ?_ | with_reducible refine Bl.drewN_ ?_ _ | with_reducible refine Bl.alloc_ ?_ _ | with_reducible refine Bl.trans_ ?_ (by assumption) | with_reducible refine Bl.trans_ ?_ (And.left (by assumption))))))
      clear hc1 hc2
      go_wp2
      go_roundw
      case rel => exact ⟨k + 1, by omega, by go_num, B1.out⟩
      case measure => simp [intOf]; omega
    · go_wp2
      go_ret
      exact ⟨rfl, hbl⟩

end Go.Proofs.Ytoffkpkpdnjlnaa
