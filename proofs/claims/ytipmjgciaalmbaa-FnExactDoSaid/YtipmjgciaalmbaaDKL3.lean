/-
  What is proved here: disks are held against each other, marked, and held against their marks. No conditions beyond those that each theorem states.
-/
import Derived.Test.YtipmjgciaalmbaaDKL2
import Derived.Test.YtipmjgciaalmbaaDKH
set_option linter.unusedSimpArgs false
set_option linter.unusedVariables false
namespace Go.Proofs.Ytipmjgciaalmbaa
open Go.RowKit

/-- The slices of a disk read as these lists. -/
structure DiskAt (w : World) (B : Nat) (A1 A2 A3 : Option Addr) (L1 L2 : List Fl) (O : List Dp) : Prop where
  f1 : FilesAt w B A1 L1
  f2 : FilesAt w B A2 L2
  f3 : OpsAt w B A3 O
theorem DiskAt.bl {w w' : World} {A1 A2 A3 : Option Addr} {L1 L2 : List Fl} {O : List Dp} (h : DiskAt w w.heap.size A1 A2 A3 L1 L2 O) (hb : Bl w w') : DiskAt w' w'.heap.size A1 A2 A3 L1 L2 O := ⟨h.f1.bl hb, h.f2.bl hb, h.f3.bl hb⟩
theorem DiskAt.bl' {w w' : World} {B : Nat} {A1 A2 A3 : Option Addr} {L1 L2 : List Fl} {O : List Dp} (h : DiskAt w B A1 A2 A3 L1 L2 O) (hB : B ≤ w.heap.size) (hb : Bl w w') : DiskAt w' B A1 A2 A3 L1 L2 O := ⟨h.f1.bl' hB hb, h.f2.bl' hB hb, h.f3.bl' hB hb⟩
theorem DiskAt.more {w : World} {B B' : Nat} {A1 A2 A3 : Option Addr} {L1 L2 : List Fl} {O : List Dp} (h : DiskAt w B A1 A2 A3 L1 L2 O) (hB : B ≤ B') : DiskAt w B' A1 A2 A3 L1 L2 O := ⟨h.f1.more hB, h.f2.more hB, h.f3.more hB⟩
theorem DiskRows.at_ {w : World} {B g1 g2 g3 n1 n2 n3 : Nat} {L1 L2 : List Fl} {O : List Dp} (h : DiskRows w B g1 g2 g3 n1 n2 n3 L1 L2 O) : DiskAt w w.heap.size (some ⟨g1, 0, none⟩) (some ⟨g2, 0, none⟩) (some ⟨g3, 0, none⟩) L1 L2 O := ⟨h.r1.at_, h.r2.at_, h.r3.at_⟩
theorem DiskRows.bl {w w' : World} {B g1 g2 g3 n1 n2 n3 : Nat} {L1 L2 : List Fl} {O : List Dp} (h : DiskRows w B g1 g2 g3 n1 n2 n3 L1 L2 O) (hb : Bl w w') : DiskRows w' B g1 g2 g3 n1 n2 n3 L1 L2 O := ⟨h.r1.bl hb, h.r2.bl hb, h.r3.bl hb, h.d12, h.d13, h.d23⟩

set_option maxRecDepth 100000 in
set_option maxHeartbeats 1000000 in
theorem eqDisk_yes (A1 A2 A3 B1 B2 B3 : Option Addr) (n1 n2 n3 c1 c2 c3 d1 d2 d3 : Nat) (L1 L2 : List Fl) (O : List Dp) (hn1 : n1 = L1.length) (hn2 : n2 = L2.length) (hn3 : n3 = O.length) (w : World)
    (hm1 : n1 ≤ 1048576) (hm2 : n2 ≤ 1048576) (hm3 : n3 ≤ 1048576) (HA : DiskAt w w.heap.size A1 A2 A3 L1 L2 O) (HB : DiskAt w w.heap.size B1 B2 B3 L1 L2 O) :
    Calls Try.prog 17 #[.agg #[.slice A1 n1 c1, .slice A2 n2 c2, .slice A3 n3 c3], .agg #[.slice B1 n1 d1, .slice B2 n2 d2, .slice B3 n3 d3]] w fun e w' => e = .returned (.bool true) ∧ Bl w w' := by
  have KA := Lib.hid HA
  have KB := Lib.hid HB
  have N1 := Lib.hid hn1
  have N2 := Lib.hid hn2
  have N3 := Lib.hid hn3
  clear HA HB hn1 hn2 hn3
  go_enter Try.func17, Try.ntmps17
  go_wp2_with fail
  refine (eqFileS_yes _ _ c1 d1 L1 n1 N1.out _ (by omega) (KA.out.f1.bl (by repeat' (first | exact Bl.refl _ | with_reducible assumption | with_reducible refine Bl.drew_ ?_ | with_reducible refine Bl.drewN_ ?_ _ | with_reducible refine Bl.alloc_ ?_ _ | with_reducible refine Bl.trans_ ?_ (by assumption) | with_reducible refine Bl.trans_ ?_ (And.left (by assumption))))) (KB.out.f1.bl (by repeat' (first | exact Bl.refl _ | with_reducible assumption | with_reducible refine Bl.drew_ ?_ | with_reducible refine Bl.drewN_ ?_ _ | with_reducible refine Bl.alloc_ ?_ _ | with_reducible refine Bl.trans_ ?_ (by assumption) | with_reducible refine Bl.trans_ ?_ (And.left (by assumption)))))).mono ?_
  rintro e w1 ⟨rfl, hb1⟩
  have B1 := Lib.hid (show Bl w w1 from ((Bl.refl w).alloc_ _).alloc_ _ |>.trans_ hb1)
  obtain ⟨hc1, hf1⟩ := bcell hb1
  go_wp2_with fail
  refine (eqFileS_yes _ _ c2 d2 L2 n2 N2.out _ (by omega) (KA.out.f2.bl B1.out) (KB.out.f2.bl B1.out)).mono ?_
  rintro e w2 ⟨rfl, hb2⟩
  have B2 := Lib.hid (B1.out.trans_ hb2)
  have s1 := hb1.size
  simp only [World.size_alloc] at s1
  obtain ⟨hc2, hf2⟩ := bcell hb2
  have i1 : w.heap.size < w1.heap.size := by omega
  have i2 : w.heap.size + 1 < w1.heap.size := by omega
  go_wp2_with fail
  refine (eqDOpS_yes _ _ c3 d3 O n3 N3.out _ (by omega) (KA.out.f3.bl B2.out) (KB.out.f3.bl B2.out)).mono ?_
  rintro e w3 ⟨rfl, hb3⟩
  have B3 := Lib.hid (B2.out.trans_ hb3)
  clear hb1 hb2 hb3 hc1 hc2 hf1 hf2
  go_wp2
  go_ret
  exact ⟨rfl, B3.out⟩

/-- What is written when a disk is marked. -/
def DkS (A1 A2 A3 : Option Addr) (n1 n2 n3 : Nat) (b : Nat) : Prop := rowOf A1 n1 = some b ∨ rowOf A2 n2 = some b ∨ rowOf A3 n3 = some b
/-- The slices of a disk may be written, each by itself. -/
structure DiskW (w : World) (A1 A2 A3 : Option Addr) (n1 n2 n3 : Nat) : Prop where
  w1 : RowsW 89 2 w A1 n1
  w2 : RowsW 89 2 w A2 n2
  w3 : RowsW 45 4 w A3 n3
  d12 : ∀ g, rowOf A1 n1 = some g → rowOf A2 n2 ≠ some g
  d13 : ∀ g, rowOf A1 n1 = some g → rowOf A3 n3 ≠ some g
  d23 : ∀ g, rowOf A2 n2 = some g → rowOf A3 n3 ≠ some g
theorem DiskW.bl {w w' : World} {A1 A2 A3 : Option Addr} {n1 n2 n3 : Nat} (h : DiskW w A1 A2 A3 n1 n2 n3) (hb : Bl w w') : DiskW w' A1 A2 A3 n1 n2 n3 := ⟨RowsW.bl h.w1 hb, RowsW.bl h.w2 hb, RowsW.bl h.w3 hb, h.d12, h.d13, h.d23⟩
/-- The slices of a disk bear the marks from k on. -/
structure DiskMk (w : World) (A1 A2 A3 : Option Addr) (n1 n2 n3 : Nat) (k : Int) : Prop where
  m1 : MarkF w A1 n1 k
  m2 : MarkF w A2 n2 (k + 2 * n1)
  m3 : MarkO w A3 n3 (k + 2 * n1 + 2 * n2)
theorem DiskMk.bl {w w' : World} {A1 A2 A3 : Option Addr} {n1 n2 n3 : Nat} {k : Int} (h : DiskMk w A1 A2 A3 n1 n2 n3 k) (hb : Bl w w') : DiskMk w' A1 A2 A3 n1 n2 n3 k := ⟨h.m1.bl hb, h.m2.bl hb, h.m3.bl hb⟩
theorem rowsW_grown {t : TypeId} {s : Nat} {w w' : World} {A : Option Addr} {n : Nat} {row : Option Nat} (h : RowsW t s w A n) (hg : w.grownBy w' row) (hne : ∀ g, rowOf A n = some g → some g ≠ row) : RowsW t s w' A n := fun h0 =>
  RowsW.grown_ h hg (fun g hb => hne g (by unfold rowOf; rw [if_neg (by omega)]; exact hb)) h0
theorem markF_grown {w w' : World} {A : Option Addr} {n : Nat} {k : Int} {row : Option Nat} (h : MarkF w A n k) (hg : w.grownBy w' row) (hne : ∀ g, rowOf A n = some g → some g ≠ row) : MarkF w' A n k := fun h0 =>
  MarkF.grown_ h hg (fun g hb => hne g (by unfold rowOf; rw [if_neg (by omega)]; exact hb)) h0

set_option maxRecDepth 100000 in
set_option maxHeartbeats 1000000 in
theorem markDisk_any (A1 A2 A3 : Option Addr) (n1 n2 n3 c1 c2 c3 : Nat) (k : Int) (w : World) (hm1 : n1 ≤ 1048576) (hm2 : n2 ≤ 1048576) (hm3 : n3 ≤ 1048576) (hk0 : 0 ≤ k) (hk1 : k ≤ 1048576) (HW : DiskW w A1 A2 A3 n1 n2 n3) :
    Calls Try.prog 22 #[.agg #[.slice A1 n1 c1, .slice A2 n2 c2, .slice A3 n3 c3], .int .i64 k] w fun e w' =>
      e = .returned (.int .i64 (k + 2 * n1 + 2 * n2 + 4 * n3)) ∧ DiskMk w' A1 A2 A3 n1 n2 n3 k ∧ Turn (DkS A1 A2 A3 n1 n2 n3) w w' := by
  have KW := Lib.hid HW
  have lt1 : ∀ g, rowOf A1 n1 = some g → g < w.heap.size := fun g hg => by
    obtain ⟨h0, hb⟩ := rowOf_pos hg
    obtain ⟨g', off, m, f, rfl, _, hr⟩ := HW.w1 h0
    injection hb with hb
    rw [← hb]; exact hr.lt
  have lt2 : ∀ g, rowOf A2 n2 = some g → g < w.heap.size := fun g hg => by
    obtain ⟨h0, hb⟩ := rowOf_pos hg
    obtain ⟨g', off, m, f, rfl, _, hr⟩ := HW.w2 h0
    injection hb with hb
    rw [← hb]; exact hr.lt
  have lt3 : ∀ g, rowOf A3 n3 = some g → g < w.heap.size := fun g hg => by
    obtain ⟨h0, hb⟩ := rowOf_pos hg
    obtain ⟨g', off, m, f, rfl, _, hr⟩ := HW.w3 h0
    injection hb with hb
    rw [← hb]; exact hr.lt
  have T1 := Lib.hid lt1
  have T2 := Lib.hid lt2
  have T3 := Lib.hid lt3
  clear HW lt1 lt2 lt3
  go_enter Try.func22, Try.ntmps22
  go_wp2_with fail
  refine (markFileS_any A1 n1 c1 k _ hm1 hk0 (by omega) (RowsW.bl KW.out.w1 (by repeat' (first | exact Bl.refl _ | with_reducible assumption | with_reducible refine Bl.drew_ ?_ | with_reducible refine Bl.drewN_ ?_ _ | with_reducible refine Bl.alloc_ ?_ _ | with_reducible refine Bl.trans_ ?_ (by assumption) | with_reducible refine Bl.trans_ ?_ (And.left (by assumption)))))).mono ?_
  rintro e w1 ⟨rfl, hmk1, hgr1, -⟩
  have s1 := hgr1.size
  simp only [World.size_alloc] at s1
  have x0 : w1.cell? ⟨w.heap.size, 0, none⟩ = some (.slice A1 n1 c1) ∧ w1.cell? ⟨w.heap.size, 1, none⟩ = some (.slice A2 n2 c2) ∧ w1.cell? ⟨w.heap.size, 2, none⟩ = some (.slice A3 n3 c3) := by
    have hne : some w.heap.size ≠ rowOf A1 n1 := fun e => by have := T1.out _ e.symm; omega
    exact ⟨hgr1.cell (by simp [go_sem]) hne, hgr1.cell (by simp [go_sem]) hne, hgr1.cell (by simp [go_sem]) hne⟩
  have M1 := Lib.hid hmk1
  have G1 := Lib.hid (grown_of_bl ((Bl.refl w).alloc_ _) hgr1)
  have X0 := Lib.hid x0
  obtain ⟨y0, y1, y2⟩ := x0
  clear hmk1 hgr1
  go_wp2_with fail
  refine (markFileS_any A2 n2 c2 (k + 2 * (n1 : Int)) _ hm2 (by omega) (by omega) (rowsW_grown KW.out.w2 G1.out (fun g hg e => KW.out.d12 g e.symm hg))).mono ?_
  rintro e w2 ⟨rfl, hmk2, hgr2, -⟩
  have s2 := hgr2.size
  have x2 : w2.cell? ⟨w.heap.size, 0, none⟩ = some (.slice A1 n1 c1) ∧ w2.cell? ⟨w.heap.size, 1, none⟩ = some (.slice A2 n2 c2) ∧ w2.cell? ⟨w.heap.size, 2, none⟩ = some (.slice A3 n3 c3) := by
    have hne : some w.heap.size ≠ rowOf A2 n2 := fun e => by have := T2.out _ e.symm; omega
    exact ⟨hgr2.cell X0.out.1 hne, hgr2.cell X0.out.2.1 hne, hgr2.cell X0.out.2.2 hne⟩
  have M2 := Lib.hid hmk2
  have M1b := Lib.hid (markF_grown M1.out hgr2 (fun g hg e => KW.out.d12 g hg e.symm))
  have G2 := Lib.hid hgr2
  have W3 := Lib.hid (rowsW_grown (rowsW_grown KW.out.w3 G1.out (fun g hg e => KW.out.d13 g e.symm hg)) hgr2 (fun g hg e => KW.out.d23 g e.symm hg))
  clear y0 y1 y2 hmk2 hgr2 M1
  obtain ⟨y0, y1, y2⟩ := x2
  go_wp2_with fail
  refine (markDOpS_any A3 n3 c3 (k + 2 * (n1 : Int) + 2 * (n2 : Int)) _ hm3 (by omega) (by omega) W3.out).mono ?_
  rintro e w3 ⟨rfl, hmk3, hgr3, -⟩
  have M3 := Lib.hid hmk3
  have M1c := Lib.hid (markF_grown M1b.out hgr3 (fun g hg e => KW.out.d13 g hg e.symm))
  have M2c := Lib.hid (markF_grown M2.out hgr3 (fun g hg e => KW.out.d23 g hg e.symm))
  have TT := Lib.hid (show Turn (DkS A1 A2 A3 n1 n2 n3) w w3 from
    (((Turn.of_grown (S := DkS A1 A2 A3 n1 n2 n3) G1.out (fun g h => .inl h)).trans (Turn.of_grown (S := DkS A1 A2 A3 n1 n2 n3) G2.out (fun g h => .inr (.inl h))) (fun i _ h => h))).trans (Turn.of_grown (S := DkS A1 A2 A3 n1 n2 n3) hgr3 (fun g h => .inr (.inr h))) (fun i _ h => h))
  clear hmk3 hgr3 M1b M2
  go_wp2
  go_ret
  exact ⟨ret_int rfl, ⟨M1c.out, M2c.out, M3.out⟩, TT.out⟩

set_option maxRecDepth 100000 in
set_option maxHeartbeats 1000000 in
theorem heldDisk_any (A1 A2 A3 : Option Addr) (n1 n2 n3 c1 c2 c3 : Nat) (k : Int) (w : World) (hm1 : n1 ≤ 1048576) (hm2 : n2 ≤ 1048576) (hm3 : n3 ≤ 1048576) (hk0 : 0 ≤ k) (hk1 : k ≤ 1048576) (HM : DiskMk w A1 A2 A3 n1 n2 n3 k) :
    Calls Try.prog 23 #[.agg #[.slice A1 n1 c1, .slice A2 n2 c2, .slice A3 n3 c3], .int .i64 k] w fun e w' => e = .returned (.int .i64 (k + 2 * n1 + 2 * n2 + 4 * n3)) ∧ Bl w w' := by
  have KM := Lib.hid HM
  clear HM
  have p1 : (0 : Int) ≤ k + 2 * (n1 : Int) := by omega
  have p2 : (0 : Int) ≤ k + 2 * (n1 : Int) + 2 * (n2 : Int) := by omega
  have p3 : (0 : Int) ≤ k + 2 * (n1 : Int) + 2 * (n2 : Int) + 4 * (n3 : Int) := by omega
  go_enter Try.func23, Try.ntmps23
  go_wp2_with fail
  refine (heldFileS_any A1 n1 c1 k _ hm1 hk0 (by omega) (KM.out.m1.bl (by repeat' (first | exact Bl.refl _ | with_reducible assumption | with_reducible refine Bl.drew_ ?_ | with_reducible refine Bl.drewN_ ?_ _ | with_reducible refine Bl.alloc_ ?_ _ | with_reducible refine Bl.trans_ ?_ (by assumption) | with_reducible refine Bl.trans_ ?_ (And.left (by assumption)))))).mono ?_
  rintro e w1 ⟨rfl, hb1⟩
  obtain ⟨q0, q1, q2⟩ := box3 hb1
  have X1 := Lib.hid hb1
  have B1 := Lib.hid ((Bl.alloc_ (Bl.refl w) _).trans_ hb1)
  clear hb1
  go_wp2_with fail
  refine (heldFileS_any A2 n2 c2 (k + 2 * (n1 : Int)) _ hm2 (by omega) (by omega) (KM.out.m2.bl B1.out)).mono ?_
  rintro e w2 ⟨rfl, hb2⟩
  clear q0 q1 q2
  obtain ⟨q0, q1, q2⟩ := box3 (X1.out.trans_ hb2)
  have B2 := Lib.hid (B1.out.trans_ hb2)
  clear hb2
  go_wp2_with fail
  refine (heldDOpS_any A3 n3 c3 (k + 2 * (n1 : Int) + 2 * (n2 : Int)) _ hm3 (by omega) (by omega) (KM.out.m3.bl B2.out)).mono ?_
  rintro e w3 ⟨rfl, hb3⟩
  have B3 := Lib.hid (B2.out.trans_ hb3)
  clear hb3
  go_wp2
  go_ret
  exact ⟨ret_int rfl, B3.out⟩

end Go.Proofs.Ytipmjgciaalmbaa
