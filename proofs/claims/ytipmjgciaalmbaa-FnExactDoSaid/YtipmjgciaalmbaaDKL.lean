/-
  What is proved here: contracts of the laws' small functions on disks: sizes, copies, one held against another. No conditions beyond those that each theorem states.
-/
import Derived.Test.YtipmjgciaalmbaaDKE
import Derived.Test.YtipmjgciaalmbaaDKN
import Derived.Test.YtipmjgciaalmbaaDKS2
set_option linter.unusedSimpArgs false
set_option linter.unusedVariables false
namespace Go.Proofs.Ytipmjgciaalmbaa
open Go.RowKit

/-- How much a disk takes of what is left. -/
def dkSz (L1 L2 : List Fl) (O : List Dp) : Nat := (L1.length + szL szFl L1) + (L2.length + szL szFl L2) + (O.length + szL szDp O)
theorem leftI_add {l : Int} {a b : Nat} (h : ¬ l - a < 0) : leftI (l - a) b = leftI l (a + b) := by
  unfold leftI
  rw [show l - (a : Int) - (b : Int) = l - ((a + b : Nat) : Int) from by omega]

set_option maxRecDepth 100000 in
set_option maxHeartbeats 2000000 in
theorem szDisk_any (A1 A2 A3 : Option Addr) (n1 c1 n2 c2 n3 c3 : Nat) (L1 L2 : List Fl) (O : List Dp) (hn1 : n1 = L1.length) (hn2 : n2 = L2.length) (hn3 : n3 = O.length) (w : World)
    (hm1 : n1 ≤ 9223372036854775807) (hm2 : n2 ≤ 9223372036854775807) (hm3 : n3 ≤ 9223372036854775807)
    (hz1 : ∀ f ∈ L1, f.1.size ≤ 9223372036854775807 ∧ f.2.size ≤ 9223372036854775807) (hz2 : ∀ f ∈ L2, f.1.size ≤ 9223372036854775807 ∧ f.2.size ≤ 9223372036854775807)
    (hz3 : ∀ o ∈ O, o.name.size ≤ 9223372036854775807 ∧ o.to.size ≤ 9223372036854775807 ∧ o.data.size ≤ 9223372036854775807)
    (H1 : FilesAt w w.heap.size A1 L1) (H2 : FilesAt w w.heap.size A2 L2) (H3 : OpsAt w w.heap.size A3 O) :
    Calls Try.prog 13 #[.agg #[.slice A1 n1 c1, .slice A2 n2 c2, .slice A3 n3 c3], .int .i64 1048576] w fun e w' => e = .returned (.int .i64 (leftI 1048576 (dkSz L1 L2 O))) ∧ Bl w w' := by
  have K1 := Lib.hid H1
  have K2 := Lib.hid H2
  have K3 := Lib.hid H3
  have N1 := Lib.hid hn1
  have N2 := Lib.hid hn2
  have N3 := Lib.hid hn3
  have HD := Lib.hid (show dkSz L1 L2 O = (n1 + szL szFl L1) + (n2 + szL szFl L2) + (n3 + szL szDp O) from by unfold dkSz; rw [hn1, hn2, hn3])
  obtain ⟨a, ha⟩ : ∃ a, a = n1 + szL szFl L1 := ⟨_, rfl⟩
  obtain ⟨b, hb⟩ : ∃ b, b = n2 + szL szFl L2 := ⟨_, rfl⟩
  obtain ⟨c, hc⟩ : ∃ c, c = n3 + szL szDp O := ⟨_, rfl⟩
  rw [← ha, ← hb, ← hc] at HD
  have HA := Lib.hid ha
  have HB := Lib.hid hb
  have HC := Lib.hid hc
  have Z1 := Lib.hid hz1
  have Z2 := Lib.hid hz2
  have Z3 := Lib.hid hz3
  clear H1 H2 H3 hn1 hn2 hn3 ha hb hc hz1 hz2 hz3
  by_cases h1 : (1048576 : Int) - a < 0
  · go_enter Try.func13, Try.ntmps13
    go_wp2_with fail
    refine (szFileS_any A1 n1 c1 L1 N1.out 1048576 _ hm1 Z1.out (by omega) (by omega) (K1.out.bl (by repeat' (first | exact Bl.refl _ | with_reducible assumption | with_reducible refine Bl.drew_ ?_ | with_reducible refine Bl.drewN_ ?_ _ | with_reducible refine Bl.alloc_ ?_ _ | with_reducible refine Bl.trans_ ?_ (by assumption) | with_reducible refine Bl.trans_ ?_ (And.left (by assumption)))))).mono ?_
    rintro e w1 ⟨rfl, hb1⟩
    rw [← HA.out, leftI_neg (l := 1048576) (n := a) (by omega)]
    go_wp2
    go_ret
    exact ⟨ret_int (by rw [HD.out, leftI_neg (by omega)]), (Bl.alloc_ (Bl.refl w) _).trans_ hb1⟩
  · by_cases h2 : (1048576 : Int) - a - b < 0
    · have p1 : ¬ (1048576 : Int) - a < 0 := h1
      go_enter Try.func13, Try.ntmps13
      go_wp2_with fail
      refine (szFileS_any A1 n1 c1 L1 N1.out 1048576 _ hm1 Z1.out (by omega) (by omega) (K1.out.bl (by repeat' (first | exact Bl.refl _ | with_reducible assumption | with_reducible refine Bl.drew_ ?_ | with_reducible refine Bl.drewN_ ?_ _ | with_reducible refine Bl.alloc_ ?_ _ | with_reducible refine Bl.trans_ ?_ (by assumption) | with_reducible refine Bl.trans_ ?_ (And.left (by assumption)))))).mono ?_
      rintro e w1 ⟨rfl, hb1⟩
      obtain ⟨q0, q1, q2⟩ := box3 hb1
      have B1 := Lib.hid ((Bl.alloc_ (Bl.refl w) _).trans_ hb1)
      rw [← HA.out, leftI_pos (l := 1048576) (n := a) (by omega)]
      go_wp2_with fail
      refine (szFileS_any A2 n2 c2 L2 N2.out _ _ hm2 Z2.out (by omega) (by omega) (K2.out.bl B1.out)).mono ?_
      rintro e w2 ⟨rfl, hb2⟩
      rw [← HB.out, leftI_neg (l := 1048576 - (a : Int)) (n := b) (by omega)]
      go_wp2
      go_ret
      exact ⟨ret_int (by rw [HD.out, leftI_neg (by omega)]), B1.out.trans_ hb2⟩
    · have p1 : ¬ (1048576 : Int) - a < 0 := h1
      have p2 : ¬ (1048576 : Int) - a - b < 0 := h2
      go_enter Try.func13, Try.ntmps13
      go_wp2_with fail
      refine (szFileS_any A1 n1 c1 L1 N1.out 1048576 _ hm1 Z1.out (by omega) (by omega) (K1.out.bl (by repeat' (first | exact Bl.refl _ | with_reducible assumption | with_reducible refine Bl.drew_ ?_ | with_reducible refine Bl.drewN_ ?_ _ | with_reducible refine Bl.alloc_ ?_ _ | with_reducible refine Bl.trans_ ?_ (by assumption) | with_reducible refine Bl.trans_ ?_ (And.left (by assumption)))))).mono ?_
      rintro e w1 ⟨rfl, hb1⟩
      obtain ⟨q0, q1, q2⟩ := box3 hb1
      have X1 := Lib.hid hb1
      have B1 := Lib.hid ((Bl.alloc_ (Bl.refl w) _).trans_ hb1)
      rw [← HA.out, leftI_pos (l := 1048576) (n := a) (by omega)]
      go_wp2_with fail
      refine (szFileS_any A2 n2 c2 L2 N2.out _ _ hm2 Z2.out (by omega) (by omega) (K2.out.bl B1.out)).mono ?_
      rintro e w2 ⟨rfl, hb2⟩
      obtain ⟨q0, q1, q2⟩ := box3 (X1.out.trans_ hb2)
      have B2 := Lib.hid (B1.out.trans_ hb2)
      rw [← HB.out, leftI_pos (l := 1048576 - (a : Int)) (n := b) (by omega)]
      go_wp2_with fail
      refine (szDOpS_any A3 n3 c3 O N3.out _ _ hm3 Z3.out (by omega) (by omega) (K3.out.bl B2.out)).mono ?_
      rintro e w3 ⟨rfl, hb3⟩
      have B3 := Lib.hid (B2.out.trans_ hb3)
      rw [← HC.out]
      have HE : leftI ((1048576 : Int) - a - b) c = leftI 1048576 (dkSz L1 L2 O) := by
        rw [HD.out, show (1048576 : Int) - (a : Int) - (b : Int) = 1048576 - ((a + b : Nat) : Int) from by omega, leftI_add (by omega)]
      rw [HE]
      have hlo : leftI 1048576 (dkSz L1 L2 O) < 0 → leftI 1048576 (dkSz L1 L2 O) = -1 := fun h => by
        unfold leftI at h ⊢
        split at h
        · rename_i h'; rw [if_pos h']
        · omega
      obtain ⟨r, hr⟩ : ∃ r, r = leftI 1048576 (dkSz L1 L2 O) := ⟨_, rfl⟩
      rw [← hr] at hlo ⊢
      have HR := Lib.hid hr
      clear hr HE hb1 hb2 hb3 q0 q1 q2
      by_cases h3 : r < 0
      · obtain rfl := hlo h3
        go_wp2
        go_ret
        exact ⟨ret_int HR.out, B3.out⟩
      · clear hlo
        go_wp2
        go_ret
        exact ⟨ret_int HR.out, B3.out⟩

/-- A disk that has been made anew: three rows of its own. -/
structure DiskRows (w : World) (B g1 g2 g3 n1 n2 n3 : Nat) (L1 L2 : List Fl) (O : List Dp) : Prop where
  r1 : OwnF w B (.slice (some ⟨g1, 0, none⟩) n1 n1) L1
  r2 : OwnF w B (.slice (some ⟨g2, 0, none⟩) n2 n2) L2
  r3 : OwnO w B (.slice (some ⟨g3, 0, none⟩) n3 n3) O
  d12 : g1 ≠ g2
  d13 : g1 ≠ g3
  d23 : g2 ≠ g3
def DiskMade (n1 n2 n3 : Nat) (L1 L2 : List Fl) (O : List Dp) (w : World) (e : Ending) (w' : World) : Prop :=
  ∃ g1 g2 g3, e = .returned (.agg #[.slice (some ⟨g1, 0, none⟩) n1 n1, .slice (some ⟨g2, 0, none⟩) n2 n2, .slice (some ⟨g3, 0, none⟩) n3 n3]) ∧ DiskRows w' w.heap.size g1 g2 g3 n1 n2 n3 L1 L2 O ∧ Bl w w'

theorem own_gF {w : World} {B g n c : Nat} {L : List Fl} (h : OwnF w B (.slice (some ⟨g, 0, none⟩) n c) L) : B ≤ g ∧ g < w.heap.size := Owns.lt_ (show Owns _ _ _ _ _ _ _ from h) g rfl
theorem own_gO {w : World} {B g n c : Nat} {L : List Dp} (h : OwnO w B (.slice (some ⟨g, 0, none⟩) n c) L) : B ≤ g ∧ g < w.heap.size := Owns.lt_ (show Owns _ _ _ _ _ _ _ from h) g rfl
theorem OwnF.bl {w w' : World} {B : Nat} {v : Value} {L : List Fl} (h : OwnF w B v L) (hb : Bl w w') : OwnF w' B v L := Owns.bl h hb
theorem OwnO.bl {w w' : World} {B : Nat} {v : Value} {L : List Dp} (h : OwnO w B v L) (hb : Bl w w') : OwnO w' B v L := Owns.bl h hb
theorem OwnF.low {w : World} {B B' : Nat} {v : Value} {L : List Fl} (h : OwnF w B' v L) (hB : B ≤ B') : OwnF w B v L := Owns.low h hB
theorem OwnO.low {w : World} {B B' : Nat} {v : Value} {L : List Dp} (h : OwnO w B' v L) (hB : B ≤ B') : OwnO w B v L := Owns.low h hB
theorem OwnF.at_ {w : World} {B g n c : Nat} {L : List Fl} (h : OwnF w B (.slice (some ⟨g, 0, none⟩) n c) L) : FilesAt w w.heap.size (some ⟨g, 0, none⟩) L := by
  obtain ⟨A, c', e, _, h1, _⟩ := own_shapeF h
  injection e with e1 e2 e3
  rw [e1]; exact h1
theorem OwnO.at_ {w : World} {B g n c : Nat} {L : List Dp} (h : OwnO w B (.slice (some ⟨g, 0, none⟩) n c) L) : OpsAt w w.heap.size (some ⟨g, 0, none⟩) L := by
  obtain ⟨A, c', e, _, h1, _⟩ := Owns.shape (show Owns _ _ _ _ _ _ _ from h)
  injection e with e1 e2 e3
  rw [e1]; exact h1
theorem OwnF.setOther {w : World} {B g n c : Nat} {L : List Fl} (h : OwnF w B (.slice (some ⟨g, 0, none⟩) n c) L) {b : Nat} (hb : b < B) (o : Nat) (u : Value) : OwnF (w.setCell ⟨b, o, none⟩ u) B (.slice (some ⟨g, 0, none⟩) n c) L :=
  Owns.setOther (show Owns _ _ _ _ _ _ _ from h) (fun g' hg' => by
    have := (Owns.lt (show Owns _ _ _ _ _ _ _ from h) g' hg').1
    show g' ≠ b
    omega) u
theorem OwnO.setOther {w : World} {B g n c : Nat} {L : List Dp} (h : OwnO w B (.slice (some ⟨g, 0, none⟩) n c) L) {b : Nat} (hb : b < B) (o : Nat) (u : Value) : OwnO (w.setCell ⟨b, o, none⟩ u) B (.slice (some ⟨g, 0, none⟩) n c) L :=
  Owns.setOther (show Owns _ _ _ _ _ _ _ from h) (fun g' hg' => by
    have := (Owns.lt (show Owns _ _ _ _ _ _ _ from h) g' hg').1
    show g' ≠ b
    omega) u

end Go.Proofs.Ytipmjgciaalmbaa
