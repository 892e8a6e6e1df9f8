/-
  What is proved here: a disk that comes in is copied. No conditions beyond those that each theorem states.
-/
import Derived.Test.YtipmjgciaalmbaaDKL
set_option linter.unusedSimpArgs false
set_option linter.unusedVariables false
namespace Go.Proofs.Ytipmjgciaalmbaa
open Go.RowKit

set_option maxRecDepth 100000 in
set_option maxHeartbeats 4000000 in
theorem toDisk_any (A1 A2 A3 : Option Addr) (n1 c1 n2 c2 n3 c3 : Nat) (L1 L2 : List Fl) (O : List Dp) (hn1 : n1 = L1.length) (hn2 : n2 = L2.length) (hn3 : n3 = O.length) (w : World)
    (hm1 : n1 ≤ 1048576) (hm2 : n2 ≤ 1048576) (hm3 : n3 ≤ 1048576) (H1 : FilesAt w w.heap.size A1 L1) (H2 : FilesAt w w.heap.size A2 L2) (H3 : OpsAt w w.heap.size A3 O) :
    Calls Try.prog 15 #[.agg #[.slice A1 n1 c1, .slice A2 n2 c2, .slice A3 n3 c3]] w (DiskMade n1 n2 n3 L1 L2 O w) := by
  have K1 := Lib.hid H1
  have K2 := Lib.hid H2
  have K3 := Lib.hid H3
  have N1 := Lib.hid hn1
  have N2 := Lib.hid hn2
  have N3 := Lib.hid hn3
  clear H1 H2 H3 hn1 hn2 hn3
  go_enter Try.func15, Try.ntmps15
  go_wp2_with fail
  refine (toFileS_any A1 n1 c1 L1 N1.out _ hm1 (K1.out.bl (by repeat' (first | exact Bl.refl _ | with_reducible assumption | with_reducible refine Bl.drew_ ?_ | with_reducible refine Bl.drewN_ ?_ _ | with_reducible refine Bl.alloc_ ?_ _ | with_reducible refine Bl.trans_ ?_ (by assumption) | with_reducible refine Bl.trans_ ?_ (And.left (by assumption)))))).mono ?_
  rintro e w1 ⟨g1, rfl, ho1, hb1, -⟩
  have s1 := hb1.size
  simp only [World.size_alloc] at s1
  have h1 := own_gF ho1
  simp only [World.size_alloc] at h1
  have O1 := Lib.hid (show OwnF w1 (w.heap.size + 1 + 1 + 1) (.slice (some ⟨g1, 0, none⟩) n1 n1) L1 from by simpa only [World.size_alloc] using ho1)
  have X1 := Lib.hid (show Bl w (w1.setCell ⟨w.heap.size + 1 + 1, 0, none⟩ (.slice (some ⟨g1, 0, none⟩) n1 n1)) from Bl.set_ ((((Bl.refl w).alloc_ _).alloc_ _).alloc_ _ |>.trans_ hb1) (by show w.heap.size ≤ w.heap.size + 1 + 1; omega) _)
  obtain ⟨hc1, hf1⟩ := bcell hb1
  have i1 : w.heap.size < w1.heap.size := by omega
  have i2 : w.heap.size + 1 < w1.heap.size := by omega
  have i3 : w.heap.size + 1 + 1 < w1.heap.size := by omega
  clear ho1 hb1
  go_wp2_with fail
  refine (toFileS_any A2 n2 c2 L2 N2.out _ hm2 (K2.out.bl X1.out)).mono ?_
  rintro e w2 ⟨g2, rfl, ho2, hb2, -⟩
  have s2 := hb2.size
  simp only [World.size_setCell] at s2
  have h2 := own_gF ho2
  simp only [World.size_setCell] at h2
  have O2 := Lib.hid (show OwnF w2 w1.heap.size (.slice (some ⟨g2, 0, none⟩) n2 n2) L2 from by simpa only [World.size_setCell] using ho2)
  have O1b := Lib.hid ((O1.out.setOther (b := w.heap.size + 1 + 1) (by omega) 0 (.slice (some ⟨g1, 0, none⟩) n1 n1)).bl hb2)
  have X2 := Lib.hid (show Bl w (w2.setCell ⟨w.heap.size + 1 + 1, 1, none⟩ (.slice (some ⟨g2, 0, none⟩) n2 n2)) from Bl.set_ (X1.out.trans_ hb2) (by show w.heap.size ≤ w.heap.size + 1 + 1; omega) _)
  obtain ⟨hc2, hf2⟩ := bcell hb2
  simp only [World.size_setCell] at hc2 hf2
  have i4 : w.heap.size < w2.heap.size := by omega
  have i5 : w.heap.size + 1 < w2.heap.size := by omega
  have i6 : w.heap.size + 1 + 1 < w2.heap.size := by omega
  clear ho2 hb2 O1
  go_wp2_with fail
  refine (toDOpS_any A3 n3 c3 O N3.out _ hm3 (K3.out.bl X2.out)).mono ?_
  rintro e w3 ⟨g3, rfl, ho3, hb3, -⟩
  have s3 := hb3.size
  simp only [World.size_setCell] at s3
  have h3 := own_gO ho3
  simp only [World.size_setCell] at h3
  have O3 := Lib.hid (show OwnO w3 w2.heap.size (.slice (some ⟨g3, 0, none⟩) n3 n3) O from by simpa only [World.size_setCell] using ho3)
  have O1c := Lib.hid ((O1b.out.setOther (b := w.heap.size + 1 + 1) (by omega) 1 (.slice (some ⟨g2, 0, none⟩) n2 n2)).bl hb3)
  have O2c := Lib.hid ((O2.out.setOther (b := w.heap.size + 1 + 1) (by omega) 1 (.slice (some ⟨g2, 0, none⟩) n2 n2)).bl hb3)
  have X3 := Lib.hid (X2.out.trans_ hb3)
  obtain ⟨hc3, hf3⟩ := bcell hb3
  simp only [World.size_setCell] at hc3 hf3
  have i7 : w.heap.size < w3.heap.size := by omega
  have i8 : w.heap.size + 1 < w3.heap.size := by omega
  have i9 : w.heap.size + 1 + 1 < w3.heap.size := by omega
  clear ho3 hb3 O1b O2
  go_wp2
  refine bodyPost_ret (v := .agg #[.slice (some ⟨g1, 0, none⟩) n1 n1, .slice (some ⟨g2, 0, none⟩) n2 n2, .slice (some ⟨g3, 0, none⟩) n3 n3]) (by simp [results, Try.results15, go_sem, hc1, hc2, hc3, i1, i2, i3, i4, i5, i6, i7, i8, i9]) rfl ?_
  refine ⟨g1, g2, g3, rfl, ⟨?_, ?_, ?_, by omega, by omega, by omega⟩, ?_⟩
  · exact ((((O1c.out.setOther (b := w.heap.size + 1 + 1) (by omega) 2 _).setOther (b := w.heap.size + 1) (by omega) 0 _).setOther (b := w.heap.size + 1) (by omega) 1 _).setOther (b := w.heap.size + 1) (by omega) 2 _).low (by omega)
  · exact ((((O2c.out.setOther (b := w.heap.size + 1 + 1) (by omega) 2 _).setOther (b := w.heap.size + 1) (by omega) 0 _).setOther (b := w.heap.size + 1) (by omega) 1 _).setOther (b := w.heap.size + 1) (by omega) 2 _).low (by omega)
  · exact ((((O3.out.setOther (b := w.heap.size + 1 + 1) (by omega) 2 _).setOther (b := w.heap.size + 1) (by omega) 0 _).setOther (b := w.heap.size + 1) (by omega) 1 _).setOther (b := w.heap.size + 1) (by omega) 2 _).low (by omega)
  · exact Bl.set_ (Bl.set_ (Bl.set_ (Bl.set_ X3.out (by show w.heap.size ≤ w.heap.size + 1 + 1; omega) _) (by show w.heap.size ≤ w.heap.size + 1; omega) _) (by show w.heap.size ≤ w.heap.size + 1; omega) _) (by show w.heap.size ≤ w.heap.size + 1; omega) _

end Go.Proofs.Ytipmjgciaalmbaa
