/-
  What is proved here: the program's Sync. No conditions beyond those that each theorem states.
-/
import Derived.Test.YtipmjgciaalmbaaDKSY
set_option linter.unusedSimpArgs false
set_option linter.unusedVariables false
namespace Go.Proofs.Ytipmjgciaalmbaa
open Go.RowKit

theorem In3.opened' {w0 wx : World} {vA vB vC : Value} {LA LB : List Fl} {LC : List Dp} (h : In3 w0 wx vA vB vC LA LB LC) : ∃ A1 A2 A3 n1 c1 n2 c2 n3 c3, (vA = .slice A1 n1 c1 ∧ vB = .slice A2 n2 c2 ∧ vC = .slice A3 n3 c3) ∧ n1 = LA.length := by
  obtain ⟨A1, c1, rfl, -⟩ := Owns.shape (show Owns _ _ _ _ _ _ _ from h.oA)
  obtain ⟨A2, c2, rfl, -⟩ := Owns.shape (show Owns _ _ _ _ _ _ _ from h.oB)
  obtain ⟨A3, c3, rfl, -⟩ := Owns.shape (show Owns _ _ _ _ _ _ _ from h.oC)
  exact ⟨A1, A2, A3, _, c1, _, c2, _, c3, ⟨rfl, rfl, rfl⟩, rfl⟩

set_option maxRecDepth 100000 in
set_option maxHeartbeats 2000000 in
theorem diskWith_any (A : Option Addr) (n c : Nat) (L : List Fl) (hn : n = L.length) (hm : n ≤ 1048576) (w : World) (H1 : FilesAt w w.heap.size A L) :
    Calls Try.prog 63 #[.slice A n c] w (DiskNew L L [] w) := by
  have K1 := Lib.hid H1
  have HN := Lib.hid hn
  clear H1 hn
  go_enter Try.func63, Try.ntmps63
  go_wp2_with fail
  refine (cloneF_any A n c L HN.out _ hm (K1.out.bl (by repeat' (first | exact Bl.refl _ | with_reducible assumption | with_reducible refine Bl.drew_ ?_ | with_reducible refine Bl.drewN_ ?_ _ | with_reducible refine Bl.alloc_ ?_ _ | with_reducible refine Bl.trans_ ?_ (by assumption) | with_reducible refine Bl.trans_ ?_ (And.left (by assumption)))))).mono ?_
  rintro e w1 ⟨v1, rfl, hv1, hb1⟩
  obtain ⟨P1, e1, rfl, -⟩ := own_shapeF hv1
  have V1 := Lib.hid hv1
  have B1 := Lib.hid ((Bl.alloc_ (Bl.refl w) _).trans_ hb1)
  have X1 := Lib.hid hb1
  have hl1 : ∀ g, (Value.slice P1 L.length e1).ownBlock = some g → g < w1.heap.size := fun g hg => (Owns.lt (show Owns _ _ _ _ _ _ _ from hv1) g hg).2
  clear hv1 hb1
  go_wp2_with fail
  refine (cloneF_any A n c L HN.out _ hm (K1.out.bl B1.out)).mono ?_
  rintro e w2 ⟨v2, rfl, hv2, hb2⟩
  obtain ⟨P2, e2, rfl, -⟩ := own_shapeF hv2
  have hl2 : ∀ g, (Value.slice P2 L.length e2).ownBlock = some g → w1.heap.size ≤ g := fun g hg => (Owns.lt (show Owns _ _ _ _ _ _ _ from hv2) g hg).1
  have I := Lib.hid (show In3 (w.alloc (.cells #[.slice none 0 0, .slice none 0 0, .slice none 0 0] 31)) w2 (.slice P1 L.length e1) (.slice P2 L.length e2) (.slice none 0 0) L L [] from
    ⟨V1.out.bl hb2, hv2.low X1.out.size, Owns.nil_ _ _ _ _, X1.out.trans_ hb2, (fun g h1 h2 => by have := hl1 g h1; have := hl2 g h2; omega), (fun g h1 h2 => by cases h2), (fun g h1 h2 => by cases h2)⟩)
  have X2 := Lib.hid (X1.out.trans_ hb2)
  have s2 := X2.out.size
  simp only [World.size_alloc] at s2
  obtain ⟨hc, hf⟩ := bcell X2.out
  have i1 : w.heap.size < w2.heap.size := by omega
  clear hv2 hb2 hl1 hl2
  go_wp2
  refine bodyPost_ret (v := .agg #[.slice P1 L.length e1, .slice P2 L.length e2, .slice none 0 0]) (by simp [results, Try.results63, go_sem, hc, hf, i1]) rfl ⟨.slice P1 L.length e1, .slice P2 L.length e2, .slice none 0 0, rfl, I.out.fin (Bl.alloc_ (Bl.refl w) _) (b := w.heap.size) (by omega) (by simp) _ _ _⟩

set_option maxRecDepth 100000 in
set_option maxHeartbeats 2000000 in
theorem implSync_any {A1 A2 A3 : Option Addr} {n1 n2 n3 c1 c2 c3 : Nat} {L1 L2 : List Fl} {O : List Dp} (hb : DkB n1 n2 n3 L1 L2 O) (w : World) (H : DiskAt w w.heap.size A1 A2 A3 L1 L2 O) :
    Calls Try.prog 21 #[.agg #[.slice A1 n1 c1, .slice A2 n2 c2, .slice A3 n3 c3]] w (DiskNew (syncD (L1, L2, O)) (syncD (L1, L2, O)) [] w) := by
  have KH := Lib.hid H
  have KB := Lib.hid hb
  clear H hb
  by_cases hd : diskB (L1, L2, O) = true
  · have HD := Lib.hid hd
    have HE : syncD (L1, L2, O) = L1 := by unfold syncD; rw [hd]; rfl
    rw [HE]
    clear hd HE
    go_enter Try.func21, Try.ntmps21
    go_wp2_with fail
    refine (implOk_dk KB.out _ (KH.out.bl (by repeat' (first | exact Bl.refl _ | with_reducible assumption | with_reducible refine Bl.drew_ ?_ | with_reducible refine Bl.drewN_ ?_ _ | with_reducible refine Bl.alloc_ ?_ _ | with_reducible refine Bl.trans_ ?_ (by assumption) | with_reducible refine Bl.trans_ ?_ (And.left (by assumption)))))).mono ?_
    rintro e w2 ⟨rfl, hb2⟩
    have B2 := Lib.hid (show Bl w w2 from (((Bl.refl w).alloc_ _).alloc_ _).trans_ hb2)
    have s2 := hb2.size
    simp only [World.size_alloc] at s2
    have X2 := Lib.hid hb2
    obtain ⟨hc, hf⟩ := bcell hb2
    have q0 : w2.cell? ⟨w.heap.size, 0, none⟩ = some (.slice A1 n1 c1) := by rw [hc _ _ (by simp; omega)]; simp [go_sem]
    rw [HD.out]
    clear hb2 hc hf
    go_wp2_with fail
    refine (diskWith_any A1 n1 c1 L1 KB.out.l1 KB.out.m1 _ (KH.out.f1.bl B2.out)).mono ?_
    rintro e w3 ⟨vA, vB, vC, rfl, hI⟩
    obtain ⟨E1, E2, E3, k1, d1, k2, d2, k3, d3, ⟨rfl, rfl, rfl⟩, -⟩ := hI.opened'
    have I := Lib.hid hI
    obtain ⟨hc, hf⟩ := bcell (X2.out.trans_ hI.bl)
    have s3 := hI.bl.size
    have i1 : w.heap.size < w3.heap.size := by omega
    have i2 : w.heap.size + 1 < w3.heap.size := by omega
    clear hI q0
    go_wp2
    refine bodyPost_ret (v := .agg #[.slice E1 k1 d1, .slice E2 k2 d2, .slice E3 k3 d3]) (by simp [results, Try.results21, go_sem, hc, hf, i1, i2]) rfl ⟨.slice E1 k1 d1, .slice E2 k2 d2, .slice E3 k3 d3, rfl, I.out.fin B2.out (b := w.heap.size + 1) (by omega) (by omega) _ _ _⟩
  · have hd' : diskB (L1, L2, O) = false := by simpa using hd
    have HD := Lib.hid hd'
    have HE : syncD (L1, L2, O) = [] := by unfold syncD; rw [hd']; rfl
    rw [HE]
    clear hd hd' HE
    go_enter Try.func21, Try.ntmps21
    go_wp2_with fail
    refine (implOk_dk KB.out _ (KH.out.bl (by repeat' (first | exact Bl.refl _ | with_reducible assumption | with_reducible refine Bl.drew_ ?_ | with_reducible refine Bl.drewN_ ?_ _ | with_reducible refine Bl.alloc_ ?_ _ | with_reducible refine Bl.trans_ ?_ (by assumption) | with_reducible refine Bl.trans_ ?_ (And.left (by assumption)))))).mono ?_
    rintro e w2 ⟨rfl, hb2⟩
    have B2 := Lib.hid (show Bl w w2 from (((Bl.refl w).alloc_ _).alloc_ _).trans_ hb2)
    have s2 := hb2.size
    simp only [World.size_alloc] at s2
    obtain ⟨hc, hf⟩ := bcell hb2
    have i1 : w.heap.size < w2.heap.size := by omega
    have i2 : w.heap.size + 1 < w2.heap.size := by omega
    have I := Lib.hid (In3.start (Bl.refl w2))
    rw [HD.out]
    clear hb2
    go_wp2
    refine bodyPost_ret (v := .agg #[.slice none 0 0, .slice none 0 0, .slice none 0 0]) (by simp [results, Try.results21, go_sem, hc, hf, i1, i2]) rfl ⟨nilV, nilV, nilV, rfl, I.out.fin B2.out (b := w.heap.size + 1) (by omega) (by omega) _ _ _⟩

end Go.Proofs.Ytipmjgciaalmbaa
