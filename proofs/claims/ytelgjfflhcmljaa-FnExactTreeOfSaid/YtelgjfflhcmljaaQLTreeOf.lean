/-
  What is proved here: the walk of the exact law on TreeOf: at every graph and node that can be read it returns true and leaves what was there as it was. No conditions beyond those that each theorem states.
-/
import Derived.Test.YtelgjfflhcmljaaQSTR
import Derived.Test.YtelgjfflhcmljaaE3b
import Derived.Test.YtelgjfflhcmljaaE2
import Derived.Test.YtelgjfflhcmljaaG5a
import Derived.Test.YtelgjfflhcmljaaB1
set_option linter.unusedSimpArgs false
set_option linter.unusedVariables false
namespace Go.Proofs.Ytelgjfflhcmljaa
open Go.RowKit

set_option maxHeartbeats 400000 in
theorem eqTree_yes (R : Int) (A1 A2 : Option Addr) (c1 c2 : Nat) (V : List Int) (n : Nat) (hn : n = V.length) (w : World) (hm : n ≤ 9223372036854775807) (H1 : IntsAt w w.heap.size A1 V) (H2 : IntsAt w w.heap.size A2 V) :
    Calls Try.prog 35 #[.agg #[.int .i64 R, .slice A1 n c1], .agg #[.int .i64 R, .slice A2 n c2]] w fun e w' => e = .returned (.bool true) ∧ Bl w w' := by
  have hnn : (R != R) = false := by simp
  have K1 := Lib.hid H1
  have K2 := Lib.hid H2
  have HN := Lib.hid hn
  clear H1 H2 hn
  go_enter Try.func35, Try.ntmps35
  go_wp2_with (go_at_call 44; refine (eqInt64S_yes _ _ _ _ V n HN.out _ hm (IntsAt.bl K1.out (by repeat' (first | exact Bl.refl _ | with_reducible assumption | with_reducible refine Bl.drew_ ?_ | with_reducible refine Bl.drewN_ ?_ _ | with_reducible refine Bl.alloc_ ?_ _ | with_reducible refine Bl.trans_ ?_ (by assumption) | with_reducible refine Bl.trans_ ?_ (And.left (by assumption))))) (IntsAt.bl K2.out (by repeat' (first | exact Bl.refl _ | with_reducible assumption | with_reducible refine Bl.drew_ ?_ | with_reducible refine Bl.drewN_ ?_ _ | with_reducible refine Bl.alloc_ ?_ _ | with_reducible refine Bl.trans_ ?_ (by assumption) | with_reducible refine Bl.trans_ ?_ (And.left (by assumption)))))).mono ?_; rintro e w' ⟨rfl, hb⟩; obtain ⟨hc, hf⟩ := bcell hb)
  go_ret
  exact ⟨rfl, (by repeat' (first | exact Bl.refl _ | with_reducible assumption | with_reducible refine Bl.drew_ ?_ | with_reducible refine Bl.drewN_ ?_ _ | with_reducible refine Bl.alloc_ ?_ _ | with_reducible refine Bl.trans_ ?_ (by assumption) | with_reducible refine Bl.trans_ ?_ (And.left (by assumption))))⟩
set_option maxHeartbeats 400000 in
theorem markTree_any (R : Int) (A : Option Addr) (n c : Nat) (k : Int) (w : World) (hn : n ≤ 1048576) (hk0 : 0 ≤ k) (hk1 : k ≤ 1099511627776) (HR : RowsW 2 1 w A n) :
    Calls Try.prog 36 #[.agg #[.int .i64 R, .slice A n c], .int .i64 k] w (MarkN A n k w) := by
  have K1 := Lib.hid HR
  clear HR
  go_enter Try.func36, Try.ntmps36
  go_wp2_with fail
  refine (markN_any A n c k _ hn hk0 hk1 (RowsW.bl K1.out (by repeat' (first | exact Bl.refl _ | with_reducible assumption | with_reducible refine Bl.drew_ ?_ | with_reducible refine Bl.drewN_ ?_ _ | with_reducible refine Bl.alloc_ ?_ _ | with_reducible refine Bl.trans_ ?_ (by assumption) | with_reducible refine Bl.trans_ ?_ (And.left (by assumption)))))).mono ?_
  rintro e w1 h
  obtain ⟨rfl, h1, h2, h3⟩ := h
  have M := Lib.hid h1
  have G := Lib.hid h2
  have RR := Lib.hid h3
  clear h1 h2 h3
  go_wp2
  go_ret
  exact ⟨rfl, M.out, grown_of_bl (by repeat' (first | exact Bl.refl _ | with_reducible assumption | with_reducible refine Bl.drew_ ?_ | with_reducible refine Bl.drewN_ ?_ _ | with_reducible refine Bl.alloc_ ?_ _ | with_reducible refine Bl.trans_ ?_ (by assumption) | with_reducible refine Bl.trans_ ?_ (And.left (by assumption)))) G.out, RR.out⟩
set_option maxHeartbeats 400000 in
theorem heldTree_any (R : Int) (A : Option Addr) (n c : Nat) (k : Int) (w : World) (hn : n ≤ 1048576) (hk0 : 0 ≤ k) (hk1 : k ≤ 1099511627776) (HM : Marks w A n k) :
    Calls Try.prog 37 #[.agg #[.int .i64 R, .slice A n c], .int .i64 k] w fun e w' => e = .returned (.int .i64 (k + n)) ∧ Bl w w' := by
  have M1 := Lib.hid HM
  have p : (0 : Int) ≤ k + n := by omega
  clear HM
  go_enter Try.func37, Try.ntmps37
  go_wp2_with fail
  refine (heldInt64S_any A n c k _ hn hk0 hk1 (Marks.bl M1.out (by repeat' (first | exact Bl.refl _ | with_reducible assumption | with_reducible refine Bl.drew_ ?_ | with_reducible refine Bl.drewN_ ?_ _ | with_reducible refine Bl.alloc_ ?_ _ | with_reducible refine Bl.trans_ ?_ (by assumption) | with_reducible refine Bl.trans_ ?_ (And.left (by assumption)))))).mono ?_
  rintro e w1 ⟨rfl, rfl⟩
  go_wp2
  go_ret
  exact ⟨rfl, (by repeat' (first | exact Bl.refl _ | with_reducible assumption | with_reducible refine Bl.drew_ ?_ | with_reducible refine Bl.drewN_ ?_ _ | with_reducible refine Bl.alloc_ ?_ _ | with_reducible refine Bl.trans_ ?_ (by assumption) | with_reducible refine Bl.trans_ ?_ (And.left (by assumption))))⟩

set_option maxHeartbeats 4000000 in
theorem lawTreeOf_core (N s : Int) (A : Option Addr) (n c : Nat) (L : List Arc3) (hn : n = L.length) (w : World) (hm' : n ≤ 1048576) (H1 : ArcsAt w w.heap.size A L) (ok : Bool) (R : Int) (U : List Int) (l : Nat) (hl : l = U.length) (hl2 : l ≤ 1048576)
    (SS : RowKit.Hid (∀ (A : Option Addr) (c : Nat) (w : World), n ≤ c → ArcsAt w w.heap.size A L → Calls Try.prog 33 #[.agg #[.int .i64 N, .slice A n c], .int .i64 s] w (TGot ok R U w)))
    (II : RowKit.Hid (∀ (A : Option Addr) (w : World), ArcsAt w w.heap.size A L → Calls Try.prog 34 #[.agg #[.int .i64 N, .slice A n n], .int .i64 s] w (TGot ok R U w))) :
    Calls Try.prog 6 #[.agg #[.int .i64 N, .slice A n c], .int .i64 s] w fun e w' => e = .returned (.bool true) ∧ Bl w w' := by
  have K1 := Lib.hid H1
  have HN := Lib.hid hn
  have HL := Lib.hid hl
  clear H1 hn hl
  have hok : (ok != ok) = false := by simp
  go_enter Try.func6, Try.ntmps6
  go_wp2_with fail
  refine (szGraph_small N A n c _ hm').mono ?_
  rintro e w1 ⟨rfl, hb1⟩
  obtain ⟨q0, q1⟩ := box2 hb1
  have p1 : (0 : Int) ≤ 1048576 - (n : Int) := by omega
  go_wp2_with fail
  refine (toGraph_any N A n c L HN.out _ hm' (K1.out.bl (by repeat' (first | exact Bl.refl _ | with_reducible assumption | with_reducible refine Bl.drew_ ?_ | with_reducible refine Bl.drewN_ ?_ _ | with_reducible refine Bl.alloc_ ?_ _ | with_reducible refine Bl.trans_ ?_ (by assumption) | with_reducible refine Bl.trans_ ?_ (And.left (by assumption)))))).mono ?_
  rintro e w2 ⟨g2, rfl, ha2, hg2, hb2⟩
  have hb2 := hb1.trans_ hb2
  clear q0 q1
  have HA2 := Lib.hid ha2
  clear ha2
  go_wp2_with fail
  refine (SS.out _ n _ (Nat.le_refl _) HA2.out).mono ?_
  rintro e w3 ⟨v0, rfl, hv0, hb3⟩
  have hb3 := hb2.trans_ hb3
  obtain ⟨q0, q1⟩ := box2 hb3
  have sw : w.heap.size < w3.heap.size := by have := hb3.size; simp at this; omega
  obtain ⟨A0, c0, rfl, -, hA0, -, -⟩ := OwnN.shape hv0
  have V0 := Lib.hid hA0
  clear hv0 hA0
  rw [← HL.out]
  go_wp2_with fail
  refine (toGraph_row N A n c L HN.out _ hm' (K1.out.bl ((show Bl w w3 from (by repeat' (first | exact Bl.refl _ | with_reducible assumption | with_reducible refine Bl.drew_ ?_ | with_reducible refine Bl.drewN_ ?_ _ | with_reducible refine Bl.alloc_ ?_ _ | with_reducible refine Bl.trans_ ?_ (by assumption) | with_reducible refine Bl.trans_ ?_ (And.left (by assumption))))).trans_ (Bl.alloc_ (Bl.refl w3) _)))).mono ?_
  rintro e w4 ⟨g4, rfl, ha4, hg4, hb4, hr4, hlt4⟩
  have b34 : Bl w3 w4 := (Bl.alloc_ (Bl.refl w3) _).trans_ hb4
  have hB4 := hb3.trans_ b34
  have hg4' : w3.heap.size < g4 := by simp at hg4; omega
  clear q0 q1
  obtain ⟨q0, q1⟩ := box2 hB4
  have HA4 := Lib.hid ha4
  have HR4 := Lib.hid hr4
  clear ha4 hr4
  go_wp2_with fail
  refine (II.out _ _ (HA4.out.bl (Bl.alloc_ (Bl.refl w4) _))).mono ?_
  rintro e w5 ⟨v1, rfl, hv1, hb5⟩
  have b45 : Bl w4 w5 := (Bl.alloc_ (Bl.refl w4) _).trans_ hb5
  have b35 := b34.trans_ b45
  have hB5 := hB4.trans_ b45
  have HA5 := Lib.hid (ArcsAt.bl HA4.out b45)
  have HR5 := Lib.hid (RowW.bl HR4.out b45)
  obtain ⟨A1, c1, rfl, -, hA1, hR1, hl1⟩ := OwnN.shape hv1
  have V1 := Lib.hid hA1
  have L1 := Lib.hid hl1
  have W1 := Lib.hid hR1
  rw [← HL.out] at W1
  clear hv1 hA1 hR1 hl1
  rw [← HL.out]
  have B1 := Lib.hid (show ∀ g, blockOf A1 = some g → w4.heap.size < g ∧ g < w5.heap.size from fun g hg => by have := L1.out g hg; rw [World.size_alloc] at this; omega)
  clear L1
  have s3 := b34.size
  have s5 := b45.size
  clear q0 q1
  have o0 := (box2 (hb4.trans_ b45)).1
  have o1 := (box2 (hb4.trans_ b45)).2
  have hw3lt : w3.heap.size < w5.heap.size := by have := World.block_lt_of_cell? _ _ o0; exact this
  go_wp2_with fail
  refine (eqTree_yes R A1 A0 c1 c0 U l HL.out _ (by omega) (V1.out.bl (Bl.alloc_ (Bl.refl w5) _)) (V0.out.bl (b35.trans_ (Bl.alloc_ (Bl.refl w5) _)))).mono ?_
  rintro e w6 ⟨rfl, hb6⟩
  have b56 : Bl w5 w6 := (Bl.alloc_ (Bl.refl w5) _).trans_ hb6
  have hB6 := hB5.trans_ b56
  have hX6 := hb5.trans_ b56
  have HSH := Lib.hid (show ∀ wx, Bl w6 wx → Bl w6 wx ∧ wx.cell? ⟨w.heap.size, 0, none⟩ = some (.int .i64 N) ∧ wx.cell? ⟨w.heap.size, 1, none⟩ = some (.slice A n c) ∧ wx.cell? ⟨w4.heap.size, 0, none⟩ = some (.int .i64 N) ∧ wx.cell? ⟨w4.heap.size, 1, none⟩ = some (.slice (some ⟨g4, 0, none⟩) n n) from fun wx hb =>
    ⟨hb, (box2 (hB6.trans_ hb)).1, (box2 (hB6.trans_ hb)).2, (box2 (hX6.trans_ hb)).1, (box2 (hX6.trans_ hb)).2⟩)
  clear o0 o1
  go_wp2_with fail
  refine wp_region_held_drew (S := fun wx => Bl w6 wx ∧ wx.cell? ⟨w.heap.size, 0, none⟩ = some (.int .i64 N) ∧ wx.cell? ⟨w.heap.size, 1, none⟩ = some (.slice A n c) ∧ wx.cell? ⟨w4.heap.size, 0, none⟩ = some (.int .i64 N) ∧ wx.cell? ⟨w4.heap.size, 1, none⟩ = some (.slice (some ⟨g4, 0, none⟩) n n)) (by kernel_rfl) ?_ (fun hHeld => ?_)
  · (exact HSH.out _ (by repeat' (first | exact Bl.refl _ | with_reducible assumption | with_reducible refine Bl.drew_ ?_ | with_reducible refine Bl.drewN_ ?_ _ | with_reducible refine Bl.alloc_ ?_ _ | with_reducible refine Bl.trans_ ?_ (by assumption) | with_reducible refine Bl.trans_ ?_ (And.left (by assumption)))))
  refine wpAnyH_take (i := 0) (v := ?_) rfl (by kernel_rfl) (by kernel_rfl) (by kernel_rfl) (fun _ _ _ h => h) (Or.inl ⟨by kernel_rfl, ?_⟩) (by assumption) ?_
  rotate_left
  · (intro wx hSw; (try dsimp only at hSw); go_simp; try (with_reducible rfl))
  try simp only [Act.put, List.getElem_toArray, List.getElem_cons_succ, List.getElem_cons_zero, List.setIfInBounds_toArray, List.set_cons_zero, List.set_cons_succ]
  refine wpAnyH_take (i := 1) (v := ?_) rfl (by kernel_rfl) (by kernel_rfl) (by kernel_rfl) (fun _ _ _ h => h) (Or.inl ⟨by kernel_rfl, ?_⟩) (by assumption) ?_
  rotate_left
  · (intro wx hSw; (try dsimp only at hSw); go_simp; try (with_reducible rfl))
  try simp only [Act.put, List.getElem_toArray, List.getElem_cons_succ, List.getElem_cons_zero, List.setIfInBounds_toArray, List.set_cons_zero, List.set_cons_succ]
  refine wpAnyH_ready (rs := [2]) (by kernel_rfl) (by simp) ?_
  refine AllReadyH.cons rfl (fun K hK => ?_) AllReadyH.nil
  go_simp
  (go_at_call 19; refine (toGraph_any N A n c L HN.out _ hm' (K1.out.bl (by repeat' (first | exact Bl.refl _ | with_reducible assumption | with_reducible refine Bl.drew_ ?_ | with_reducible refine Bl.drewN_ ?_ _ | with_reducible refine Bl.alloc_ ?_ _ | with_reducible refine Bl.trans_ ?_ (by assumption) | with_reducible refine Bl.trans_ ?_ (And.left (by assumption)))))).mono ?_; rintro e w7 ⟨g7, rfl, ha7, hg7, hb7⟩; have HA7 := Lib.hid ha7; clear ha7)
  try (go_wp2_with fail)
  refine hK.out _ _ ?_ (fun hHeld => ?_)
  · (exact HSH.out _ (by repeat' (first | exact Bl.refl _ | with_reducible assumption | with_reducible refine Bl.drew_ ?_ | with_reducible refine Bl.drewN_ ?_ _ | with_reducible refine Bl.alloc_ ?_ _ | with_reducible refine Bl.trans_ ?_ (by assumption) | with_reducible refine Bl.trans_ ?_ (And.left (by assumption)))))
  clear hK K
  try simp only [Act.put, List.getElem_toArray, List.getElem_cons_succ, List.getElem_cons_zero, List.setIfInBounds_toArray, List.set_cons_zero, List.set_cons_succ]
  refine wpAnyH_ready (rs := [3]) (by kernel_rfl) (by simp) ?_
  refine AllReadyH.cons rfl (fun K hK => ?_) AllReadyH.nil
  go_simp
  (go_at_call 21; refine (eqGraph_yes N _ _ n n L n HN.out _ (by omega) (HA5.out.bl (b56.trans_ (show Bl w6 _ from (by repeat' (first | exact Bl.refl _ | with_reducible assumption | with_reducible refine Bl.drew_ ?_ | with_reducible refine Bl.drewN_ ?_ _ | with_reducible refine Bl.alloc_ ?_ _ | with_reducible refine Bl.trans_ ?_ (by assumption) | with_reducible refine Bl.trans_ ?_ (And.left (by assumption))))))) HA7.out).mono ?_; rintro e w8 ⟨rfl, hb8⟩)
  try (go_wp2_with fail)
  refine hK.out _ _ ?_ (fun hHeld => ?_)
  · (exact HSH.out _ (by repeat' (first | exact Bl.refl _ | with_reducible assumption | with_reducible refine Bl.drew_ ?_ | with_reducible refine Bl.drewN_ ?_ _ | with_reducible refine Bl.alloc_ ?_ _ | with_reducible refine Bl.trans_ ?_ (by assumption) | with_reducible refine Bl.trans_ ?_ (And.left (by assumption)))))
  clear hK K
  try simp only [Act.put, List.getElem_toArray, List.getElem_cons_succ, List.getElem_cons_zero, List.setIfInBounds_toArray, List.set_cons_zero, List.set_cons_succ]
  refine wpAnyH_take (i := 4) (v := ?_) rfl (by kernel_rfl) (by kernel_rfl) (by kernel_rfl) (fun _ _ _ h => h) (Or.inl ⟨by kernel_rfl, ?_⟩) (by assumption) ?_
  rotate_left
  · (intro wx hSw; (try dsimp only at hSw); go_simp; try (with_reducible rfl))
  try simp only [Act.put, List.getElem_toArray, List.getElem_cons_succ, List.getElem_cons_zero, List.setIfInBounds_toArray, List.set_cons_zero, List.set_cons_succ]
  refine wpAnyH_done (by kernel_rfl) ?_ _
  have P8 : Bl w6 w8 := (by repeat' (first | exact Bl.refl _ | with_reducible assumption | with_reducible refine Bl.drew_ ?_ | with_reducible refine Bl.drewN_ ?_ _ | with_reducible refine Bl.alloc_ ?_ _ | with_reducible refine Bl.trans_ ?_ (by assumption) | with_reducible refine Bl.trans_ ?_ (And.left (by assumption))))
  have P58 := b56.trans_ P8
  obtain ⟨x0, x1⟩ := box2 (hX6.trans_ P8)
  go_wp2_with fail
  refine (markGraph_any N _ n n 1 _ hm' (by omega) (by omega) (HR5.out.bl P58)).mono ?_
  rintro e w9 ⟨rfl, hm9, hg9, hr9⟩
  have G9 := Lib.hid hg9
  clear hm9 hg9 hr9
  have s58 := P58.size
  have s9 := G9.out.size
  have s56 := b56.size
  have s6 : w5.heap.size < w6.heap.size := by have := hb6.size; simp at this; omega
  have s68 := P8.size
  have Q8 : Bl w w8 := (Bl.alloc_ (Bl.refl w) _).trans_ (hB6.trans_ P8)
  have Q9 : Bl w w9 := Q8.grown_ G9.out (fun g hg => by
    obtain rfl : g4 = g := by simpa [blockOf] using hg
    omega)
  have V09 := Lib.hid (((V0.out).bl' (Nat.le_refl _) (b35.trans_ P58)).grown_ (by omega) G9.out (fun g _ hlt => by simp [blockOf]; omega))
  have V19 := Lib.hid ((V1.out.bl' (Nat.le_refl _) P58).grown_ (by omega) G9.out (fun g hg _ => by have := B1.out g hg; simp [blockOf]; omega))
  have W19 := Lib.hid (RowsW.grown_ (RowsW.bl W1.out P58) G9.out (fun g hg => by have := B1.out g hg; simp [blockOf]; omega))
  have p2 : (0 : Int) ≤ 1 + 3 * (n : Int) := by omega
  have C0 := Lib.hid (cell_grown G9.out (box2 (hB6.trans_ P8)).1 (by simp [blockOf]; omega))
  have C1 := Lib.hid (cell_grown G9.out (box2 (hB6.trans_ P8)).2 (by simp [blockOf]; omega))
  have e0 := cell_grown G9.out (box2 (hb4.trans_ (b45.trans_ P58))).1 (by simp [blockOf]; omega)
  have e1 := cell_grown G9.out (box2 (hb4.trans_ (b45.trans_ P58))).2 (by simp [blockOf]; omega)
  have d0 := cell_grown G9.out (box2 (hb6.trans_ P8)).1 (by simp [blockOf]; omega)
  have d1 := cell_grown G9.out (box2 (hb6.trans_ P8)).2 (by simp [blockOf]; omega)
  have E0 := Lib.hid e0
  have E1 := Lib.hid e1
  have D0 := Lib.hid d0
  have D1 := Lib.hid d1
  clear x0 x1
  go_wp2_with fail
  refine (eqTree_yes R A1 A0 c1 c0 U l HL.out _ (by omega) (V19.out.more (by omega)) (V09.out.more (by omega))).mono ?_
  rintro e w10 ⟨rfl, hb10⟩
  have s10 := hb10.size
  have far10 : ∀ b j, b < w9.heap.size → w10.cell? ⟨b, j, none⟩ = w9.cell? ⟨b, j, none⟩ := fun b j h => (bcell hb10).1 b j h
  have FR := Lib.hid far10
  clear far10 e0 e1 d0 d1
  have d0 := (FR.out w5.heap.size 0 (by omega)).trans D0.out
  have d1 := (FR.out w5.heap.size 1 (by omega)).trans D1.out
  go_wp2_with fail
  refine (markTree_any R A1 l c1 1 _ (by omega) (by omega) (by omega) (RowsW.bl W19.out hb10)).mono ?_
  rintro e w11 ⟨rfl, hm11, hg11, hr11⟩
  have G11 := Lib.hid hg11
  have M11 := Lib.hid hm11
  clear hm11 hg11 hr11
  have s11 := G11.out.size
  have ne1 : ∀ g, g ≤ w4.heap.size → some g ≠ blockOf A1 := fun g hg h => by have := B1.out g h.symm; omega
  have ne5 : some w5.heap.size ≠ blockOf A1 := fun h => by have := B1.out _ h.symm; omega
  have Q11 : Bl w w11 := (Q9.trans_ hb10).grown_ G11.out (fun g hg => by have := B1.out g hg; omega)
  have V011 := Lib.hid ((V09.out.bl' (by omega) hb10).grown_ (by omega) G11.out (fun g _ hlt => ne1 g (by omega)))
  have q0 := cell_grown G11.out ((FR.out w.heap.size 0 (by omega)).trans C0.out) (ne1 _ (by omega))
  have q1 := cell_grown G11.out ((FR.out w.heap.size 1 (by omega)).trans C1.out) (ne1 _ (by omega))
  have e0 := cell_grown G11.out ((FR.out w3.heap.size 0 (by omega)).trans E0.out) (ne1 _ (by omega))
  have e1 := cell_grown G11.out ((FR.out w3.heap.size 1 (by omega)).trans E1.out) (ne1 _ (by omega))
  have r0 := cell_grown G11.out d0 ne5
  have r1 := cell_grown G11.out d1 ne5
  clear ne1 ne5 d0 d1
  have Q0 := Lib.hid q0
  have Q1 := Lib.hid q1
  have EE0 := Lib.hid e0
  have EE1 := Lib.hid e1
  have R0 := Lib.hid r0
  have R1 := Lib.hid r1
  clear q0 q1 e0 e1
  go_wp2_with fail
  refine (heldTree_any R A1 l c1 1 _ (by omega) (by omega) (by omega) M11.out).mono ?_
  rintro e w12 ⟨rfl, hb12⟩
  have F12 := Lib.hid (bcell hb12).1
  have q0 := (F12.out w.heap.size 0 (by omega)).trans Q0.out
  have q1 := (F12.out w.heap.size 1 (by omega)).trans Q1.out
  have p3 : (0 : Int) ≤ 1 + (l : Int) := by omega
  have p4 : ((1 : Int) + (l : Int) != 1 + (l : Int)) = false := by simp
  clear r0 r1
  go_wp2_with fail
  refine (toGraph_any N A n c L HN.out _ hm' (K1.out.bl (Q11.trans_ hb12))).mono ?_
  rintro e w13 ⟨g13, rfl, ha13, hg13, hb13⟩
  have HA13 := Lib.hid ha13
  clear ha13 q0 q1
  go_wp2_with fail
  refine (II.out _ _ HA13.out).mono ?_
  rintro e w14 ⟨v2, rfl, hv2, hb14⟩
  obtain ⟨A2, c2, rfl, -, hA2, -, -⟩ := OwnN.shape hv2
  have V2 := Lib.hid hA2
  clear hv2 hA2
  rw [← HL.out]
  have b1114 := hb12.trans_ (hb13.trans_ hb14)
  have s14 := b1114.size
  have F14 := Lib.hid (bcell b1114).1
  have e0 := (F14.out w3.heap.size 0 (by omega)).trans EE0.out
  have e1 := (F14.out w3.heap.size 1 (by omega)).trans EE1.out
  have h314 : w3.heap.size < w14.heap.size := by omega
  go_wp2_with fail
  refine (eqTree_yes R A2 A0 c2 c0 U l HL.out _ (by omega) (V2.out.bl (Bl.alloc_ (Bl.refl w14) _)) ((V011.out.bl' (by omega) (b1114.trans_ (Bl.alloc_ (Bl.refl w14) _))).more (by simp; omega))).mono ?_
  rintro e w15 ⟨rfl, hb15⟩
  have b1115 := b1114.trans_ ((Bl.alloc_ (Bl.refl w14) _).trans_ hb15)
  have F15 := Lib.hid (bcell b1115).1
  have r0 := (F15.out w5.heap.size 0 (by omega)).trans R0.out
  have r1 := (F15.out w5.heap.size 1 (by omega)).trans R1.out
  clear e0 e1
  go_wp2_with fail
  refine (heldTree_any R A1 l c1 1 _ (by omega) (by omega) (by omega) (Marks.bl M11.out b1115)).mono ?_
  rintro e w16 ⟨rfl, hb16⟩
  go_wp2
  go_ret
  exact ⟨rfl, Q11.trans_ (b1115.trans_ hb16)⟩


theorem treeOfU_len (N : Int) (L : List Arc3) (s : Int) : (treeOfU N L s).length ≤ 1048576 := by
  unfold treeOfU
  split
  · rename_i h
    have := (okB_elim (has1_of h).1).2.1
    rw [treeU_len]
    omega
  · simp
set_option maxRecDepth 100000 in
set_option maxHeartbeats 400000 in
theorem lawTreeOf_any (N s : Int) (A : Option Addr) (n c : Nat) (L : List Arc3) (hn : n = L.length) (w : World) (hm : n ≤ 9223372036854775807) (H1 : ArcsAt w w.heap.size A L) :
    Calls Try.prog 6 #[.agg #[.int .i64 N, .slice A n c], .int .i64 s] w fun e w' => e = .returned (.bool true) ∧ Bl w w' := by
  have HN := Lib.hid hn
  have K1 := Lib.hid H1
  clear hn H1
  by_cases hbig : (1048576 : Int) - n < 0
  · go_enter Try.func6, Try.ntmps6
    go_wp2_with (go_at_call 17; refine (szGraph_any _ _ _ _ _ _ hm (by omega) (by omega)).mono ?_; rintro e w' ⟨rfl, hb⟩; obtain ⟨hc, hf⟩ := bcell hb)
    go_ret
    exact ⟨rfl, (by repeat' (first | exact Bl.refl _ | with_reducible assumption | with_reducible refine Bl.drew_ ?_ | with_reducible refine Bl.drewN_ ?_ _ | with_reducible refine Bl.alloc_ ?_ _ | with_reducible refine Bl.trans_ ?_ (by assumption) | with_reducible refine Bl.trans_ ?_ (And.left (by assumption))))⟩
  · have hm' : n ≤ 1048576 := by omega
    clear hbig
    exact lawTreeOf_core N s A n c L HN.out w hm' K1.out (has1 N L s) (treeR N L s) (treeOfU N L s) _ rfl (treeOfU_len N L s) (Lib.hid fun A c w hc h => specTreeOf_any N s A n c L HN.out hc w hm' h) (Lib.hid fun A w h => implTreeOf_any N s A n n L HN.out (Nat.le_refl _) w hm' h)

end Go.Proofs.Ytelgjfflhcmljaa
