/-
  What is proved here: the walk of the exact law on HalfOf: at every graph and all numbers that can be read it returns true and leaves what was there as it was; at every graph and all numbers the exact law on HalfOf returns true, and the argument reads as it did. No conditions. No conditions beyond those that each theorem states.
-/
import Derived.Test.YtoffkpkpdnjlnaaVHalf
import Derived.Test.YtoffkpkpdnjlnaaE2
import Derived.Test.YtoffkpkpdnjlnaaE3b
import Derived.Test.YtoffkpkpdnjlnaaB1
import Derived.Test.YtoffkpkpdnjlnaaB0
set_option linter.unusedSimpArgs false
set_option linter.unusedVariables false
namespace Go.Proofs.Ytoffkpkpdnjlnaa
open Go.RowKit

theorem half_small (N : Int) (L : List Arc3) (s r : Int) : (halfDD N L s r).length ≤ 24 ∧ (halfNN N L s r).length ≤ 24 := by
  unfold halfDD halfNN
  split
  · rename_i hb
    have hh : has1 N L s = true := by unfold halfB at hb; simp at hb; exact hb.1
    obtain ⟨ho, h0, h1⟩ := has1_of hh
    have hN := (okB_elim ho).2.1
    refine ⟨?_, ?_⟩
    · unfold halfD
      rw [List.length_map, distL_len ho h0 h1]
      omega
    · unfold halfN
      have := doneK_len (halfF N L s r) N.toNat
      omega
  · simp

theorem IntsAt.turn_ {w w' : World} {B : Nat} {A : Option Addr} {V : List Int} {S : Nat → Prop} (h : IntsAt w B A V) (hB : B ≤ w.heap.size) (k : Turn S w w') (hS : ∀ g, blockOf A = some g → g < B → ¬ S g) : IntsAt w' B A V := CellsAt.turn h hB k hS
/-- What the law keeps: its argument, and two halves. -/
structure HBox3 (b0 b1 b2 : Nat) (x0 x1 v0 v1 v2 u0 u1 u2 : Value) (wx : World) : Prop where
  l0 : b0 < wx.heap.size
  l1 : b1 < wx.heap.size
  l2 : b2 < wx.heap.size
  p0 : wx.cell? ⟨b0, 0, none⟩ = some x0
  p1 : wx.cell? ⟨b0, 1, none⟩ = some x1
  q0 : wx.cell? ⟨b1, 0, none⟩ = some v0
  q1 : wx.cell? ⟨b1, 1, none⟩ = some v1
  q2 : wx.cell? ⟨b1, 2, none⟩ = some v2
  r0 : wx.cell? ⟨b2, 0, none⟩ = some u0
  r1 : wx.cell? ⟨b2, 1, none⟩ = some u1
  r2 : wx.cell? ⟨b2, 2, none⟩ = some u2
theorem HBox3.turn {b0 b1 b2 : Nat} {x0 x1 v0 v1 v2 u0 u1 u2 : Value} {w w' : World} (h : HBox3 b0 b1 b2 x0 x1 v0 v1 v2 u0 u1 u2 w) {S : Nat → Prop} (t : Turn S w w') (h0 : ¬ S b0) (h1 : ¬ S b1) (h2 : ¬ S b2) : HBox3 b0 b1 b2 x0 x1 v0 v1 v2 u0 u1 u2 w' :=
  ⟨Nat.lt_of_lt_of_le h.l0 t.size, Nat.lt_of_lt_of_le h.l1 t.size, Nat.lt_of_lt_of_le h.l2 t.size, (t.cell h.l0 h0 0).trans h.p0, (t.cell h.l0 h0 1).trans h.p1, (t.cell h.l1 h1 0).trans h.q0, (t.cell h.l1 h1 1).trans h.q1, (t.cell h.l1 h1 2).trans h.q2, (t.cell h.l2 h2 0).trans h.r0, (t.cell h.l2 h2 1).trans h.r1, (t.cell h.l2 h2 2).trans h.r2⟩
theorem HBox3.bl {b0 b1 b2 : Nat} {x0 x1 v0 v1 v2 u0 u1 u2 : Value} {w w' : World} (h : HBox3 b0 b1 b2 x0 x1 v0 v1 v2 u0 u1 u2 w) (t : Bl w w') : HBox3 b0 b1 b2 x0 x1 v0 v1 v2 u0 u1 u2 w' := h.turn (Turn.of_bl (S := fun _ => False) t) id id id

set_option maxRecDepth 100000 in
set_option maxHeartbeats 4000000 in
theorem lawHalfOf_any (N s r : Int) (A : Option Addr) (n c : Nat) (L : List Arc3) (hn : n = L.length) (w : World) (hm : n ≤ 9223372036854775807) (H1 : ArcsAt w w.heap.size A L) :
    Calls Try.prog 3 #[.agg #[.int .i64 N, .slice A n c], .int .i64 s, .int .i64 r] w fun e w' => e = .returned (.bool true) ∧ Bl w w' := by
  have K1 := Lib.hid H1
  have HN := Lib.hid hn
  clear H1 hn
  by_cases hbig : (1048576 : Int) - n < 0
  · go_enter Try.func3, Try.ntmps3
    go_wp2_with (go_at_call 15; refine (szGraph_any _ _ _ _ _ _ hm (by omega) (by omega)).mono ?_; rintro e w' ⟨rfl, hb⟩; obtain ⟨hc, hf⟩ := bcell hb)
    go_ret
    exact ⟨rfl, (by repeat' (first | exact Bl.refl _ | with_reducible assumption | with_reducible refine Bl.drew_ ?_ | with_reducible refine Bl.drewN_ ?_ _ | with_reducible refine Bl.alloc_ ?_ _ | with_reducible refine Bl.trans_ ?_ (by assumption) | with_reducible refine Bl.trans_ ?_ (And.left (by assumption))))⟩
  · have hm' : n ≤ 1048576 := by omega
    clear hbig
    go_enter Try.func3, Try.ntmps3
    go_wp2_with fail
    refine (szGraph_small N A n c _ hm').mono ?_
    rintro e w1 ⟨rfl, hb1⟩
    obtain ⟨q0, q1⟩ := box2 hb1
    have p1 : (0 : Int) ≤ 1048576 - (n : Int) := by omega
    go_wp2_with fail
    refine (toGraph_any N A n c L HN.out _ hm' (K1.out.bl (by repeat' (first | exact Bl.refl _ | with_reducible assumption | with_reducible refine Bl.drew_ ?_ | with_reducible refine Bl.drewN_ ?_ _ | with_reducible refine Bl.alloc_ ?_ _ | with_reducible refine Bl.trans_ ?_ (by assumption) | with_reducible refine Bl.trans_ ?_ (And.left (by assumption)))))).mono ?_
    rintro e w2 ⟨g2, rfl, ha2, hg2, hb2⟩
    have hb2 := hb1.trans_ hb2
    obtain ⟨q0, q1⟩ := box2 hb2
    have HA2 := Lib.hid ha2
    clear ha2
    obtain ⟨hl0, hl1⟩ := half_small N L s r
    obtain ⟨D, hD⟩ : ∃ D, D = halfDD N L s r := ⟨_, rfl⟩
    obtain ⟨M, hM⟩ : ∃ M, M = halfNN N L s r := ⟨_, rfl⟩
    obtain ⟨x, hx⟩ : ∃ x, x = halfR N L s r := ⟨_, rfl⟩
    obtain ⟨b, hbb⟩ : ∃ b, b = halfB N L s r := ⟨_, rfl⟩
    have HL := Lib.hid (show ∀ w e w', HalfLaw N L s r w e w' → HalfT b D M x w e w' from fun w e w' h => by rw [hD, hM, hx, hbb]; exact h)
    rw [← hD] at hl0
    rw [← hM] at hl1
    clear hD hM hx hbb
    obtain ⟨l0, hl0'⟩ : ∃ l, l = D.length := ⟨_, rfl⟩
    obtain ⟨l1, hl1'⟩ : ∃ l, l = M.length := ⟨_, rfl⟩
    have LD := Lib.hid hl0'
    have LM := Lib.hid hl1'
    go_wp2_with fail
    refine (specHalfOf_any N s r _ n n L HN.out (Nat.le_refl _) _ hm' HA2.out).mono ?_
    rintro e w3 h
    obtain ⟨A0, c0, A0', c0', rfl, h00, h01, -, hb3⟩ := HL.out _ _ _ h
    rw [← hl0'] at h00 hl0 ⊢
    rw [← hl1'] at h01 hl1 ⊢
    clear h hl0' hl1'
    have hb3 := hb2.trans_ hb3
    have sw3 : w.heap.size < w3.heap.size := by have := hb3.size; simp at this; omega
    obtain ⟨q0, q1⟩ := box2 hb3
    obtain ⟨_, _, e0, -, i0, -, -⟩ := OwnN.shape h00
    injection e0 with e1 e2 e3
    subst e1
    obtain ⟨_, _, e0', -, i1, -, -⟩ := OwnN.shape h01
    injection e0' with e1' e2' e3'
    subst e1'
    have I0 := Lib.hid i0
    have I1 := Lib.hid i1
    clear h00 h01 e2 e3 e2' e3' i0 i1
    go_wp2_with fail
    refine (toGraph_row N A n c L HN.out _ hm' (K1.out.bl (by repeat' (first | exact Bl.refl _ | with_reducible assumption | with_reducible refine Bl.drew_ ?_ | with_reducible refine Bl.drewN_ ?_ _ | with_reducible refine Bl.alloc_ ?_ _ | with_reducible refine Bl.trans_ ?_ (by assumption) | with_reducible refine Bl.trans_ ?_ (And.left (by assumption)))))).mono ?_
    rintro e w4 ⟨g4, rfl, ha4, hg4, hb4, hr4, hlt4⟩
    have hb34 : Bl w3 w4 := (Bl.alloc_ (Bl.refl w3) _).trans_ hb4
    have hbw4 := hb3.trans_ hb34
    have s4 := hb4.size
    simp only [World.size_alloc] at s4 hg4
    have sw4 : w.heap.size < w4.heap.size := by omega
    have sw34 : w3.heap.size < w4.heap.size := by omega
    obtain ⟨q0, q1⟩ := box2 hbw4
    obtain ⟨y0, y1, y2⟩ := box3 hb4
    have HA4 := Lib.hid ha4
    have HR4 := Lib.hid hr4
    clear ha4 hr4
    go_wp2_with fail
    refine (implHalfOf_any N s r _ n n L HN.out (Nat.le_refl _) _ hm' (HA4.out.bl (by repeat' (first | exact Bl.refl _ | with_reducible assumption | with_reducible refine Bl.drew_ ?_ | with_reducible refine Bl.drewN_ ?_ _ | with_reducible refine Bl.alloc_ ?_ _ | with_reducible refine Bl.trans_ ?_ (by assumption) | with_reducible refine Bl.trans_ ?_ (And.left (by assumption)))))).mono ?_
    rintro e w5 h
    obtain ⟨A1, c1, A1', c1', rfl, h10, h11, hne, hb5⟩ := HL.out _ _ _ h
    rw [← LD.out] at h10 ⊢
    rw [← LM.out] at h11 ⊢
    clear h
    obtain ⟨x0, x1⟩ := box2 hb5
    have hb5a := (Bl.alloc_ (Bl.refl w4) _).trans_ hb5
    have HA5 := Lib.hid (ArcsAt.bl HA4.out hb5a)
    have HR5 := Lib.hid (RowW.bl HR4.out hb5a)
    have hB5 := hbw4.trans_ hb5a
    have s5 := hb5.size
    simp only [World.size_alloc] at s5
    obtain ⟨q0, q1⟩ := box2 hB5
    obtain ⟨_, _, e0, -, i0, w10, l10⟩ := OwnN.shape h10
    injection e0 with e1 e2 e3
    subst e1
    obtain ⟨_, _, e0', -, i1, w11, l11⟩ := OwnN.shape h11
    injection e0' with e1' e2' e3'
    subst e1'
    rw [← LD.out] at w10
    rw [← LM.out] at w11
    have J0 := Lib.hid i0
    have J1 := Lib.hid i1
    have W0 := Lib.hid w10
    have W1 := Lib.hid w11
    have NE := Lib.hid hne
    have B1 := Lib.hid (show ∀ g, blockOf A1 = some g → w4.heap.size < g ∧ g < w5.heap.size from fun g hg => by have := l10 g hg; rw [World.size_alloc] at this; omega)
    have B2 := Lib.hid (show ∀ g, blockOf A1' = some g → w4.heap.size < g ∧ g < w5.heap.size from fun g hg => by have := l11 g hg; rw [World.size_alloc] at this; omega)
    have HBX := Lib.hid (show HBox3 w.heap.size w3.heap.size w5.heap.size (.int .i64 N) (.slice A n c) (.slice A0 l0 c0) (.slice A0' l1 c0') (.int .i64 x) (.slice A1 l0 c1) (.slice A1' l1 c1') (.int .i64 x) (w5.alloc (.cells #[.slice A1 l0 c1, .slice A1' l1 c1', .int .i64 x] 28)) from by
      obtain ⟨z0, z1⟩ := box2 (hB5.trans_ (Bl.alloc_ (Bl.refl w5) (.cells #[.slice A1 l0 c1, .slice A1' l1 c1', .int .i64 x] 28)))
      obtain ⟨z2, z3, z4⟩ := box3 (hb4.trans_ (hb5a.trans_ (Bl.alloc_ (Bl.refl w5) (.cells #[.slice A1 l0 c1, .slice A1' l1 c1', .int .i64 x] 28))))
      obtain ⟨z5, z6, z7⟩ := box3 (Bl.refl (w5.alloc (.cells #[.slice A1 l0 c1, .slice A1' l1 c1', .int .i64 x] 28)))
      exact ⟨by simp; omega, by simp; omega, by simp, z0, z1, z2, z3, z4, z5, z6, z7⟩)
    have sw5 : w.heap.size < w5.heap.size := by omega
    have sw35 : w3.heap.size < w5.heap.size := by omega
    have sw45 : w4.heap.size < w5.heap.size := by omega
    have hb35 := hb34.trans_ hb5a
    clear h10 h11 e2 e3 e2' e3' i0 i1 w10 w11 l10 l11 hne
    obtain ⟨y0, y1, y2⟩ := box3 (hb4.trans_ hb5a)
    have hbn : (b != b) = false := by simp
    go_wp2_with fail
    refine (eqHalf_yes A1 A1' A0 A0' l0 c1 c0 l1 c1' c0' D M LD.out LM.out x _ (by omega) (by omega) (J0.out.bl (by repeat' (first | exact Bl.refl _ | with_reducible assumption | with_reducible refine Bl.drew_ ?_ | with_reducible refine Bl.drewN_ ?_ _ | with_reducible refine Bl.alloc_ ?_ _ | with_reducible refine Bl.trans_ ?_ (by assumption) | with_reducible refine Bl.trans_ ?_ (And.left (by assumption))))) (J1.out.bl (by repeat' (first | exact Bl.refl _ | with_reducible assumption | with_reducible refine Bl.drew_ ?_ | with_reducible refine Bl.drewN_ ?_ _ | with_reducible refine Bl.alloc_ ?_ _ | with_reducible refine Bl.trans_ ?_ (by assumption) | with_reducible refine Bl.trans_ ?_ (And.left (by assumption))))) (I0.out.bl (hb35.trans_ (by repeat' (first | exact Bl.refl _ | with_reducible assumption | with_reducible refine Bl.drew_ ?_ | with_reducible refine Bl.drewN_ ?_ _ | with_reducible refine Bl.alloc_ ?_ _ | with_reducible refine Bl.trans_ ?_ (by assumption) | with_reducible refine Bl.trans_ ?_ (And.left (by assumption)))))) (I1.out.bl (hb35.trans_ (by repeat' (first | exact Bl.refl _ | with_reducible assumption | with_reducible refine Bl.drew_ ?_ | with_reducible refine Bl.drewN_ ?_ _ | with_reducible refine Bl.alloc_ ?_ _ | with_reducible refine Bl.trans_ ?_ (by assumption) | with_reducible refine Bl.trans_ ?_ (And.left (by assumption))))))).mono ?_
    rintro e w6 ⟨rfl, hb6⟩
    obtain ⟨w5b, hw5b⟩ : ∃ w5b, w5b = w5.alloc (.cells #[.slice A1 l0 c1, .slice A1' l1 c1', .int .i64 x] 28) := ⟨_, rfl⟩
    have b55 : Bl w5 w5b := by rw [hw5b]; exact Bl.alloc_ (Bl.refl _) _
    rw [← hw5b] at hb6 HBX
    have hB5b := hB5.trans_ b55
    have hx5b := hb5.trans_ b55
    have HSH := Lib.hid (show ∀ wx, Bl w5b wx → Bl w5b wx ∧ wx.cell? ⟨w.heap.size, 0, none⟩ = some (.int .i64 N) ∧ wx.cell? ⟨w.heap.size, 1, none⟩ = some (.slice A n c) ∧ wx.cell? ⟨w4.heap.size, 0, none⟩ = some (.int .i64 N) ∧ wx.cell? ⟨w4.heap.size, 1, none⟩ = some (.slice (some ⟨g4, 0, none⟩) n n) from fun wx hb =>
      ⟨hb, (box2 (hB5b.trans_ hb)).1, (box2 (hB5b.trans_ hb)).2, (box2 (hx5b.trans_ hb)).1, (box2 (hx5b.trans_ hb)).2⟩)
    have HB5B := Lib.hid (show ArcsAt w5b w5b.heap.size (some ⟨g4, 0, none⟩) L from HA5.out.bl b55)
    have P6 := hb6
    have hbw5 : Bl w w5b := (Bl.alloc_ (Bl.refl w) _).trans_ hB5b
    clear hw5b q0 q1 x0 x1 y0 y1 y2
    go_wp2_with fail
    refine wp_region_held_drew (S := fun wx => Bl w5b wx ∧ wx.cell? ⟨w.heap.size, 0, none⟩ = some (.int .i64 N) ∧ wx.cell? ⟨w.heap.size, 1, none⟩ = some (.slice A n c) ∧ wx.cell? ⟨w4.heap.size, 0, none⟩ = some (.int .i64 N) ∧ wx.cell? ⟨w4.heap.size, 1, none⟩ = some (.slice (some ⟨g4, 0, none⟩) n n)) (by kernel_rfl) ?_ (fun hHeld => ?_)
    · (exact HSH.out _ (by repeat' (first | exact Bl.refl _ | with_reducible assumption | with_reducible refine Bl.drew_ ?_ | with_reducible refine Bl.drewN_ ?_ _ | with_reducible refine Bl.alloc_ ?_ _ | with_reducible refine Bl.trans_ ?_ (by assumption) | with_reducible refine Bl.trans_ ?_ (And.left (by assumption)))))
    refine wpAnyH_take (i := 0) (v := ?_) rfl (by kernel_rfl) (by kernel_rfl) (by kernel_rfl) (fun _ _ _ h => h) (Or.inl ⟨by kernel_rfl, ?_⟩) (by assumption) ?_
    rotate_left
    · (intro wx hSw; (try dsimp only at hSw); go_simp; try (with_reducible rfl))
    try simp only [Act.put, List.getElem_toArray, List.getElem_cons_succ, List.getElem_cons_zero, List.setIfInBounds_toArray, List.set_cons_zero, List.set_cons_succ]
    refine wpAnyH_take (i := 1) (v := ?_) rfl (by kernel_rfl) (by kernel_rfl) (by kernel_rfl) (fun _ _ _ h => h) (Or.inl ⟨by kernel_rfl, ?_⟩) (by assumption) ?_
    rotate_left
    · (intro wx hSw; (try dsimp only at hSw); go_simp; try (with_reducible rfl))
    try simp only [Act.put, List.getElem_toArray, List.getElem_cons_succ, List.getElem_cons_zero, List.setIfInBounds_toArray, List.set_cons_zero, List.set_cons_succ]
    refine wpAnyH_ready (rs := [2]) (by kernel_rfl) (by simp) ?_
    refine AllReadyH.cons rfl (fun K hK => ?_) AllReadyH.nil
    go_simp
    (go_at_call 17; refine (toGraph_any N A n c L HN.out _ hm' (K1.out.bl (hbw5.trans_ (by repeat' (first | exact Bl.refl _ | with_reducible assumption | with_reducible refine Bl.drew_ ?_ | with_reducible refine Bl.drewN_ ?_ _ | with_reducible refine Bl.alloc_ ?_ _ | with_reducible refine Bl.trans_ ?_ (by assumption) | with_reducible refine Bl.trans_ ?_ (And.left (by assumption))))))).mono ?_; rintro e w7 ⟨g7, rfl, ha7, hg7, hb7⟩; have HA7 := Lib.hid ha7; clear ha7)
    try (go_wp2_with fail)
    refine hK.out _ _ ?_ (fun hHeld => ?_)
    · (exact HSH.out _ (by repeat' (first | exact Bl.refl _ | with_reducible assumption | with_reducible refine Bl.drew_ ?_ | with_reducible refine Bl.drewN_ ?_ _ | with_reducible refine Bl.alloc_ ?_ _ | with_reducible refine Bl.trans_ ?_ (by assumption) | with_reducible refine Bl.trans_ ?_ (And.left (by assumption)))))
    clear hK K
    try simp only [Act.put, List.getElem_toArray, List.getElem_cons_succ, List.getElem_cons_zero, List.setIfInBounds_toArray, List.set_cons_zero, List.set_cons_succ]
    refine wpAnyH_ready (rs := [3]) (by kernel_rfl) (by simp) ?_
    refine AllReadyH.cons rfl (fun K hK => ?_) AllReadyH.nil
    go_simp
    (go_at_call 20; refine (eqGraph_yes N _ _ n n L n HN.out _ hm (HB5B.out.bl (by repeat' (first | exact Bl.refl _ | with_reducible assumption | with_reducible refine Bl.drew_ ?_ | with_reducible refine Bl.drewN_ ?_ _ | with_reducible refine Bl.alloc_ ?_ _ | with_reducible refine Bl.trans_ ?_ (by assumption) | with_reducible refine Bl.trans_ ?_ (And.left (by assumption))))) HA7.out).mono ?_; rintro e w8 ⟨rfl, hb8⟩)
    try (go_wp2_with fail)
    refine hK.out _ _ ?_ (fun hHeld => ?_)
    · (exact HSH.out _ (by repeat' (first | exact Bl.refl _ | with_reducible assumption | with_reducible refine Bl.drew_ ?_ | with_reducible refine Bl.drewN_ ?_ _ | with_reducible refine Bl.alloc_ ?_ _ | with_reducible refine Bl.trans_ ?_ (by assumption) | with_reducible refine Bl.trans_ ?_ (And.left (by assumption)))))
    clear hK K
    try simp only [Act.put, List.getElem_toArray, List.getElem_cons_succ, List.getElem_cons_zero, List.setIfInBounds_toArray, List.set_cons_zero, List.set_cons_succ]
    refine wpAnyH_take (i := 4) (v := ?_) rfl (by kernel_rfl) (by kernel_rfl) (by kernel_rfl) (fun _ _ _ h => h) (Or.inl ⟨by kernel_rfl, ?_⟩) (by assumption) ?_
    rotate_left
    · (intro wx hSw; (try dsimp only at hSw); go_simp; try (with_reducible rfl))
    try simp only [Act.put, List.getElem_toArray, List.getElem_cons_succ, List.getElem_cons_zero, List.setIfInBounds_toArray, List.set_cons_zero, List.set_cons_succ]
    refine wpAnyH_done (by kernel_rfl) ?_ _
    have P8 : Bl w5b w8 := (by repeat' (first | exact Bl.refl _ | with_reducible assumption | with_reducible refine Bl.drew_ ?_ | with_reducible refine Bl.drewN_ ?_ _ | with_reducible refine Bl.alloc_ ?_ _ | with_reducible refine Bl.trans_ ?_ (by assumption) | with_reducible refine Bl.trans_ ?_ (And.left (by assumption))))
    obtain ⟨-, -, -, x0, x1⟩ := HSH.out _ P8
    go_wp2_with fail
    refine (markGraph_any N _ n n 1 _ hm' (by omega) (by omega) (HR5.out.bl (b55.trans_ P8))).mono ?_
    rintro e w9 ⟨rfl, hm9, hg9, hr9⟩
    have G9 := Lib.hid hg9
    clear hm9 hg9 hr9
    have s8 := (b55.trans_ P8).size
    have s9 := G9.out.size
    have T9 := Lib.hid (show Turn (fun i => i = g4) w8 w9 from Turn.of_grown G9.out (fun k e => by simpa [blockOf] using e.symm))
    have Q9 : Bl w w9 := Turn.to_bl (hbw5.trans_ P8) T9.out (fun i hi => by omega)
    have BX9 := Lib.hid ((HBX.out.bl P8).turn T9.out (by omega) (by omega) (by omega))
    have b38 := hb35.trans_ (b55.trans_ P8)
    have I09 := Lib.hid (((I0.out).bl' (Nat.le_refl _) b38).grown_ (by omega) G9.out (fun g _ hlt => by simp [blockOf]; omega))
    have I19 := Lib.hid (((I1.out).bl' (Nat.le_refl _) b38).grown_ (by omega) G9.out (fun g _ hlt => by simp [blockOf]; omega))
    have J09 := Lib.hid ((J0.out.bl' (Nat.le_refl _) (b55.trans_ P8)).grown_ (by omega) G9.out (fun g hg _ => by have := B1.out g hg; simp [blockOf]; omega))
    have J19 := Lib.hid ((J1.out.bl' (Nat.le_refl _) (b55.trans_ P8)).grown_ (by omega) G9.out (fun g hg _ => by have := B2.out g hg; simp [blockOf]; omega))
    have W09 := Lib.hid (RowsW.grown_ (RowsW.bl W0.out (b55.trans_ P8)) G9.out (fun g hg => by have := B1.out g hg; simp [blockOf]; omega))
    have W19 := Lib.hid (RowsW.grown_ (RowsW.bl W1.out (b55.trans_ P8)) G9.out (fun g hg => by have := B2.out g hg; simp [blockOf]; omega))
    have p2 : (0 : Int) ≤ 1 + 3 * (n : Int) := by omega
    have z0 := BX9.out.q0
    have z1 := BX9.out.q1
    have z2 := BX9.out.q2
    have z3 := BX9.out.r0
    have z4 := BX9.out.r1
    have z5 := BX9.out.r2
    clear x0 x1
    go_wp2_with fail
    refine (eqHalf_yes A1 A1' A0 A0' l0 c1 c0 l1 c1' c0' D M LD.out LM.out x _ (by omega) (by omega) (J09.out.more (by omega)) (J19.out.more (by omega)) (I09.out.more (by omega)) (I19.out.more (by omega))).mono ?_
    rintro e w10 ⟨rfl, hb10⟩
    have s10 := hb10.size
    have BX10 := Lib.hid (BX9.out.bl hb10)
    clear z0 z1 z2 z3 z4 z5
    have z3 := BX10.out.r0
    have z4 := BX10.out.r1
    have z5 := BX10.out.r2
    go_wp2_with fail
    refine (markHalf_any A1 A1' l0 l1 c1 c1' x 1 _ (by omega) (by omega) (by omega) (by omega) (RowsW.bl W09.out hb10) (RowsW.bl W19.out hb10) (fun g hg => by have := B1.out g hg; omega) (fun g hg => by have := B2.out g hg; omega) NE.out).mono ?_
    rintro e w11 ⟨rfl, hm0, hm1, ht⟩
    have M0 := Lib.hid hm0
    have M1 := Lib.hid hm1
    have T11 := Lib.hid ht
    have KB := Lib.hid (show ∀ i, (blockOf A1 = some i ∨ blockOf A1' = some i) → w4.heap.size < i ∧ i < w5.heap.size from fun i h => h.elim (B1.out i) (B2.out i))
    clear hm0 hm1 ht z3 z4 z5
    have s11 := T11.out.size
    have Q11 : Bl w w11 := Turn.to_bl (Q9.trans_ hb10) T11.out (fun g hg => by have := KB.out g hg; omega)
    have BX11 := Lib.hid (BX10.out.turn T11.out (fun h => by have := KB.out _ h; omega) (fun h => by have := KB.out _ h; omega) (fun h => by have := KB.out _ h; omega))
    have I011 := Lib.hid ((I09.out.bl' (by omega) hb10).turn_ (by omega) T11.out (fun g _ hlt e => by have := KB.out g e; omega))
    have I111 := Lib.hid ((I19.out.bl' (by omega) hb10).turn_ (by omega) T11.out (fun g _ hlt e => by have := KB.out g e; omega))
    have z3 := BX11.out.r0
    have z4 := BX11.out.r1
    have z5 := BX11.out.r2
    have q0 := BX11.out.p0
    have q1 := BX11.out.p1
    have p3 : (0 : Int) ≤ 1 + (l0 : Int) + (l1 : Int) := by omega
    go_wp2_with fail
    refine (heldHalf_any A1 A1' l0 l1 c1 c1' x 1 _ (by omega) (by omega) (by omega) (by omega) M0.out M1.out).mono ?_
    rintro e w12 ⟨rfl, hb12⟩
    have p4 : ((1 : Int) + (l0 : Int) + (l1 : Int) != 1 + (l0 : Int) + (l1 : Int)) = false := by simp
    have BX12 := Lib.hid (BX11.out.bl hb12)
    clear z3 z4 z5 q0 q1
    have q0 := BX12.out.p0
    have q1 := BX12.out.p1
    go_wp2_with fail
    refine (toGraph_any N A n c L HN.out _ hm' (K1.out.bl (Q11.trans_ hb12))).mono ?_
    rintro e w13 ⟨g13, rfl, ha13, hg13, hb13⟩
    have HA13 := Lib.hid ha13
    clear ha13
    go_wp2_with fail
    refine (implHalfOf_any N s r _ n n L HN.out (Nat.le_refl _) _ hm' HA13.out).mono ?_
    rintro e w14 h
    obtain ⟨A2, c2, A2', c2', rfl, h20, h21, -, hb14⟩ := HL.out _ _ _ h
    rw [← LD.out] at h20 ⊢
    rw [← LM.out] at h21 ⊢
    clear h
    obtain ⟨_, _, e0, -, i0, -, -⟩ := OwnN.shape h20
    injection e0 with e1 e2 e3
    subst e1
    obtain ⟨_, _, e0', -, i1, -, -⟩ := OwnN.shape h21
    injection e0' with e1' e2' e3'
    subst e1'
    have Z0 := Lib.hid i0
    have Z1 := Lib.hid i1
    have b1214 := hb12.trans_ (hb13.trans_ hb14)
    have s14 := b1214.size
    have BX14 := Lib.hid (BX11.out.bl b1214)
    clear h20 h21 e2 e3 e2' e3' i0 i1 q0 q1
    have z0 := BX14.out.q0
    have z1 := BX14.out.q1
    have z2 := BX14.out.q2
    have z3 := BX14.out.l1
    go_wp2_with fail
    refine (eqHalf_yes A2 A2' A0 A0' l0 c2 c0 l1 c2' c0' D M LD.out LM.out x _ (by omega) (by omega) (Z0.out.bl (by repeat' (first | exact Bl.refl _ | with_reducible assumption | with_reducible refine Bl.drew_ ?_ | with_reducible refine Bl.drewN_ ?_ _ | with_reducible refine Bl.alloc_ ?_ _ | with_reducible refine Bl.trans_ ?_ (by assumption) | with_reducible refine Bl.trans_ ?_ (And.left (by assumption))))) (Z1.out.bl (by repeat' (first | exact Bl.refl _ | with_reducible assumption | with_reducible refine Bl.drew_ ?_ | with_reducible refine Bl.drewN_ ?_ _ | with_reducible refine Bl.alloc_ ?_ _ | with_reducible refine Bl.trans_ ?_ (by assumption) | with_reducible refine Bl.trans_ ?_ (And.left (by assumption))))) (((I011.out.bl' (by omega) b1214).more (by omega)).bl (by repeat' (first | exact Bl.refl _ | with_reducible assumption | with_reducible refine Bl.drew_ ?_ | with_reducible refine Bl.drewN_ ?_ _ | with_reducible refine Bl.alloc_ ?_ _ | with_reducible refine Bl.trans_ ?_ (by assumption) | with_reducible refine Bl.trans_ ?_ (And.left (by assumption))))) (((I111.out.bl' (by omega) b1214).more (by omega)).bl (by repeat' (first | exact Bl.refl _ | with_reducible assumption | with_reducible refine Bl.drew_ ?_ | with_reducible refine Bl.drewN_ ?_ _ | with_reducible refine Bl.alloc_ ?_ _ | with_reducible refine Bl.trans_ ?_ (by assumption) | with_reducible refine Bl.trans_ ?_ (And.left (by assumption)))))).mono ?_
    rintro e w15 ⟨rfl, hb15⟩
    have B15 := Lib.hid (b1214.trans_ (show Bl w14 w15 from (by repeat' (first | exact Bl.refl _ | with_reducible assumption | with_reducible refine Bl.drew_ ?_ | with_reducible refine Bl.drewN_ ?_ _ | with_reducible refine Bl.alloc_ ?_ _ | with_reducible refine Bl.trans_ ?_ (by assumption) | with_reducible refine Bl.trans_ ?_ (And.left (by assumption))))))
    have BX15 := Lib.hid (BX11.out.bl B15.out)
    clear z0 z1 z2 z3 hb15
    have z3 := BX15.out.r0
    have z4 := BX15.out.r1
    have z5 := BX15.out.r2
    go_wp2_with fail
    refine (heldHalf_any A1 A1' l0 l1 c1 c1' x 1 _ (by omega) (by omega) (by omega) (by omega) (Marks.bl M0.out B15.out) (Marks.bl M1.out B15.out)).mono ?_
    rintro e w16 ⟨rfl, hb16⟩
    go_wp2
    go_ret
    exact ⟨rfl, Q11.trans_ (B15.out.trans_ hb16)⟩

end Go.Proofs.Ytoffkpkpdnjlnaa

set_option linter.unusedSimpArgs false
set_option linter.unusedVariables false
namespace Go.Proofs.Ytoffkpkpdnjlnaa
open Go.ChangeShapes Go.WideShapes Go.ChangeAt Go.RowKit

set_option maxRecDepth 100000 in
theorem fnExactHalfOf_lifted (os : Os) (started : os.Started) (H : Type) (enc : TypeId × Value → H) :
    ReturnsInHanded {} Try.checked os 3 .any (Rows.fnExactHalfOfSpec.pre6 enc Try.prog Try.f3 Rows.fnExactHalfOfRow.domain false) (Rows.fnExactHalfOfSpec.post enc Try.prog Try.f3 false true false false) := by
  refine returnsInHanded_of_change (C := Try.checked) Try.own_ started (by kernel_rfl) Try.func3
    (ChangeSpec.witness6 (enc := enc) (C := Try.checked) false ⟨#[], #[.agg #[.int .i64 0, .slice none 0 0], .int .i64 0, .int .i64 0], []⟩ 8 (by kernel_rfl) (by kernel_rfl) (by kernel_rfl) (by kernel_rfl)) ?_
  intro W base args ds gs before hval0 hW hcnd _
  have hval : ∀ (j : Nat) t v, Try.f3.params[j]? = some t → args[j]? = some v → Value.okWide Try.prog W .any base t v := hval0
  have hW' := hW
  obtain ⟨p, q, hA0, hV, rfl, hfz, hnd⟩ := hW
  have hA : DataW.TrodAll enc Try.prog W 0 (fun _ => true) true Try.f3.params.toList args.toList ds p := hA0
  rw [Try.params3] at hA hval
  obtain ⟨v0, vs0, d0, ds0, p0, q0, hargs, rfl, rfl, h0, r0⟩ := trodAll_cons hA
  obtain ⟨v1, vs1, d1, ds1, p1, q1, rfl, rfl, rfl, h1, r1⟩ := trodAll_cons r0
  obtain ⟨v2, vs2, d2, ds2, p2, q2, rfl, rfl, rfl, h2, r2⟩ := trodAll_cons r1
  obtain ⟨rfl, rfl, rfl⟩ := trodAll_nil r2
  obtain rfl : args = #[v0, v1, v2] := by cases args; simp_all
  obtain ⟨rfl, rfl⟩ := trodVars_none hV
  have k0 := h0
  have lt0 : ∀ x ∈ p0, x.block < W.heap.size := by obtain ⟨m, hm⟩ := k0; exact DataW.trod_lt m _ _ _ hm
  obtain ⟨N, A, n, c, L, rfl, hn, hm, hL⟩ := open_graph (hval 0 24 v0 rfl rfl) h0
  obtain ⟨x1, rfl, rfl, rfl, wx1⟩ := open_int Try.underlying2 (hval 1 2 v1 rfl rfl) h1
  obtain ⟨x2, rfl, rfl, rfl, wx2⟩ := open_int Try.underlying2 (hval 2 2 v2 rfl rfl) h2
  clear hA0 hval0
  refine (lawHalfOf_any N x1 x2 A n c L hn W hm hL).mono fun e W' ⟨he, bel0⟩ => ?_
  have bel : Below W.heap.size W W' := bel0
  subst he
  exact ⟨_, rfl, _, _, _, [], _, [], hW', trodAll_mk1 (shut_bool Try.underlying4 _), (trodAll_cons_mk (Below.trod Try.laidOut_ (by kernel_rfl) (of_decide_eq_true (by kernel_rfl)) k0 bel lt0) (trodAll_cons_mk (shut_int Try.underlying2 wx1) (trodAll_cons_mk (shut_int Try.underlying2 wx2) trodAll_mk0))), rfl, bel.frame _, fun h => by cases h⟩

theorem fnExactHalfOf_holds : Rows.FnExactHalfOfSaid :=
  OpenClaim.holds_of_wide 3 Try.f3 rfl rfl rfl rfl rfl rfl rfl ⟨rfl, rfl, rfl, rfl, rfl⟩ rfl rfl rfl rfl rfl (by kernel_rfl) Try.func3 (by kernel_rfl)
    (of_decide_eq_true (by kernel_rfl)) (by unfold Func.isWrapper; first | (rw [if_pos (by decide +kernel)]; kernel_rfl) | (rw [if_neg (by decide +kernel)]; exact ⟨rfl, rfl⟩))
    (fun os started H enc _ => fnExactHalfOf_lifted os started H enc)

end Go.Proofs.Ytoffkpkpdnjlnaa
