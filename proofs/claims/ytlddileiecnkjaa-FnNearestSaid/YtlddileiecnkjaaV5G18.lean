/-
  What is proved here: a graph and two lists of unlike nodes that are drawn by a code; rows held against each other by a law; a graph, a node of it or nearly one, some places and a number that are drawn by a code; items held against each other by a law; plain facts on the nearest of some places. No conditions beyond those that each theorem states.
-/
import Derived.Test.YtlddileiecnkjaaV5G17
import Derived.Test.YtlddileiecnkjaaV5G14
import Derived.Test.YtlddileiecnkjaaV5G16
import Derived.Test.YtlddileiecnkjaaV5G12
import Derived.Test.YtlddileiecnkjaaV5G10
import Derived.BigQuiet
import Derived.Deep.QuietTactic
set_option linter.unusedSimpArgs false
set_option linter.unusedVariables false
namespace Go.Proofs.Ytlddileiecnkjaa
open Go.RowKit




end Go.Proofs.Ytlddileiecnkjaa

set_option linter.unusedSimpArgs false
set_option linter.unusedVariables false
namespace Go.Proofs.Ytlddileiecnkjaa
open Go.RowKit

/-- A graph, a number, places and a number that are drawn; the graph's arcs and the places do not lie in one block. -/
def DrawnNear (w : World) (e : Ending) (w' : World) : Prop :=
  ∃ (N : Int) (A' : Option Addr) (l c' : Nat) (L : List Arc3) (s : Int) (A3 : Option Addr) (k c3 : Nat) (V : List Int) (z : Int), e = .returned (.tuple #[.agg #[.int .i64 N, .slice A' l c'], .int .i64 s, .slice A3 k c3, .int .i64 z]) ∧
    Drawn w.heap.size w' N A' l c' L ∧ (k = V.length ∧ k ≤ 64 ∧ k ≤ c3 ∧ IntsAt w' w'.heap.size A3 V) ∧ (∀ g, blockOf A' = some g → blockOf A3 ≠ some g) ∧ Bl w w'

set_option maxRecDepth 100000 in
set_option maxHeartbeats 4000000 in
theorem drawNearest_any (A : Option Addr) (n c : Nat) (w : World) (hn : n ≤ 1099511627776) (H : BytesAt w A n) :
    Calls Try.prog 44 #[.slice A n c] w (DrawnNear w) := by
  have HBY := Lib.hid H
  clear H
  go_enter Try.func44, Try.ntmps44
  go_wp2_with fail
  refine (open_any A n c _ (HBY.out.bl (by repeat' (first | exact Bl.refl _ | with_reducible assumption | with_reducible refine Bl.drew_ ?_ | with_reducible refine Bl.drewN_ ?_ _ | with_reducible refine Bl.alloc_ ?_ _ | with_reducible refine Bl.trans_ ?_ (by assumption) | with_reducible refine Bl.trans_ ?_ (And.left (by assumption)))))).mono ?_
  rintro e w1 ⟨rfl, hr, hb, hlt⟩
  have R1 := Lib.hid (show RdAny w1 (w.heap.size + 1) A n c from by rw [World.size_alloc] at hr; exact hr)
  have B1 := Lib.hid hb
  have s1 := hb.size
  simp only [World.size_alloc] at s1 hlt
  clear hr hb
  go_wp2_with fail
  refine (graph_any 9 (w.heap.size + 1) A n c _ hn (by omega) (by omega) R1.out (fun h0 g off e => by have := HBY.out.lt' h0 g off e; omega)).mono ?_
  rintro e w2 ⟨N, A', l, c', L, rfl, hd, hr, hg⟩
  have HL := Lib.hid hd.1
  have hl200 := hd.2.1
  have HN := Lib.hid hd.2.2.1
  have s2 := hg.size
  have B2 := Lib.hid (show Bl (w.alloc (.cells #[.int .i64 0, .slice none 0 0] 33)) w2 from B1.out.grown_ hg (fun g e => by injection e with e; simp; omega))
  have O2 := Lib.hid hd.2.2.2
  have R2 := Lib.hid hr
  obtain ⟨X, hX⟩ : ∃ X, X = w2.alloc (.cells #[.int .i64 N, .slice A' l c'] 33) := ⟨_, rfl⟩
  have BX := Lib.hid (show Bl w2 X from by rw [hX]; exact Bl.alloc_ (Bl.refl w2) _)
  have TX := Lib.hid (show Two X w2.heap.size (.int .i64 N) (.slice A' l c') from by rw [hX]; exact Two.new _ _ _)
  have SX := Lib.hid (show X.heap.size = w2.heap.size + 1 from by rw [hX, World.size_alloc])
  obtain ⟨t0, t1, -, -⟩ := TX.out.facts
  clear hd hr hg
  go_wp2_with fail
  rw [← hX]
  clear hX
  have R3 := Lib.hid (R2.out.bl BX.out)
  refine (node_any N _ (w.heap.size + 1) A n c _ hn HN.out.1 HN.out.2 R3.out).mono ?_
  rintro e wn ⟨s, -, rfl, hrn, hgn⟩
  have RN := Lib.hid hrn
  have GN := Lib.hid hgn
  have sN := hgn.size
  have TN := Lib.hid (show Two wn w2.heap.size (.int .i64 N) (.slice A' l c') from TX.out.grown_ hgn (fun e => by injection e with e; omega))
  clear hrn hgn t0 t1
  obtain ⟨t0, t1, -, -⟩ := TN.out.facts
  go_wp2_with fail
  refine (some_any 6 N _ (w.heap.size + 1) A n c _ hn (by omega) (by omega) HN.out.1 HN.out.2 RN.out (fun h0 g off e => by have := HBY.out.lt' h0 g off e; have := BX.out.size; omega)).mono ?_
  rintro e w3 ⟨q3, V, rfl, hq, hV, hr, hg⟩
  obtain ⟨A3, c3, rfl, hc3, -, -, -⟩ := OwnN.shape hq
  obtain ⟨gb, hgb⟩ : ∃ gb, gb = w2.heap.size := ⟨_, rfl⟩
  obtain ⟨b1, hb1⟩ : ∃ b1, b1 = w1.heap.size := ⟨_, rfl⟩
  obtain ⟨k, hk⟩ : ∃ k, k = V.length := ⟨_, rfl⟩
  have HK := Lib.hid hk
  have l1 : w.heap.size + 1 < b1 := by omega
  have l2 : b1 ≤ gb := by omega
  have R4 := Lib.hid hr
  have GX := Lib.hid (grown_trans GN.out hg)
  have O4 := Lib.hid (show OwnN w3 (gb + 1) (.slice A3 k c3) V from by
    have h := OwnN.low hq (show gb + 1 ≤ wn.heap.size from by have := SX.out; omega)
    rw [← hk] at h
    exact h)
  have HAP := Lib.hid (show ∀ g, blockOf A' = some g → blockOf A3 ≠ some g from fun g e e3 => by
    have h1 := (Owns.lt_ (show Owns _ _ _ _ _ _ _ from O2.out) g e).2
    have h2 := (Owns.lt_ (show Owns _ _ _ _ _ _ _ from O4.out) g e3).1
    omega)
  have DG := Lib.hid (show ∀ wx, X.grownBy wx (some (w.heap.size + 1)) → Bl w wx ∧ OwnA wx b1 (.slice A' l c') L ∧ Two wx gb (.int .i64 N) (.slice A' l c') ∧ Two wx w.heap.size (.int .i64 0) (.slice none 0 0) from fun wx h => by
    subst hgb
    subst hb1
    exact ⟨(((Bl.alloc_ (Bl.refl w) _).trans_ B2.out).trans_ BX.out).grown_ h (fun g e => by injection e with e; omega),
      (OwnA.bl O2.out BX.out).grown_ h (fun g e => by injection e with e; omega),
      TX.out.grown_ h (fun e => by injection e with e; omega),
      (((Two.new w _ _).bl B2.out).bl BX.out).grown_ h (fun e => by injection e with e; omega)⟩)
  have nb : gb ≠ w.heap.size := by omega
  have nb' : w.heap.size ≠ gb := by omega
  have sX : X.heap.size ≤ w3.heap.size := GX.out.size
  rw [← hk] at hV hc3 ⊢
  have S2 := Lib.hid (show w2.heap.size + 1 ≤ w3.heap.size from by have := SX.out; omega)
  obtain ⟨D1, D2, D3, D4⟩ := DG.out _ GX.out
  have HSX := Lib.hid (show ∀ wx, X.grownBy wx (some (w.heap.size + 1)) → wx.cell? ⟨gb, 0, none⟩ = some (.int .i64 N) ∧ wx.cell? ⟨gb, 1, none⟩ = some (.slice A' l c') from fun wx h => by
    obtain ⟨-, -, D3, -⟩ := DG.out _ h
    exact ⟨D3.facts.1, D3.facts.2.1⟩)
  clear hq hk hr hg t0 t1 D1 D2 D3 D4 sX hb1
  go_wp2_with fail
  rw [← hgb]
  clear hgb
  refine wp_region_held_drew (S := fun wx => wx.cell? ⟨gb, 0, none⟩ = some (.int .i64 N) ∧ wx.cell? ⟨gb, 1, none⟩ = some (.slice A' l c')) (by kernel_rfl) ?_ (fun hHeld => ?_)
  · (first | exact HSX.out _ (grown_bl GX.out (Bl.drew_ (Bl.refl _))) | exact HSX.out _ G5.out | (refine ⟨?_, ?_⟩ <;> (simp only [World.cell?_setCell_other _ _ _ _ (show (⟨w.heap.size, 0, none⟩ : Addr) ≠ ⟨gb, 0, none⟩ from fun e => by injection e with e; omega), World.cell?_setCell_other _ _ _ _ (show (⟨w.heap.size, 0, none⟩ : Addr) ≠ ⟨gb, 1, none⟩ from fun e => by injection e with e; omega), World.cell?_setCell_other _ _ _ _ (show (⟨w.heap.size, 1, none⟩ : Addr) ≠ ⟨gb, 0, none⟩ from fun e => by injection e with e; omega), World.cell?_setCell_other _ _ _ _ (show (⟨w.heap.size, 1, none⟩ : Addr) ≠ ⟨gb, 1, none⟩ from fun e => by injection e with e; omega)]; first | exact (HSX.out _ G5.out).1 | exact (HSX.out _ G5.out).2)))
  refine wpAnyH_take (i := 0) (v := ?_) rfl (by kernel_rfl) (by kernel_rfl) (by kernel_rfl) (fun _ _ _ h => h) (Or.inl ⟨by kernel_rfl, ?_⟩) (by assumption) ?_
  rotate_left
  · (intro wx hSw; (try dsimp only at hSw); go_simp; try (with_reducible rfl))
  try simp only [Act.put, List.getElem_toArray, List.getElem_cons_succ, List.getElem_cons_zero, List.setIfInBounds_toArray, List.set_cons_zero, List.set_cons_succ]
  refine wpAnyH_take (i := 1) (v := ?_) rfl (by kernel_rfl) (by kernel_rfl) (by kernel_rfl) (fun _ _ _ h => h) (Or.inl ⟨by kernel_rfl, ?_⟩) (by assumption) ?_
  rotate_left
  · (intro wx hSw; (try dsimp only at hSw); go_simp; try (with_reducible rfl))
  try simp only [Act.put, List.getElem_toArray, List.getElem_cons_succ, List.getElem_cons_zero, List.setIfInBounds_toArray, List.set_cons_zero, List.set_cons_succ]
  refine wpAnyH_take (i := 2) (v := ?_) rfl (by kernel_rfl) (by kernel_rfl) (by kernel_rfl) (fun _ _ _ h => h) (Or.inl ⟨by kernel_rfl, ?_⟩) (by assumption) ?_
  rotate_left
  · (intro wx hSw; (try dsimp only at hSw); go_simp; try (with_reducible rfl))
  try simp only [Act.put, List.getElem_toArray, List.getElem_cons_succ, List.getElem_cons_zero, List.setIfInBounds_toArray, List.set_cons_zero, List.set_cons_succ]
  refine wpAnyH_take (i := 3) (v := ?_) rfl (by kernel_rfl) (by kernel_rfl) (by kernel_rfl) (fun _ _ _ h => h) (Or.inl ⟨by kernel_rfl, ?_⟩) (by assumption) ?_
  rotate_left
  · (intro wx hSw; (try dsimp only at hSw); go_simp; try (with_reducible rfl))
  try simp only [Act.put, List.getElem_toArray, List.getElem_cons_succ, List.getElem_cons_zero, List.setIfInBounds_toArray, List.set_cons_zero, List.set_cons_succ]
  refine wpAnyH_ready (rs := [4]) (by kernel_rfl) (by simp) ?_
  refine AllReadyH.cons rfl (fun K hK => ?_) AllReadyH.nil
  go_simp
  (go_at_call 72; refine (off_any 0 4 (w.heap.size + 1) A n c _ hn (by omega) (by omega) (by omega) (by omega) (R4.out.bl (Bl.drew_ (Bl.refl _)))).mono ?_; rintro e w4 ⟨z, -, rfl, hr4, hg4⟩; have G5 := Lib.hid (grown_trans GX.out (grown_trans (bl_grown (Bl.drew_ (Bl.refl w3)) _) hg4)); have O5 := Lib.hid (show OwnN w4 (gb + 1) (.slice A3 k c3) V from Owns.grown_ (OwnN.bl O4.out (Bl.drew_ (Bl.refl _))) hg4 (fun g hg' e => by injection e with e; have := (Owns.lt O4.out g hg').1; omega)); obtain ⟨D1, D2, D3, D4⟩ := DG.out _ G5.out; have HD1 := Lib.hid D1; have HD2 := Lib.hid D2; obtain ⟨r0, r1, fr0, fr1⟩ := D4.facts; have s4 := Lib.hid hg4.size; clear D1 D2 D3 D4 hr4 hg4)
  try (go_wp2_with fail)
  refine hK.out _ _ ?_ (fun hHeld => ?_)
  · (first | exact HSX.out _ (grown_bl GX.out (Bl.drew_ (Bl.refl _))) | exact HSX.out _ G5.out | (refine ⟨?_, ?_⟩ <;> (simp only [World.cell?_setCell_other _ _ _ _ (show (⟨w.heap.size, 0, none⟩ : Addr) ≠ ⟨gb, 0, none⟩ from fun e => by injection e with e; omega), World.cell?_setCell_other _ _ _ _ (show (⟨w.heap.size, 0, none⟩ : Addr) ≠ ⟨gb, 1, none⟩ from fun e => by injection e with e; omega), World.cell?_setCell_other _ _ _ _ (show (⟨w.heap.size, 1, none⟩ : Addr) ≠ ⟨gb, 0, none⟩ from fun e => by injection e with e; omega), World.cell?_setCell_other _ _ _ _ (show (⟨w.heap.size, 1, none⟩ : Addr) ≠ ⟨gb, 1, none⟩ from fun e => by injection e with e; omega)]; first | exact (HSX.out _ G5.out).1 | exact (HSX.out _ G5.out).2)))
  clear hK K
  try simp only [Act.put, List.getElem_toArray, List.getElem_cons_succ, List.getElem_cons_zero, List.setIfInBounds_toArray, List.set_cons_zero, List.set_cons_succ]
  refine wpAnyH_ready (rs := [5]) (by kernel_rfl) (by simp) ?_
  refine AllReadyH.cons rfl (fun K hK => ?_) AllReadyH.nil
  go_simp
  refine hK.out _ _ ?_ (fun hHeld => ?_)
  · (first | exact HSX.out _ (grown_bl GX.out (Bl.drew_ (Bl.refl _))) | exact HSX.out _ G5.out | (refine ⟨?_, ?_⟩ <;> (simp only [World.cell?_setCell_other _ _ _ _ (show (⟨w.heap.size, 0, none⟩ : Addr) ≠ ⟨gb, 0, none⟩ from fun e => by injection e with e; omega), World.cell?_setCell_other _ _ _ _ (show (⟨w.heap.size, 0, none⟩ : Addr) ≠ ⟨gb, 1, none⟩ from fun e => by injection e with e; omega), World.cell?_setCell_other _ _ _ _ (show (⟨w.heap.size, 1, none⟩ : Addr) ≠ ⟨gb, 0, none⟩ from fun e => by injection e with e; omega), World.cell?_setCell_other _ _ _ _ (show (⟨w.heap.size, 1, none⟩ : Addr) ≠ ⟨gb, 1, none⟩ from fun e => by injection e with e; omega)]; first | exact (HSX.out _ G5.out).1 | exact (HSX.out _ G5.out).2)))
  clear hK K
  try simp only [Act.put, List.getElem_toArray, List.getElem_cons_succ, List.getElem_cons_zero, List.setIfInBounds_toArray, List.set_cons_zero, List.set_cons_succ]
  refine wpAnyH_take (i := 6) (v := ?_) rfl (by kernel_rfl) (by kernel_rfl) (by kernel_rfl) (fun _ _ _ h => h) (Or.inl ⟨by kernel_rfl, ?_⟩) (by assumption) ?_
  rotate_left
  · (intro wx hSw; (try dsimp only at hSw); go_simp; try (with_reducible rfl))
  try simp only [Act.put, List.getElem_toArray, List.getElem_cons_succ, List.getElem_cons_zero, List.setIfInBounds_toArray, List.set_cons_zero, List.set_cons_succ]
  refine wpAnyH_take (i := 7) (v := ?_) rfl (by kernel_rfl) (by kernel_rfl) (by kernel_rfl) (fun _ _ _ h => h) (Or.inl ⟨by kernel_rfl, ?_⟩) (by assumption) ?_
  rotate_left
  · (intro wx hSw; (try dsimp only at hSw); go_simp; try (with_reducible rfl))
  try simp only [Act.put, List.getElem_toArray, List.getElem_cons_succ, List.getElem_cons_zero, List.setIfInBounds_toArray, List.set_cons_zero, List.set_cons_succ]
  refine wpAnyH_take (i := 8) (v := ?_) rfl (by kernel_rfl) (by kernel_rfl) (by kernel_rfl) (fun _ _ _ h => h) (Or.inl ⟨by kernel_rfl, ?_⟩) (by assumption) ?_
  rotate_left
  · (intro wx hSw; (try dsimp only at hSw); go_simp; try (with_reducible rfl))
  try simp only [Act.put, List.getElem_toArray, List.getElem_cons_succ, List.getElem_cons_zero, List.setIfInBounds_toArray, List.set_cons_zero, List.set_cons_succ]
  refine wpAnyH_done (by kernel_rfl) ?_ _
  go_wp2
  refine bodyPost_ret (v := .tuple #[.agg #[.int .i64 N, .slice A' l c'], .int .i64 s, .slice A3 k c3, .int .i64 z]) (by simp [results, Try.results44, go_sem, r0, r1, fr0, fr1]) rfl ?_
  have h1 := S2.out
  have h2 : w3.heap.size ≤ w4.heap.size := s4.out
  have n5 : ∀ g, (Value.slice A3 k c3).ownBlock = some g → g ≠ w.heap.size := fun g hg e => by have := (Owns.lt O5.out g hg).1; omega
  refine ⟨N, A', l, c', L, s, A3, k, c3, V, z, rfl, ⟨HL.out, hl200, HN.out, ((HD2.out.set_ (by show w.heap.size < b1; omega) _).set_ (by show w.heap.size < b1; omega) _).low (by omega)⟩, ⟨HK.out, hV, hc3, ?_⟩, HAP.out, (HD1.out.set_ (Nat.le_refl _) _).set_ (Nat.le_refl _) _⟩
  obtain ⟨A9, c9, e9, -, hi9, -, -⟩ := OwnN.shape (show OwnN _ (gb + 1) (.slice A3 k c3) V from Owns.setOther (Owns.setOther O5.out (p := ⟨w.heap.size, 0, none⟩) n5 _) (p := ⟨w.heap.size, 1, none⟩) n5 _)
  injection e9 with e91 e92 e93
  subst e91
  exact hi9

end Go.Proofs.Ytlddileiecnkjaa

set_option linter.unusedSimpArgs false
set_option linter.unusedVariables false
namespace Go.Proofs.Ytlddileiecnkjaa
open Go.RowKit

set_option maxHeartbeats 400000 in
theorem sameItemsN_yes (A1 A2 : Option Addr) (c1 c2 : Nat) (L : List It) (n : Nat) (hn : n = L.length) (w : World) (hm : n ≤ 9223372036854775807) (H1 : ItemsAt w w.heap.size A1 L) (H2 : ItemsAt w w.heap.size A2 L) :
    Calls Try.prog 45 #[.slice A1 n c1, .slice A2 n c2] w fun e w' => e = .returned (.bool true) ∧ Bl w w' := by
  have HN := Lib.hid hn
  clear hn
  have K1 := Lib.hid H1
  have K2 := Lib.hid H2
  clear H1 H2
  have hnn : ((n : Int) != (n : Int)) = false := by simp
  go_enter Try.func45, Try.ntmps45
  go_wp2
  go_loopw [5] (fun i wr => ∃ k : Nat, k ≤ n ∧ i = .int .i64 k ∧ Bl w wr) (fun i _ => n - (intOf i).toNat)
  case atStart => exact ⟨0, by omega, rfl, Bl.refl _⟩
  case round =>
    obtain ⟨k, hk, rfl, hbl⟩ := hrel
    by_cases hlt : k < n
    · have hkl : k < L.length := by have := HN.out; omega
      have i0 : (k : Int) < (n : Int) := by omega
      obtain ⟨g1, o1, rfl, hg1, hc1⟩ := K1.out.cell (by omega)
      obtain ⟨g2, o2, rfl, hg2, hc2⟩ := K2.out.cell (by omega)
      obtain ⟨p1, p2⟩ := hc1 k hkl
      obtain ⟨q1, q2⟩ := hc2 k hkl
      rw [← (bcell hbl).1 _ _ hg1] at p1 p2
      rw [← (bcell hbl).1 _ _ hg2] at q1 q2
      generalize L[k].1 = x at p1 q1
      generalize L[k].2 = y at p2 q2
      clear hc1 hc2 hkl
      have e1 : (x == x) = true := by simp
      have e2 : (y == y) = true := by simp
      go_wp2
      go_quiet (fail)
      go_wp2
      go_roundw
      case rel => exact ⟨k + 1, by omega, by go_num, by first | exact hbl | exact hbl.drew_ | exact hbl.drewN_ _⟩
      case measure => simp [intOf]; omega
    · go_wp2
      go_ret
      exact ⟨rfl, hbl⟩

set_option maxHeartbeats 400000 in
theorem hasItemN_any (A : Option Addr) (n c : Nat) (L : List It) (a b : Int) (hn : n = L.length) (w : World) (hm : n ≤ 9223372036854775807) (H1 : ItemsAt w w.heap.size A L) :
    Calls Try.prog 47 #[.slice A n c, .agg #[.int .i64 a, .int .i64 b]] w fun e w' => e = .returned (.bool (decide ((a, b) ∈ L))) ∧ Bl w w' := by
  have HN := Lib.hid hn
  clear hn
  have K1 := Lib.hid H1
  clear H1
  go_enter Try.func47, Try.ntmps47
  go_wp2
  go_loopw [5] (fun i wr => ∃ k : Nat, k ≤ n ∧ i = .int .i64 k ∧ Bl (w.alloc (.cells #[.int .i64 a, .int .i64 b] 68)) wr ∧ ∀ j (hj : j < L.length), j < k → L[j] ≠ (a, b)) (fun i _ => n - (intOf i).toNat)
  case atStart => exact ⟨0, by omega, rfl, Bl.refl _, fun j _ h => absurd h (by omega)⟩
  case round =>
    obtain ⟨k, hk, rfl, hbl, hno⟩ := hrel
    have NO := Lib.hid hno
    clear hno
    obtain ⟨b0, b1⟩ := box2 hbl
    by_cases hlt : k < n
    · have hkl : k < L.length := by have := HN.out; omega
      have i0 : (k : Int) < (n : Int) := by omega
      obtain ⟨g1, o1, rfl, hg1, hc1⟩ := K1.out.cell (by omega)
      obtain ⟨p1, p2⟩ := hc1 k hkl
      rw [← (bcell (((Bl.refl w).alloc_ _).trans_ hbl)).1 _ _ hg1] at p1 p2
      clear hc1
      generalize hx : L[k].1 = x at p1
      generalize hy : L[k].2 = y at p2
      have X := Lib.hid (show L[k] = (x, y) from by rw [← hx, ← hy])
      clear hx hy
      by_cases hxa : x = a
      · have e1 : (x == a) = true := by simp [hxa]
        by_cases hyb : y = b
        · have e2 : (y == b) = true := by simp [hyb]
          have HX := Lib.hid hxa
          have HY := Lib.hid hyb
          clear hxa hyb
          go_wp2
          go_quiet (fail)
          go_wp2
          go_ret
          exact ⟨ret_bool (by symm; rw [decide_eq_true_eq, ← HX.out, ← HY.out, ← X.out]; exact List.getElem_mem hkl), (((Bl.refl w).alloc_ _).trans_ hbl).drewN_ _⟩
        · have e2 : (y == b) = false := by simpa using hyb
          have NE := Lib.hid (show (x, y) ≠ (a, b) from fun h => hyb (by injection h))
          clear hyb hxa
          go_wp2
          go_quiet (fail)
          go_wp2
          go_roundw
          case rel =>
            refine ⟨k + 1, by omega, by go_num, by first | exact hbl | exact hbl.drew_ | exact hbl.drewN_ _, fun j hj hjk => ?_⟩
            rcases Nat.lt_or_ge j k with h | h
            · exact NO.out j hj h
            · obtain rfl : j = k := by omega
              rw [X.out]
              exact NE.out
          case measure => simp [intOf]; omega
      · have e1 : (x == a) = false := by simpa using hxa
        have NE := Lib.hid (show (x, y) ≠ (a, b) from fun h => hxa (by injection h))
        clear hxa
        go_wp2
        go_quiet (fail)
        go_wp2
        go_roundw
        case rel =>
          refine ⟨k + 1, by omega, by go_num, by first | exact hbl | exact hbl.drew_ | exact hbl.drewN_ _, fun j hj hjk => ?_⟩
          rcases Nat.lt_or_ge j k with h | h
          · exact NO.out j hj h
          · obtain rfl : j = k := by omega
            rw [X.out]
            exact NE.out
        case measure => simp [intOf]; omega
    · go_wp2
      go_ret
      exact ⟨ret_bool (by
        symm
        rw [decide_eq_false_iff_not]
        intro hm
        obtain ⟨j, hj, e⟩ := List.mem_iff_getElem.1 hm
        exact NO.out j hj (by have := HN.out; omega) e), ((Bl.refl w).alloc_ _).trans_ hbl⟩

theorem nrB_elim {N s z : Int} {L : List Arc3} {V : List Int} (h : nrB N L s V z = true) : has1 N L s = true ∧ hasUB N L V = true ∧ 0 ≤ z := by
  unfold nrB at h
  simp only [Bool.and_eq_true, decide_eq_true_eq] at h
  exact ⟨h.1, h.2.1, h.2.2⟩
theorem nrL_pos {N s z : Int} {L : List Arc3} {V : List Int} (h : 0 < (nrL N L s V z).length) : nrB N L s V z = true := by
  cases e : nrB N L s V z with
  | true => rfl
  | false => rw [nrL_no e] at h; exact absurd h (by simp)
theorem nrL_le {N s z : Int} {L : List Arc3} {V : List Int} (h : nrB N L s V z = true) : ((nrL N L s V z).length : Int) ≤ z := by
  rw [nrL_yes h, List.length_take]
  have := (nrB_elim h).2.2
  omega
theorem nrL_sort {N s z : Int} {L : List Arc3} {V : List Int} (h : nrB N L s V z = true) : SortI (nrL N L s V z) := by
  rw [nrL_yes h]
  exact List.Pairwise.sublist (List.take_sublist _ _) (nrK_sort _ (hasUB_iff.1 (nrB_elim h).2.1).2.2 _ (Nat.le_refl _))
theorem nrL_dist {N s z : Int} {L : List Arc3} {V : List Int} (h : nrB N L s V z = true) {v : Int} (hv : v ∈ V) : distOfI N L s v = dAt (distL N L s) v := by
  obtain ⟨h1, h2, -⟩ := nrB_elim h
  obtain ⟨ho, a, b⟩ := has1_of h1
  have := (hasUB_iff.1 h2).2.1 v hv
  unfold distOfI
  rw [if_pos (by unfold has2; rw [ho]; simp; omega)]
/-- A place that is reached and that is not told is farther than the last that is, and there are as many as are asked for. -/
theorem nrL_out {N s z : Int} {L : List Arc3} {V : List Int} (h : nrB N L s V z = true) {v : Int} (hv : v ∈ V) (hd : 0 ≤ dAt (distL N L s) v) (hno : (dAt (distL N L s) v, v) ∉ nrL N L s V z) :
    ¬ ((nrL N L s V z).length : Int) < z ∧ ∀ y ∈ nrL N L s V z, lessI y (dAt (distL N L s) v, v) = true := by
  have hz := (nrB_elim h).2.2
  have hs := nrK_sort (distL N L s) (hasUB_iff.1 (nrB_elim h).2.1).2.2 V.length (Nat.le_refl _)
  have hm := (nrK_mem (distL N L s) (V := V) (dAt (distL N L s) v, v) V.length (Nat.le_refl _)).2 ⟨by rw [List.take_of_length_le (Nat.le_refl _)]; exact hv, hd, rfl⟩
  rw [nrL_yes h] at hno ⊢
  unfold nrAll at hno ⊢
  obtain ⟨X, hX⟩ : ∃ X, X = nrK (distL N L s) V V.length := ⟨_, rfl⟩
  rw [← hX] at hs hm hno ⊢
  have hm2 := hm
  rw [← List.take_append_drop z.toNat X] at hm2 hs
  have hdr := (List.mem_append.1 hm2).resolve_left hno
  have hlt : z.toNat < X.length := by
    rcases Nat.lt_or_ge z.toNat X.length with e | e
    · exact e
    · rw [List.drop_of_length_le e] at hdr; simp at hdr
  refine ⟨?_, fun y hy => (List.pairwise_append.1 hs).2.2 y hy _ hdr⟩
  rw [List.length_take]
  omega

end Go.Proofs.Ytlddileiecnkjaa
