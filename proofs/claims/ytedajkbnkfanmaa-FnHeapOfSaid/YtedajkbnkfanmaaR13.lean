/-
  What is proved here: the walk of the law FnHeapOf: at every code that can be read it returns true and leaves what was there as it was. No conditions beyond those that each theorem states.
-/
import Derived.Test.YtedajkbnkfanmaaR11
import Derived.Test.YtedajkbnkfanmaaJ7
import Derived.Test.YtedajkbnkfanmaaPN
set_option linter.unusedSimpArgs false
set_option linter.unusedVariables false
namespace Go.Proofs.Ytedajkbnkfanmaa
open Go.RowKit

theorem popRest_more {L : List It} (h : popB L = true) : ∀ a ∈ popRest L, a ∈ L ∧ lessI (popFirst L) a = true := by
  have hb := h
  simp only [popB, Bool.and_eq_true, decide_eq_true_eq] at hb
  rcases L with _ | ⟨f, t⟩
  · simp at hb
  · obtain ⟨h1, h2, h3, h4⟩ := pop_heap hb.1
    rw [show popRest (f :: t) = downI (cutI (f :: t)) 0 from if_pos h, show popFirst (f :: t) = f from by unfold popFirst; rw [if_pos h]; rfl]
    intro a ha
    have hat := h2.mem_iff.1 ha
    exact ⟨by simp [hat], lessI_total (h4 a (by simp [hat])) (fun e => h3 (List.mem_map.2 ⟨a, hat, e⟩))⟩
theorem CellsAt.set_any {w : World} {B : Nat} {A : Option Addr} {L : List Value} (h : CellsAt w B A L) {p : Addr} (hp : 0 < L.length → ∀ g, blockOf A = some g → g ≠ p.block) {v : Value} : CellsAt (w.setCell p v) B A L := fun h0 => by
  obtain ⟨g, off, rfl, hg, hc⟩ := h h0
  exact ⟨g, off, rfl, hg, fun k hk => by rw [World.cell?_setCell_other _ _ _ _ (fun e => hp h0 g rfl (by rw [e]))]; exact hc k hk⟩
set_option maxHeartbeats 400000 in
theorem drawHeapOf_any (A : Option Addr) (n c : Nat) (w : World) (hn : n ≤ 1099511627776) (H : BytesAt w A n) (hA : 0 < n → ∀ g, blockOf A = some g → g < w.heap.size) :
    Calls Try.prog 16 #[.slice A n c] w (DrawnC w) := by
  have K := Lib.hid H
  have HA := Lib.hid hA
  clear H hA
  go_enter Try.func16, Try.ntmps16
  go_wp2_with fail
  refine (open_any A n c _ K.out).mono ?_
  rintro e w1 ⟨rfl, hr, hb, hlt⟩
  have R1 := Lib.hid hr
  have B1 := Lib.hid hb
  clear hr hb
  go_wp2_with fail
  refine (items_any _ A n c _ hn R1.out (fun h0 g h => by have := HA.out h0 g h; omega)).mono ?_
  rintro e w3 ⟨v, L, rfl, hO, hwf, hl, hr, ht⟩
  have O := Lib.hid (Owns.low hO B1.out.size)
  have WF := Lib.hid hwf
  have B3 := Lib.hid (Turn.to_bl B1.out ht (fun i h => by omega))
  obtain ⟨A1, c1, rfl, -⟩ := Owns.shape hO
  clear hO hwf hr ht
  go_wp2
  go_ret
  exact ⟨_, L, rfl, O.out, WF.out, hl, B3.out⟩

set_option maxRecDepth 100000 in
set_option maxHeartbeats 4000000 in
theorem lawHeapOfF_any (A : Option Addr) (n c : Nat) (w : World) (H : BytesAt w A n) (hA : 0 < n → ∀ g, blockOf A = some g → g < w.heap.size) :
    Calls Try.prog 3 #[.slice A n c] w fun e w' => e = .returned (.bool true) ∧ Bl w w' := by
  have K := Lib.hid H
  have HA := Lib.hid hA
  clear H hA
  by_cases hbig : (1048576 : Int) < (n : Int)
  · have hb : decide ((1048576 : Int) < (n : Int)) = true := by simpa using hbig
    clear hbig
    go_enter Try.func3, Try.ntmps3
    go_wp2_with (go_at_call 15; refine (big_any _ _ _ _).mono ?_; rintro e w' ⟨rfl, rfl⟩)
    go_ret
    exact ⟨rfl, (by repeat' (first | exact Bl.refl _ | with_reducible assumption | with_reducible refine Bl.drew_ ?_ | with_reducible refine Bl.drewN_ ?_ _ | with_reducible refine Bl.alloc_ ?_ _ | with_reducible refine Bl.trans_ ?_ (by assumption) | with_reducible refine Bl.trans_ ?_ (And.left (by assumption))))⟩
  · have hb : decide ((1048576 : Int) < (n : Int)) = false := by simpa using hbig
    have hn : n ≤ 1099511627776 := by omega
    clear hbig
    go_enter Try.func3, Try.ntmps3
    go_wp2_with fail
    refine (big_any _ _ _ _).mono ?_
    rintro e w1 ⟨rfl, rfl⟩
    go_wp2_with fail
    refine (drawHeapOf_any A n c _ hn K.out HA.out).mono ?_
    rintro e w1 ⟨v, L, rfl, hO, hwf, hl, hb1⟩
    obtain ⟨A1, c1, rfl, -⟩ := Owns.shape hO
    have I1 := Lib.hid hO.at_
    have WF := Lib.hid hwf
    have B1 := Lib.hid hb1
    clear hO hwf hb1
    obtain ⟨l, hl'⟩ : ∃ l, l = L.length := ⟨_, rfl⟩
    rw [← hl'] at hl ⊢
    have HL := Lib.hid hl'
    clear hl'
    obtain ⟨r, hr⟩ : ∃ r, heapI (arrI (L.length / 2) L) = r := ⟨_, rfl⟩
    have PB := Lib.hid hr
    clear hr
    obtain ⟨m, hm⟩ : ∃ m, m = (heapOfL L).length := ⟨_, rfl⟩
    have hm100 : m ≤ 20 := by rw [hm]; have := heapOfL_le L; have := HL.out; omega
    have HM := Lib.hid hm
    clear hm
    go_wp2_with fail
    refine (implHeapOf_any A1 l c1 L HL.out _ (by omega) (fun k => (WF.out k).2) I1.out).mono ?_
    rintro e w2 ⟨v2, rfl, hO2, hb2⟩
    obtain ⟨A2, c2, rfl, -⟩ := Owns.shape hO2
    have I2 := Lib.hid hO2.at_
    rw [PB.out, ← HM.out]
    clear hO2
    go_wp2_with fail
    refine (specHeapOf_any A1 l c1 L HL.out _ (by omega) (ItemsAt.bl I1.out hb2)).mono ?_
    rintro e w3 ⟨v3, rfl, hO3, hb3⟩
    obtain ⟨A3, c3, rfl, -⟩ := Owns.shape hO3
    have I3 := Lib.hid hO3.at_
    have I2 := Lib.hid (ItemsAt.bl I2.out hb3)
    have hb3 := hb2.trans_ hb3
    rw [PB.out, ← HM.out]
    clear hO3
    have hrr : (r != r) = false := by simp
    have hre : (r == r) = true := by simp
    go_wp2_with fail
    refine (sameItems_yes A2 A3 c2 c3 _ m HM.out _ (by omega) I2.out I3.out).mono ?_
    rintro e w5 ⟨rfl, hb5⟩
    have I2 := Lib.hid (ItemsAt.bl I2.out hb5)
    have I3 := Lib.hid (ItemsAt.bl I3.out hb5)
    have hb7 := hb3.trans_ hb5
    cases r with
    | false =>
      go_wp2_with fail
      refine (sameItems_yes A2 A3 c2 c3 _ m HM.out _ (by omega) I2.out I3.out).mono ?_
      rintro e w8 ⟨rfl, hb8⟩
      have hb8 := hb7.trans_ hb8
      go_wp2
      go_ret
      exact ⟨rfl, B1.out.trans_ hb8⟩
    | true =>
      have HO := Lib.hid (heapOfL_yes PB.out)
      have HH := Lib.hid (show heapI (heapOfL L) = true from by rw [HO.out]; exact PB.out)
      have PM := Lib.hid (show (heapOfL L).Perm L from by rw [HO.out]; exact arrI_perm _ _)
      have hml : m = l := by rw [HM.out, HL.out]; exact PM.out.length_eq
      have HML := Lib.hid hml
      have WH := Lib.hid (heapOfL_wf WF.out)
      clear hml
      have hz2 : ∀ g, blockOf A2 = some g → 0 < m → g < w5.heap.size := fun g hg h0 => by
        obtain ⟨g', off, e, hlt, _⟩ := ItemsAt.cell I2.out (by have := HM.out; omega)
        rw [e] at hg
        simp [blockOf] at hg
        omega
      have Z2 := Lib.hid hz2
      clear hz2
      go_wp2_with fail
      go_loopw [9, 10] (fun u v wr => ∃ (k : Nat) (N : List It) (AN : Option Addr) (cN : Nat) (q : Nat) (lx ly : Int), u = .int .i64 (k : Int) ∧ v = .slice AN q cN ∧ Hid (q = N.length) ∧ q + k = l ∧ ItemsAt wr wr.heap.size AN N ∧ (0 < q → ∀ g, blockOf AN = some g → g ≠ w5.heap.size) ∧ Hid (heapI N = true) ∧ Hid (∀ a ∈ N, a ∈ L) ∧ Hid (0 < k → ∀ a ∈ N, lessI (lx, ly) a = true) ∧ (k = 0 → lx = -9223372036854775808) ∧ Hid (WfL N) ∧
        Bl w5 wr ∧ wr.cell? ⟨w5.heap.size, 0, none⟩ = some (.int .i64 lx) ∧ wr.cell? ⟨w5.heap.size, 1, none⟩ = some (.int .i64 ly) ∧ wr.frozen? ⟨w5.heap.size, 0, none⟩ = false ∧ wr.frozen? ⟨w5.heap.size, 1, none⟩ = false) (fun _ v wr => match v with | .slice _ q _ => q | _ => 0)
      case atStart => exact ⟨0, heapOfL L, A2, c2, m, -9223372036854775808, 0, rfl, rfl, HM.out, by have := HML.out; omega, ItemsAt.bl I2.out ((Bl.refl w5).alloc_ _), fun h0 g hg => by have := Z2.out g hg h0; omega, HH.out, (fun a ha => PM.out.mem_iff.1 ha), (fun h => absurd h (by omega)), fun _ => rfl, WH.out, (Bl.refl w5).alloc_ _, by simp [go_sem], by simp [go_sem], by simp [go_sem], by simp [go_sem]⟩
      case round =>
        obtain ⟨k, N, AN, cN, q, lx, ly, rfl, rfl, hq, hqk, hIN, hgN, hHN, hsub, hlast, hk0, hWN, hbl, z0, z1, y0, y1⟩ := hrel
        have IN := Lib.hid hIN
        have GN := Lib.hid hgN
        have K0 := Lib.hid hk0
        clear hIN hgN hk0
        have hw8 := hb7.trans_ hbl
        have hbs : w5.heap.size < wr.heap.size := World.block_lt_of_cell? _ _ z0
        by_cases hpos : 0 < q
        · have hp' : (0 : Int) < (q : Int) := by omega
          have PBN := Lib.hid (popB_yes hHN.out (by have := hq.out; omega))
          obtain ⟨x, y, hxy⟩ : ∃ x y, popFirst N = (x, y) := ⟨_, _, rfl⟩
          have XY := Lib.hid hxy
          clear hxy
          have PA := Lib.hid (popRest_all PBN.out)
          have PMR := Lib.hid (popRest_more PBN.out)
          obtain ⟨q2, hq2⟩ : ∃ q2, q2 = (popRest N).length := ⟨_, rfl⟩
          have Q2 := Lib.hid hq2
          have hqq : q2 + 1 = q := by rw [hq2, hq.out]; exact PA.out.2.2.2.1
          clear hq2
          have XIN := Lib.hid (show (x, y) ∈ N from by rw [← XY.out]; exact PA.out.2.1)
          have HIN := Lib.hid (show decide ((x, y) ∈ L) = true from by rw [decide_eq_true_eq]; exact hsub.out _ XIN.out)
          have hls : 0 < k → (lx < x ∨ lx = x ∧ ly < y) := fun h => by have := hlast.out h _ XIN.out; simpa [lessI] using this
          have hxw : -9223372036854775808 ≤ x := by
            obtain ⟨j, hj, e⟩ := List.mem_iff_getElem.1 XIN.out
            have := (hWN.out j).1
            rw [atI_eq hj, e] at this
            exact (bounds_i64 this).1
          have hzk : k = 0 → lx = -9223372036854775808 := K0.out
          have IMN := Lib.hid ((implHeapPop_any AN q cN N hq.out wr (by omega) (fun k => (hWN.out k).2) IN.out).mono (R' := fun e w' => ∃ A4 c4, e = .returned (.tuple #[.slice A4 q2 c4, .agg #[.int .i64 x, .int .i64 y], .bool true]) ∧ ItemsAt w' w'.heap.size A4 (popRest N) ∧ (0 < q2 → ∀ g, blockOf A4 = some g → wr.heap.size ≤ g) ∧ Bl wr w') (fun e w' ⟨v, he, ho, hb⟩ => by
            obtain ⟨A0, c0, rfl, _⟩ := Owns.shape ho
            exact ⟨A0, c0, by rw [he, PBN.out, Q2.out, XY.out], ho.at_, fun _ g hg => (Owns.lt_ ho g hg).1, hb⟩))
          have t1 : decide (x < lx) = false := by
            simp
            rcases Nat.eq_zero_or_pos k with h | h
            · rw [hzk h]; exact hxw
            · have := hls h; omega
          by_cases hxl : x = lx
          · have t2 : (x == lx) = true := by simp [hxl]
            rcases Nat.eq_zero_or_pos k with hk | hk
            · subst hk
              have t4 : decide ((0 : Int) < ((0 : Nat) : Int)) = false := by simp
              by_cases hyl : y ≤ ly
              · have t3 : decide (y ≤ ly) = true := by simpa using hyl
                clear hyl hls hzk hxw hxl
                go_wp2_with fail
                refine IMN.out.mono ?_
                rintro e w6 ⟨A4, c4, rfl, hi4, hg4, hb6⟩
                have I4 := Lib.hid hi4
                have G4 := Lib.hid hg4
                clear hi4 hg4
                have s6 := hb6.size
                have u0 := ((bcell hb6).1 _ _ hbs).trans z0
                have u1 := ((bcell hb6).1 _ _ hbs).trans z1
                have u2 := ((bcell hb6).2 _ 0 hbs).trans y0
                have u3' := ((bcell hb6).2 _ 1 hbs).trans y1
                have hb6s : w5.heap.size < w6.heap.size := by omega
                go_wp2_with fail
                have V6 := Lib.hid (box2 (Bl.refl (w6.alloc (.cells #[.int .i64 x, .int .i64 y] 30))))
                refine (hasItem_any A1 l c1 _ x y HL.out _ (by omega) (ItemsAt.bl I1.out (hw8.trans_ (hb6.trans_ ((Bl.refl w6).alloc_ (.cells #[.int .i64 x, .int .i64 y] 30)))))).mono ?_
                rintro e w7 ⟨rfl, hb7'⟩
                rw [HIN.out]
                have e0 := (bcell hb7').1 w6.heap.size 0 (by simp)
                have e1 := (bcell hb7').1 w6.heap.size 1 (by simp)
                rw [V6.out.1] at e0
                rw [V6.out.2] at e1
                have w6b : Bl w6 w7 := ((Bl.refl w6).alloc_ _).trans_ hb7'
                have v0 := ((bcell w6b).1 _ _ hb6s).trans u0
                have v1 := ((bcell w6b).1 _ _ hb6s).trans u1
                have v2 := ((bcell w6b).2 _ 0 hb6s).trans u2
                have v3 := ((bcell w6b).2 _ 1 hb6s).trans u3'
                have s7 := w6b.size
                have I4b := Lib.hid (ItemsAt.bl I4.out w6b)
                clear u0 u1 u2 u3'
                go_wp2
                go_roundw
                case rel => exact ⟨0 + 1, popRest N, A4, c4, q2, x, y, by go_num, rfl, Q2.out, by omega, CellsAt.set_any (I4b.out.more (by simp)) (fun h0 g hg => by have := G4.out (by have := Q2.out; rw [cs2_length] at h0; omega) g hg; show g ≠ w5.heap.size; omega) |> fun h => CellsAt.set_any h (fun h0 g hg => by have := G4.out (by have := Q2.out; rw [cs2_length] at h0; omega) g hg; show g ≠ w5.heap.size; omega), fun h0 g hg => by have := G4.out h0 g hg; omega, PA.out.1, (fun a ha => hsub.out a (PMR.out a ha).1), (fun _ a ha => by rw [← XY.out]; exact (PMR.out a ha).2), fun h => absurd h (by omega), popRest_wf hWN.out, (hbl.trans_ (hb6.trans_ w6b)).set_ (Nat.le_refl _) _ |> fun h => h.set_ (Nat.le_refl _) _, by simp [go_sem, v0], by simp [go_sem, v1], by simp [go_sem, v2], by simp [go_sem, v3]⟩
                case measure => simp; omega
              · have t3 : decide (y ≤ ly) = false := by simpa using hyl
                clear hyl hls hzk hxw hxl
                go_wp2_with fail
                refine IMN.out.mono ?_
                rintro e w6 ⟨A4, c4, rfl, hi4, hg4, hb6⟩
                have I4 := Lib.hid hi4
                have G4 := Lib.hid hg4
                clear hi4 hg4
                have s6 := hb6.size
                have u0 := ((bcell hb6).1 _ _ hbs).trans z0
                have u1 := ((bcell hb6).1 _ _ hbs).trans z1
                have u2 := ((bcell hb6).2 _ 0 hbs).trans y0
                have u3' := ((bcell hb6).2 _ 1 hbs).trans y1
                have hb6s : w5.heap.size < w6.heap.size := by omega
                go_wp2_with fail
                have V6 := Lib.hid (box2 (Bl.refl (w6.alloc (.cells #[.int .i64 x, .int .i64 y] 30))))
                refine (hasItem_any A1 l c1 _ x y HL.out _ (by omega) (ItemsAt.bl I1.out (hw8.trans_ (hb6.trans_ ((Bl.refl w6).alloc_ (.cells #[.int .i64 x, .int .i64 y] 30)))))).mono ?_
                rintro e w7 ⟨rfl, hb7'⟩
                rw [HIN.out]
                have e0 := (bcell hb7').1 w6.heap.size 0 (by simp)
                have e1 := (bcell hb7').1 w6.heap.size 1 (by simp)
                rw [V6.out.1] at e0
                rw [V6.out.2] at e1
                have w6b : Bl w6 w7 := ((Bl.refl w6).alloc_ _).trans_ hb7'
                have v0 := ((bcell w6b).1 _ _ hb6s).trans u0
                have v1 := ((bcell w6b).1 _ _ hb6s).trans u1
                have v2 := ((bcell w6b).2 _ 0 hb6s).trans u2
                have v3 := ((bcell w6b).2 _ 1 hb6s).trans u3'
                have s7 := w6b.size
                have I4b := Lib.hid (ItemsAt.bl I4.out w6b)
                clear u0 u1 u2 u3'
                go_wp2
                go_roundw
                case rel => exact ⟨0 + 1, popRest N, A4, c4, q2, x, y, by go_num, rfl, Q2.out, by omega, CellsAt.set_any (I4b.out.more (by simp)) (fun h0 g hg => by have := G4.out (by have := Q2.out; rw [cs2_length] at h0; omega) g hg; show g ≠ w5.heap.size; omega) |> fun h => CellsAt.set_any h (fun h0 g hg => by have := G4.out (by have := Q2.out; rw [cs2_length] at h0; omega) g hg; show g ≠ w5.heap.size; omega), fun h0 g hg => by have := G4.out h0 g hg; omega, PA.out.1, (fun a ha => hsub.out a (PMR.out a ha).1), (fun _ a ha => by rw [← XY.out]; exact (PMR.out a ha).2), fun h => absurd h (by omega), popRest_wf hWN.out, (hbl.trans_ (hb6.trans_ w6b)).set_ (Nat.le_refl _) _ |> fun h => h.set_ (Nat.le_refl _) _, by simp [go_sem, v0], by simp [go_sem, v1], by simp [go_sem, v2], by simp [go_sem, v3]⟩
                case measure => simp; omega
            · have t3 : decide (y ≤ ly) = false := by
                have := hls hk
                simp
                omega
              clear hls hzk hxw hxl
              go_wp2_with fail
              refine IMN.out.mono ?_
              rintro e w6 ⟨A4, c4, rfl, hi4, hg4, hb6⟩
              have I4 := Lib.hid hi4
              have G4 := Lib.hid hg4
              clear hi4 hg4
              have s6 := hb6.size
              have u0 := ((bcell hb6).1 _ _ hbs).trans z0
              have u1 := ((bcell hb6).1 _ _ hbs).trans z1
              have u2 := ((bcell hb6).2 _ 0 hbs).trans y0
              have u3' := ((bcell hb6).2 _ 1 hbs).trans y1
              have hb6s : w5.heap.size < w6.heap.size := by omega
              go_wp2_with fail
              have V6 := Lib.hid (box2 (Bl.refl (w6.alloc (.cells #[.int .i64 x, .int .i64 y] 30))))
              refine (hasItem_any A1 l c1 _ x y HL.out _ (by omega) (ItemsAt.bl I1.out (hw8.trans_ (hb6.trans_ ((Bl.refl w6).alloc_ (.cells #[.int .i64 x, .int .i64 y] 30)))))).mono ?_
              rintro e w7 ⟨rfl, hb7'⟩
              rw [HIN.out]
              have e0 := (bcell hb7').1 w6.heap.size 0 (by simp)
              have e1 := (bcell hb7').1 w6.heap.size 1 (by simp)
              rw [V6.out.1] at e0
              rw [V6.out.2] at e1
              have w6b : Bl w6 w7 := ((Bl.refl w6).alloc_ _).trans_ hb7'
              have v0 := ((bcell w6b).1 _ _ hb6s).trans u0
              have v1 := ((bcell w6b).1 _ _ hb6s).trans u1
              have v2 := ((bcell w6b).2 _ 0 hb6s).trans u2
              have v3 := ((bcell w6b).2 _ 1 hb6s).trans u3'
              have s7 := w6b.size
              have I4b := Lib.hid (ItemsAt.bl I4.out w6b)
              clear u0 u1 u2 u3'
              go_wp2
              go_roundw
              case rel => exact ⟨k + 1, popRest N, A4, c4, q2, x, y, by go_num, rfl, Q2.out, by omega, CellsAt.set_any (I4b.out.more (by simp)) (fun h0 g hg => by have := G4.out (by have := Q2.out; rw [cs2_length] at h0; omega) g hg; show g ≠ w5.heap.size; omega) |> fun h => CellsAt.set_any h (fun h0 g hg => by have := G4.out (by have := Q2.out; rw [cs2_length] at h0; omega) g hg; show g ≠ w5.heap.size; omega), fun h0 g hg => by have := G4.out h0 g hg; omega, PA.out.1, (fun a ha => hsub.out a (PMR.out a ha).1), (fun _ a ha => by rw [← XY.out]; exact (PMR.out a ha).2), fun h => absurd h (by omega), popRest_wf hWN.out, (hbl.trans_ (hb6.trans_ w6b)).set_ (Nat.le_refl _) _ |> fun h => h.set_ (Nat.le_refl _) _, by simp [go_sem, v0], by simp [go_sem, v1], by simp [go_sem, v2], by simp [go_sem, v3]⟩
              case measure => simp; omega
          · have t2 : (x == lx) = false := by simpa using hxl
            clear hls hzk hxw hxl
            go_wp2_with fail
            refine IMN.out.mono ?_
            rintro e w6 ⟨A4, c4, rfl, hi4, hg4, hb6⟩
            have I4 := Lib.hid hi4
            have G4 := Lib.hid hg4
            clear hi4 hg4
            have s6 := hb6.size
            have u0 := ((bcell hb6).1 _ _ hbs).trans z0
            have u1 := ((bcell hb6).1 _ _ hbs).trans z1
            have u2 := ((bcell hb6).2 _ 0 hbs).trans y0
            have u3' := ((bcell hb6).2 _ 1 hbs).trans y1
            have hb6s : w5.heap.size < w6.heap.size := by omega
            go_wp2_with fail
            have V6 := Lib.hid (box2 (Bl.refl (w6.alloc (.cells #[.int .i64 x, .int .i64 y] 30))))
            refine (hasItem_any A1 l c1 _ x y HL.out _ (by omega) (ItemsAt.bl I1.out (hw8.trans_ (hb6.trans_ ((Bl.refl w6).alloc_ (.cells #[.int .i64 x, .int .i64 y] 30)))))).mono ?_
            rintro e w7 ⟨rfl, hb7'⟩
            rw [HIN.out]
            have e0 := (bcell hb7').1 w6.heap.size 0 (by simp)
            have e1 := (bcell hb7').1 w6.heap.size 1 (by simp)
            rw [V6.out.1] at e0
            rw [V6.out.2] at e1
            have w6b : Bl w6 w7 := ((Bl.refl w6).alloc_ _).trans_ hb7'
            have v0 := ((bcell w6b).1 _ _ hb6s).trans u0
            have v1 := ((bcell w6b).1 _ _ hb6s).trans u1
            have v2 := ((bcell w6b).2 _ 0 hb6s).trans u2
            have v3 := ((bcell w6b).2 _ 1 hb6s).trans u3'
            have s7 := w6b.size
            have I4b := Lib.hid (ItemsAt.bl I4.out w6b)
            clear u0 u1 u2 u3'
            go_wp2
            go_roundw
            case rel => exact ⟨k + 1, popRest N, A4, c4, q2, x, y, by go_num, rfl, Q2.out, by omega, CellsAt.set_any (I4b.out.more (by simp)) (fun h0 g hg => by have := G4.out (by have := Q2.out; rw [cs2_length] at h0; omega) g hg; show g ≠ w5.heap.size; omega) |> fun h => CellsAt.set_any h (fun h0 g hg => by have := G4.out (by have := Q2.out; rw [cs2_length] at h0; omega) g hg; show g ≠ w5.heap.size; omega), fun h0 g hg => by have := G4.out h0 g hg; omega, PA.out.1, (fun a ha => hsub.out a (PMR.out a ha).1), (fun _ a ha => by rw [← XY.out]; exact (PMR.out a ha).2), fun h => absurd h (by omega), popRest_wf hWN.out, (hbl.trans_ (hb6.trans_ w6b)).set_ (Nat.le_refl _) _ |> fun h => h.set_ (Nat.le_refl _) _, by simp [go_sem, v0], by simp [go_sem, v1], by simp [go_sem, v2], by simp [go_sem, v3]⟩
            case measure => simp; omega
        · obtain rfl : q = 0 := by omega
          have hmk : ((k : Int) == (l : Int)) = true := by simp; omega
          have I2 := Lib.hid (ItemsAt.bl I2.out hbl)
          go_wp2_with fail
          refine (implHeapOk_any A2 m c2 _ HM.out _ (by omega) (fun k => (WH.out k).2) I2.out).mono ?_
          rintro e w9 ⟨rfl, hb9⟩
          rw [HH.out]
          go_wp2
          go_ret
          exact ⟨rfl, B1.out.trans_ (hw8.trans_ hb9)⟩

end Go.Proofs.Ytedajkbnkfanmaa
