/-
  What is proved here: the walk of the law FnPush: at every code that can be read it returns true and leaves what was there as it was. No conditions beyond those that each theorem states.
-/
import Derived.Test.YtnpngkppbmndiabR4
set_option linter.unusedSimpArgs false
set_option linter.unusedVariables false
namespace Go.Proofs.Ytnpngkppbmndiab
open Go.RowKit

theorem pushR_all {L : List It} {x : It} (h : pushB L x = true) : heapI (pushR L x) = true ∧ (∀ a ∈ L, a ∈ pushR L x) ∧ x ∈ pushR L x ∧ (pushR L x).length = L.length + 1 := by
  have hb := h
  simp only [pushB, Bool.and_eq_true, decide_eq_true_eq] at hb
  obtain ⟨h1, h2⟩ := push_heap hb.1 hb.2.1 hb.2.2
  rw [pushR_yes h]
  exact ⟨h1, fun a ha => h2.mem_iff.2 (by simp [ha]), h2.mem_iff.2 (by simp), by rw [upI_len]; simp⟩

set_option maxRecDepth 100000 in
set_option maxHeartbeats 2000000 in
theorem lawPush_any (A : Option Addr) (n c : Nat) (w : World) (H : BytesAt w A n) (hA : 0 < n → ∀ g, blockOf A = some g → g < w.heap.size) :
    Calls Try.prog 8 #[.slice A n c] w fun e w' => e = .returned (.bool true) ∧ Bl w w' := by
  have K := Lib.hid H
  have HA := Lib.hid hA
  clear H hA
  by_cases hbig : (1048576 : Int) < (n : Int)
  · have hb : decide ((1048576 : Int) < (n : Int)) = true := by simpa using hbig
    clear hbig
    go_enter Try.func8, Try.ntmps8
    go_wp2_with (go_at_call 29; refine (big_any _ _ _ _).mono ?_; rintro e w' ⟨rfl, rfl⟩)
    go_ret
    exact ⟨rfl, (by repeat' (first | exact Bl.refl _ | with_reducible assumption | with_reducible refine Bl.drew_ ?_ | with_reducible refine Bl.drewN_ ?_ _ | with_reducible refine Bl.alloc_ ?_ _ | with_reducible refine Bl.trans_ ?_ (by assumption) | with_reducible refine Bl.trans_ ?_ (And.left (by assumption))))⟩
  · have hb : decide ((1048576 : Int) < (n : Int)) = false := by simpa using hbig
    have hn : n ≤ 1099511627776 := by omega
    clear hbig
    go_enter Try.func8, Try.ntmps8
    go_wp2_with fail
    refine (big_any _ _ _ _).mono ?_
    rintro e w1 ⟨rfl, rfl⟩
    go_wp2_with fail
    refine (drawHeapPush_any A n c _ hn K.out HA.out).mono ?_
    rintro e w1 ⟨v, L, x, y, rfl, hO, hwf, hl, wx, wy, hb1⟩
    obtain ⟨A1, c1, rfl, -⟩ := Owns.shape hO
    have I1 := Lib.hid hO.at_
    have WF := Lib.hid hwf
    have WX := Lib.hid wx
    have WY := Lib.hid wy
    have B1 := Lib.hid hb1
    clear hO hwf wx wy hb1
    obtain ⟨l, hl'⟩ : ∃ l, l = L.length := ⟨_, rfl⟩
    rw [← hl'] at hl ⊢
    have HL := Lib.hid hl'
    clear hl'
    obtain ⟨r, hr⟩ : ∃ r, pushB L (x, y) = r := ⟨_, rfl⟩
    have PB := Lib.hid hr
    clear hr
    obtain ⟨m, hm⟩ : ∃ m, m = (pushR L (x, y)).length := ⟨_, rfl⟩
    have hm100 : m ≤ 100 := by rw [hm]; exact pushR_len L (x, y)
    have HM := Lib.hid hm
    clear hm
    have SH := Lib.hid (show ∀ wx, Bl (w1.alloc (.cells #[.int .i64 x, .int .i64 y] 33)) wx → (wx.cell? ⟨w1.heap.size, 0, none⟩ = some (.int .i64 x) ∧ wx.cell? ⟨w1.heap.size, 1, none⟩ = some (.int .i64 y)) ∧ Bl w1 wx from fun wx h => ⟨box2 h, ((Bl.refl w1).alloc_ _).trans_ h⟩)
    obtain ⟨⟨q0, q1⟩, -⟩ := SH.out _ (Bl.refl _)
    go_wp2_with fail
    refine (implHeapPush_any A1 l c1 L x y HL.out _ (by omega) (fun k => (WF.out k).2) (ItemsAt.bl I1.out ((Bl.refl w1).alloc_ _))).mono ?_
    rintro e w2 ⟨v2, rfl, hO2, hb2⟩
    obtain ⟨A2, c2, rfl, -⟩ := Owns.shape hO2
    have I2 := Lib.hid hO2.at_
    rw [PB.out, ← HM.out]
    clear hO2 q0 q1
    obtain ⟨⟨q0, q1⟩, hw2⟩ := SH.out _ hb2
    go_wp2_with fail
    refine (specHeapPush_any A1 l c1 L x y HL.out _ (by omega) (ItemsAt.bl I1.out hw2)).mono ?_
    rintro e w3 ⟨v3, rfl, hO3, hb3⟩
    obtain ⟨A3, c3, rfl, -⟩ := Owns.shape hO3
    have I3 := Lib.hid hO3.at_
    have I2 := Lib.hid (ItemsAt.bl I2.out hb3)
    have hb3 := hb2.trans_ hb3
    rw [PB.out, ← HM.out]
    clear hO3 q0 q1
    obtain ⟨⟨q0, q1⟩, hw3⟩ := SH.out _ hb3
    go_wp2_with fail
    refine (drawHeapOk_any A n c _ hn (K.out.bl (B1.out.trans_ hw3)) (fun h0 g h => by have := HA.out h0 g h; have := (B1.out.trans_ hw3).size; omega)).mono ?_
    rintro e w4 ⟨v4, Y, rfl, hO4, hwf4, hl4, hb4⟩
    obtain ⟨A4, c4, rfl, -⟩ := Owns.shape hO4
    have I4 := Lib.hid hO4.at_
    have WF4 := Lib.hid hwf4
    have I2 := Lib.hid (ItemsAt.bl I2.out hb4)
    have I3 := Lib.hid (ItemsAt.bl I3.out hb4)
    have hb4 := hb3.trans_ hb4
    clear hO4 hwf4 q0 q1
    obtain ⟨t, ht⟩ : ∃ t, t = Y.length := ⟨_, rfl⟩
    rw [← ht] at hl4 ⊢
    have HT := Lib.hid ht
    clear ht
    have hrr : (r != r) = false := by simp
    have hre : (r == r) = true := by simp
    have hyy : (heapI Y != heapI Y) = false := by simp
    have hye : (heapI Y == heapI Y) = true := by simp
    go_wp2_with fail
    refine (sameItems_yes A2 A3 c2 c3 _ m HM.out _ (by omega) I2.out I3.out).mono ?_
    rintro e w5 ⟨rfl, hb5⟩
    have I2 := Lib.hid (ItemsAt.bl I2.out hb5)
    have I3 := Lib.hid (ItemsAt.bl I3.out hb5)
    have I4 := Lib.hid (ItemsAt.bl I4.out hb5)
    have hb5 := hb4.trans_ hb5
    go_wp2_with fail
    refine (implHeapOk_any A4 t c4 Y HT.out _ (by omega) (fun k => (WF4.out k).2) I4.out).mono ?_
    rintro e w6 ⟨rfl, hb6⟩
    have I2 := Lib.hid (ItemsAt.bl I2.out hb6)
    have I3 := Lib.hid (ItemsAt.bl I3.out hb6)
    have I4 := Lib.hid (ItemsAt.bl I4.out hb6)
    have hb6 := hb5.trans_ hb6
    go_wp2_with fail
    refine (specHeapOk_any A4 t c4 Y HT.out _ (by omega) I4.out).mono ?_
    rintro e w7 ⟨rfl, hb7⟩
    have I2 := Lib.hid (ItemsAt.bl I2.out hb7)
    have I3 := Lib.hid (ItemsAt.bl I3.out hb7)
    have I4 := Lib.hid (ItemsAt.bl I4.out hb7)
    have hb7 := hb6.trans_ hb7
    cases r with
    | false =>
      go_wp2_with fail
      refine (sameItems_yes A2 A3 c2 c3 _ m HM.out _ (by omega) I2.out I3.out).mono ?_
      rintro e w8 ⟨rfl, hb8⟩
      have I4 := Lib.hid (ItemsAt.bl I4.out hb8)
      have hb8 := hb7.trans_ hb8
      go_wp2_with fail
      refine (implHeapOk_any A4 t c4 Y HT.out _ (by omega) (fun k => (WF4.out k).2) I4.out).mono ?_
      rintro e w9 ⟨rfl, hb9⟩
      have I4 := Lib.hid (ItemsAt.bl I4.out hb9)
      have hb9 := hb8.trans_ hb9
      go_wp2_with fail
      refine (specHeapOk_any A4 t c4 Y HT.out _ (by omega) I4.out).mono ?_
      rintro e w10 ⟨rfl, hb10⟩
      have hb10 := hb9.trans_ hb10
      go_wp2
      go_ret
      exact ⟨rfl, B1.out.trans_ (SH.out _ hb10).2⟩
    | true =>
      have PA := Lib.hid (pushR_all PB.out)
      have hml : m = l + 1 := by rw [HM.out, HL.out]; exact PA.out.2.2.2
      have HML := Lib.hid hml
      clear hml
      go_wp2_with fail
      go_loopw [10] (fun i wr => ∃ k : Nat, k ≤ l ∧ i = .int .i64 k ∧ Bl w7 wr) (fun i _ => l - (intOf i).toNat)
      case atStart => exact ⟨0, by omega, rfl, Bl.refl _⟩
      case round =>
        obtain ⟨k, hk, rfl, hbl⟩ := hrel
        have hb8 := hb7.trans_ hbl
        obtain ⟨⟨q0, q1⟩, hw8⟩ := SH.out _ hb8
        have I2 := Lib.hid (ItemsAt.bl I2.out hbl)
        by_cases hlt : k < l
        · have hkl : k < L.length := by have := HL.out; omega
          have i0 : (k : Int) < (l : Int) := by omega
          obtain ⟨g1, o1, rfl, hg1, hc1⟩ := I1.out.cell (by omega)
          obtain ⟨p1, p2⟩ := hc1 k hkl
          rw [← (bcell hw8).1 _ _ hg1] at p1 p2
          clear hc1
          generalize hx : L[k].1 = x1 at p1
          generalize hy : L[k].2 = y1 at p2
          have HIN := Lib.hid (show decide ((x1, y1) ∈ pushR L (x, y)) = true from by rw [decide_eq_true_eq, ← hx, ← hy]; exact PA.out.2.1 _ (List.getElem_mem hkl))
          clear hx hy q0 q1
          go_wp2_with fail
          refine (hasItem_any A2 m c2 _ x1 y1 HM.out _ (by omega) I2.out).mono ?_
          rintro e w9 ⟨rfl, hb9⟩
          rw [HIN.out]
          go_wp2
          go_roundw
          case rel => exact ⟨k + 1, by omega, by go_num, hbl.trans_ hb9⟩
          case measure => simp [intOf]; omega
        · have hmk : ((m : Int) == (l : Int) + 1) = true := by have := HML.out; simp; omega
          go_wp2_with fail
          refine (implHeapOk_any A2 m c2 _ HM.out _ (by omega) (fun k => (pushR_wf WF.out WX.out WY.out k).2) I2.out).mono ?_
          rintro e w9 ⟨rfl, hb9⟩
          rw [PA.out.1]
          have hb9' := hb8.trans_ hb9
          clear q0 q1
          obtain ⟨⟨q0, q1⟩, hw9⟩ := SH.out _ hb9'
          go_wp2_with fail
          refine (hasItem_any A2 m c2 _ x y HM.out _ (by omega) (ItemsAt.bl I2.out hb9)).mono ?_
          rintro e w10 ⟨rfl, hb10⟩
          rw [show decide ((x, y) ∈ pushR L (x, y)) = true from by rw [decide_eq_true_eq]; exact PA.out.2.2.1]
          go_wp2
          go_ret
          exact ⟨rfl, B1.out.trans_ (hw9.trans_ hb10)⟩

end Go.Proofs.Ytnpngkppbmndiab
