/-
  What is proved here: the walk of the law FnHeapLess: at every code that can be read it returns true and leaves what was there as it was. No conditions beyond those that each theorem states.
-/
import Derived.Test.YtnpngkppbmndiabR7
set_option linter.unusedSimpArgs false
set_option linter.unusedVariables false
namespace Go.Proofs.Ytnpngkppbmndiab
open Go.RowKit

theorem lessR_all {L : List It} {id key : Int} (h : lessB L id key = true) : heapI (lessR L id key) = true ∧ (∀ a ∈ L, a.2 ≠ id → a ∈ lessR L id key) ∧ (key, id) ∈ lessR L id key ∧ (lessR L id key).length = L.length := by
  have hb := h
  simp only [lessB, Bool.and_eq_true, decide_eq_true_eq] at hb
  obtain ⟨k, hk, -⟩ := placeI_lt hb.2.1
  have hkey := hb.2.2
  rw [hk] at hkey
  rw [lessR_yes h hk]
  exact less_heap hb.1 hk (by simpa using hkey)
theorem lessR_wf {L : List It} {id key : Int} (h : WfL L) (h1 : (Lit.int .i64 key).wf = true) : WfL (lessR L id key) := by
  cases hp : lessB L id key with
  | false => rw [lessR_no hp]; intro k; simp [atI]; decide
  | true =>
    have hb := hp
    simp only [lessB, Bool.and_eq_true, decide_eq_true_eq] at hb
    obtain ⟨j, hj, hjl⟩ := placeI_lt hb.2.1
    rw [lessR_yes hp hj]
    have hP := upI_perm j (L.set j (key, (atI L j).2)) (by simpa using hjl)
    have hS : ∀ k, (Lit.int .i64 (atI (L.set j (key, (atI L j).2)) k).1).wf = true ∧ (Lit.int .i64 (atI (L.set j (key, (atI L j).2)) k).2).wf = true :=
      set_all (P := fun x => (Lit.int .i64 x.1).wf = true ∧ (Lit.int .i64 x.2).wf = true) h (x := (key, (atI L j).2)) ⟨h1, (h j).2⟩ j
    intro k
    rcases Nat.lt_or_ge k (upI (L.set j (key, (atI L j).2)) j).length with hk | hk
    · have hm : atI (upI (L.set j (key, (atI L j).2)) j) k ∈ L.set j (key, (atI L j).2) := hP.mem_iff.1 (by rw [atI_eq hk]; exact List.getElem_mem hk)
      obtain ⟨i, hi, e⟩ := List.mem_iff_getElem.1 hm
      rw [← e, ← atI_eq hi]
      exact hS i
    · have e : atI (upI (L.set j (key, (atI L j).2)) j) k = (0, 0) := by show List.getD _ _ _ = _; rw [List.getD_eq_getElem?_getD, List.getElem?_eq_none hk]; rfl
      rw [e]
      exact ⟨by decide, by decide⟩

set_option maxRecDepth 100000 in
set_option maxHeartbeats 2000000 in
theorem lawLess_any (A : Option Addr) (n c : Nat) (w : World) (H : BytesAt w A n) (hA : 0 < n → ∀ g, blockOf A = some g → g < w.heap.size) :
    Calls Try.prog 10 #[.slice A n c] w fun e w' => e = .returned (.bool true) ∧ Bl w w' := by
  have K := Lib.hid H
  have HA := Lib.hid hA
  clear H hA
  by_cases hbig : (1048576 : Int) < (n : Int)
  · have hb : decide ((1048576 : Int) < (n : Int)) = true := by simpa using hbig
    clear hbig
    go_enter Try.func10, Try.ntmps10
    go_wp2_with (go_at_call 29; refine (big_any _ _ _ _).mono ?_; rintro e w' ⟨rfl, rfl⟩)
    go_ret
    exact ⟨rfl, (by repeat' (first | exact Bl.refl _ | with_reducible assumption | with_reducible refine Bl.drew_ ?_ | with_reducible refine Bl.drewN_ ?_ _ | with_reducible refine Bl.alloc_ ?_ _ | with_reducible refine Bl.trans_ ?_ (by assumption) | with_reducible refine Bl.trans_ ?_ (And.left (by assumption))))⟩
  · have hb : decide ((1048576 : Int) < (n : Int)) = false := by simpa using hbig
    have hn : n ≤ 1099511627776 := by omega
    clear hbig
    go_enter Try.func10, Try.ntmps10
    go_wp2_with fail
    refine (big_any _ _ _ _).mono ?_
    rintro e w1 ⟨rfl, rfl⟩
    go_wp2_with fail
    refine (drawHeapLess_any A n c _ hn K.out HA.out).mono ?_
    rintro e w1 ⟨v, L, id, key, rfl, hO, hwf, hl, wk, hb1⟩
    obtain ⟨A1, c1, rfl, -⟩ := Owns.shape hO
    have I1 := Lib.hid hO.at_
    have WF := Lib.hid hwf
    have WK := Lib.hid wk
    have B1 := Lib.hid hb1
    clear hO hwf wk hb1
    obtain ⟨l, hl'⟩ : ∃ l, l = L.length := ⟨_, rfl⟩
    rw [← hl'] at hl ⊢
    have HL := Lib.hid hl'
    clear hl'
    obtain ⟨r, hr⟩ : ∃ r, lessB L id key = r := ⟨_, rfl⟩
    have PB := Lib.hid hr
    clear hr
    obtain ⟨m, hm⟩ : ∃ m, m = (lessR L id key).length := ⟨_, rfl⟩
    have hm100 : m ≤ 20 := by rw [hm]; have := lessR_len L id key; have := HL.out; omega
    have HM := Lib.hid hm
    clear hm
    go_wp2_with fail
    refine (implHeapLess_any A1 l c1 L id key HL.out _ (by omega) (fun k => (WF.out k).2) I1.out).mono ?_
    rintro e w2 ⟨v2, rfl, hO2, hb2⟩
    obtain ⟨A2, c2, rfl, -⟩ := Owns.shape hO2
    have I2 := Lib.hid hO2.at_
    rw [PB.out, ← HM.out]
    clear hO2
    go_wp2_with fail
    refine (specHeapLess_any A1 l c1 L id key HL.out _ (by omega) (ItemsAt.bl I1.out hb2)).mono ?_
    rintro e w3 ⟨v3, rfl, hO3, hb3⟩
    obtain ⟨A3, c3, rfl, -⟩ := Owns.shape hO3
    have I3 := Lib.hid hO3.at_
    have I2 := Lib.hid (ItemsAt.bl I2.out hb3)
    have hb3 := hb2.trans_ hb3
    rw [PB.out, ← HM.out]
    clear hO3
    have hrr : (r != r) = false := by simp
    have hre : (r == r) = true := by simp
    go_wp2_with fail
    refine (sameItems_yes A2 A3 c2 c3 _ m HM.out _ (by omega) I2.out I3.out).mono ?_
    rintro e w5 ⟨rfl, hb5⟩
    have I2 := Lib.hid (ItemsAt.bl I2.out hb5)
    have I3 := Lib.hid (ItemsAt.bl I3.out hb5)
    have hb7 := hb3.trans_ hb5
    cases r with
    | false =>
      go_wp2_with fail
      refine (sameItems_yes A2 A3 c2 c3 _ m HM.out _ (by omega) I2.out I3.out).mono ?_
      rintro e w8 ⟨rfl, hb8⟩
      have hb8 := hb7.trans_ hb8
      go_wp2
      go_ret
      exact ⟨rfl, B1.out.trans_ hb8⟩
    | true =>
      have PA := Lib.hid (lessR_all PB.out)
      have hml : m = l := by rw [HM.out, HL.out]; exact PA.out.2.2.2
      have HML := Lib.hid hml
      clear hml
      go_wp2_with fail
      go_loopw [10] (fun i wr => ∃ k : Nat, k ≤ l ∧ i = .int .i64 k ∧ Bl w5 wr) (fun i _ => l - (intOf i).toNat)
      case atStart => exact ⟨0, by omega, rfl, Bl.refl _⟩
      case round =>
        obtain ⟨k, hk, rfl, hbl⟩ := hrel
        have hw8 := hb7.trans_ hbl
        have I2 := Lib.hid (ItemsAt.bl I2.out hbl)
        by_cases hlt : k < l
        · have hkl : k < L.length := by have := HL.out; omega
          have i0 : (k : Int) < (l : Int) := by omega
          obtain ⟨g1, o1, rfl, hg1, hc1⟩ := I1.out.cell (by omega)
          obtain ⟨p1, p2⟩ := hc1 k hkl
          rw [← (bcell hw8).1 _ _ hg1] at p1 p2
          clear hc1
          generalize hx : L[k].1 = x1 at p1
          generalize hy : L[k].2 = y1 at p2
          by_cases hyi : y1 = id
          · have n1 : (y1 != id) = false := by simp [hyi]
            clear hyi hx hy
            go_wp2
            go_roundw
            case rel => exact ⟨k + 1, by omega, by go_num, hbl⟩
            case measure => simp [intOf]; omega
          · have n1 : (y1 != id) = true := by simp [hyi]
            have HIN := Lib.hid (show decide ((x1, y1) ∈ lessR L id key) = true from by rw [decide_eq_true_eq, ← hx, ← hy]; exact PA.out.2.1 _ (List.getElem_mem hkl) (by rw [hy]; exact hyi))
            clear hx hy hyi
            go_wp2_with fail
            refine (hasItem_any A2 m c2 _ x1 y1 HM.out _ (by omega) I2.out).mono ?_
            rintro e w9 ⟨rfl, hb9⟩
            rw [HIN.out]
            go_wp2
            go_roundw
            case rel => exact ⟨k + 1, by omega, by go_num, hbl.trans_ hb9⟩
            case measure => simp [intOf]; omega
        · have hmk : ((m : Int) == (l : Int)) = true := by have := HML.out; simp; omega
          go_wp2_with fail
          refine (implHeapOk_any A2 m c2 _ HM.out _ (by omega) (fun k => (lessR_wf WF.out WK.out k).2) I2.out).mono ?_
          rintro e w9 ⟨rfl, hb9⟩
          rw [PA.out.1]
          go_wp2_with fail
          refine (hasItem_any A2 m c2 _ key id HM.out _ (by omega) (ItemsAt.bl I2.out hb9)).mono ?_
          rintro e w10 ⟨rfl, hb10⟩
          rw [show decide ((key, id) ∈ lessR L id key) = true from by rw [decide_eq_true_eq]; exact PA.out.2.2.1]
          go_wp2
          go_ret
          exact ⟨rfl, B1.out.trans_ (hw8.trans_ (hb9.trans_ hb10))⟩

end Go.Proofs.Ytnpngkppbmndiab
