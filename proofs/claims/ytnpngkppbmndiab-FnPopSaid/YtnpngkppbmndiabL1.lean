/-
  What is proved here: the walk of the exact law on HeapOk: at all items that can be read it returns true and leaves what was there as it was. No conditions beyond those that each theorem states.
-/
import Derived.Test.YtnpngkppbmndiabJ1
set_option linter.unusedSimpArgs false
set_option linter.unusedVariables false
namespace Go.Proofs.Ytnpngkppbmndiab
open Go.RowKit

theorem OwnI.at_ {w : World} {B : Nat} {A : Option Addr} {n c : Nat} {L : List It} (h : OwnI w B (.slice A n c) L) : ItemsAt w w.heap.size A L := by
  obtain ⟨A', c', e, _, hc, _⟩ := Owns.shape h
  injection e with e1 e2 e3
  rw [e1]
  exact hc
theorem OwnI.rows_ {w : World} {B : Nat} {A : Option Addr} {n c : Nat} {L : List It} (h : OwnI w B (.slice A n c) L) (hn : n = L.length) : ItemsW w A n := by
  subst hn
  obtain ⟨A', c', e, _, _, hc, _⟩ := Owns.shape h
  injection e with e1 e2 e3
  rw [e1]
  exact hc

set_option maxHeartbeats 1000000 in
theorem lawHeapOk_any (A : Option Addr) (n c : Nat) (L : List It) (hn : n = L.length) (w : World) (hm : n ≤ 9223372036854775807) (hwf : WfI L) (H1 : ItemsAt w w.heap.size A L) :
    Calls Try.prog 3 #[.slice A n c] w fun e w' => e = .returned (.bool true) ∧ Bl w w' := by
  have K1 := Lib.hid H1
  have HN := Lib.hid hn
  have HW := Lib.hid hwf
  clear H1 hn hwf
  by_cases hbig : (1048576 : Int) - n < 0
  · go_enter Try.func3, Try.ntmps3
    go_wp2_with (go_at_call 12; refine (szItemS_any _ _ _ _ _ hm (by omega) (by omega)).mono ?_; rintro e w' ⟨rfl, rfl⟩)
    go_ret
    exact ⟨rfl, (by repeat' (first | exact Bl.refl _ | with_reducible assumption | with_reducible refine Bl.drew_ ?_ | with_reducible refine Bl.drewN_ ?_ _ | with_reducible refine Bl.alloc_ ?_ _ | with_reducible refine Bl.trans_ ?_ (by assumption) | with_reducible refine Bl.trans_ ?_ (And.left (by assumption))))⟩
  · have hm' : n ≤ 1048576 := by omega
    clear hbig
    have p1 : (0 : Int) ≤ 1048576 - (n : Int) := by omega
    go_enter Try.func3, Try.ntmps3
    go_wp2_with fail
    refine (szItemS_small A n c _ hm').mono ?_
    rintro e w1 ⟨rfl, rfl⟩
    go_wp2_with fail
    refine (toItemS_any A n c L HN.out _ hm' K1.out).mono ?_
    rintro e w2 ⟨g2, rfl, ha2, hb2, -⟩
    have HA2 := Lib.hid ha2.at_
    clear ha2
    go_wp2_with fail
    refine (specHeapOk_any _ n n L HN.out _ hm' HA2.out).mono ?_
    rintro e w3 ⟨rfl, hb3⟩
    have hb3 := hb2.trans_ hb3
    go_wp2_with fail
    refine (toItemS_any A n c L HN.out _ hm' (K1.out.bl hb3)).mono ?_
    rintro e w4 ⟨g4, rfl, ha4, hb4, -⟩
    have hb4 := hb3.trans_ hb4
    have HA4 := Lib.hid ha4.at_
    clear ha4
    go_wp2_with fail
    refine (implHeapOk_any _ n n L HN.out _ hm' HW.out HA4.out).mono ?_
    rintro e w5 ⟨rfl, hb5⟩
    have HA5 := Lib.hid (ItemsAt.bl HA4.out hb5)
    have hb5 := hb4.trans_ hb5
    have hne : (heapI L != heapI L) = false := by simp
    go_wp2_with fail
    refine (toItemS_any A n c L HN.out _ hm' (K1.out.bl hb5)).mono ?_
    rintro e w6 ⟨g6, rfl, ha6, hb6, -⟩
    have HA6 := Lib.hid ha6.at_
    clear ha6
    go_wp2_with fail
    refine (eqItemS_yes _ _ n n L n HN.out _ hm (HA5.out.bl hb6) HA6.out).mono ?_
    rintro e w7 ⟨rfl, hb7⟩
    go_wp2
    go_ret
    exact ⟨rfl, hb5.trans_ (hb6.trans_ hb7)⟩

end Go.Proofs.Ytnpngkppbmndiab
