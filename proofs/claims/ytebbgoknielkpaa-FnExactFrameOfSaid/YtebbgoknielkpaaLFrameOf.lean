/-
  What is proved here: the walk of the exact law on FrameOf: at every text it returns true and leaves what was there as it was. No conditions beyond those that each theorem states.
-/
import Derived.Test.YtebbgoknielkpaaFRB
set_option linter.unusedSimpArgs false
set_option linter.unusedVariables false
namespace Go.Proofs.Ytebbgoknielkpaa
open Go.RowKit

theorem toList_self (s : ByteArray) : (s.toList == s.toList) = true := by simp

set_option maxHeartbeats 2000000 in
theorem lawFrameOf_any (s : ByteArray) (hm : s.size ≤ 9223372036854775807) (w : World) :
    Calls Try.prog 3 #[.string s] w fun e w' => e = .returned (.bool true) ∧ Bl w w' := by
  by_cases hbig : (1048576 : Int) < (s.size : Int)
  · go_enter Try.func3, Try.ntmps3
    go_wp2
    go_ret
    exact ⟨rfl, (by repeat' (first | exact Bl.refl _ | with_reducible assumption | with_reducible refine Bl.drew_ ?_ | with_reducible refine Bl.drewN_ ?_ _ | with_reducible refine Bl.alloc_ ?_ _ | with_reducible refine Bl.trans_ ?_ (by assumption) | with_reducible refine Bl.trans_ ?_ (And.left (by assumption))))⟩
  · have hm' : s.size ≤ 1048576 := by omega
    go_enter Try.func3, Try.ntmps3
    go_wp2_with fail
    refine (specFrame_any s hm' _).mono ?_
    rintro e w1 ⟨⟨z1, rfl, hz1⟩, hb1⟩
    have HZ := Lib.hid hz1
    clear hz1
    go_wp2_with fail
    refine (implFrame_any s hm' _).mono ?_
    rintro e w2 ⟨⟨z2, rfl, hz2⟩, hb2⟩
    have hzz : z2 = z1 := by rw [HZ.out, hz2]
    clear hz2
    subst hzz
    go_wp2
    go_ret
    exact ⟨rfl, (by repeat' (first | exact Bl.refl _ | with_reducible assumption | with_reducible refine Bl.drew_ ?_ | with_reducible refine Bl.drewN_ ?_ _ | with_reducible refine Bl.alloc_ ?_ _ | with_reducible refine Bl.trans_ ?_ (by assumption) | with_reducible refine Bl.trans_ ?_ (And.left (by assumption))))⟩

end Go.Proofs.Ytebbgoknielkpaa
