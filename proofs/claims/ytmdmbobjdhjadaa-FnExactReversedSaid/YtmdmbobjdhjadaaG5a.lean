/-
  What is proved here: a graph that was marked holds its marks. No conditions beyond those that each theorem states.
-/
import Derived.Test.YtmdmbobjdhjadaaE3b
set_option linter.unusedSimpArgs false
set_option linter.unusedVariables false
namespace Go.Proofs.Ytmdmbobjdhjadaa
open Go.RowKit

set_option maxHeartbeats 400000 in
theorem heldGraph_any (N : Int) (A : Option Addr) (n c : Nat) (k : Int) (w : World) (hn : n ≤ 1048576) (hk0 : 0 ≤ k) (hk1 : k ≤ 1099511627776) (HM : MarkedAt w A n k) :
    Calls Try.prog 53 #[.agg #[.int .i64 N, .slice A n c], .int .i64 k] w fun e w' => e = .returned (.int .i64 (k + 3 * n)) ∧ Bl w w' := by
  have M := Lib.hid HM
  clear HM
  have p0 : (0 : Int) ≤ k + 3 * (n : Int) := by omega
  go_enter Try.func53, Try.ntmps53
  go_wp2_with fail
  refine (heldArcS_any A n c k _ hn hk0 hk1 (M.out.bl (by repeat' (first | exact Bl.refl _ | with_reducible assumption | with_reducible refine Bl.drew_ ?_ | with_reducible refine Bl.drewN_ ?_ _ | with_reducible refine Bl.alloc_ ?_ _ | with_reducible refine Bl.trans_ ?_ (by assumption) | with_reducible refine Bl.trans_ ?_ (And.left (by assumption)))))).mono ?_
  rintro e w1 ⟨rfl, rfl⟩
  go_wp2
  go_ret
  exact ⟨ret_int rfl, (by repeat' (first | exact Bl.refl _ | with_reducible assumption | with_reducible refine Bl.drew_ ?_ | with_reducible refine Bl.drewN_ ?_ _ | with_reducible refine Bl.alloc_ ?_ _ | with_reducible refine Bl.trans_ ?_ (by assumption) | with_reducible refine Bl.trans_ ?_ (And.left (by assumption))))⟩

theorem cell_grown {w w' : World} {row : Option Nat} (hg : w.grownBy w' row) {b j : Nat} {v : Value} (h : w.cell? ⟨b, j, none⟩ = some v) (hne : some b ≠ row) : w'.cell? ⟨b, j, none⟩ = some v := hg.cell h hne


end Go.Proofs.Ytmdmbobjdhjadaa
