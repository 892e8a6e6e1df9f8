/-
  What is proved here: the laws' small functions that hold lists and graphs against each other, and ask for nodes. No conditions beyond those that each theorem states.
-/
import Derived.Test.YtgjgcdpjbpccnaaKG11
import Derived.Test.YtgjgcdpjbpccnaaKG15
set_option linter.unusedSimpArgs false
set_option linter.unusedVariables false
namespace Go.Proofs.Ytgjgcdpjbpccnaa
open Go.RowKit

set_option maxHeartbeats 400000 in
theorem sameInts_yes (A1 A2 : Option Addr) (c1 c2 : Nat) (V : List Int) (n : Nat) (hn : n = V.length) (w : World) (hm : n ≤ 9223372036854775807) (H1 : IntsAt w w.heap.size A1 V) (H2 : IntsAt w w.heap.size A2 V) :
    Calls Try.prog 21 #[.slice A1 n c1, .slice A2 n c2] w fun e w' => e = .returned (.bool true) ∧ Bl w w' := by
  have K1 := Lib.hid H1
  have K2 := Lib.hid H2
  have HN := Lib.hid hn
  have hnn : ((n : Int) != (n : Int)) = false := by simp
  clear H1 H2 hn
  go_enter Try.func21, Try.ntmps21
  go_wp2
  go_loopw [5] (fun i wr => ∃ k : Nat, k ≤ n ∧ i = .int .i64 k ∧ Bl w wr) (fun i _ => n - (intOf i).toNat)
  case atStart => exact ⟨0, by omega, rfl, Bl.refl w⟩
  case round =>
    obtain ⟨k, hk, rfl, hbl⟩ := hrel
    by_cases hlt : k < n
    · have hkl : k < V.length := by have := HN.out; omega
      obtain ⟨g1, o1, rfl, hg1, hc1⟩ := K1.out.cell (by omega)
      obtain ⟨g2, o2, rfl, hg2, hc2⟩ := K2.out.cell (by omega)
      have p1 := hc1 k hkl
      have p2 := hc2 k hkl
      clear hc1 hc2
      rw [← (bcell hbl).1 _ _ hg1] at p1
      rw [← (bcell hbl).1 _ _ hg2] at p2
      generalize V[k] = x at p1 p2
      have hxx : (x != x) = false := by simp
      have i1 : (0 : Int) ≤ (k : Int) := by omega
      have i2 : (k : Int) < (n : Int) := by omega
      go_wp2
      go_quiet (fail)
      go_wp2
      go_roundw
      case rel => exact ⟨k + 1, by omega, by go_num, (by repeat' (first | exact Bl.refl _ | with_reducible assumption | with_reducible refine Bl.drew_ ?_ | with_reducible refine Bl.drewN_ ?_ _ | with_reducible refine Bl.alloc_ ?_ _ | with_reducible refine Bl.trans_ ?_ (by assumption) | with_reducible refine Bl.trans_ ?_ (And.left (by assumption))))⟩
      case measure => simp [intOf]; omega
    · go_wp2
      go_ret
      exact ⟨rfl, hbl⟩




end Go.Proofs.Ytgjgcdpjbpccnaa
