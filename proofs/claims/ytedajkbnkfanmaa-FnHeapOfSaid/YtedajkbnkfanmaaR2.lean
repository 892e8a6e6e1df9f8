/-
  What is proved here: the laws' small functions on items (the same, is it there), and how a reader is opened. No conditions beyond those that each theorem states.
-/
import Derived.Test.YtedajkbnkfanmaaR1
import Derived.Test.YtedajkbnkfanmaaJ2
import Derived.Test.YtedajkbnkfanmaaL0
import Derived.Test.YtedajkbnkfanmaaHM2
set_option linter.unusedSimpArgs false
set_option linter.unusedVariables false
namespace Go.Proofs.Ytedajkbnkfanmaa
open Go.RowKit

set_option maxHeartbeats 400000 in
theorem big_any (A : Option Addr) (n c : Nat) (w : World) :
    Calls Try.prog 15 #[.slice A n c] w fun e w' => e = .returned (.bool (decide ((1048576 : Int) < (n : Int)))) ∧ w = w' := by
  go_enter Try.func15, Try.ntmps15
  go_wp2
  go_ret
  exact ⟨rfl, rfl⟩

set_option maxHeartbeats 400000 in
theorem sameItems_yes (A1 A2 : Option Addr) (c1 c2 : Nat) (L : List It) (n : Nat) (hn : n = L.length) (w : World) (hm : n ≤ 9223372036854775807) (H1 : ItemsAt w w.heap.size A1 L) (H2 : ItemsAt w w.heap.size A2 L) :
    Calls Try.prog 19 #[.slice A1 n c1, .slice A2 n c2] w fun e w' => e = .returned (.bool true) ∧ Bl w w' := by
  have HN := Lib.hid hn
  clear hn
  have K1 := Lib.hid H1
  have K2 := Lib.hid H2
  clear H1 H2
  have hnn : ((n : Int) != (n : Int)) = false := by simp
  go_enter Try.func19, Try.ntmps19
  go_wp2
  go_loopw [5] (fun i wr => ∃ k : Nat, k ≤ n ∧ i = .int .i64 k ∧ Bl w wr) (fun i _ => n - (intOf i).toNat)
  case atStart => exact ⟨0, by omega, rfl, Bl.refl _⟩
  case round =>
    obtain ⟨k, hk, rfl, hbl⟩ := hrel
    by_cases hlt : k < n
    · have hkl : k < L.length := by have := HN.out; omega
      have i0 : (k : Int) < (n : Int) := by omega
      obtain ⟨g1, o1, rfl, hg1, hc1⟩ := K1.out.cell (by omega)
      obtain ⟨g2, o2, rfl, hg2, hc2⟩ := K2.out.cell (by omega)
      obtain ⟨p1, p2⟩ := hc1 k hkl
      obtain ⟨q1, q2⟩ := hc2 k hkl
      rw [← (bcell hbl).1 _ _ hg1] at p1 p2
      rw [← (bcell hbl).1 _ _ hg2] at q1 q2
      generalize L[k].1 = x at p1 q1
      generalize L[k].2 = y at p2 q2
      clear hc1 hc2 hkl
      have e1 : (x == x) = true := by simp
      have e2 : (y == y) = true := by simp
      go_wp2
      go_quiet (fail)
      go_wp2
      go_roundw
      case rel => exact ⟨k + 1, by omega, by go_num, by first | exact hbl | exact hbl.drew_ | exact hbl.drewN_ _⟩
      case measure => simp [intOf]; omega
    · go_wp2
      go_ret
      exact ⟨rfl, hbl⟩

set_option maxHeartbeats 400000 in
theorem hasItem_any (A : Option Addr) (n c : Nat) (L : List It) (a b : Int) (hn : n = L.length) (w : World) (hm : n ≤ 9223372036854775807) (H1 : ItemsAt w w.heap.size A L) :
    Calls Try.prog 21 #[.slice A n c, .agg #[.int .i64 a, .int .i64 b]] w fun e w' => e = .returned (.bool (decide ((a, b) ∈ L))) ∧ Bl w w' := by
  have HN := Lib.hid hn
  clear hn
  have K1 := Lib.hid H1
  clear H1
  go_enter Try.func21, Try.ntmps21
  go_wp2
  go_loopw [5] (fun i wr => ∃ k : Nat, k ≤ n ∧ i = .int .i64 k ∧ Bl (w.alloc (.cells #[.int .i64 a, .int .i64 b] 30)) wr ∧ ∀ j (hj : j < L.length), j < k → L[j] ≠ (a, b)) (fun i _ => n - (intOf i).toNat)
  case atStart => exact ⟨0, by omega, rfl, Bl.refl _, fun j _ h => absurd h (by omega)⟩
  case round =>
    obtain ⟨k, hk, rfl, hbl, hno⟩ := hrel
    have NO := Lib.hid hno
    clear hno
    obtain ⟨b0, b1⟩ := box2 hbl
    by_cases hlt : k < n
    · have hkl : k < L.length := by have := HN.out; omega
      have i0 : (k : Int) < (n : Int) := by omega
      obtain ⟨g1, o1, rfl, hg1, hc1⟩ := K1.out.cell (by omega)
      obtain ⟨p1, p2⟩ := hc1 k hkl
      rw [← (bcell (((Bl.refl w).alloc_ _).trans_ hbl)).1 _ _ hg1] at p1 p2
      clear hc1
      generalize hx : L[k].1 = x at p1
      generalize hy : L[k].2 = y at p2
      have X := Lib.hid (show L[k] = (x, y) from by rw [← hx, ← hy])
      clear hx hy
      by_cases hxa : x = a
      · have e1 : (x == a) = true := by simp [hxa]
        by_cases hyb : y = b
        · have e2 : (y == b) = true := by simp [hyb]
          have HX := Lib.hid hxa
          have HY := Lib.hid hyb
          clear hxa hyb
          go_wp2
          go_quiet (fail)
          go_wp2
          go_ret
          exact ⟨ret_bool (by symm; rw [decide_eq_true_eq, ← HX.out, ← HY.out, ← X.out]; exact List.getElem_mem hkl), (((Bl.refl w).alloc_ _).trans_ hbl).drewN_ _⟩
        · have e2 : (y == b) = false := by simpa using hyb
          have NE := Lib.hid (show (x, y) ≠ (a, b) from fun h => hyb (by injection h))
          clear hyb hxa
          go_wp2
          go_quiet (fail)
          go_wp2
          go_roundw
          case rel =>
            refine ⟨k + 1, by omega, by go_num, by first | exact hbl | exact hbl.drew_ | exact hbl.drewN_ _, fun j hj hjk => ?_⟩
            rcases Nat.lt_or_ge j k with h | h
            · exact NO.out j hj h
            · obtain rfl : j = k := by omega
              rw [X.out]
              exact NE.out
          case measure => simp [intOf]; omega
      · have e1 : (x == a) = false := by simpa using hxa
        have NE := Lib.hid (show (x, y) ≠ (a, b) from fun h => hxa (by injection h))
        clear hxa
        go_wp2
        go_quiet (fail)
        go_wp2
        go_roundw
        case rel =>
          refine ⟨k + 1, by omega, by go_num, by first | exact hbl | exact hbl.drew_ | exact hbl.drewN_ _, fun j hj hjk => ?_⟩
          rcases Nat.lt_or_ge j k with h | h
          · exact NO.out j hj h
          · obtain rfl : j = k := by omega
            rw [X.out]
            exact NE.out
        case measure => simp [intOf]; omega
    · go_wp2
      go_ret
      exact ⟨ret_bool (by
        symm
        rw [decide_eq_false_iff_not]
        intro hm
        obtain ⟨j, hj, e⟩ := List.mem_iff_getElem.1 hm
        exact NO.out j hj (by have := HN.out; omega) e), ((Bl.refl w).alloc_ _).trans_ hbl⟩

end Go.Proofs.Ytedajkbnkfanmaa
