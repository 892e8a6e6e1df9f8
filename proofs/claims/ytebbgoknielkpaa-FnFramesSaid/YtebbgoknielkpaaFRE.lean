/-
  What is proved here: the drawn texts are short. No conditions beyond those that each theorem states.
-/
import Derived.Test.YtebbgoknielkpaaFRD
set_option linter.unusedSimpArgs false
set_option linter.unusedVariables false
namespace Go.Proofs.Ytebbgoknielkpaa
open Go.RowKit

/-- A text of at most m bytes is left. -/
def StrMade (m : Nat) (w : World) (e : Ending) (w' : World) : Prop := ∃ z : ByteArray, e = .returned (.string z) ∧ z.size ≤ m ∧ Bl w w'

set_option maxHeartbeats 1000000 in
theorem drawFrameOf_any (A : Option Addr) (n c : Nat) (w : World) (hn : n ≤ 1099511627776) (H : BytesAt w A n) : Calls Try.prog 25 #[.slice A n c] w (StrMade 8 w) := by
  have K := Lib.hid H
  clear H
  go_enter Try.func25, Try.ntmps25
  go_wp2_with fail
  refine (open_any A n c _ K.out).mono ?_
  rintro e w1 ⟨rfl, hr, hb1, hlt⟩
  have R1 := Lib.hid hr
  clear hr
  go_wp2_with fail
  refine (textD_any w.heap.size A n c _ hn R1.out).mono ?_
  rintro e w2 ⟨z, rfl, hz, hr, hg⟩
  have R2 := Lib.hid hr
  have B2 := Lib.hid (hb1.grown_ hg (fun g hg => by injection hg with hg; omega))
  clear hr hg hb1
  go_wp2_with fail
  refine (bytesD_any w.heap.size A n c _ hn R2.out).mono ?_
  rintro e w3 ⟨y, rfl, hy, hr, hg⟩
  have B3 := Lib.hid (B2.out.grown_ hg (fun g hg => by injection hg with hg; omega))
  clear hr hg
  have n1 : ¬ (9223372036854775807 < z.size + y.size) := by omega
  go_wp2
  refine bodyPost_ret (v := .string (z ++ y)) (by simp [results, Try.results25, go_sem]) rfl ⟨_, rfl, ?_, B3.out⟩
  rw [ByteArray.size_append]
  omega

set_option maxHeartbeats 2000000 in
theorem drawTake_any (A : Option Addr) (n c : Nat) (w : World) (hn : n ≤ 1099511627776) (H : BytesAt w A n) : Calls Try.prog 23 #[.slice A n c] w (StrMade 1001 w) := by
  have K := Lib.hid H
  clear H
  go_enter Try.func23, Try.ntmps23
  go_wp2_with fail
  refine (open_any A n c _ K.out).mono ?_
  rintro e w1 ⟨rfl, hr, hb1, hlt⟩
  have R1 := Lib.hid hr
  clear hr
  go_wp2_with fail
  refine (below_any 4 w.heap.size A n c _ hn (by omega) R1.out).mono ?_
  rintro e w2 ⟨b, ⟨b0, b1⟩, rfl, hr, hg⟩
  have R2 := Lib.hid hr
  have B2 := Lib.hid (hb1.grown_ hg (fun g hg => by injection hg with hg; omega))
  clear hr hg hb1
  go_wp2_with fail
  go_loopw [4, 5] (fun s i wr => ∃ (m : Int) (z : ByteArray), 0 ≤ m ∧ m ≤ 4 ∧ i = .int .i64 m ∧ s = .string z ∧ (z.size : Int) + 11 * m ≤ 44 ∧ RdAny wr w.heap.size A n c ∧ Bl w wr) (fun _ i _ => (intOf i).toNat)
  case atStart => exact ⟨b, _, b0, by omega, rfl, rfl, by simp [ByteArray.size]; omega, R2.out, B2.out⟩
  case round =>
    obtain ⟨m, z, m0, m1, rfl, rfl, hz, hR, hB⟩ := hrel
    have RR := Lib.hid hR
    have BB := Lib.hid hB
    clear hR hB R1 R2 B2
    by_cases hm : 0 < m
    · go_wp2_with fail
      refine (textD_any w.heap.size A n c _ hn RR.out).mono ?_
      rintro e w3 ⟨y, rfl, hy, hr, hg⟩
      have R3 := Lib.hid hr
      have B3 := Lib.hid (BB.out.grown_ hg (fun g hg => by injection hg with hg; omega))
      clear hr hg
      go_wp2_with fail
      refine (specFrame_any y (by omega) _).mono ?_
      rintro e w4 ⟨⟨f, rfl, hf⟩, hb4⟩
      have hfs : f.size ≤ 11 := by rw [hf, frameB_size (by omega)]; omega
      have R4 := Lib.hid (R3.out.bl hb4)
      have B4 := Lib.hid (B3.out.trans_ hb4)
      clear hf hb4
      have n1 : ¬ (9223372036854775807 < z.size + f.size) := by omega
      go_wp2
      go_roundw
      case rel => exact ⟨m - 1, z ++ f, by omega, by omega, by go_num, rfl, by rw [ByteArray.size_append]; omega, R4.out, B4.out⟩
      case measure => simp [intOf]; omega
    · go_wp2_with fail
      refine (hurtD_any z (by omega) w.heap.size A n c _ hn RR.out).mono ?_
      rintro e w3 ⟨y, rfl, hy, hr, hg⟩
      have B3 := Lib.hid (BB.out.grown_ hg (fun g hg => by injection hg with hg; omega))
      clear hr hg
      go_wp2
      refine bodyPost_ret (v := .string y) (by simp [results, Try.results23, go_sem]) rfl ⟨_, rfl, hy, B3.out⟩

set_option maxHeartbeats 400000 in
theorem sameTexts_yes (A1 A2 : Option Addr) (c1 c2 : Nat) (V : List ByteArray) (n : Nat) (hn : n = V.length) (w : World) (hm : n ≤ 9223372036854775807) (H1 : StrsAt w w.heap.size A1 V) (H2 : StrsAt w w.heap.size A2 V) :
    Calls Try.prog 24 #[.slice A1 n c1, .slice A2 n c2] w fun e w' => e = .returned (.bool true) ∧ Bl w w' := by
  have K1 := Lib.hid H1
  have K2 := Lib.hid H2
  have HN := Lib.hid hn
  have hnn : ((n : Int) != (n : Int)) = false := by simp
  clear H1 H2 hn
  go_enter Try.func24, Try.ntmps24
  go_wp2
  go_loopw [5] (fun i wr => ∃ k : Nat, k ≤ n ∧ i = .int .i64 k ∧ Bl w wr) (fun i _ => n - (intOf i).toNat)
  case atStart => exact ⟨0, by omega, rfl, Bl.refl w⟩
  case round =>
    obtain ⟨k, hk, rfl, hbl⟩ := hrel
    by_cases hlt : k < n
    · have hkl : k < V.length := by have := HN.out; omega
      obtain ⟨g1, o1, rfl, hg1, hc1⟩ := K1.out.cell (by omega)
      obtain ⟨g2, o2, rfl, hg2, hc2⟩ := K2.out.cell (by omega)
      have p1 := hc1 k hkl
      have p2 := hc2 k hkl
      clear hc1 hc2
      rw [← (bcell hbl).1 _ _ hg1] at p1
      rw [← (bcell hbl).1 _ _ hg2] at p2
      generalize V[k] = x at p1 p2
      have hxx := str_self x
      have i1 : (0 : Int) ≤ (k : Int) := by omega
      have i2 : (k : Int) < (n : Int) := by omega
      go_wp2
      go_quiet (fail)
      go_wp2
      go_roundw
      case rel => exact ⟨k + 1, by omega, by go_num, (by repeat' (first | exact Bl.refl _ | with_reducible assumption | with_reducible refine Bl.drew_ ?_ | with_reducible refine Bl.drewN_ ?_ _ | with_reducible refine Bl.alloc_ ?_ _ | with_reducible refine Bl.trans_ ?_ (by assumption) | with_reducible refine Bl.trans_ ?_ (And.left (by assumption))))⟩
      case measure => simp [intOf]; omega
    · go_wp2
      go_ret
      exact ⟨rfl, hbl⟩


end Go.Proofs.Ytebbgoknielkpaa
