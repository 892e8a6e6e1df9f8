/-
  What is proved here: the walk of the exact law on TakeFrames: at every text it returns true and leaves what was there as it was. No conditions beyond those that each theorem states.
-/
import Derived.Test.YtebbgoknielkpaaFRU
set_option linter.unusedSimpArgs false
set_option linter.unusedVariables false
namespace Go.Proofs.Ytebbgoknielkpaa
open Go.RowKit

theorem takeAll_len (s : ByteArray) : (takeAll s).1.length ≤ s.size := stK_len s s.size

set_option maxHeartbeats 4000000 in
theorem lawTakeFrames_any (s : ByteArray) (hm : s.size ≤ 9223372036854775807) (w : World) :
    Calls Try.prog 4 #[.string s] w fun e w' => e = .returned (.bool true) ∧ Bl w w' := by
  by_cases hbig : (1048576 : Int) < (s.size : Int)
  · go_enter Try.func4, Try.ntmps4
    go_wp2
    go_ret
    exact ⟨rfl, (by repeat' (first | exact Bl.refl _ | with_reducible assumption | with_reducible refine Bl.drew_ ?_ | with_reducible refine Bl.drewN_ ?_ _ | with_reducible refine Bl.alloc_ ?_ _ | with_reducible refine Bl.trans_ ?_ (by assumption) | with_reducible refine Bl.trans_ ?_ (And.left (by assumption))))⟩
  · have hm' : s.size ≤ 1048576 := by omega
    obtain ⟨l, hl⟩ : ∃ l, l = (takeAll s).1.length := ⟨_, rfl⟩
    have hln : l ≤ 1048576 := by rw [hl]; exact Nat.le_trans (takeAll_len s) hm'
    have HL := Lib.hid hl
    clear hl
    obtain ⟨t, ht⟩ : ∃ t : Int, t = ((takeAll s).2 : Int) := ⟨_, rfl⟩
    have htt : (t != t) = false := by simp
    go_enter Try.func4, Try.ntmps4
    go_wp2_with fail
    refine (specTake_any s hm' _).mono ?_
    rintro e w1 ⟨v0, rfl, hv0, hb1⟩
    obtain ⟨A0, c0, rfl, -, hA0, -, -⟩ := OwnS.shape hv0
    have V0 := Lib.hid hA0
    clear hv0 hA0
    rw [← HL.out, ← ht]
    go_wp2_with fail
    refine (implTake_any s hm' _).mono ?_
    rintro e w2 ⟨v1, rfl, hv1, hb2⟩
    obtain ⟨A1, c1, rfl, -, hA1, hR1, hl1⟩ := OwnS.shape hv1
    have V1 := Lib.hid hA1
    have L1 := Lib.hid hl1
    have R1 := Lib.hid hR1
    rw [← HL.out] at R1
    clear hv1 hA1 hR1 hl1
    rw [← HL.out, ← ht]
    have s2 := hb2.size
    go_wp2_with fail
    refine (eqStringS_yes A1 A0 c1 c0 (takeAll s).1 l HL.out _ (by omega) V1.out (V0.out.bl hb2)).mono ?_
    rintro e w3 ⟨rfl, hb3⟩
    have s3 := hb3.size
    go_wp2_with fail
    refine (markStringS_any A1 l c1 1 _ hln (by omega) (by omega) (RowsW.bl R1.out hb3)).mono ?_
    rintro e w4 ⟨rfl, hm4, hg4, hr4⟩
    have G4 := Lib.hid hg4
    have M4 := Lib.hid hm4
    clear hm4 hg4 hr4
    have s4 := G4.out.size
    have Q4 := Lib.hid (show Bl w w4 from ((hb1.trans_ hb2).trans_ hb3).grown_ G4.out (fun g hg => by have := L1.out g hg; have := hb1.size; omega))
    have V04 := Lib.hid (((V0.out.bl' (Nat.le_refl _) hb2).bl' (by omega) hb3).grown_ (by omega) G4.out (fun g _ hlt h => by have := L1.out g h.symm; omega))
    go_wp2_with fail
    refine (heldStringS_any A1 l c1 1 _ hln (by omega) (by omega) M4.out).mono ?_
    rintro e w5 ⟨rfl, hb5⟩
    have s5 := hb5.size
    have p3 : (0 : Int) ≤ 1 + (l : Int) := by omega
    have p4 : ((1 : Int) + (l : Int) != 1 + (l : Int)) = false := by simp
    go_wp2_with fail
    refine (implTake_any s hm' _).mono ?_
    rintro e w6 ⟨v6, rfl, hv6, hb6⟩
    obtain ⟨A6, c6, rfl, -, hA6, -, -⟩ := OwnS.shape hv6
    have V6 := Lib.hid hA6
    clear hv6 hA6
    rw [← HL.out, ← ht]
    have s6 := hb6.size
    go_wp2_with fail
    refine (eqStringS_yes A6 A0 c6 c0 (takeAll s).1 l HL.out _ (by omega) V6.out (((V04.out.bl' (by omega) hb5).bl' (by omega) hb6).more (by omega))).mono ?_
    rintro e w7 ⟨rfl, hb7⟩
    go_wp2_with fail
    refine (heldStringS_any A1 l c1 1 _ hln (by omega) (by omega) (((M4.out.bl hb5).bl hb6).bl hb7)).mono ?_
    rintro e w8 ⟨rfl, hb8⟩
    have Q8 := Lib.hid ((((Q4.out.trans_ hb5).trans_ hb6).trans_ hb7).trans_ hb8)
    go_wp2
    go_ret
    exact ⟨rfl, Q8.out⟩

end Go.Proofs.Ytebbgoknielkpaa
