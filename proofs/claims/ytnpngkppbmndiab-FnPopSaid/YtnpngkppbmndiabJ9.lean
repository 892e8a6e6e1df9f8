/-
  What is proved here: HeapPush, as the code has it. No conditions beyond those that each theorem states.
-/
import Derived.Test.YtnpngkppbmndiabJ8
set_option linter.unusedSimpArgs false
set_option linter.unusedVariables false
namespace Go.Proofs.Ytnpngkppbmndiab
open Go.RowKit

/-- May the item be put in? -/
def pushB (L : List It) (x : It) : Bool := heapI L && (decide (L.length ≠ 100) && decide (placeI L x.2 < 0))
def pushR (L : List It) (x : It) : List It := if pushB L x = true then upI (L ++ [x]) L.length else []
theorem pushB_no1 {L : List It} {x : It} (h : heapI L = false) : pushB L x = false := by simp [pushB, h]
theorem pushB_no2 {L : List It} {x : It} (h : L.length = 100) : pushB L x = false := by simp [pushB, h]
theorem pushB_no3 {L : List It} {x : It} (h : 0 ≤ placeI L x.2) : pushB L x = false := by
  simp [pushB]; intro _ _; exact h
theorem pushB_yes {L : List It} {x : It} (h : heapI L = true) (h1 : L.length ≠ 100) (h2 : placeI L x.2 < 0) : pushB L x = true := by simp [pushB, h, h1, h2]
theorem pushR_no {L : List It} {x : It} (h : pushB L x = false) : pushR L x = [] := if_neg (by rw [h]; simp)
theorem pushR_yes {L : List It} {x : It} (h : pushB L x = true) : pushR L x = upI (L ++ [x]) L.length := if_pos h
theorem pushB_len {L : List It} {x : It} (h : pushB L x = true) : L.length < 100 := by
  simp [pushB, heapI] at h
  omega
theorem pushR_len (L : List It) (x : It) : (pushR L x).length ≤ 100 := by
  cases h : pushB L x with
  | true =>
    have := pushB_len h
    rw [pushR_yes h, upI_len]
    simp
    omega
  | false => rw [pushR_no h]; simp

set_option maxRecDepth 100000 in
set_option maxHeartbeats 2000000 in
theorem implHeapPush_any (A : Option Addr) (n c : Nat) (L : List It) (x y : Int) (hn : n = L.length) (w : World) (hm : n ≤ 1048576) (hwf : WfI L) (H1 : ItemsAt w w.heap.size A L) :
    Calls Try.prog 19 #[.slice A n c, .agg #[.int .i64 x, .int .i64 y]] w (ItemsOk (pushR L (x, y)) (pushB L (x, y)) w) := by
  have K1 := Lib.hid H1
  have HN := Lib.hid hn
  have HW := Lib.hid hwf
  clear H1 hn hwf
  cases hhb : heapI L with
  | false =>
    have HB := Lib.hid hhb
    clear hhb
    go_enter Try.func19, Try.ntmps19
    go_wp2_with fail
    refine (implHeapOk_any A n c L HN.out _ hm HW.out (ItemsAt.bl K1.out (by repeat' (first | exact Bl.refl _ | with_reducible assumption | with_reducible refine Bl.drew_ ?_ | with_reducible refine Bl.drewN_ ?_ _ | with_reducible refine Bl.alloc_ ?_ _ | with_reducible refine Bl.trans_ ?_ (by assumption) | with_reducible refine Bl.trans_ ?_ (And.left (by assumption)))))).mono ?_
    rintro e w1 ⟨rfl, hb1⟩
    rw [HB.out]
    go_wp2
    go_ret2
    exact ItemsOk.no (pushB_no1 HB.out) pushR_no rfl (by repeat' (first | exact Bl.refl _ | with_reducible assumption | with_reducible refine Bl.drew_ ?_ | with_reducible refine Bl.drewN_ ?_ _ | with_reducible refine Bl.alloc_ ?_ _ | with_reducible refine Bl.trans_ ?_ (by assumption) | with_reducible refine Bl.trans_ ?_ (And.left (by assumption))))
  | true =>
    have HB := Lib.hid hhb
    clear hhb
    by_cases h100 : n = 100
    · have LN := Lib.hid (show L.length = 100 from by rw [← HN.out]; exact h100)
      subst h100
      go_enter Try.func19, Try.ntmps19
      go_wp2_with fail
      refine (implHeapOk_any A 100 c L HN.out _ hm HW.out (ItemsAt.bl K1.out (by repeat' (first | exact Bl.refl _ | with_reducible assumption | with_reducible refine Bl.drew_ ?_ | with_reducible refine Bl.drewN_ ?_ _ | with_reducible refine Bl.alloc_ ?_ _ | with_reducible refine Bl.trans_ ?_ (by assumption) | with_reducible refine Bl.trans_ ?_ (And.left (by assumption)))))).mono ?_
      rintro e w1 ⟨rfl, hb1⟩
      rw [HB.out]
      go_wp2
      go_ret2
      exact ItemsOk.no (pushB_no2 LN.out) pushR_no rfl (by repeat' (first | exact Bl.refl _ | with_reducible assumption | with_reducible refine Bl.drew_ ?_ | with_reducible refine Bl.drewN_ ?_ _ | with_reducible refine Bl.alloc_ ?_ _ | with_reducible refine Bl.trans_ ?_ (by assumption) | with_reducible refine Bl.trans_ ?_ (And.left (by assumption))))
    · have g0 : ((n : Int) == 100) = false := by simp; omega
      have LN := Lib.hid (show L.length ≠ 100 from by rw [← HN.out]; exact h100)
      clear h100
      obtain ⟨p, hp⟩ : ∃ p, placeI L y = p := ⟨_, rfl⟩
      have PP := Lib.hid hp
      clear hp
      by_cases hpos : 0 ≤ p
      · go_enter Try.func19, Try.ntmps19
        go_wp2_with fail
        refine (implHeapOk_any A n c L HN.out _ hm HW.out (ItemsAt.bl K1.out (by repeat' (first | exact Bl.refl _ | with_reducible assumption | with_reducible refine Bl.drew_ ?_ | with_reducible refine Bl.drewN_ ?_ _ | with_reducible refine Bl.alloc_ ?_ _ | with_reducible refine Bl.trans_ ?_ (by assumption) | with_reducible refine Bl.trans_ ?_ (And.left (by assumption)))))).mono ?_
        rintro e w1 ⟨rfl, hb1⟩
        rw [HB.out]
        have q1 := (box2 hb1).2
        go_wp2_with fail
        refine (placeOfId_at A n c L y p PP.out HN.out _ hm (ItemsAt.bl K1.out (by repeat' (first | exact Bl.refl _ | with_reducible assumption | with_reducible refine Bl.drew_ ?_ | with_reducible refine Bl.drewN_ ?_ _ | with_reducible refine Bl.alloc_ ?_ _ | with_reducible refine Bl.trans_ ?_ (by assumption) | with_reducible refine Bl.trans_ ?_ (And.left (by assumption)))))).mono ?_
        rintro e w2 ⟨rfl, hb2⟩
        go_wp2
        go_ret2
        exact ItemsOk.no (pushB_no3 (by rw [PP.out]; exact hpos)) pushR_no rfl (by repeat' (first | exact Bl.refl _ | with_reducible assumption | with_reducible refine Bl.drew_ ?_ | with_reducible refine Bl.drewN_ ?_ _ | with_reducible refine Bl.alloc_ ?_ _ | with_reducible refine Bl.trans_ ?_ (by assumption) | with_reducible refine Bl.trans_ ?_ (And.left (by assumption))))
      · have hpos' : decide (0 ≤ p) = false := by simp; omega
        have PB := Lib.hid (pushB_yes (x := (x, y)) HB.out LN.out (by rw [PP.out]; omega))
        have h99 := pushB_len PB.out
        clear hpos
        go_enter Try.func19, Try.ntmps19
        go_wp2_with fail
        refine (implHeapOk_any A n c L HN.out _ hm HW.out (ItemsAt.bl K1.out (by repeat' (first | exact Bl.refl _ | with_reducible assumption | with_reducible refine Bl.drew_ ?_ | with_reducible refine Bl.drewN_ ?_ _ | with_reducible refine Bl.alloc_ ?_ _ | with_reducible refine Bl.trans_ ?_ (by assumption) | with_reducible refine Bl.trans_ ?_ (And.left (by assumption)))))).mono ?_
        rintro e w1 ⟨rfl, hb1⟩
        rw [HB.out]
        obtain ⟨q0, q1⟩ := box2 hb1
        go_wp2_with fail
        refine (placeOfId_at A n c L y p PP.out HN.out _ hm (ItemsAt.bl K1.out (by repeat' (first | exact Bl.refl _ | with_reducible assumption | with_reducible refine Bl.drew_ ?_ | with_reducible refine Bl.drewN_ ?_ _ | with_reducible refine Bl.alloc_ ?_ _ | with_reducible refine Bl.trans_ ?_ (by assumption) | with_reducible refine Bl.trans_ ?_ (And.left (by assumption)))))).mono ?_
        rintro e w2 ⟨rfl, hb2⟩
        have hb2' := hb1.trans_ hb2
        have hbw2 := Lib.hid (show Bl w w2 from (by repeat' (first | exact Bl.refl _ | with_reducible assumption | with_reducible refine Bl.drew_ ?_ | with_reducible refine Bl.drewN_ ?_ _ | with_reducible refine Bl.alloc_ ?_ _ | with_reducible refine Bl.trans_ ?_ (by assumption) | with_reducible refine Bl.trans_ ?_ (And.left (by assumption)))))
        go_wp2_with fail
        refine (copied_any A n c L HN.out _ hm (ItemsAt.bl K1.out hbw2.out)).mono ?_
        rintro e w3 ⟨hb, v, rfl, hin, hb3⟩
        have hb3' := hb2'.trans_ hb3
        obtain ⟨q0, q1⟩ := box2 hb3'
        have IN := Lib.hid hin
        have s3 := hb3.size
        have hbw3 := Lib.hid (hbw2.out.trans_ hb3)
        have hbb := hin.2.2.1
        clear hin
        go_wp2_with fail
        refine (push_any w2.heap.size hb v L x y _ (by omega) IN.out s3).mono ?_
        rintro e w4 ⟨rfl, g, c4, hin4, ht4, -⟩
        have IN4 := Lib.hid hin4
        obtain ⟨h0, h1, h2⟩ := hin4.1
        have VL := Lib.hid (Owns.lt IN.out.2.1)
        have B4 := Lib.hid (Turn.to_bl hbw3.out ht4 (fun i h => by
          rcases h with h | h
          · have := hbw2.out.size; omega
          · have := (VL.out i h.symm).1; have := hbw2.out.size; omega))
        clear hin4 ht4
        obtain ⟨l, hl⟩ : ∃ l, l = (upI (L ++ [(x, y)]) L.length).length := ⟨_, rfl⟩
        rw [← hl] at h0
        go_wp2
        go_ret2
        refine ⟨_, by rw [PB.out]; rfl, ?_, B4.out⟩
        rw [pushR_yes PB.out]
        exact Owns.low IN4.out.2.1 hbw2.out.size

end Go.Proofs.Ytnpngkppbmndiab
