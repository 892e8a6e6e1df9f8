/-
  What is proved here: the walk of the law FnReachTurned: at every code that can be read it returns true and leaves what was there as it was; at every code the law FnReachTurned returns true, and the argument reads as it did. No conditions. No conditions beyond those that each theorem states.
-/
import Derived.Test.YtjmooakjdcepcaaYD3
import Derived.Test.YtjmooakjdcepcaaYD2
import Derived.Test.YtjmooakjdcepcaaYD1
import Derived.Test.YtjmooakjdcepcaaYA
set_option linter.unusedSimpArgs false
set_option linter.unusedVariables false
namespace Go.Proofs.Ytjmooakjdcepcaa
open Go.RowKit

set_option maxRecDepth 100000 in
set_option maxHeartbeats 4000000 in
theorem lawReachTurned_any (A : Option Addr) (n c : Nat) (w : World) (H : BytesAt w A n) :
    Calls Try.prog 8 #[.slice A n c] w fun e w' => e = .returned (.bool true) ∧ Bl w w' := by
  have K := Lib.hid H
  clear H
  by_cases hbig : (1048576 : Int) < (n : Int)
  · have hb : decide ((1048576 : Int) < (n : Int)) = true := by simpa using hbig
    clear hbig
    go_enter Try.func8, Try.ntmps8
    go_wp2_with (go_at_call 9; refine (big_any _ _ _ _).mono ?_; rintro e w' ⟨rfl, rfl⟩)
    go_ret
    exact ⟨rfl, (by repeat' (first | exact Bl.refl _ | with_reducible assumption | with_reducible refine Bl.drew_ ?_ | with_reducible refine Bl.drewN_ ?_ _ | with_reducible refine Bl.alloc_ ?_ _ | with_reducible refine Bl.trans_ ?_ (by assumption) | with_reducible refine Bl.trans_ ?_ (And.left (by assumption))))⟩
  · have hb : decide ((1048576 : Int) < (n : Int)) = false := by simpa using hbig
    have hn : n ≤ 1099511627776 := by omega
    clear hbig
    go_enter Try.func8, Try.ntmps8
    go_wp2_with fail
    refine (big_any _ _ _ _).mono ?_
    rintro e w1 ⟨rfl, rfl⟩
    go_wp2_with fail
    refine (drawReachOf_any A n c _ hn K.out).mono ?_
    rintro e w1 ⟨N, A', l, c', L, rfl, hd, hb1⟩
    obtain ⟨ha, hlc⟩ := hd.arcs
    have HL := Lib.hid hd.1
    have hl200 := hd.2.1
    obtain ⟨X, hX⟩ : ∃ X, X = w1.alloc (.cells #[.int .i64 N, .slice A' l c'] 26) := ⟨_, rfl⟩
    have HA := Lib.hid (show ArcsAt X X.heap.size A' L from by rw [hX]; exact ha.bl (Bl.alloc_ (Bl.refl w1) _))
    have B1 := Lib.hid (show Bl w X from by rw [hX]; exact hb1.alloc_ _)
    have BXX := Lib.hid (show ∀ wx, Bl X wx → wx.cell? ⟨w1.heap.size, 0, none⟩ = some (.int .i64 N) ∧ wx.cell? ⟨w1.heap.size, 1, none⟩ = some (.slice A' l c') from fun wx hb => by rw [hX] at hb; exact box2 hb)
    clear hd hb1 ha
    go_wp2_with fail
    rw [← hX]
    clear hX
    refine (implReachOf_any N A' l c' L HL.out hlc _ (by omega) HA.out).mono ?_
    rintro e w2 ⟨v2, rfl, hv2, hb2⟩
    obtain ⟨A2, c2, rfl, -, hi2, -, -⟩ := OwnN.shape hv2
    have I2 := Lib.hid hi2
    obtain ⟨R, hR⟩ : ∃ R, R = reachL N L := ⟨_, rfl⟩
    have HR := Lib.hid hR
    rw [← hR] at I2 ⊢
    obtain ⟨k, hk⟩ : ∃ k, k = R.length := ⟨_, rfl⟩
    have hk20 : k ≤ 1048576 := by rw [hk, hR]; exact reachL_len N L
    rw [← hk]
    have HK := Lib.hid hk
    obtain ⟨q0, q1⟩ := BXX.out _ hb2
    clear hv2 hi2 hk hR
    go_wp2_with fail
    refine (specReachOf_any N A' l c' L HL.out _ (by omega) (HA.out.bl hb2)).mono ?_
    rintro e w3 ⟨v3, rfl, hv3, hb3⟩
    obtain ⟨A3, c3, rfl, -, hi3, -, -⟩ := OwnN.shape hv3
    have I3 := Lib.hid hi3
    rw [← HR.out] at I3 ⊢
    rw [← HK.out]
    clear hv3 hi3 q0 q1
    go_wp2_with fail
    refine (sameInts_yes A2 A3 c2 c3 _ k HK.out _ (by omega) (I2.out.bl hb3) I3.out).mono ?_
    rintro e w4 ⟨rfl, hb4⟩
    have P4 := Lib.hid (hb2.trans_ (hb3.trans_ hb4))
    have I4 := Lib.hid (I2.out.bl (hb3.trans_ hb4))
    clear hb2 hb3 hb4
    obtain ⟨q0, q1⟩ := BXX.out _ P4.out
    go_wp2_with fail
    refine (specOk_any N A' l c' L HL.out _ (by omega) (HA.out.bl P4.out)).mono ?_
    rintro e w5 ⟨rfl, hb5⟩
    have P5 := Lib.hid (P4.out.trans_ hb5)
    have I5 := Lib.hid (I4.out.bl hb5)
    clear hb5 q0 q1
    obtain ⟨q0, q1⟩ := BXX.out _ P5.out
    cases ho : okB N L with
    | false =>
      go_wp2
      go_ret
      exact ⟨rfl, B1.out.trans_ P5.out⟩
    | true =>
      have HO := Lib.hid ho
      have RT := Lib.hid (reachL_turned ho)
      rw [← HR.out] at RT
      clear ho
      go_wp2_with fail
      refine (implReversed_any N A' l c' L HL.out _ (by omega) (HA.out.bl P5.out)).mono ?_
      rintro e w6 ⟨v6, rfl, hv6, hb6⟩
      rw [show revN N L = N from if_pos HO.out]
      rw [show revG N L = revL L from if_pos HO.out] at hv6
      have hcap := OwnA.cap_ hv6
      obtain ⟨A6, c6, rfl, ha6, -⟩ := hv6.shape
      have V6 := Lib.hid ha6
      have HC6 := Lib.hid (hcap _ _ _ rfl)
      obtain ⟨rl, hrl⟩ : ∃ rl, rl = (revL L).length := ⟨_, rfl⟩
      have HRL := Lib.hid hrl
      have hrl2 : rl ≤ 1048576 := by rw [hrl, revL_len (okB_elim HO.out).2.2.2.2]; have h9 := HL.out; omega
      rw [← hrl] at HC6 ⊢
      have P6 := Lib.hid (P5.out.trans_ hb6)
      have I6 := Lib.hid (I5.out.bl hb6)
      clear hv6 hcap ha6 hb6 hrl q0 q1
      go_wp2_with fail
      refine (implReachOf_any N A6 rl c6 (revL L) HRL.out HC6.out _ hrl2 V6.out).mono ?_
      rintro e w7 ⟨v7, rfl, hv7, hb7⟩
      obtain ⟨A7, c7, rfl, -, hi7, -, -⟩ := OwnN.shape hv7
      have I7 := Lib.hid hi7
      rw [RT.out] at I7 ⊢
      rw [← HK.out]
      clear hv7 hi7
      go_wp2_with fail
      refine (sameInts_yes A7 A2 c7 c2 _ k HK.out _ (by omega) I7.out (I6.out.bl hb7)).mono ?_
      rintro e w8 ⟨rfl, hb8⟩
      go_wp2
      go_ret
      exact ⟨rfl, B1.out.trans_ (P6.out.trans_ (hb7.trans_ hb8))⟩

end Go.Proofs.Ytjmooakjdcepcaa

set_option linter.unusedSimpArgs false
set_option linter.unusedVariables false
namespace Go.Proofs.Ytjmooakjdcepcaa
open Go.ChangeShapes Go.WideShapes Go.ChangeAt Go.RowKit

set_option maxRecDepth 100000 in
theorem fnReachTurned_lifted (os : Os) (started : os.Started) (H : Type) (enc : TypeId × Value → H) :
    ReturnsInHanded {} Try.checked os 8 .any (Rows.fnReachTurnedSpec.pre6 enc Try.prog Try.f8 Rows.fnReachTurnedRow.domain false) (Rows.fnReachTurnedSpec.post enc Try.prog Try.f8 false true false false) := by
  refine returnsInHanded_of_change (C := Try.checked) Try.own_ started (by kernel_rfl) Try.func8
    (ChangeSpec.witness6 (enc := enc) (C := Try.checked) false ⟨#[], #[.slice none 0 0], []⟩ 8 (by kernel_rfl) (by kernel_rfl) (by kernel_rfl) (by kernel_rfl)) ?_
  intro W base args ds gs before hval0 hW hcnd _
  have hval : ∀ (j : Nat) t v, Try.f8.params[j]? = some t → args[j]? = some v → Value.okWide Try.prog W .any base t v := hval0
  have hW' := hW
  obtain ⟨p, q, hA0, hV, rfl, hfz, hnd⟩ := hW
  have hA : DataW.TrodAll enc Try.prog W 0 (fun _ => true) true Try.f8.params.toList args.toList ds p := hA0
  rw [Try.params8] at hA hval
  obtain ⟨v0, vs0, d0, ds0, p0, q0, hargs, rfl, rfl, h0, r0⟩ := trodAll_cons hA
  obtain ⟨rfl, rfl, rfl⟩ := trodAll_nil r0
  obtain rfl : args = #[v0] := by cases args; simp_all
  obtain ⟨rfl, rfl⟩ := trodVars_none hV
  have k0 := h0
  have lt0 : ∀ x ∈ p0, x.block < W.heap.size := by obtain ⟨m, hm⟩ := k0; exact DataW.trod_lt m _ _ _ hm
  obtain ⟨A, n, c, rfl, hb, hg⟩ := open_bytes (hval 0 22 v0 rfl rfl) h0
  clear hA0 hval0
  refine (lawReachTurned_any A n c W hb).mono fun e W' ⟨he, bel0⟩ => ?_
  have bel : Below W.heap.size W W' := bel0
  subst he
  exact ⟨_, rfl, _, _, _, [], _, [], hW', trodAll_mk1 (shut_bool Try.underlying4 _), (trodAll_cons_mk (Below.trod Try.laidOut_ (by kernel_rfl) (of_decide_eq_true (by kernel_rfl)) k0 bel lt0) trodAll_mk0), rfl, bel.frame _, fun h => by cases h⟩

theorem fnReachTurned_holds : Rows.FnReachTurnedSaid :=
  OpenClaim.holds_of_wide 8 Try.f8 rfl rfl rfl rfl rfl rfl rfl ⟨rfl, rfl, rfl, rfl, rfl⟩ rfl rfl rfl rfl rfl (by kernel_rfl) Try.func8 (by kernel_rfl)
    (of_decide_eq_true (by kernel_rfl)) (by unfold Func.isWrapper; first | (rw [if_pos (by decide +kernel)]; kernel_rfl) | (rw [if_neg (by decide +kernel)]; exact ⟨rfl, rfl⟩))
    (fun os started H enc _ => fnReachTurned_lifted os started H enc)

end Go.Proofs.Ytjmooakjdcepcaa
