/-
  What is proved here: the walk of the law FnQueryReach: at every code that can be read it returns true and leaves what was there as it was; at every code the law FnQueryReach returns true, and the argument reads as it did. No conditions. No conditions beyond those that each theorem states.
-/
import Derived.Test.YtjmooakjdcepcaaYD4
import Derived.Test.YtjmooakjdcepcaaYD3
set_option linter.unusedSimpArgs false
set_option linter.unusedVariables false
namespace Go.Proofs.Ytjmooakjdcepcaa
open Go.RowKit

theorem qreach_dist {N s t : Int} {L : List Arc3} {V : List Int} (h : reachB N L V = true) : qreachI N L V s t = distOfI N L s t := by
  unfold qreachI distOfI
  cases hh : has2 N L s t with
  | false => rw [askB_has hh]
  | true => rw [askB_of_has hh, h]

set_option maxRecDepth 100000 in
set_option maxHeartbeats 4000000 in
theorem lawQReach_any (A : Option Addr) (n c : Nat) (w : World) (H : BytesAt w A n) :
    Calls Try.prog 7 #[.slice A n c] w fun e w' => e = .returned (.bool true) ∧ Bl w w' := by
  have K := Lib.hid H
  clear H
  by_cases hbig : (1048576 : Int) < (n : Int)
  · have hb : decide ((1048576 : Int) < (n : Int)) = true := by simpa using hbig
    clear hbig
    go_enter Try.func7, Try.ntmps7
    go_wp2_with (go_at_call 9; refine (big_any _ _ _ _).mono ?_; rintro e w' ⟨rfl, rfl⟩)
    go_ret
    exact ⟨rfl, (by repeat' (first | exact Bl.refl _ | with_reducible assumption | with_reducible refine Bl.drew_ ?_ | with_reducible refine Bl.drewN_ ?_ _ | with_reducible refine Bl.alloc_ ?_ _ | with_reducible refine Bl.trans_ ?_ (by assumption) | with_reducible refine Bl.trans_ ?_ (And.left (by assumption))))⟩
  · have hb : decide ((1048576 : Int) < (n : Int)) = false := by simpa using hbig
    have hn : n ≤ 1099511627776 := by omega
    clear hbig
    go_enter Try.func7, Try.ntmps7
    go_wp2_with fail
    refine (big_any _ _ _ _).mono ?_
    rintro e w1 ⟨rfl, rfl⟩
    go_wp2_with fail
    refine (drawQueryReach_any A n c _ hn K.out).mono ?_
    rintro e w1 ⟨N, A', l, c', L, A3, k, c3, V, s, t, rfl, hd, hk, hk20, ho, hb1⟩
    obtain ⟨ha, hlc⟩ := hd.arcs
    have HL := Lib.hid hd.1
    have hl200 := hd.2.1
    have HK := Lib.hid hk
    obtain ⟨A3', c3', e3, -, hi3, -, -⟩ := OwnN.shape ho
    injection e3 with e31 e32 e33
    subst e31
    subst e33
    clear e32
    obtain ⟨X, hX⟩ : ∃ X, X = w1.alloc (.cells #[.int .i64 N, .slice A' l c'] 26) := ⟨_, rfl⟩
    have HA := Lib.hid (show ArcsAt X X.heap.size A' L from by rw [hX]; exact ha.bl (Bl.alloc_ (Bl.refl w1) _))
    have HI := Lib.hid (show IntsAt X X.heap.size A3 V from by rw [hX]; exact hi3.bl (Bl.alloc_ (Bl.refl w1) _))
    have B1 := Lib.hid (show Bl w X from by rw [hX]; exact hb1.alloc_ _)
    have BXX := Lib.hid (show ∀ wx, Bl X wx → wx.cell? ⟨w1.heap.size, 0, none⟩ = some (.int .i64 N) ∧ wx.cell? ⟨w1.heap.size, 1, none⟩ = some (.slice A' l c') from fun wx hb => by rw [hX] at hb; exact box2 hb)
    clear hd hb1 ha hk ho hi3
    go_wp2_with fail
    rw [← hX]
    clear hX
    refine (implQueryReach_any N s t A' l c' L HL.out A3 k c3 V HK.out hlc _ (by omega) hk20 HA.out HI.out).mono ?_
    rintro e w2 ⟨rfl, hb2⟩
    have P2 := Lib.hid hb2
    obtain ⟨q0, q1⟩ := BXX.out _ hb2
    clear hb2
    go_wp2_with fail
    refine (specQueryReach_any N s t A' l c' L HL.out A3 k c3 V HK.out _ (by omega) hk20 (HA.out.bl P2.out) (HI.out.bl P2.out)).mono ?_
    rintro e w3 ⟨rfl, hb3⟩
    have P3 := Lib.hid (P2.out.trans_ hb3)
    clear hb3 q0 q1
    obtain ⟨q0, q1⟩ := BXX.out _ P3.out
    go_wp2_with fail
    refine (implReachOk_any N A' l c' L HL.out A3 k c3 V HK.out hlc _ (by omega) hk20 (HA.out.bl P3.out) (HI.out.bl P3.out)).mono ?_
    rintro e w4 ⟨rfl, hb4⟩
    have P4 := Lib.hid (P3.out.trans_ hb4)
    clear hb4 q0 q1
    obtain ⟨q0, q1⟩ := BXX.out _ P4.out
    cases hr : reachB N L V with
    | false =>
      go_wp2
      go_ret
      exact ⟨rfl, B1.out.trans_ P4.out⟩
    | true =>
      have QD := qreach_dist (s := s) (t := t) hr
      rw [QD]
      go_wp2_with fail
      refine (implDistOf_any N s t A' l c' L HL.out hlc _ (by omega) (HA.out.bl P4.out)).mono ?_
      rintro e w5 ⟨rfl, hb5⟩
      go_wp2
      go_ret
      exact ⟨rfl, B1.out.trans_ (P4.out.trans_ hb5)⟩

end Go.Proofs.Ytjmooakjdcepcaa

set_option linter.unusedSimpArgs false
set_option linter.unusedVariables false
namespace Go.Proofs.Ytjmooakjdcepcaa
open Go.ChangeShapes Go.WideShapes Go.ChangeAt Go.RowKit

set_option maxRecDepth 100000 in
theorem fnQueryReach_lifted (os : Os) (started : os.Started) (H : Type) (enc : TypeId × Value → H) :
    ReturnsInHanded {} Try.checked os 7 .any (Rows.fnQueryReachSpec.pre6 enc Try.prog Try.f7 Rows.fnQueryReachRow.domain false) (Rows.fnQueryReachSpec.post enc Try.prog Try.f7 false true false false) := by
  refine returnsInHanded_of_change (C := Try.checked) Try.own_ started (by kernel_rfl) Try.func7
    (ChangeSpec.witness6 (enc := enc) (C := Try.checked) false ⟨#[], #[.slice none 0 0], []⟩ 8 (by kernel_rfl) (by kernel_rfl) (by kernel_rfl) (by kernel_rfl)) ?_
  intro W base args ds gs before hval0 hW hcnd _
  have hval : ∀ (j : Nat) t v, Try.f7.params[j]? = some t → args[j]? = some v → Value.okWide Try.prog W .any base t v := hval0
  have hW' := hW
  obtain ⟨p, q, hA0, hV, rfl, hfz, hnd⟩ := hW
  have hA : DataW.TrodAll enc Try.prog W 0 (fun _ => true) true Try.f7.params.toList args.toList ds p := hA0
  rw [Try.params7] at hA hval
  obtain ⟨v0, vs0, d0, ds0, p0, q0, hargs, rfl, rfl, h0, r0⟩ := trodAll_cons hA
  obtain ⟨rfl, rfl, rfl⟩ := trodAll_nil r0
  obtain rfl : args = #[v0] := by cases args; simp_all
  obtain ⟨rfl, rfl⟩ := trodVars_none hV
  have k0 := h0
  have lt0 : ∀ x ∈ p0, x.block < W.heap.size := by obtain ⟨m, hm⟩ := k0; exact DataW.trod_lt m _ _ _ hm
  obtain ⟨A, n, c, rfl, hb, hg⟩ := open_bytes (hval 0 22 v0 rfl rfl) h0
  clear hA0 hval0
  refine (lawQReach_any A n c W hb).mono fun e W' ⟨he, bel0⟩ => ?_
  have bel : Below W.heap.size W W' := bel0
  subst he
  exact ⟨_, rfl, _, _, _, [], _, [], hW', trodAll_mk1 (shut_bool Try.underlying4 _), (trodAll_cons_mk (Below.trod Try.laidOut_ (by kernel_rfl) (of_decide_eq_true (by kernel_rfl)) k0 bel lt0) trodAll_mk0), rfl, bel.frame _, fun h => by cases h⟩

theorem fnQueryReach_holds : Rows.FnQueryReachSaid :=
  OpenClaim.holds_of_wide 7 Try.f7 rfl rfl rfl rfl rfl rfl rfl ⟨rfl, rfl, rfl, rfl, rfl⟩ rfl rfl rfl rfl rfl (by kernel_rfl) Try.func7 (by kernel_rfl)
    (of_decide_eq_true (by kernel_rfl)) (by unfold Func.isWrapper; first | (rw [if_pos (by decide +kernel)]; kernel_rfl) | (rw [if_neg (by decide +kernel)]; exact ⟨rfl, rfl⟩))
    (fun os started H enc _ => fnQueryReach_lifted os started H enc)

end Go.Proofs.Ytjmooakjdcepcaa
