/-
  What is proved here: the walk of the law FnOnTurned: at every code that can be read it returns true and leaves what was there as it was. No conditions beyond those that each theorem states.
-/
import Derived.Test.YtpbgnidjgmmebaaQSM
import Derived.Test.YtpbgnidjgmmebaaZP
import Derived.Test.YtpbgnidjgmmebaaQDR
import Derived.Test.YtpbgnidjgmmebaaQOS
import Derived.Test.YtpbgnidjgmmebaaQOJ
set_option linter.unusedSimpArgs false
set_option linter.unusedVariables false
namespace Go.Proofs.Ytpbgnidjgmmebaa
open Go.RowKit

theorem onL_turned {N s t : Int} {L : List Arc3} (ho : okB N L = true) : onL N (revL L) t s = onL N L s t := by
  have e : has2 N (revL L) t s = has2 N L s t := by
    unfold has2
    rw [ho, revL_ok ho]
    simp [and_comm]
  unfold onL
  rw [e]
  by_cases h : has2 N L s t = true
  · rw [if_pos h, if_pos h]
    obtain ⟨-, hs, ht⟩ := has2_of h
    unfold withinL withinD
    rw [revL_revL ho, distL_of_turned ho hs ht]
    congr 1
    funext v
    unfold byB
    rw [decide_eq_decide]
    constructor <;> (intro h; omega)
  · rw [if_neg h, if_neg h]

set_option maxHeartbeats 400000 in
theorem has_yes (A : Option Addr) (c : Nat) (V : List Int) (n : Nat) (hn : n = V.length) (x : Int) (hx : x ∈ V) (w : World) (hm : n ≤ 9223372036854775807) (H1 : IntsAt w w.heap.size A V) :
    Calls Try.prog 32 #[.slice A n c, .int .i64 x] w fun e w' => e = .returned (.bool true) ∧ Bl w w' := by
  have K1 := Lib.hid H1
  have HN := Lib.hid hn
  have HX := Lib.hid hx
  clear H1 hn hx
  go_enter Try.func32, Try.ntmps32
  go_wp2
  go_loopw [5] (fun i wr => ∃ k : Nat, k ≤ n ∧ i = .int .i64 k ∧ Bl w wr ∧ Hid (∀ j (h : j < V.length), j < k → V[j] ≠ x)) (fun i _ => n - (intOf i).toNat)
  case atStart => exact ⟨0, by omega, rfl, Bl.refl w, Lib.hid (fun j _ h => by omega)⟩
  case round =>
    obtain ⟨k, hk, rfl, hbl, hno⟩ := hrel
    by_cases hlt : k < n
    · have hkl : k < V.length := by have := HN.out; omega
      obtain ⟨g1, o1, rfl, hg1, hc1⟩ := K1.out.cell (by omega)
      have p1 := hc1 k hkl
      clear hc1
      rw [← (bcell hbl).1 _ _ hg1] at p1
      have HY := Lib.hid (fun h : V[k] ≠ x => (show ∀ j (h : j < V.length), j < k + 1 → V[j] ≠ x from fun j hj hjk => by
        by_cases e : j = k
        · subst e; exact h
        · exact hno.out j hj (by omega)))
      generalize V[k] = y at p1 HY
      have i1 : (0 : Int) ≤ (k : Int) := by omega
      have i2 : (k : Int) < (n : Int) := by omega
      by_cases e : y = x
      · have b1 : (y == x) = true := by simpa using e
        clear e HY
        go_wp2
        go_ret
        exact ⟨rfl, hbl⟩
      · have b1 : (y == x) = false := by simpa using e
        have HZ := Lib.hid (HY.out e)
        clear e HY
        go_wp2
        go_roundw
        case rel => exact ⟨k + 1, by omega, by go_num, hbl, HZ⟩
        case measure => simp [intOf]; omega
    · obtain ⟨j, hj, e⟩ := List.getElem_of_mem HX.out
      exact absurd e (hno.out j hj (by have := HN.out; omega))

set_option maxRecDepth 100000 in
set_option maxHeartbeats 1000000 in
theorem drawOnShortest_any (A : Option Addr) (n c : Nat) (w : World) (hn : n ≤ 1099511627776) (H : BytesAt w A n) :
    Calls Try.prog 34 #[.slice A n c] w (DrawnG2 w) := by
  have K := Lib.hid H
  clear H
  go_enter Try.func34, Try.ntmps34
  go_wp2_with fail
  refine (drawDistOf_any A n c _ hn (K.out.bl (by repeat' (first | exact Bl.refl _ | with_reducible assumption | with_reducible refine Bl.drew_ ?_ | with_reducible refine Bl.drewN_ ?_ _ | with_reducible refine Bl.alloc_ ?_ _ | with_reducible refine Bl.trans_ ?_ (by assumption) | with_reducible refine Bl.trans_ ?_ (And.left (by assumption)))))).mono ?_
  rintro e w1 ⟨N, A', l, c', L, s, t, rfl, hd, hs, ht, hb⟩
  have D := Lib.hid hd
  have S1 := Lib.hid hs
  have S2 := Lib.hid ht
  have B := Lib.hid hb
  obtain ⟨r0, r1, fr0, fr1⟩ := Two.facts ((Two.new w (.int .i64 0) (.slice none 0 0)).bl hb)
  have sz := hb.size
  simp only [World.size_alloc] at sz
  clear hd hs ht hb
  go_wp2
  refine bodyPost_ret (v := .tuple #[.agg #[.int .i64 N, .slice A' l c'], .int .i64 s, .int .i64 t]) (by simp [results, Try.results34, go_sem, r0, r1, fr0, fr1]) rfl ?_
  have DD := D.out
  rw [World.size_alloc] at DD
  exact ⟨N, A', l, c', L, s, t, rfl, ⟨DD.1, DD.2.1, DD.2.2.1, ((DD.2.2.2.set_ (by show w.heap.size < w.heap.size + 1; omega) _).set_ (by show w.heap.size < w.heap.size + 1; omega) _).low (by omega)⟩, S1.out, S2.out, (((Bl.alloc_ (Bl.refl w) _).trans_ B.out).set_ (Nat.le_refl _) _).set_ (Nat.le_refl _) _⟩

set_option maxRecDepth 100000 in
set_option maxHeartbeats 4000000 in
theorem lawOnTurned_any (A : Option Addr) (n c : Nat) (w : World) (H : BytesAt w A n) :
    Calls Try.prog 8 #[.slice A n c] w fun e w' => e = .returned (.bool true) ∧ Bl w w' := by
  have K := Lib.hid H
  clear H
  by_cases hbig : (1048576 : Int) < (n : Int)
  · have hb : decide ((1048576 : Int) < (n : Int)) = true := by simpa using hbig
    clear hbig
    go_enter Try.func8, Try.ntmps8
    go_wp2_with (go_at_call 17; refine (big_any _ _ _ _).mono ?_; rintro e w' ⟨rfl, rfl⟩)
    go_ret
    exact ⟨rfl, (by repeat' (first | exact Bl.refl _ | with_reducible assumption | with_reducible refine Bl.drew_ ?_ | with_reducible refine Bl.drewN_ ?_ _ | with_reducible refine Bl.alloc_ ?_ _ | with_reducible refine Bl.trans_ ?_ (by assumption) | with_reducible refine Bl.trans_ ?_ (And.left (by assumption))))⟩
  · have hb : decide ((1048576 : Int) < (n : Int)) = false := by simpa using hbig
    have hn : n ≤ 1099511627776 := by omega
    clear hbig
    go_enter Try.func8, Try.ntmps8
    go_wp2_with fail
    refine (big_any _ _ _ _).mono ?_
    rintro e w1 ⟨rfl, rfl⟩
    go_wp2_with fail
    refine (drawOnShortest_any A n c _ hn K.out).mono ?_
    rintro e w1 ⟨N, A', l, c', L, s, t, rfl, hd, hs, ht, hb1⟩
    obtain ⟨ha, hlc⟩ := hd.arcs
    have HL := Lib.hid hd.1
    have hl200 := hd.2.1
    have HA := Lib.hid (ha.bl (Bl.alloc_ (Bl.refl w1) (.cells #[.int .i64 N, .slice A' l c'] 26)))
    have B1 := Lib.hid (hb1.alloc_ (.cells #[.int .i64 N, .slice A' l c'] 26))
    clear hd hs ht hb1 ha
    go_wp2_with fail
    refine (implOnShortest_any N s t A' l c' L HL.out hlc _ (by omega) HA.out).mono ?_
    rintro e w2 ⟨v2, rfl, hv2, hb2⟩
    obtain ⟨A2, c2, rfl, -, hi2, -, -⟩ := OwnN.shape hv2
    have I2 := Lib.hid hi2
    obtain ⟨k, hk⟩ : ∃ k, k = (onL N L s t).length := ⟨_, rfl⟩
    have hk20 : k ≤ 1048576 := by rw [hk]; exact onL_len N L s t
    rw [← hk]
    have HK := Lib.hid hk
    obtain ⟨q0, q1⟩ := box2 hb2
    clear hv2 hi2 hk
    go_wp2_with fail
    refine (specOnShortest_any N s t A' l c' L HL.out hlc _ (by omega) (HA.out.bl hb2)).mono ?_
    rintro e w3 ⟨v3, rfl, hv3, hb3⟩
    obtain ⟨A3, c3, rfl, -, hi3, -, -⟩ := OwnN.shape hv3
    have I3 := Lib.hid hi3
    rw [← HK.out]
    clear hv3 hi3 q0 q1
    go_wp2_with fail
    refine (sameInts_yes A2 A3 c2 c3 _ k HK.out _ (by omega) (I2.out.bl hb3) I3.out).mono ?_
    rintro e w4 ⟨rfl, hb4⟩
    have P4 := Lib.hid (hb2.trans_ (hb3.trans_ hb4))
    have I4 := Lib.hid (I2.out.bl (hb3.trans_ hb4))
    clear hb2 hb3 hb4
    obtain ⟨q0, q1⟩ := box2 P4.out
    go_wp2_with fail
    refine (specOk_any N A' l c' L HL.out _ (by omega) (HA.out.bl P4.out)).mono ?_
    rintro e w5 ⟨rfl, hb5⟩
    have P5 := Lib.hid (P4.out.trans_ hb5)
    have I5 := Lib.hid (I4.out.bl hb5)
    obtain ⟨q0, q1⟩ := box2 P5.out
    cases ho : okB N L with
    | false =>
      have HO := Lib.hid ho
      clear ho hb5
      go_wp2_with fail
      refine (specOnShortest_any N s t A' l c' L HL.out hlc _ (by omega) (HA.out.bl P5.out)).mono ?_
      rintro e w6 ⟨v6, rfl, hv6, hb6⟩
      obtain ⟨A6, c6, rfl, -, hi6, -, -⟩ := OwnN.shape hv6
      have I6 := Lib.hid hi6
      rw [← HK.out]
      clear hv6 hi6
      go_wp2_with fail
      refine (sameInts_yes A2 A6 c2 c6 _ k HK.out _ (by omega) (I5.out.bl hb6) I6.out).mono ?_
      rintro e w7 ⟨rfl, hb7⟩
      go_wp2
      go_ret
      exact ⟨rfl, B1.out.trans_ (P5.out.trans_ (hb6.trans_ hb7))⟩
    | true =>
      have HO := Lib.hid ho
      have HRL := Lib.hid (revL_len (okB_elim ho).2.2.2.2)
      have HT := Lib.hid (onL_turned (s := s) (t := t) ho)
      clear ho hb5
      go_wp2_with fail
      refine (implReversed_any N A' l c' L HL.out _ (by omega) (HA.out.bl P5.out)).mono ?_
      rintro e w6 ⟨v6, rfl, hv6, hb6⟩
      rw [show revN N L = N from if_pos HO.out]
      rw [show revG N L = revL L from if_pos HO.out] at hv6
      have hcap := OwnA.cap' hv6
      obtain ⟨A6, c6, rfl, ha6, -⟩ := hv6.shape
      have V6 := Lib.hid ha6
      have HC6 := Lib.hid (hcap _ _ _ rfl)
      clear hv6 hcap ha6 q0 q1
      go_wp2_with fail
      refine (implOnShortest_any N t s A6 (revL L).length c6 (revL L) rfl HC6.out _ (by rw [HRL.out]; have := HL.out; omega) V6.out).mono ?_
      rintro e w7 ⟨v7, rfl, hv7, hb7⟩
      rw [HT.out] at hv7
      obtain ⟨A7, c7, rfl, -, hi7, -, -⟩ := OwnN.shape hv7
      have I7 := Lib.hid hi7
      have P7 := Lib.hid (P5.out.trans_ (hb6.trans_ hb7))
      have J7 := Lib.hid (I5.out.bl (hb6.trans_ hb7))
      rw [← HK.out]
      clear hv7 hi7 hb6 hb7
      generalize onL N L s t = V at *
      have hkk : ((k : Int) == (k : Int)) = true := by simp
      go_wp2_with fail
      go_loopw [8] (fun i wr => ∃ j : Nat, j ≤ k ∧ i = .int .i64 j ∧ Bl w7 wr) (fun i _ => k - (intOf i).toNat)
      case atStart => exact ⟨0, by omega, rfl, Bl.refl _⟩
      case round =>
        obtain ⟨j, hj, rfl, hbl⟩ := hrel
        by_cases hlt : j < k
        · have hjl : j < V.length := by have := HK.out; omega
          obtain ⟨g1, o1, rfl, hg1, hc1⟩ := (I7.out.bl hbl).cell (by omega)
          have p1 := hc1 j hjl
          clear hc1
          have HM := Lib.hid (List.getElem_mem hjl)
          generalize V[j] = x at p1 HM
          have i1 : (0 : Int) ≤ (j : Int) := by omega
          have i2 : (j : Int) < (k : Int) := by omega
          go_wp2_with fail
          refine (has_yes A2 c2 V k HK.out x HM.out _ (by omega) (J7.out.bl hbl)).mono ?_
          rintro e w8 ⟨rfl, hb8⟩
          go_wp2
          go_roundw
          case rel => exact ⟨j + 1, by omega, by go_num, hbl.trans_ hb8⟩
          case measure => simp [intOf]; omega
        · obtain rfl : j = k := by omega
          go_wp2
          go_ret
          exact ⟨rfl, B1.out.trans_ (P7.out.trans_ hbl)⟩

end Go.Proofs.Ytpbgnidjgmmebaa
