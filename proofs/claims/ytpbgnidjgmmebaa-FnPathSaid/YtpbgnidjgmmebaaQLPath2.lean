/-
  What is proved here: the walk of the law FnPath: at every code that can be read it returns true and leaves what was there as it was. No conditions beyond those that each theorem states.
-/
import Derived.Test.YtpbgnidjgmmebaaQDP
import Derived.Test.YtpbgnidjgmmebaaQDL
import Derived.Test.YtpbgnidjgmmebaaQPSQ
import Derived.Test.YtpbgnidjgmmebaaQHL
import Derived.Test.YtpbgnidjgmmebaaZP
import Derived.Test.YtpbgnidjgmmebaaQLF
set_option linter.unusedSimpArgs false
set_option linter.unusedVariables false
namespace Go.Proofs.Ytpbgnidjgmmebaa
open Go.RowKit

/-- Where there is a path the nodes are nodes, and there is a way. -/
theorem pathL_pos {N s t : Int} {L : List Arc3} (h : 0 < (pathL N L s t).length) : has2 N L s t = true ∧ 0 ≤ dAt (distL N (revL L) t) s := by
  unfold pathL at h
  split at h
  · rename_i hc
    rw [Bool.and_eq_true] at hc
    exact ⟨hc.1, by simpa using hc.2⟩
  · simp at h
theorem path_dist {N s t : Int} {L : List Arc3} : decide (0 < (pathL N L s t).length) = decide (0 ≤ distOfI N L s t) := by
  rw [decide_eq_decide]
  cases hh : has2 N L s t with
  | false =>
    rw [pathL_none hh]
    unfold distOfI
    rw [if_neg (by rw [hh]; simp)]
    simp
  | true =>
    obtain ⟨ho, hs, ht⟩ := has2_of hh
    rw [distOfI_of ho hs ht, ← distL_of_turned ho hs ht]
    constructor
    · exact fun h => (pathL_pos h).2
    · exact fun h => (way_path hh h).pos
/-- What the law asks of the first path. -/
theorem path_whole {N s t : Int} {L : List Arc3} (hl : 0 < (pathL N L s t).length) :
    pathB N L (pathL N L s t) = true ∧ lenI N L (pathL N L s t) = distOfI N L s t ∧ (pathL N L s t)[0] = s ∧ (pathL N L s t)[(pathL N L s t).length - 1]'(by omega) = t ∧
      ∀ i (hi : i < (pathL N L s t).length), decide ((pathL N L s t)[i] ∈ (pathL N L s t).take i) = false := by
  obtain ⟨hh, hd⟩ := pathL_pos hl
  have hw := way_path hh hd
  have h0 := hw.head hl
  have h1 := hw.last (by omega)
  obtain ⟨p1, p2⟩ := piece_path hl 0 ((pathL N L s t).length - 1) (Nat.zero_le _) (by omega)
  have hp : pieceL (pathL N L s t) 0 ((pathL N L s t).length - 1) = pathL N L s t := by
    unfold pieceL
    rw [List.drop_zero, List.take_of_length_le (by omega)]
  rw [hp] at p1 p2
  rw [h0, h1] at p2
  refine ⟨p1, p2, h0, h1, fun i hi => ?_⟩
  rw [decide_eq_false_iff_not]
  intro hm
  obtain ⟨j, hj, e⟩ := List.getElem_of_mem hm
  rw [List.length_take] at hj
  rw [List.getElem_take] at e
  exact hw.nodup j i (by omega) hi e

set_option maxRecDepth 100000 in
set_option maxHeartbeats 8000000 in
theorem lawPath2_any (A : Option Addr) (n c : Nat) (w : World) (H : BytesAt w A n) :
    Calls Try.prog 4 #[.slice A n c] w fun e w' => e = .returned (.bool true) ∧ Bl w w' := by
  have K := Lib.hid H
  clear H
  by_cases hbig : (1048576 : Int) < (n : Int)
  · have hb : decide ((1048576 : Int) < (n : Int)) = true := by simpa using hbig
    clear hbig
    go_enter Try.func4, Try.ntmps4
    go_wp2_with (go_at_call 17; refine (big_any _ _ _ _).mono ?_; rintro e w' ⟨rfl, rfl⟩)
    go_ret
    exact ⟨rfl, (by repeat' (first | exact Bl.refl _ | with_reducible assumption | with_reducible refine Bl.drew_ ?_ | with_reducible refine Bl.drewN_ ?_ _ | with_reducible refine Bl.alloc_ ?_ _ | with_reducible refine Bl.trans_ ?_ (by assumption) | with_reducible refine Bl.trans_ ?_ (And.left (by assumption))))⟩
  · have hb : decide ((1048576 : Int) < (n : Int)) = false := by simpa using hbig
    have hn : n ≤ 1099511627776 := by omega
    clear hbig
    go_enter Try.func4, Try.ntmps4
    go_wp2_with fail
    refine (big_any _ _ _ _).mono ?_
    rintro e w1 ⟨rfl, rfl⟩
    go_wp2_with fail
    refine (drawPathOf_any A n c _ hn K.out).mono ?_
    rintro e w1 ⟨N, A', l, c', L, s, t, rfl, hd, hs, ht, hb1⟩
    obtain ⟨ha, hlc⟩ := hd.arcs
    have HL := Lib.hid hd.1
    have hl200 := hd.2.1
    have HA := Lib.hid (ha.bl (Bl.alloc_ (Bl.refl w1) (.cells #[.int .i64 N, .slice A' l c'] 26)))
    have B1 := Lib.hid (hb1.alloc_ (.cells #[.int .i64 N, .slice A' l c'] 26))
    clear hd hs ht hb1 ha
    go_wp2_with fail
    refine (implPathOf_any N s t A' l c' L HL.out hlc _ (by omega) HA.out).mono ?_
    rintro e w2 ⟨v2, rfl, hv2, hb2⟩
    obtain ⟨A2, c2, rfl, hcap2, hi2, -, -⟩ := OwnN.shape hv2
    obtain ⟨P, hP⟩ : ∃ P, P = pathL N L s t := ⟨_, rfl⟩
    have WH := Lib.hid (show 0 < P.length → pathB N L P = true ∧ lenI N L P = distOfI N L s t ∧ (∀ h0 : 0 < P.length, P[0] = s) ∧ (∀ h0 : P.length - 1 < P.length, P[P.length - 1] = t) ∧ ∀ i (hi : i < P.length), decide (P[i] ∈ P.take i) = false from by
      subst hP
      intro h
      obtain ⟨a, b, c, d, e⟩ := path_whole h
      exact ⟨a, b, fun _ => c, fun _ => d, e⟩)
    have PD := Lib.hid (show decide (0 < P.length) = decide (0 ≤ distOfI N L s t) from by rw [hP]; exact path_dist)
    have hk20 : P.length ≤ 1048576 := by rw [hP]; exact pathL_len N L s t
    rw [← hP] at hi2 hcap2 ⊢
    have I2 := Lib.hid hi2
    obtain ⟨k, hk⟩ : ∃ k, k = P.length := ⟨_, rfl⟩
    rw [← hk] at hk20 hcap2 ⊢
    have HK := Lib.hid hk
    have HC2 := Lib.hid hcap2
    obtain ⟨q0, q1⟩ := box2 hb2
    clear hv2 hi2 hk hcap2
    go_wp2_with fail
    refine (specPathOf_any N s t A' l c' L HL.out _ (by omega) (HA.out.bl hb2)).mono ?_
    rintro e w3 ⟨v3, rfl, hv3, hb3⟩
    rw [← hP] at hv3 ⊢
    obtain ⟨A3, c3, rfl, -, hi3, -, -⟩ := OwnN.shape hv3
    rw [← HK.out]
    have P3 := Lib.hid (hb2.trans_ hb3)
    have J3 := Lib.hid (I2.out.bl hb3)
    have I3 := Lib.hid hi3
    clear hv3 hi3 q0 q1 hP
    go_wp2_with fail
    refine (drawLengthOf_any A n c _ hn (K.out.bl (B1.out.trans_ P3.out))).mono ?_
    rintro e w4 ⟨N4, A4, l4, c4, L4, v4, P4, rfl, hd4, hv4, hp4, hb4⟩
    obtain ⟨ha4, hlc4⟩ := hd4.arcs
    have HL4 := Lib.hid hd4.1
    have hl4 := hd4.2.1
    obtain ⟨A5, c5, rfl, hcap5, hi5, -, -⟩ := OwnN.shape hv4
    obtain ⟨k4, hk4⟩ : ∃ k4, k4 = P4.length := ⟨_, rfl⟩
    rw [← hk4] at hp4 hcap5 ⊢
    have HK4 := Lib.hid hk4
    have HA4 := Lib.hid (ha4.bl (Bl.alloc_ (Bl.refl w4) (.cells #[.int .i64 N4, .slice A4 l4 c4] 26)))
    have I5 := Lib.hid (IntsAt.bl hi5 (Bl.alloc_ (Bl.refl w4) (.cells #[.int .i64 N4, .slice A4 l4 c4] 26)))
    have X4 := Lib.hid (hb4.alloc_ (.cells #[.int .i64 N4, .slice A4 l4 c4] 26))
    clear hd4 ha4 hb4 hv4 hi5 hk4
    go_wp2_with fail
    refine (implLengthOf_any N4 A4 l4 c4 L4 HL4.out A5 k4 c5 P4 HK4.out _ (by omega) hp4 hcap5 HA4.out I5.out).mono ?_
    rintro e w5 ⟨rfl, hb5⟩
    obtain ⟨x0, x1⟩ := box2 hb5
    go_wp2_with fail
    refine (specLengthOf_any N4 A4 l4 c4 L4 HL4.out A5 k4 c5 P4 HK4.out _ (by omega) hp4 (HA4.out.bl hb5) (I5.out.bl hb5)).mono ?_
    rintro e w6 ⟨rfl, hb6⟩
    have P6 := Lib.hid (P3.out.trans_ (X4.out.trans_ (hb5.trans_ hb6)))
    have J6 := Lib.hid (J3.out.bl (X4.out.trans_ (hb5.trans_ hb6)))
    have I6 := Lib.hid (I3.out.bl (X4.out.trans_ (hb5.trans_ hb6)))
    have e1 : (lenI N4 L4 P4 != lenI N4 L4 P4) = false := by simp
    have e2 : (pathB N4 L4 P4 != pathB N4 L4 P4) = false := by simp
    have e3 : (lenI N4 L4 P4 == lenI N4 L4 P4) = true := by simp
    have e4 : (pathB N4 L4 P4 == pathB N4 L4 P4) = true := by simp
    generalize lenI N4 L4 P4 = le at *
    generalize pathB N4 L4 P4 = fl at *
    clear hb5 hb6 x0 x1 HA4 I5 I3 X4 J3
    obtain ⟨q0, q1⟩ := box2 P6.out
    rw [← HK.out] at PD
    have DB := Lib.hid (distOfI_bounds (N := N) (s := s) (t := t) (L := L))
    by_cases hk0 : 0 < k
    · have bk : decide (0 < k) = true := by simpa using hk0
      have bd : decide (0 ≤ distOfI N L s t) = true := by rw [← PD.out]; exact bk
      have hPp : 0 < P.length := by rw [← HK.out]; exact hk0
      obtain ⟨wh1, wh2, wh3, wh4, wh5⟩ := WH.out hPp
      have W1 := Lib.hid wh1
      have W2 := Lib.hid wh2
      have W3 := Lib.hid (wh3 hPp)
      have W4 := Lib.hid (wh4 (by omega))
      have W5 := Lib.hid wh5
      clear wh1 wh2 wh3 wh4 wh5
      rw [bk]
      have CL := Lib.hid bk
      have BD := Lib.hid bd
      have PP0 := Lib.hid hPp
      clear bk bd
      go_wp2_with fail
      refine (sameInts_yes A2 A3 c2 c3 P k HK.out _ (by omega) J6.out I6.out).mono ?_
      rintro e w7 ⟨rfl, hb7⟩
      have P7 := Lib.hid (P6.out.trans_ hb7)
      have J7 := Lib.hid (J6.out.bl hb7)
      clear hb7 q0 q1
      obtain ⟨q0, q1⟩ := box2 P7.out
      go_wp2_with fail
      refine (implDistOf_any N s t A' l c' L HL.out hlc _ (by omega) (HA.out.bl P7.out)).mono ?_
      rintro e w8 ⟨rfl, hb8⟩
      have bd := BD.out
      have P8 := Lib.hid (P7.out.trans_ hb8)
      have J8 := Lib.hid (J7.out.bl hb8)
      clear hb8 q0 q1
      go_wp2_with fail
      go_loopw [16] (fun iv wr => ∃ i : Nat, i ≤ k ∧ iv = .int .i64 i ∧ Bl w8 wr) (fun iv _ => k - (intOf iv).toNat)
      case atStart => exact ⟨0, by omega, rfl, Bl.refl _⟩
      case round =>
        obtain ⟨i, hi, rfl, hbl⟩ := hrel
        have hgb := P8.out.trans_ hbl
        by_cases hlt : i < k
        · have hil : i < P.length := by have := HK.out; omega
          obtain ⟨g2, o2, rfl, hg2, hc2⟩ := (J8.out.bl hbl).cell (by omega)
          have p1 := hc2 i hil
          have NO := Lib.hid (W5.out i hil)
          have IT := Lib.hid (show ∀ wx, Bl wr wx → IntsAt wx wx.heap.size (some ⟨g2, o2, none⟩) (P.take i) from fun wx hy h0 => by
            refine ⟨g2, o2, rfl, Nat.lt_of_lt_of_le hg2 hy.size, fun j hj => ?_⟩
            rw [csI_len, List.length_take] at hj
            have h1 := hc2 j (by omega)
            rw [← (bcell hy).1 _ _ hg2] at h1
            rw [csI_at, h1]
            simp)
          have TL := Lib.hid (show i = (P.take i).length from by rw [List.length_take]; omega)
          have HSH := Lib.hid (show ∀ wx, Bl wr wx → wx.cell? ⟨g2, o2 + i, none⟩ = some (.int .i64 (P[i]'hil)) from fun wx hy => ((bcell hy).1 _ _ hg2).trans p1)
          clear hc2
          generalize P[i]'hil = x at *
          have i0 : (0 : Int) ≤ (i : Int) := by omega
          have i1 : (i : Int) < (k : Int) := by omega
          have i2 : (i : Int) ≤ (c2 : Int) := by have := HC2.out; omega
          have i3 : i ≤ c2 := by have := HC2.out; omega
          go_wp2_with fail
          refine wp_region_held_drew (S := fun wx => wx.cell? ⟨g2, o2 + i, none⟩ = some (.int .i64 x)) (by kernel_rfl) ?_ (fun hHeld => ?_)
          · (exact HSH.out _ (by repeat' (first | exact Bl.refl _ | with_reducible assumption | with_reducible refine Bl.drew_ ?_ | with_reducible refine Bl.drewN_ ?_ _ | with_reducible refine Bl.alloc_ ?_ _ | with_reducible refine Bl.trans_ ?_ (by assumption) | with_reducible refine Bl.trans_ ?_ (And.left (by assumption)))))
          refine wpAnyH_take (i := 0) (v := ?_) rfl (by kernel_rfl) (by kernel_rfl) (by kernel_rfl) (fun _ _ _ h => h) (Or.inl ⟨by kernel_rfl, ?_⟩) (by assumption) ?_
          rotate_left
          · (intro wx hSw; (try dsimp only at hSw); go_simp; try (with_reducible rfl))
          try simp only [Act.put, List.getElem_toArray, List.getElem_cons_succ, List.getElem_cons_zero, List.setIfInBounds_toArray, List.set_cons_zero, List.set_cons_succ]
          refine wpAnyH_take (i := 1) (v := ?_) rfl (by kernel_rfl) (by kernel_rfl) (by kernel_rfl) (fun _ _ _ h => h) (Or.inl ⟨by kernel_rfl, ?_⟩) (by assumption) ?_
          rotate_left
          · (intro wx hSw; (try dsimp only at hSw); go_simp; try (with_reducible rfl))
          try simp only [Act.put, List.getElem_toArray, List.getElem_cons_succ, List.getElem_cons_zero, List.setIfInBounds_toArray, List.set_cons_zero, List.set_cons_succ]
          refine wpAnyH_take (i := 2) (v := ?_) rfl (by kernel_rfl) (by kernel_rfl) (by kernel_rfl) (fun _ _ _ h => h) (Or.inl ⟨by kernel_rfl, ?_⟩) (by assumption) ?_
          rotate_left
          · (intro wx hSw; (try dsimp only at hSw); go_simp; try (with_reducible rfl))
          try simp only [Act.put, List.getElem_toArray, List.getElem_cons_succ, List.getElem_cons_zero, List.setIfInBounds_toArray, List.set_cons_zero, List.set_cons_succ]
          refine wpAnyH_take (i := 3) (v := ?_) rfl (by kernel_rfl) (by kernel_rfl) (by kernel_rfl) (fun _ _ _ h => h) (Or.inl ⟨by kernel_rfl, ?_⟩) (by assumption) ?_
          rotate_left
          · (intro wx hSw; (try dsimp only at hSw); go_simp; try (with_reducible rfl))
          try simp only [Act.put, List.getElem_toArray, List.getElem_cons_succ, List.getElem_cons_zero, List.setIfInBounds_toArray, List.set_cons_zero, List.set_cons_succ]
          refine wpAnyH_take (i := 4) (v := ?_) rfl (by kernel_rfl) (by kernel_rfl) (by kernel_rfl) (fun _ _ _ h => h) (Or.inl ⟨by kernel_rfl, ?_⟩) (by assumption) ?_
          rotate_left
          · (intro wx hSw; (try dsimp only at hSw); go_simp; try (with_reducible rfl))
          try simp only [Act.put, List.getElem_toArray, List.getElem_cons_succ, List.getElem_cons_zero, List.setIfInBounds_toArray, List.set_cons_zero, List.set_cons_succ]
          refine wpAnyH_take (i := 5) (v := ?_) rfl (by kernel_rfl) (by kernel_rfl) (by kernel_rfl) (fun _ _ _ h => h) (Or.inl ⟨by kernel_rfl, ?_⟩) (by assumption) ?_
          rotate_left
          · (intro wx hSw; (try dsimp only at hSw); go_simp; try (with_reducible rfl))
          try simp only [Act.put, List.getElem_toArray, List.getElem_cons_succ, List.getElem_cons_zero, List.setIfInBounds_toArray, List.set_cons_zero, List.set_cons_succ]
          refine wpAnyH_take (i := 6) (v := ?_) rfl (by kernel_rfl) (by kernel_rfl) (by kernel_rfl) (fun _ _ _ h => h) (Or.inl ⟨by kernel_rfl, ?_⟩) (by assumption) ?_
          rotate_left
          · (intro wx hSw; (try dsimp only at hSw); go_simp; try (with_reducible rfl))
          try simp only [Act.put, List.getElem_toArray, List.getElem_cons_succ, List.getElem_cons_zero, List.setIfInBounds_toArray, List.set_cons_zero, List.set_cons_succ]
          refine wpAnyH_ready (rs := [7]) (by kernel_rfl) (by simp) ?_
          refine AllReadyH.cons rfl (fun K hK => ?_) AllReadyH.nil
          go_simp
          (go_at_call 32; refine (hasL_any (some ⟨g2, o2, none⟩) _ (P.take i) i TL.out x _ (by omega) (IT.out _ (by repeat' (first | exact Bl.refl _ | with_reducible assumption | with_reducible refine Bl.drew_ ?_ | with_reducible refine Bl.drewN_ ?_ _ | with_reducible refine Bl.alloc_ ?_ _ | with_reducible refine Bl.trans_ ?_ (by assumption) | with_reducible refine Bl.trans_ ?_ (And.left (by assumption)))))).mono ?_; rintro e w9 ⟨rfl, hb9⟩; rw [NO.out])
          try (go_wp2_with fail)
          refine hK.out _ _ ?_ (fun hHeld => ?_)
          · (exact HSH.out _ (by repeat' (first | exact Bl.refl _ | with_reducible assumption | with_reducible refine Bl.drew_ ?_ | with_reducible refine Bl.drewN_ ?_ _ | with_reducible refine Bl.alloc_ ?_ _ | with_reducible refine Bl.trans_ ?_ (by assumption) | with_reducible refine Bl.trans_ ?_ (And.left (by assumption)))))
          clear hK K
          try simp only [Act.put, List.getElem_toArray, List.getElem_cons_succ, List.getElem_cons_zero, List.setIfInBounds_toArray, List.set_cons_zero, List.set_cons_succ]
          refine wpAnyH_done (by kernel_rfl) ?_ _
          have B9 := Lib.hid (hbl.trans_ (show Bl wr w9 from (by repeat' (first | exact Bl.refl _ | with_reducible assumption | with_reducible refine Bl.drew_ ?_ | with_reducible refine Bl.drewN_ ?_ _ | with_reducible refine Bl.alloc_ ?_ _ | with_reducible refine Bl.trans_ ?_ (by assumption) | with_reducible refine Bl.trans_ ?_ (And.left (by assumption))))))
          go_wp2
          go_roundw
          case rel => exact ⟨i + 1, by omega, by go_num, B9.out⟩
          case measure => simp [intOf]; omega
        · obtain rfl : i = k := by omega
          have JE := Lib.hid (J8.out.bl hbl)
          obtain ⟨q0, q1⟩ := box2 hgb
          go_wp2_with fail
          refine (implLengthOf_any N A' l c' L HL.out A2 i c2 P HK.out _ (by omega) hk20 HC2.out (HA.out.bl hgb) JE.out).mono ?_
          rintro e w9 ⟨rfl, hb9⟩
          rw [W1.out, W2.out]
          have P9 := Lib.hid (hgb.trans_ hb9)
          clear q0 q1
          obtain ⟨q0, q1⟩ := box2 P9.out
          go_wp2_with fail
          refine (implDistOf_any N s t A' l c' L HL.out hlc _ (by omega) (HA.out.bl P9.out)).mono ?_
          rintro e w10 ⟨rfl, hb10⟩
          have hdd : (distOfI N L s t == distOfI N L s t) = true := by simp
          have JF := Lib.hid (JE.out.bl (hb9.trans_ hb10))
          obtain ⟨g2, o2, rfl, hg2, hc2⟩ := JF.out.cell PP0.out
          have p0 := hc2 0 PP0.out
          have p9 := hc2 (P.length - 1) (by have := PP0.out; omega)
          rw [W3.out, Nat.add_zero] at p0
          rw [W4.out, ← HK.out] at p9
          have hss : (s == s) = true := by simp
          have htt : (t == t) = true := by simp
          have k1 : IntKind.i64.wrap ((i : Int) - 1) = (i : Int) - 1 := IntWalk.i64_in _ (by omega)
          have k2 : (0 : Int) ≤ (i : Int) - 1 := by omega
          have k3 : (i : Int) - 1 < (i : Int) := by omega
          have k4 : ((i : Int) - 1).toNat = i - 1 := by omega
          have k5 : (0 : Int) < (i : Int) := by omega
          clear hc2
          go_wp2
          go_ret
          exact ⟨rfl, B1.out.trans_ (P9.out.trans_ hb10)⟩
    · have bk : decide (0 < k) = false := by simpa using hk0
      have bd : decide (0 ≤ distOfI N L s t) = false := by rw [← PD.out]; exact bk
      rw [bk]
      have BD := Lib.hid bd
      clear bk bd
      go_wp2_with fail
      refine (sameInts_yes A2 A3 c2 c3 P k HK.out _ (by omega) J6.out I6.out).mono ?_
      rintro e w7 ⟨rfl, hb7⟩
      have P7 := Lib.hid (P6.out.trans_ hb7)
      have J7 := Lib.hid (J6.out.bl hb7)
      have I7 := Lib.hid (I6.out.bl hb7)
      clear hb7 q0 q1
      obtain ⟨q0, q1⟩ := box2 P7.out
      go_wp2_with fail
      refine (implDistOf_any N s t A' l c' L HL.out hlc _ (by omega) (HA.out.bl P7.out)).mono ?_
      rintro e w8 ⟨rfl, hb8⟩
      have bd := BD.out
      have P8 := Lib.hid (P7.out.trans_ hb8)
      have J8 := Lib.hid (J7.out.bl hb8)
      have I8 := Lib.hid (I7.out.bl hb8)
      clear hb8 q0 q1
      obtain ⟨q0, q1⟩ := box2 P8.out
      go_wp2_with fail
      refine (sameInts_yes A2 A3 c2 c3 P k HK.out _ (by omega) J8.out I8.out).mono ?_
      rintro e w9 ⟨rfl, hb9⟩
      have P9 := Lib.hid (P8.out.trans_ hb9)
      clear hb9 q0 q1
      obtain ⟨q0, q1⟩ := box2 P9.out
      go_wp2_with fail
      refine (implDistOf_any N s t A' l c' L HL.out hlc _ (by omega) (HA.out.bl P9.out)).mono ?_
      rintro e w10 ⟨rfl, hb10⟩
      go_wp2
      go_ret
      exact ⟨rfl, B1.out.trans_ (P9.out.trans_ hb10)⟩

end Go.Proofs.Ytpbgnidjgmmebaa
