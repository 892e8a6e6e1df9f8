/-
  What is proved here: the law's farOf; the walk of the law FnFarthest: at every code that can be read it returns true and leaves what was there as it was; at every code the law FnFarthest returns true, and the argument reads as it did. No conditions. No conditions beyond those that each theorem states.
-/
import Derived.Test.YtndkdeiojkclbaaVFar
import Derived.Lib.MinMax
import Derived.Test.YtndkdeiojkclbaaR9
set_option linter.unusedSimpArgs false
set_option linter.unusedVariables false
namespace Go.Proofs.Ytndkdeiojkclbaa
open Go.RowKit

set_option maxRecDepth 100000 in
set_option maxHeartbeats 4000000 in
theorem farOf_any (N v : Int) (A : Option Addr) (n c : Nat) (L : List Arc3) (hn : n = L.length) (hc : n ≤ c) (A2 : Option Addr) (k c2 : Nat) (V : List Int) (hk : k = V.length) (hub : hasUB N L V = true) (hv : 0 ≤ v ∧ v < N) (w : World) (hm : n ≤ 1048576) (hkm : k ≤ 1048576) (H1 : ArcsAt w w.heap.size A L) (H2 : IntsAt w w.heap.size A2 V) :
    Calls Try.prog 8 #[.agg #[.int .i64 N, .slice A n c], .slice A2 k c2, .int .i64 v] w fun e w' => e = .returned (.int .i64 (nearV N L v V)) ∧ Bl w w' := by
  have K1 := Lib.hid H1
  have K2 := Lib.hid H2
  have HN := Lib.hid hn
  have HK := Lib.hid hk
  have HO := Lib.hid (hasUB_iff.1 hub).1
  have HV := Lib.hid (hasUB_iff.1 hub).2.1
  clear H1 H2 hn hk hub
  have NF := Lib.hid (nearV_bounds N L v)
  go_enter Try.func8, Try.ntmps8
  go_wp2_with fail
  go_loopw [7, 8, 9] (fun m i _ wr => ∃ t : Nat, t ≤ k ∧ i = .int .i64 t ∧ m = .int .i64 (nearV N L v (V.take t)) ∧ Bl (w.alloc (.cells #[.int .i64 N, .slice A n c] 26)) wr) (fun _ i _ _ => k - (intOf i).toNat)
  case atStart => exact ⟨0, by omega, rfl, rfl, Bl.refl _⟩
  case round =>
    obtain ⟨t, ht, rfl, rfl, hbl⟩ := hrel
    have BB := Lib.hid hbl
    by_cases hlt : t < k
    · have htl : t < V.length := by have := HK.out; omega
      have hlt' : (t : Int) < (k : Int) := by omega
      obtain ⟨g2, o2, rfl, hg2, hc2⟩ := K2.out.cell (by omega)
      have p1 := hc2 t htl
      clear hc2
      obtain ⟨q0, q1⟩ := box2 hbl
      have BWR := Lib.hid (show Bl w wr from (Bl.alloc_ (Bl.refl w) _).trans_ BB.out)
      rw [← (bcell BWR.out).1 _ _ hg2] at p1
      have hvt := HV.out V[t] (List.getElem_mem htl)
      have ST := Lib.hid (nearV_step N L v htl)
      have DI := Lib.hid (show distOfI N L V[t] v = dAt (distL N L V[t]) v from if_pos (by unfold has2; simp [HO.out, hvt, hv]))
      generalize V[t] = s at *
      generalize nearV N L v (V.take t) = m at *
      have i0 : (0 : Int) ≤ (t : Int) := by omega
      clear hbl hvt
      go_wp2_with fail
      have HSH := Lib.hid (show ∀ wx, Bl wr wx → Bl wr wx ∧ wx.cell? ⟨w.heap.size, 0, none⟩ = some (.int .i64 N) ∧ wx.cell? ⟨w.heap.size, 1, none⟩ = some (.slice A n c) ∧ wx.cell? ⟨g2, o2 + t, none⟩ = some (.int .i64 s) from fun wx hb => by
        obtain ⟨y0, y1⟩ := box2 (BB.out.trans_ hb)
        exact ⟨hb, y0, y1, ((bcell hb).1 _ _ (Nat.lt_of_lt_of_le hg2 BWR.out.size)).trans p1⟩)
      clear q0 q1 p1
      refine wp_region_held_drew (S := fun wx => Bl wr wx ∧ wx.cell? ⟨w.heap.size, 0, none⟩ = some (.int .i64 N) ∧ wx.cell? ⟨w.heap.size, 1, none⟩ = some (.slice A n c) ∧ wx.cell? ⟨g2, o2 + t, none⟩ = some (.int .i64 s)) (by kernel_rfl) ?_ (fun hHeld => ?_)
      · (exact HSH.out _ (by repeat' (first | exact Bl.refl _ | with_reducible assumption | with_reducible refine Bl.drew_ ?_ | with_reducible refine Bl.drewN_ ?_ _ | with_reducible refine Bl.alloc_ ?_ _ | with_reducible refine Bl.trans_ ?_ (by assumption) | with_reducible refine Bl.trans_ ?_ (And.left (by assumption)))))
      refine wpAnyH_take (i := 0) (v := ?_) rfl (by kernel_rfl) (by kernel_rfl) (by kernel_rfl) (fun _ _ _ h => h) (Or.inl ⟨by kernel_rfl, ?_⟩) (by assumption) ?_
      rotate_left
      · (intro wx hSw; (try dsimp only at hSw); go_simp; try (with_reducible rfl))
      try simp only [Act.put, List.getElem_toArray, List.getElem_cons_succ, List.getElem_cons_zero, List.setIfInBounds_toArray, List.set_cons_zero, List.set_cons_succ]
      refine wpAnyH_take (i := 1) (v := ?_) rfl (by kernel_rfl) (by kernel_rfl) (by kernel_rfl) (fun _ _ _ h => h) (Or.inl ⟨by kernel_rfl, ?_⟩) (by assumption) ?_
      rotate_left
      · (intro wx hSw; (try dsimp only at hSw); go_simp; try (with_reducible rfl))
      try simp only [Act.put, List.getElem_toArray, List.getElem_cons_succ, List.getElem_cons_zero, List.setIfInBounds_toArray, List.set_cons_zero, List.set_cons_succ]
      refine wpAnyH_take (i := 2) (v := ?_) rfl (by kernel_rfl) (by kernel_rfl) (by kernel_rfl) (fun _ _ _ h => h) (Or.inl ⟨by kernel_rfl, ?_⟩) (by assumption) ?_
      rotate_left
      · (intro wx hSw; (try dsimp only at hSw); go_simp; try (with_reducible rfl))
      try simp only [Act.put, List.getElem_toArray, List.getElem_cons_succ, List.getElem_cons_zero, List.setIfInBounds_toArray, List.set_cons_zero, List.set_cons_succ]
      refine wpAnyH_take (i := 3) (v := ?_) rfl (by kernel_rfl) (by kernel_rfl) (by kernel_rfl) (fun _ _ _ h => h) (Or.inl ⟨by kernel_rfl, ?_⟩) (by assumption) ?_
      rotate_left
      · (intro wx hSw; (try dsimp only at hSw); go_simp; try (with_reducible rfl))
      try simp only [Act.put, List.getElem_toArray, List.getElem_cons_succ, List.getElem_cons_zero, List.setIfInBounds_toArray, List.set_cons_zero, List.set_cons_succ]
      refine wpAnyH_take (i := 4) (v := ?_) rfl (by kernel_rfl) (by kernel_rfl) (by kernel_rfl) (fun _ _ _ h => h) (Or.inl ⟨by kernel_rfl, ?_⟩) (by assumption) ?_
      rotate_left
      · (intro wx hSw; (try dsimp only at hSw); go_simp; try (with_reducible rfl))
      try simp only [Act.put, List.getElem_toArray, List.getElem_cons_succ, List.getElem_cons_zero, List.setIfInBounds_toArray, List.set_cons_zero, List.set_cons_succ]
      refine wpAnyH_take (i := 5) (v := ?_) rfl (by kernel_rfl) (by kernel_rfl) (by kernel_rfl) (fun _ _ _ h => h) (Or.inl ⟨by kernel_rfl, ?_⟩) (by assumption) ?_
      rotate_left
      · (intro wx hSw; (try dsimp only at hSw); go_simp; try (with_reducible rfl))
      try simp only [Act.put, List.getElem_toArray, List.getElem_cons_succ, List.getElem_cons_zero, List.setIfInBounds_toArray, List.set_cons_zero, List.set_cons_succ]
      refine wpAnyH_ready (rs := [6]) (by kernel_rfl) (by simp) ?_
      refine AllReadyH.cons rfl (fun K hK => ?_) AllReadyH.nil
      go_simp
      (go_at_call 16; refine (implDistOf_any N s v A n c L HN.out hc _ hm (K1.out.bl (BWR.out.trans_ (by repeat' (first | exact Bl.refl _ | with_reducible assumption | with_reducible refine Bl.drew_ ?_ | with_reducible refine Bl.drewN_ ?_ _ | with_reducible refine Bl.alloc_ ?_ _ | with_reducible refine Bl.trans_ ?_ (by assumption) | with_reducible refine Bl.trans_ ?_ (And.left (by assumption))))))).mono ?_; rintro e w4 ⟨rfl, hb4⟩; have hB4 : Bl wr w4 := (by repeat' (first | exact Bl.refl _ | with_reducible assumption | with_reducible refine Bl.drew_ ?_ | with_reducible refine Bl.drewN_ ?_ _ | with_reducible refine Bl.alloc_ ?_ _ | with_reducible refine Bl.trans_ ?_ (by assumption) | with_reducible refine Bl.trans_ ?_ (And.left (by assumption)))))
      try (go_wp2_with fail)
      refine hK.out _ _ ?_ (fun hHeld => ?_)
      · (exact HSH.out _ (by repeat' (first | exact Bl.refl _ | with_reducible assumption | with_reducible refine Bl.drew_ ?_ | with_reducible refine Bl.drewN_ ?_ _ | with_reducible refine Bl.alloc_ ?_ _ | with_reducible refine Bl.trans_ ?_ (by assumption) | with_reducible refine Bl.trans_ ?_ (And.left (by assumption)))))
      clear hK K
      try simp only [Act.put, List.getElem_toArray, List.getElem_cons_succ, List.getElem_cons_zero, List.setIfInBounds_toArray, List.set_cons_zero, List.set_cons_succ]
      refine wpAnyH_take (i := 7) (v := ?_) rfl (by kernel_rfl) (by kernel_rfl) (by kernel_rfl) (fun _ _ _ h => h) (Or.inl ⟨by kernel_rfl, ?_⟩) (by assumption) ?_
      rotate_left
      · (intro wx hSw; (try dsimp only at hSw); go_simp; try (with_reducible rfl))
      try simp only [Act.put, List.getElem_toArray, List.getElem_cons_succ, List.getElem_cons_zero, List.setIfInBounds_toArray, List.set_cons_zero, List.set_cons_succ]
      refine wpAnyH_done (by kernel_rfl) ?_ _
      rw [DI.out]
      have DB := Lib.hid (BB.out.trans_ hB4)
      generalize dAt (distL N L s) v = d at *
      by_cases hd : 0 ≤ d
      · have bd : decide (0 ≤ d) = true := by simpa using hd
        have HS := Lib.hid (ST.out.trans (minD_yes hd))
        clear ST
        go_wp2
        go_roundw
        case rel => exact ⟨t + 1, by omega, by go_num, by rw [HS.out], DB.out⟩
        case measure => simp [intOf]; omega
      · have bd : decide (0 ≤ d) = false := by simpa using hd
        have HS := Lib.hid (ST.out.trans (minD_no (by omega)))
        clear ST
        go_wp2
        go_roundw
        case rel => exact ⟨t + 1, by omega, by go_num, by rw [HS.out], DB.out⟩
        case measure => simp [intOf]; omega
    · have hlt' : ¬ ((t : Int) < (k : Int)) := by omega
      have HT := Lib.hid (show nearV N L v (V.take t) = nearV N L v V from by rw [List.take_of_length_le (by have := HK.out; omega)])
      rw [HT.out]
      go_wp2
      go_ret
      exact ⟨rfl, (Bl.alloc_ (Bl.refl w) _).trans_ BB.out⟩

set_option maxRecDepth 100000 in
set_option maxHeartbeats 4000000 in
theorem lawFarC_any (A : Option Addr) (n c : Nat) (w : World) (H : BytesAt w A n) :
    Calls Try.prog 3 #[.slice A n c] w fun e w' => e = .returned (.bool true) ∧ Bl w w' := by
  have K := Lib.hid H
  clear H
  by_cases hbig : (1048576 : Int) < (n : Int)
  · have hb : decide ((1048576 : Int) < (n : Int)) = true := by simpa using hbig
    clear hbig
    go_enter Try.func3, Try.ntmps3
    go_wp2_with (go_at_call 4; refine (big_any _ _ _ _).mono ?_; rintro e w' ⟨rfl, rfl⟩)
    go_ret
    exact ⟨rfl, (by repeat' (first | exact Bl.refl _ | with_reducible assumption | with_reducible refine Bl.drew_ ?_ | with_reducible refine Bl.drewN_ ?_ _ | with_reducible refine Bl.alloc_ ?_ _ | with_reducible refine Bl.trans_ ?_ (by assumption) | with_reducible refine Bl.trans_ ?_ (And.left (by assumption))))⟩
  · have hb : decide ((1048576 : Int) < (n : Int)) = false := by simpa using hbig
    have hn : n ≤ 1099511627776 := by omega
    clear hbig
    go_enter Try.func3, Try.ntmps3
    go_wp2_with fail
    refine (big_any _ _ _ _).mono ?_
    rintro e w1 ⟨rfl, rfl⟩
    go_wp2_with fail
    refine (drawFarthest_any A n c _ hn K.out).mono ?_
    rintro e w1 ⟨N, A', l, c', L, A3, k, c3, V, rfl, hd, hk, hk20, ho, hb1⟩
    obtain ⟨ha, hlc⟩ := hd.arcs
    have HL := Lib.hid hd.1
    have hl200 := hd.2.1
    have HK := Lib.hid hk
    obtain ⟨A3', c3', e3, hkc, hi3, -, -⟩ := OwnN.shape ho
    injection e3 with e31 e32 e33
    subst e31
    subst e33
    rw [← hk] at hkc
    clear e32
    obtain ⟨X, hX⟩ : ∃ X, X = w1.alloc (.cells #[.int .i64 N, .slice A' l c'] 26) := ⟨_, rfl⟩
    have HA := Lib.hid (show ArcsAt X X.heap.size A' L from by rw [hX]; exact ha.bl (Bl.alloc_ (Bl.refl w1) _))
    have HI := Lib.hid (show IntsAt X X.heap.size A3 V from by rw [hX]; exact hi3.bl (Bl.alloc_ (Bl.refl w1) _))
    have B1 := Lib.hid (show Bl w X from by rw [hX]; exact hb1.alloc_ _)
    have BXX := Lib.hid (show ∀ wx, Bl X wx → wx.cell? ⟨w1.heap.size, 0, none⟩ = some (.int .i64 N) ∧ wx.cell? ⟨w1.heap.size, 1, none⟩ = some (.slice A' l c') from fun wx hb => by rw [hX] at hb; exact box2 hb)
    clear hd hb1 ha hk ho hi3
    go_wp2_with fail
    rw [← hX]
    clear hX
    refine (implFarthest_any N A' l c' L HL.out hlc A3 k c3 V HK.out _ (by omega) hk20 HA.out HI.out).mono ?_
    rintro e w2 ⟨rfl, hb2⟩
    have P2 := Lib.hid hb2
    obtain ⟨q0, q1⟩ := BXX.out _ hb2
    clear hb2
    go_wp2_with fail
    refine (specFarthest_any N A' l c' L HL.out hlc A3 k c3 V HK.out hkc _ (by omega) hk20 (HA.out.bl P2.out) (HI.out.bl P2.out)).mono ?_
    rintro e w3 ⟨rfl, hb3⟩
    have P3 := Lib.hid (P2.out.trans_ hb3)
    clear hb3 q0 q1
    obtain ⟨q0, q1⟩ := BXX.out _ P3.out
    cases hu : hasUB N L V with
    | false =>
      have HF := Lib.hid (farI_no hu)
      rw [HF.out]
      go_wp2_with fail
      refine (specFarthest_any N A' l c' L HL.out hlc A3 k c3 V HK.out hkc _ (by omega) hk20 (HA.out.bl P3.out) (HI.out.bl P3.out)).mono ?_
      rintro e w4 ⟨rfl, hb4⟩
      rw [HF.out]
      go_wp2
      go_ret
      exact ⟨rfl, B1.out.trans_ (P3.out.trans_ hb4)⟩
    | true =>
      have ho := (hasUB_iff.1 hu).1
      have HO := Lib.hid ho
      have hN1 := (okB_elim ho).1
      have hN24 := (okB_elim ho).2.1
      obtain ⟨q, rfl⟩ : ∃ q : Nat, N = q := ⟨N.toNat, by omega⟩
      obtain ⟨f, hf⟩ : ∃ f, f = topK (nearF q L V) q := ⟨_, rfl⟩
      have hfI : farI q L V = (f : Int) := by unfold farI; rw [if_pos hu, hf]; simp
      have hfq : f < q := by rw [hf]; exact topK_lt _ _ (by omega)
      have TM := Lib.hid (show ∀ j, j < q → nearV q L (j : Int) V ≤ nearV q L (f : Int) V ∧ (nearV q L (j : Int) V = nearV q L (f : Int) V → f ≤ j) from by rw [hf]; exact fun j hj => topK_max (nearF q L V) q j hj)
      have HU := Lib.hid hu
      have f0 : decide ((f : Int) < 0) = false := by first | (simp; done) | (simp; omega)
      rw [hfI]
      clear hf hfI hu ho
      go_wp2_with fail
      refine (farOf_any q f A' l c' L HL.out hlc A3 k c3 V HK.out HU.out ⟨by omega, by omega⟩ _ (by omega) hk20 (HA.out.bl P3.out) (HI.out.bl P3.out)).mono ?_
      rintro e w4 ⟨rfl, hb4⟩
      have P4 := Lib.hid (P3.out.trans_ hb4)
      clear hb4 q0 q1
      go_wp2_with fail
      go_loopw [2, 7, 8] (fun _ i _ wr => ∃ j : Nat, j ≤ q ∧ i = .int .i64 j ∧ Bl X wr) (fun _ i _ _ => q - (intOf i).toNat)
      case atStart => exact ⟨0, by omega, rfl, P4.out⟩
      case round =>
        obtain ⟨j, hj, rfl, hbl⟩ := hrel
        obtain ⟨q0, q1⟩ := BXX.out _ hbl
        have BB := Lib.hid hbl
        clear hbl
        by_cases hlt : j < q
        · have hlt' : (j : Int) < (q : Int) := by omega
          go_wp2_with fail
          refine (farOf_any q j A' l c' L HL.out hlc A3 k c3 V HK.out HU.out ⟨by omega, by omega⟩ _ (by omega) hk20 (HA.out.bl BB.out) (HI.out.bl BB.out)).mono ?_
          rintro e w5 ⟨rfl, hb5⟩
          have P5 := Lib.hid (BB.out.trans_ hb5)
          obtain ⟨t1, t2⟩ := TM.out j hlt
          have b1 : decide (nearV (q : Int) L (f : Int) V < nearV (q : Int) L (j : Int) V) = false := by simp; omega
          by_cases hab : nearV (q : Int) L (j : Int) V = nearV (q : Int) L (f : Int) V
          · have b2 : decide (nearV (q : Int) L (j : Int) V = nearV (q : Int) L (f : Int) V) = true := by simpa using hab
            have b3 : decide ((j : Int) < (f : Int)) = false := by have := t2 hab; simp; omega
            clear q0 q1 hb5
            go_wp2
            go_roundw
            case rel => exact ⟨j + 1, by omega, by go_num, P5.out⟩
            case measure => simp [intOf]; omega
          · have b2 : decide (nearV (q : Int) L (j : Int) V = nearV (q : Int) L (f : Int) V) = false := by simpa using hab
            clear q0 q1 hb5
            go_wp2
            go_roundw
            case rel => exact ⟨j + 1, by omega, by go_num, P5.out⟩
            case measure => simp [intOf]; omega
        · have hlt' : ¬ ((j : Int) < (q : Int)) := by omega
          have NB := Lib.hid (show has1 q L (f : Int) = true from by unfold has1; rw [HO.out]; simp; omega)
          go_wp2_with fail
          refine (nodeLaw_any q f A' l c' L HL.out _ (by omega) (HA.out.bl BB.out)).mono ?_
          rintro e w5 ⟨rfl, hb5⟩
          rw [NB.out]
          go_wp2
          go_ret
          exact ⟨rfl, B1.out.trans_ (BB.out.trans_ hb5)⟩

end Go.Proofs.Ytndkdeiojkclbaa

set_option linter.unusedSimpArgs false
set_option linter.unusedVariables false
namespace Go.Proofs.Ytndkdeiojkclbaa
open Go.ChangeShapes Go.WideShapes Go.ChangeAt Go.RowKit

set_option maxRecDepth 100000 in
theorem fnFarthest_lifted (os : Os) (started : os.Started) (H : Type) (enc : TypeId × Value → H) :
    ReturnsInHanded {} Try.checked os 3 .any (Rows.fnFarthestSpec.pre6 enc Try.prog Try.f3 Rows.fnFarthestRow.domain false) (Rows.fnFarthestSpec.post enc Try.prog Try.f3 false true false false) := by
  refine returnsInHanded_of_change (C := Try.checked) Try.own_ started (by kernel_rfl) Try.func3
    (ChangeSpec.witness6 (enc := enc) (C := Try.checked) false ⟨#[], #[.slice none 0 0], []⟩ 8 (by kernel_rfl) (by kernel_rfl) (by kernel_rfl) (by kernel_rfl)) ?_
  intro W base args ds gs before hval0 hW hcnd _
  have hval : ∀ (j : Nat) t v, Try.f3.params[j]? = some t → args[j]? = some v → Value.okWide Try.prog W .any base t v := hval0
  have hW' := hW
  obtain ⟨p, q, hA0, hV, rfl, hfz, hnd⟩ := hW
  have hA : DataW.TrodAll enc Try.prog W 0 (fun _ => true) true Try.f3.params.toList args.toList ds p := hA0
  rw [Try.params3] at hA hval
  obtain ⟨v0, vs0, d0, ds0, p0, q0, hargs, rfl, rfl, h0, r0⟩ := trodAll_cons hA
  obtain ⟨rfl, rfl, rfl⟩ := trodAll_nil r0
  obtain rfl : args = #[v0] := by cases args; simp_all
  obtain ⟨rfl, rfl⟩ := trodVars_none hV
  have k0 := h0
  have lt0 : ∀ x ∈ p0, x.block < W.heap.size := by obtain ⟨m, hm⟩ := k0; exact DataW.trod_lt m _ _ _ hm
  obtain ⟨A, n, c, rfl, hb, hg⟩ := open_bytes (hval 0 22 v0 rfl rfl) h0
  clear hA0 hval0
  refine (lawFarC_any A n c W hb).mono fun e W' ⟨he, bel0⟩ => ?_
  have bel : Below W.heap.size W W' := bel0
  subst he
  exact ⟨_, rfl, _, _, _, [], _, [], hW', trodAll_mk1 (shut_bool Try.underlying4 _), (trodAll_cons_mk (Below.trod Try.laidOut_ (by kernel_rfl) (of_decide_eq_true (by kernel_rfl)) k0 bel lt0) trodAll_mk0), rfl, bel.frame _, fun h => by cases h⟩

theorem fnFarthest_holds : Rows.FnFarthestSaid :=
  OpenClaim.holds_of_wide 3 Try.f3 rfl rfl rfl rfl rfl rfl rfl ⟨rfl, rfl, rfl, rfl, rfl⟩ rfl rfl rfl rfl rfl (by kernel_rfl) Try.func3 (by kernel_rfl)
    (of_decide_eq_true (by kernel_rfl)) (by unfold Func.isWrapper; first | (rw [if_pos (by decide +kernel)]; kernel_rfl) | (rw [if_neg (by decide +kernel)]; exact ⟨rfl, rfl⟩))
    (fun os started H enc _ => fnFarthest_lifted os started H enc)

end Go.Proofs.Ytndkdeiojkclbaa
