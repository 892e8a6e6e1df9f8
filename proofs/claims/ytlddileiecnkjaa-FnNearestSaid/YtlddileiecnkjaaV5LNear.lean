/-
  What is proved here: the walk of the law on the nearest of some places: at every code it returns true, and leaves what was there as it was. No conditions beyond those that each theorem states.
-/
import Derived.Test.YtlddileiecnkjaaV5G13
import Derived.Test.YtlddileiecnkjaaV5G16
import Derived.Test.YtlddileiecnkjaaV5G18
import Derived.BigRegion
set_option linter.unusedSimpArgs false
set_option linter.unusedVariables false
namespace Go.Proofs.Ytlddileiecnkjaa
open Go.RowKit

set_option maxRecDepth 100000 in
set_option maxHeartbeats 8000000 in
theorem lawNear_any (A : Option Addr) (n c : Nat) (w : World) (H : BytesAt w A n) :
    Calls Try.prog 8 #[.slice A n c] w fun e w' => e = .returned (.bool true) ∧ Bl w w' := by
  have K := Lib.hid H
  clear H
  by_cases hbig : (1048576 : Int) < (n : Int)
  · have hb : decide ((1048576 : Int) < (n : Int)) = true := by simpa using hbig
    clear hbig
    go_enter Try.func8, Try.ntmps8
    go_wp2_with (go_at_call 16; refine (big_any _ _ _ _).mono ?_; rintro e w' ⟨rfl, rfl⟩)
    go_ret
    exact ⟨rfl, (by repeat' (first | exact Bl.refl _ | with_reducible assumption | with_reducible refine Bl.drew_ ?_ | with_reducible refine Bl.drewN_ ?_ _ | with_reducible refine Bl.alloc_ ?_ _ | with_reducible refine Bl.trans_ ?_ (by assumption) | with_reducible refine Bl.trans_ ?_ (And.left (by assumption))))⟩
  · have hb : decide ((1048576 : Int) < (n : Int)) = false := by simpa using hbig
    have hn : n ≤ 1099511627776 := by omega
    clear hbig
    go_enter Try.func8, Try.ntmps8
    go_wp2_with fail
    refine (big_any _ _ _ _).mono ?_
    rintro e w1 ⟨rfl, rfl⟩
    go_wp2_with fail
    refine (drawNearest_any A n c _ hn K.out).mono ?_
    rintro e w1 ⟨N, A', l, c', L, s, A3, k, c3, V, z, rfl, hd, ⟨h31, h32, h33, h34⟩, hap, hb1⟩
    obtain ⟨ha, hlc⟩ := hd.arcs
    have HL := Lib.hid hd.1
    have hl200 := hd.2.1
    have HV := Lib.hid h31
    have HAP := Lib.hid hap
    obtain ⟨X, hX⟩ : ∃ X, X = w1.alloc (.cells #[.int .i64 N, .slice A' l c'] 33) := ⟨_, rfl⟩
    have BX := Lib.hid (show Bl w1 X from by rw [hX]; exact Bl.alloc_ (Bl.refl w1) _)
    have HA := Lib.hid (ha.bl BX.out)
    have IV := Lib.hid (h34.bl BX.out)
    have B1 := Lib.hid (hb1.trans_ BX.out)
    obtain ⟨gb, hgb⟩ : ∃ gb, gb = w1.heap.size := ⟨_, rfl⟩
    have hgX : gb < X.heap.size := by rw [hX, hgb]; simp
    have HSH := Lib.hid (show ∀ wx, Bl X wx → wx.cell? ⟨gb, 0, none⟩ = some (.int .i64 N) ∧ wx.cell? ⟨gb, 1, none⟩ = some (.slice A' l c') from fun wx hb => by subst hgb; rw [hX] at hb; exact box2 hb)
    clear hd hb1 ha h31 h34 hap
    go_wp2_with fail
    rw [← hX, ← hgb]
    clear hX hgb
    refine (implNearest_any N s A' l c' L HL.out hlc A3 k c3 V HV.out z _ (by omega) (by omega) HA.out IV.out (fun _ _ => HAP.out)).mono ?_
    rintro e w2 ⟨v2, rfl, hv2, hb2⟩
    obtain ⟨R, hR⟩ : ∃ R, R = nrL N L s V z := ⟨_, rfl⟩
    have HRR := Lib.hid hR
    rw [← hR] at hv2
    obtain ⟨A2, c2, rfl, -, hi2, -, -⟩ := Owns.shape (show Owns _ _ _ _ _ _ _ from hv2)
    have hm64 : R.length ≤ 64 := by rw [hR]; have h1 := nrL_len N L s V z; have h2 := HV.out; omega
    obtain ⟨m, hm⟩ : ∃ m, m = R.length := ⟨_, rfl⟩
    have V2 := Lib.hid (show ItemsAt w2 w2.heap.size A2 R from hi2)
    rw [← hm] at hm64 ⊢
    have HM := Lib.hid hm
    have P2 := Lib.hid hb2
    clear hv2 hi2 hb2 hR hm
    obtain ⟨q0, q1⟩ := HSH.out _ P2.out
    go_wp2_with fail
    refine (specNearest_any N s A' l c' L HL.out A3 k c3 V HV.out h33 z _ (by omega) (by omega) (HA.out.bl P2.out) (IV.out.bl P2.out)).mono ?_
    rintro e w3 ⟨v3, rfl, hv3, hb3⟩
    rw [← HRR.out] at hv3
    obtain ⟨A5, c5, rfl, -, hi3, -, -⟩ := Owns.shape (show Owns _ _ _ _ _ _ _ from hv3)
    have V3 := Lib.hid (show ItemsAt w3 w3.heap.size A5 R from hi3)
    rw [← HM.out]
    have P3 := Lib.hid (P2.out.trans_ hb3)
    have V23 := Lib.hid (V2.out.bl hb3)
    clear hv3 hi3 hb3 q0 q1
    go_wp2_with fail
    refine (sameItemsN_yes A2 A5 c2 c5 R m HM.out _ (by omega) V23.out V3.out).mono ?_
    rintro e w4 ⟨rfl, hb4⟩
    have P4 := Lib.hid (P3.out.trans_ hb4)
    have V24 := Lib.hid (V23.out.bl hb4)
    obtain ⟨q0, q1⟩ := HSH.out _ P4.out
    clear hb4
    go_wp2_with fail
    refine (nodeLaw_any N s A' l c' L HL.out _ (by omega) (HA.out.bl P4.out)).mono ?_
    rintro e w5 ⟨rfl, hb5⟩
    have P5 := Lib.hid (P4.out.trans_ hb5)
    have V25 := Lib.hid (V24.out.bl hb5)
    clear hb5 q0 q1
    by_cases hdone : has1 N L s = false ∨ m = 0
    · obtain ⟨q0, q1⟩ := HSH.out _ P5.out
      have FIN : ∀ hcc : Hid (has1 N L s = false ∨ (has1 N L s = true ∧ m = 0)), True := fun _ => trivial
      rcases hh : has1 N L s with _ | _
      · clear hdone FIN
        go_wp2_with fail
        refine (specNearest_any N s A' l c' L HL.out A3 k c3 V HV.out h33 z _ (by omega) (by omega) (HA.out.bl P5.out) (IV.out.bl P5.out)).mono ?_
        rintro e w6 ⟨v6, rfl, hv6, hb6⟩
        rw [← HRR.out] at hv6
        obtain ⟨A6, c6, rfl, -, hi6, -, -⟩ := Owns.shape (show Owns _ _ _ _ _ _ _ from hv6)
        have V6 := Lib.hid (show ItemsAt w6 w6.heap.size A6 R from hi6)
        rw [← HM.out]
        have P6 := Lib.hid (P5.out.trans_ hb6)
        have V26 := Lib.hid (V25.out.bl hb6)
        clear hv6 hi6 hb6 q0 q1
        go_wp2_with fail
        refine (sameItemsN_yes A2 A6 c2 c6 R m HM.out _ (by omega) V26.out V6.out).mono ?_
        rintro e w7 ⟨rfl, hb7⟩
        have P7 := Lib.hid (P6.out.trans_ hb7)
        clear hb7
        go_wp2
        go_ret
        exact ⟨rfl, B1.out.trans_ P7.out⟩
      · have h0 : m = 0 := by rcases hdone with h | h; rw [hh] at h; cases h; exact h
        have b0 : ((m : Int) == 0) = true := by simp; omega
        clear hdone FIN h0
        go_wp2_with fail
        refine (specNearest_any N s A' l c' L HL.out A3 k c3 V HV.out h33 z _ (by omega) (by omega) (HA.out.bl P5.out) (IV.out.bl P5.out)).mono ?_
        rintro e w6 ⟨v6, rfl, hv6, hb6⟩
        rw [← HRR.out] at hv6
        obtain ⟨A6, c6, rfl, -, hi6, -, -⟩ := Owns.shape (show Owns _ _ _ _ _ _ _ from hv6)
        have V6 := Lib.hid (show ItemsAt w6 w6.heap.size A6 R from hi6)
        rw [← HM.out]
        have P6 := Lib.hid (P5.out.trans_ hb6)
        have V26 := Lib.hid (V25.out.bl hb6)
        clear hv6 hi6 hb6 q0 q1
        go_wp2_with fail
        refine (sameItemsN_yes A2 A6 c2 c6 R m HM.out _ (by omega) V26.out V6.out).mono ?_
        rintro e w7 ⟨rfl, hb7⟩
        have P7 := Lib.hid (P6.out.trans_ hb7)
        clear hb7
        go_wp2
        go_ret
        exact ⟨rfl, B1.out.trans_ P7.out⟩
    · have hh : has1 N L s = true := by
        cases e : has1 N L s with
        | true => rfl
        | false => exact absurd (.inl e) hdone
      have h0 : m ≠ 0 := fun e => hdone (.inr e)
      have b0 : ((m : Int) == 0) = false := by simp; omega
      have HB := Lib.hid (nrL_pos (N := N) (L := L) (s := s) (V := V) (z := z) (by rw [← HRR.out, ← HM.out]; omega))
      rw [hh]
      have hml : m - 1 < R.length := by have := HM.out; omega
      obtain ⟨ga, oa, rfl, hga, hca⟩ := V25.out.cell (by omega)
      obtain ⟨a0, a1⟩ := hca (m - 1) hml
      obtain ⟨⟨lk, li⟩, hlast⟩ : ∃ y, y = R[m - 1] := ⟨_, rfl⟩
      have HLAST := Lib.hid (show (lk, li) ∈ R from by rw [hlast]; exact List.getElem_mem hml)
      rw [← hlast] at a0 a1
      simp only at a0 a1
      have j0 : (0 : Int) ≤ (m : Int) - 1 := by omega
      have j1 : (m : Int) - 1 < (m : Int) := by omega
      have j2 : ((m : Int) - 1).toNat = m - 1 := by omega
      have wj : IntKind.i64.wrap ((m : Int) - 1) = (m : Int) - 1 := IntWalk.i64_in _ (by omega)
      clear hdone hh h0 hlast hca
      have hm1 : 1 ≤ m := by omega
      go_wp2_with fail
      obtain ⟨w8, hw8⟩ : ∃ x, x = w5.alloc (.cells #[.int .i64 lk, .int .i64 li] 68) := ⟨_, rfl⟩
      rw [← hw8]
      have B8 := Lib.hid (show Bl w5 w8 from by rw [hw8]; exact (Bl.refl w5).alloc_ _)
      have s8 : w8.heap.size = w5.heap.size + 1 := by rw [hw8]; simp
      have BX8 := Lib.hid (show ∀ wx, Bl w8 wx → wx.cell? ⟨w5.heap.size, 0, none⟩ = some (.int .i64 lk) ∧ wx.cell? ⟨w5.heap.size, 1, none⟩ = some (.int .i64 li) from fun wx hb => by rw [hw8] at hb; exact box2 hb)
      have P8 := Lib.hid (P5.out.trans_ B8.out)
      have V28 := Lib.hid (V25.out.bl B8.out)
      have HD := Lib.hid (fun v hv => nrL_dist HB.out (v := v) hv)
      have HO := Lib.hid (fun v hv => nrL_out HB.out (v := v) hv)
      rw [← HRR.out] at HO
      have HSO := Lib.hid (nrL_sort HB.out)
      rw [← HRR.out] at HSO
      have HLE := Lib.hid (nrL_le HB.out)
      rw [← HRR.out, ← HM.out] at HLE
      obtain ⟨D, hD⟩ : ∃ D, D = distL N L s := ⟨_, rfl⟩
      rw [← hD] at HD HO
      clear hw8 hD j0 j1 j2 wj
      go_loopw [9] (fun iv wr => ∃ i : Nat, i ≤ k ∧ iv = .int .i64 i ∧ Bl w8 wr) (fun iv _ => k - (intOf iv).toNat)
      case atStart => exact ⟨0, by omega, rfl, Bl.refl _⟩
      case round =>
        obtain ⟨wq, rfl⟩ : ∃ x : World, x = wr := ⟨_, rfl⟩
        obtain ⟨i, hi, rfl, hbl⟩ := hrel
        have BQ := Lib.hid hbl
        have PQ := Lib.hid (P8.out.trans_ hbl)
        clear hbl
        by_cases hlt : i < k
        · have hiV : i < V.length := by have := HV.out; omega
          obtain ⟨g3, o3, rfl, hg3, hc3⟩ := IV.out.cell (by omega)
          have p1 := hc3 i hiV
          obtain ⟨y, hy⟩ : ∃ y, y = V[i] := ⟨_, rfl⟩
          have HYV := Lib.hid (show y ∈ V from by rw [hy]; exact List.getElem_mem hiV)
          rw [← hy] at p1
          have p1' := ((bcell PQ.out).1 _ _ hg3).trans p1
          have HS := Lib.hid (show ∀ wx, Bl wq wx → Bl wq wx ∧ wx.cell? ⟨gb, 0, none⟩ = some (.int .i64 N) ∧ wx.cell? ⟨gb, 1, none⟩ = some (.slice A' l c') ∧ wx.cell? ⟨g3, o3 + i, none⟩ = some (.int .i64 y) from fun wx hb => by
            obtain ⟨e0, e1⟩ := HSH.out _ (PQ.out.trans_ hb)
            exact ⟨hb, e0, e1, ((bcell hb).1 _ _ (World.block_lt_of_cell? _ _ p1')).trans p1'⟩)
          have i0 : (0 : Int) ≤ (i : Int) := by omega
          have i1 : (i : Int) < (k : Int) := by omega
          clear hy p1 hc3 p1'
          go_wp2_with fail
          refine wp_region_held_drew (S := fun wx => Bl wq wx ∧ wx.cell? ⟨gb, 0, none⟩ = some (.int .i64 N) ∧ wx.cell? ⟨gb, 1, none⟩ = some (.slice A' l c') ∧ wx.cell? ⟨g3, o3 + i, none⟩ = some (.int .i64 y)) (by kernel_rfl) ?_ (fun hHeld => ?_)
          · (exact HS.out _ (by repeat' (first | exact Bl.refl _ | with_reducible assumption | with_reducible refine Bl.drew_ ?_ | with_reducible refine Bl.drewN_ ?_ _ | with_reducible refine Bl.alloc_ ?_ _ | with_reducible refine Bl.trans_ ?_ (by assumption) | with_reducible refine Bl.trans_ ?_ (And.left (by assumption)))))
          refine wpAnyH_take (i := 0) (v := ?_) rfl (by kernel_rfl) (by kernel_rfl) (by kernel_rfl) (fun _ _ _ h => h) (Or.inl ⟨by kernel_rfl, ?_⟩) (by assumption) ?_
          rotate_left
          · (intro wx hSw; (try dsimp only at hSw); go_simp; try (with_reducible rfl))
          try simp only [Act.put, List.getElem_toArray, List.getElem_cons_succ, List.getElem_cons_zero, List.setIfInBounds_toArray, List.set_cons_zero, List.set_cons_succ]
          refine wpAnyH_take (i := 1) (v := ?_) rfl (by kernel_rfl) (by kernel_rfl) (by kernel_rfl) (fun _ _ _ h => h) (Or.inl ⟨by kernel_rfl, ?_⟩) (by assumption) ?_
          rotate_left
          · (intro wx hSw; (try dsimp only at hSw); go_simp; try (with_reducible rfl))
          try simp only [Act.put, List.getElem_toArray, List.getElem_cons_succ, List.getElem_cons_zero, List.setIfInBounds_toArray, List.set_cons_zero, List.set_cons_succ]
          refine wpAnyH_take (i := 2) (v := ?_) rfl (by kernel_rfl) (by kernel_rfl) (by kernel_rfl) (fun _ _ _ h => h) (Or.inl ⟨by kernel_rfl, ?_⟩) (by assumption) ?_
          rotate_left
          · (intro wx hSw; (try dsimp only at hSw); go_simp; try (with_reducible rfl))
          try simp only [Act.put, List.getElem_toArray, List.getElem_cons_succ, List.getElem_cons_zero, List.setIfInBounds_toArray, List.set_cons_zero, List.set_cons_succ]
          refine wpAnyH_take (i := 3) (v := ?_) rfl (by kernel_rfl) (by kernel_rfl) (by kernel_rfl) (fun _ _ _ h => h) (Or.inl ⟨by kernel_rfl, ?_⟩) (by assumption) ?_
          rotate_left
          · (intro wx hSw; (try dsimp only at hSw); go_simp; try (with_reducible rfl))
          try simp only [Act.put, List.getElem_toArray, List.getElem_cons_succ, List.getElem_cons_zero, List.setIfInBounds_toArray, List.set_cons_zero, List.set_cons_succ]
          refine wpAnyH_take (i := 4) (v := ?_) rfl (by kernel_rfl) (by kernel_rfl) (by kernel_rfl) (fun _ _ _ h => h) (Or.inl ⟨by kernel_rfl, ?_⟩) (by assumption) ?_
          rotate_left
          · (intro wx hSw; (try dsimp only at hSw); go_simp; try (with_reducible rfl))
          try simp only [Act.put, List.getElem_toArray, List.getElem_cons_succ, List.getElem_cons_zero, List.setIfInBounds_toArray, List.set_cons_zero, List.set_cons_succ]
          refine wpAnyH_take (i := 5) (v := ?_) rfl (by kernel_rfl) (by kernel_rfl) (by kernel_rfl) (fun _ _ _ h => h) (Or.inl ⟨by kernel_rfl, ?_⟩) (by assumption) ?_
          rotate_left
          · (intro wx hSw; (try dsimp only at hSw); go_simp; try (with_reducible rfl))
          try simp only [Act.put, List.getElem_toArray, List.getElem_cons_succ, List.getElem_cons_zero, List.setIfInBounds_toArray, List.set_cons_zero, List.set_cons_succ]
          refine wpAnyH_ready (rs := [6]) (by kernel_rfl) (by simp) ?_
          refine AllReadyH.cons rfl (fun K hK => ?_) AllReadyH.nil
          go_simp
          (go_at_call 23; refine (implDistOf_any N s y A' l c' L HL.out hlc _ (by omega) (HA.out.bl (PQ.out.trans_ (by repeat' (first | exact Bl.refl _ | with_reducible assumption | with_reducible refine Bl.drew_ ?_ | with_reducible refine Bl.drewN_ ?_ _ | with_reducible refine Bl.alloc_ ?_ _ | with_reducible refine Bl.trans_ ?_ (by assumption) | with_reducible refine Bl.trans_ ?_ (And.left (by assumption))))))).mono ?_; rintro e6 w6 ⟨rfl, hb6⟩)
          try (go_wp2_with fail)
          refine hK.out _ _ ?_ (fun hHeld => ?_)
          · (exact HS.out _ (by repeat' (first | exact Bl.refl _ | with_reducible assumption | with_reducible refine Bl.drew_ ?_ | with_reducible refine Bl.drewN_ ?_ _ | with_reducible refine Bl.alloc_ ?_ _ | with_reducible refine Bl.trans_ ?_ (by assumption) | with_reducible refine Bl.trans_ ?_ (And.left (by assumption)))))
          clear hK K
          try simp only [Act.put, List.getElem_toArray, List.getElem_cons_succ, List.getElem_cons_zero, List.setIfInBounds_toArray, List.set_cons_zero, List.set_cons_succ]
          refine wpAnyH_take (i := 7) (v := ?_) rfl (by kernel_rfl) (by kernel_rfl) (by kernel_rfl) (fun _ _ _ h => h) (Or.inl ⟨by kernel_rfl, ?_⟩) (by assumption) ?_
          rotate_left
          · (intro wx hSw; (try dsimp only at hSw); go_simp; try (with_reducible rfl))
          try simp only [Act.put, List.getElem_toArray, List.getElem_cons_succ, List.getElem_cons_zero, List.setIfInBounds_toArray, List.set_cons_zero, List.set_cons_succ]
          refine wpAnyH_done (by kernel_rfl) ?_ _
          obtain ⟨h60, h61, h62, h63⟩ := hHeld
          have B6 := Lib.hid h60
          obtain ⟨d, hd⟩ : ∃ d, d = distOfI N L s y := ⟨_, rfl⟩
          rw [← hd]
          have HDD := Lib.hid (hd.trans (HD.out y HYV.out))
          have h3l := World.block_lt_of_cell? _ _ h63
          clear hHeld hb6 hd h60
          by_cases hneg : d < 0
          · have bn : decide (d < 0) = true := by simpa using hneg
            go_wp2
            go_roundw
            case rel => exact ⟨i + 1, by omega, by go_num, BQ.out.trans_ (B6.out.alloc_ _)⟩
            case measure => simp [intOf]; omega
          · have bn : decide (d < 0) = false := by simpa using hneg
            have hd0 : 0 ≤ d := by omega
            clear hneg
            go_wp2_with fail
            obtain ⟨w9, hw9⟩ : ∃ x, x = w6.alloc (.cells #[.int .i64 d, .int .i64 y] 68) := ⟨_, rfl⟩
            rw [← hw9]
            have B9 := Lib.hid (show Bl w6 w9 from by rw [hw9]; exact (Bl.refl w6).alloc_ _)
            clear hw9
            refine (hasItemN_any (some ⟨ga, oa, none⟩) m c2 R d y HM.out _ (by omega) (V28.out.bl (BQ.out.trans_ (B6.out.trans_ B9.out)))).mono ?_
            rintro e w10 ⟨rfl, hb10⟩
            have B10 := Lib.hid (B6.out.trans_ (B9.out.trans_ hb10))
            have C10 := Lib.hid (B9.out.trans_ hb10)
            clear hb10
            by_cases hin : (d, y) ∈ R
            · rw [decide_eq_true hin]
              clear hin
              go_wp2
              go_roundw
              case rel => exact ⟨i + 1, by omega, by go_num, BQ.out.trans_ B10.out⟩
              case measure => simp [intOf]; omega
            · rw [decide_eq_false hin]
              obtain ⟨hz1, hz2⟩ := HO.out y HYV.out (by rw [← HDD.out]; exact hd0) (by rw [← HDD.out]; exact hin)
              rw [← HDD.out] at hz2
              have hlss := hz2 _ HLAST.out
              rw [← HM.out] at hz1
              have bz : decide ((m : Int) < z) = false := by simpa using hz1
              simp only [lessI, decide_eq_true_eq] at hlss
              have bd : decide (d < lk) = false := by simp; omega
              obtain ⟨e8, e9⟩ := BX8.out _ (BQ.out.trans_ B10.out)
              have p10 := ((bcell C10.out).1 _ _ h3l).trans h63
              by_cases hdk : d = lk
              · have be : (d == lk) = true := by simpa using hdk
                have by' : decide (y < li) = false := by simp; omega
                clear hdk hlss hz1 hz2 hin h61 h62 h63
                go_wp2_with fail
                go_quiet (fail)
                go_wp2
                go_roundw
                case rel => exact ⟨i + 1, by omega, by go_num, BQ.out.trans_ (by first | exact B10.out | exact B10.out.drew_ | exact B10.out.drewN_ _)⟩
                case measure => simp [intOf]; omega
              · have be : (d == lk) = false := by simpa using hdk
                clear hdk hlss hz1 hz2 hin h61 h62 h63
                go_wp2_with fail
                go_quiet (fail)
                go_wp2
                go_roundw
                case rel => exact ⟨i + 1, by omega, by go_num, BQ.out.trans_ (by first | exact B10.out | exact B10.out.drew_ | exact B10.out.drewN_ _)⟩
                case measure => simp [intOf]; omega
        · go_wp2
          go_loopw [12] (fun iv wr => ∃ i : Nat, 1 ≤ i ∧ i ≤ m ∧ iv = .int .i64 i ∧ Bl wq wr) (fun iv _ => m - (intOf iv).toNat)
          case atStart => exact ⟨1, by omega, by have := hm64; omega, rfl, Bl.refl _⟩
          case round =>
            obtain ⟨i, hi1, hi2, rfl, hbl⟩ := hrel
            have BI := Lib.hid hbl
            by_cases hlt2 : i < m
            · have hir : i < R.length := by have := HM.out; omega
              have hir' : i - 1 < R.length := by omega
              obtain ⟨g4, o4, e4, hg4, hc4⟩ := (V28.out.bl (BQ.out.trans_ hbl)).cell (by omega)
              injection e4 with e4
              injection e4 with e41 e42 e43
              subst e41; subst e42
              obtain ⟨c0, c1⟩ := hc4 i hir
              obtain ⟨d0, d1⟩ := hc4 (i - 1) hir'
              have hss := List.pairwise_iff_getElem.1 HSO.out (i - 1) i hir' hir (by omega)
              obtain ⟨⟨ak, ai⟩, hak⟩ : ∃ x, x = R[i - 1] := ⟨_, rfl⟩
              obtain ⟨⟨bk, bi⟩, hbk⟩ : ∃ x, x = R[i] := ⟨_, rfl⟩
              rw [← hak] at d0 d1 hss
              rw [← hbk] at c0 c1 hss
              simp only at c0 c1 d0 d1
              simp only [lessI, decide_eq_true_eq] at hss
              have wi : IntKind.i64.wrap ((i : Int) - 1) = (i : Int) - 1 := IntWalk.i64_in _ (by omega)
              have t1 : ((i : Int) - 1).toNat = i - 1 := by omega
              have u0 : (0 : Int) ≤ (i : Int) := by omega
              have u1 : (i : Int) < (m : Int) := by omega
              have u2 : (0 : Int) ≤ (i : Int) - 1 := by omega
              have u3 : (i : Int) - 1 < (m : Int) := by omega
              have bg : decide (bk < ak) = false := by simp; omega
              by_cases hkk : ak = bk
              · have be : (ak == bk) = true := by simpa using hkk
                have bii : decide (bi ≤ ai) = false := by simp; omega
                clear hkk hss hak hbk hc4
                go_wp2_with fail
                go_quiet (fail)
                go_wp2
                go_roundw
                case rel => exact ⟨i + 1, by omega, by omega, by go_num, by first | exact BI.out | exact BI.out.drew_ | exact BI.out.drewN_ _⟩
                case measure => simp [intOf]; omega
              · have be : (ak == bk) = false := by simpa using hkk
                clear hkk hss hak hbk hc4
                go_wp2_with fail
                go_quiet (fail)
                go_wp2
                go_roundw
                case rel => exact ⟨i + 1, by omega, by omega, by go_num, by first | exact BI.out | exact BI.out.drew_ | exact BI.out.drewN_ _⟩
                case measure => simp [intOf]; omega
            · have bl : decide ((m : Int) ≤ z) = true := by simpa using HLE.out
              go_wp2
              go_ret
              exact ⟨rfl, B1.out.trans_ (PQ.out.trans_ BI.out)⟩

end Go.Proofs.Ytlddileiecnkjaa
