/-
  What is proved here: an item goes down in a heap, as the code has it. No conditions beyond those that each theorem states.
-/
import Derived.Test.YtelgjfflhcmljaaI4
import Derived.IntWalk
set_option linter.unusedSimpArgs false
set_option linter.unusedVariables false
namespace Go.Proofs.Ytelgjfflhcmljaa
open Go.RowKit

set_option maxRecDepth 100000 in
set_option maxHeartbeats 4000000 in
theorem sink_any (hb g n c k : Nat) (L : List It) (w : World) (hm : n ≤ 1048576) (hR : RowI w g n c L) (hH : HBox w hb (.slice (some ⟨g, 0, none⟩) n c)) (hne : hb ≠ g) (hk : k ≤ n) :
    Calls Try.prog 181 #[.pointer (some ⟨hb, 0, none⟩), .int .i64 (k : Int)] w (RowTo g n c (downI L k) w) := by
  have R := Lib.hid hR
  have H := Lib.hid hH
  have hbl := hH.lt
  clear hR hH
  go_enter Try.func181, Try.ntmps181
  go_wp2
  go_loopw [1] (fun p wr => ∃ (k' : Nat) (L' : List It), p = .int .i64 (k' : Int) ∧ k' ≤ n ∧ RowI wr g n c L' ∧ w.grownBy wr (some g) ∧ downI L' k' = downI L k) (fun p _ => n - (intOf p).toNat)
  case atStart => exact ⟨k, L, rfl, hk, R.out, World.grownBy.refl w _, rfl⟩
  case round =>
    obtain ⟨wo, rfl⟩ : ∃ wo : World, wo = wr := ⟨_, rfl⟩
    obtain ⟨k', L', rfl, hk', hR', hG, hE⟩ := hrel
    have R' := Lib.hid hR'
    have G := Lib.hid hG
    have E := Lib.hid hE
    have HB := Lib.hid (H.out.grown_ hG (by simp; exact hne))
    obtain ⟨hfz, hg, hc⟩ := hR'.cells
    have hn := Lib.hid hR'.2
    have HC := Lib.hid hc
    have hbs : hb < wo.heap.size := Nat.lt_of_lt_of_le hbl hG.size
    clear hR' hG hE hfz hc
    go_wp2_with fail
    go_loopw [4, 5] (fun x y wr => ∃ (i b q : Nat), x = .int .i64 (b : Int) ∧ y = .int .i64 (q : Int) ∧ i ≤ 2 ∧ Hid (q = 2 * k' + 1 + i) ∧ Hid (b = bestI L' k' i) ∧ Bl wo wr) (fun _ y _ => 2 * k' + 3 - (intOf y).toNat)
    case atStart => exact ⟨0, k', 2 * k' + 1, rfl, by go_num, by omega, rfl, rfl, Bl.refl _⟩
    case round =>
      obtain ⟨i, b, q, rfl, rfl, hi2, hq, hb2, hB⟩ := hrel
      have hbn : b < n ∨ b = k' := by
        rcases Nat.lt_or_ge k' n with h | h
        · left; rw [hb2.out, hn.out]; exact bestI_lt (by have := hn.out; omega) i
        · right
          have h3 := pickI_out (L := L') (p := k') (i := i) hi2 (.inr (by have := hn.out; omega))
          rw [hb2.out, ← h3, pickI_none (by have := hn.out; omega)]
      by_cases hi : i < 2
      · by_cases hqn : q < n
        · have q1 : (q : Int) ≤ 2 * (k' : Int) + 2 := by have := hq.out; omega
          have q2 : (q : Int) < (n : Int) := by omega
          have hkq : k' < q := by have := hq.out; omega
          have hbn' : b < n := by omega
          have b0 : (b : Int) < (n : Int) := by omega
          obtain ⟨h0, h1, h2⟩ := HB.out
          obtain ⟨a1, a2⟩ := HC.out q (by have := hn.out; omega)
          obtain ⟨b1, b2⟩ := HC.out b (by have := hn.out; omega)
          have hL : lessI (atI L' q) (atI L' b) = lessI ((atI L' q).1, (atI L' q).2) ((atI L' b).1, (atI L' b).2) := rfl
          generalize (atI L' q).1 = x at a1 hL
          generalize (atI L' q).2 = y at a2 hL
          generalize (atI L' b).1 = x' at b1 hL
          generalize (atI L' b).2 = y' at b2 hL
          have HL := Lib.hid hL
          clear hL
          have HSH := Lib.hid (show ∀ wx, Bl wo wx → Bl wo wx ∧ wx.cell? ⟨hb, 0, none⟩ = some (.slice (some ⟨g, 0, none⟩) n c) ∧ wx.cell? ⟨hb, 1, none⟩ = some (.func (.func 170) #[] #[]) ∧ wx.cell? ⟨g, q * 2, none⟩ = some (.int .i64 x) ∧ wx.cell? ⟨g, q * 2 + 1, none⟩ = some (.int .i64 y) ∧ wx.cell? ⟨g, b * 2, none⟩ = some (.int .i64 x') ∧ wx.cell? ⟨g, b * 2 + 1, none⟩ = some (.int .i64 y') from fun wx hb' => by
            have q := (bcell hb').1
            exact ⟨hb', (q _ _ hbs).trans h0, (q _ _ hbs).trans h1, (q _ _ hg).trans a1, (q _ _ hg).trans a2, (q _ _ hg).trans b1, (q _ _ hg).trans b2⟩)
          clear h0 h1 h2 a1 a2 b1 b2 hbn
          obtain ⟨-, p0, p1, -⟩ := HSH.out wr hB
          cases hb3 : lessI (x, y) (x', y') with
          | true =>
            have HT := Lib.hid (HL.out.trans hb3)
            have HL := Lib.hid hb3
            clear hb3
            go_wp2_with fail
            refine wp_region_held_drew (S := fun wx => Bl wo wx ∧ wx.cell? ⟨hb, 0, none⟩ = some (.slice (some ⟨g, 0, none⟩) n c) ∧ wx.cell? ⟨hb, 1, none⟩ = some (.func (.func 170) #[] #[]) ∧ wx.cell? ⟨g, q * 2, none⟩ = some (.int .i64 x) ∧ wx.cell? ⟨g, q * 2 + 1, none⟩ = some (.int .i64 y) ∧ wx.cell? ⟨g, b * 2, none⟩ = some (.int .i64 x') ∧ wx.cell? ⟨g, b * 2 + 1, none⟩ = some (.int .i64 y')) (by kernel_rfl) ?_ (fun hHeld => ?_)
            · (exact HSH.out _ (hB.trans_ (show Bl wr _ from (by repeat' (first | exact Bl.refl _ | with_reducible assumption | with_reducible refine Bl.drew_ ?_ | with_reducible refine Bl.drewN_ ?_ _ | with_reducible refine Bl.alloc_ ?_ _ | with_reducible refine Bl.trans_ ?_ (by assumption) | with_reducible refine Bl.trans_ ?_ (And.left (by assumption)))))))
            refine wpAnyH_take (i := 0) (v := ?_) rfl (by kernel_rfl) (by kernel_rfl) (by kernel_rfl) (fun _ _ _ h => h) (Or.inl ⟨by kernel_rfl, ?_⟩) (by assumption) ?_
            rotate_left
            · (intro wx hSw; (try dsimp only at hSw); go_simp; try (with_reducible rfl))
            try simp only [Act.put, List.getElem_toArray, List.getElem_cons_succ, List.getElem_cons_zero, List.setIfInBounds_toArray, List.set_cons_zero, List.set_cons_succ]
            refine wpAnyH_take (i := 1) (v := ?_) rfl (by kernel_rfl) (by kernel_rfl) (by kernel_rfl) (fun _ _ _ h => h) (Or.inl ⟨by kernel_rfl, ?_⟩) (by assumption) ?_
            rotate_left
            · (intro wx hSw; (try dsimp only at hSw); go_simp; try (with_reducible rfl))
            try simp only [Act.put, List.getElem_toArray, List.getElem_cons_succ, List.getElem_cons_zero, List.setIfInBounds_toArray, List.set_cons_zero, List.set_cons_succ]
            refine wpAnyH_take (i := 2) (v := ?_) rfl (by kernel_rfl) (by kernel_rfl) (by kernel_rfl) (fun _ _ _ h => h) (Or.inl ⟨by kernel_rfl, ?_⟩) (by assumption) ?_
            rotate_left
            · (intro wx hSw; (try dsimp only at hSw); go_simp; try (with_reducible rfl))
            try simp only [Act.put, List.getElem_toArray, List.getElem_cons_succ, List.getElem_cons_zero, List.setIfInBounds_toArray, List.set_cons_zero, List.set_cons_succ]
            refine wpAnyH_take (i := 3) (v := ?_) rfl (by kernel_rfl) (by kernel_rfl) (by kernel_rfl) (fun _ _ _ h => h) (Or.inl ⟨by kernel_rfl, ?_⟩) (by assumption) ?_
            rotate_left
            · (intro wx hSw; (try dsimp only at hSw); go_simp; try (with_reducible rfl))
            try simp only [Act.put, List.getElem_toArray, List.getElem_cons_succ, List.getElem_cons_zero, List.setIfInBounds_toArray, List.set_cons_zero, List.set_cons_succ]
            refine wpAnyH_take (i := 4) (v := ?_) rfl (by kernel_rfl) (by kernel_rfl) (by kernel_rfl) (fun _ _ _ h => h) (Or.inl ⟨by kernel_rfl, ?_⟩) (by assumption) ?_
            rotate_left
            · (intro wx hSw; (try dsimp only at hSw); go_simp; try (with_reducible rfl))
            try simp only [Act.put, List.getElem_toArray, List.getElem_cons_succ, List.getElem_cons_zero, List.setIfInBounds_toArray, List.set_cons_zero, List.set_cons_succ]
            refine wpAnyH_take (i := 5) (v := ?_) rfl (by kernel_rfl) (by kernel_rfl) (by kernel_rfl) (fun _ _ _ h => h) (Or.inl ⟨by kernel_rfl, ?_⟩) (by assumption) ?_
            rotate_left
            · (intro wx hSw; (try dsimp only at hSw); go_simp; try (with_reducible rfl))
            try simp only [Act.put, List.getElem_toArray, List.getElem_cons_succ, List.getElem_cons_zero, List.setIfInBounds_toArray, List.set_cons_zero, List.set_cons_succ]
            refine wpAnyH_take (i := 6) (v := ?_) rfl (by kernel_rfl) (by kernel_rfl) (by kernel_rfl) (fun _ _ _ h => h) (Or.inl ⟨by kernel_rfl, ?_⟩) (by assumption) ?_
            rotate_left
            · (intro wx hSw; (try dsimp only at hSw); go_simp; try (with_reducible rfl))
            try simp only [Act.put, List.getElem_toArray, List.getElem_cons_succ, List.getElem_cons_zero, List.setIfInBounds_toArray, List.set_cons_zero, List.set_cons_succ]
            refine wpAnyH_take (i := 7) (v := ?_) rfl (by kernel_rfl) (by kernel_rfl) (by kernel_rfl) (fun _ _ _ h => h) (Or.inl ⟨by kernel_rfl, ?_⟩) (by assumption) ?_
            rotate_left
            · (intro wx hSw; (try dsimp only at hSw); go_simp; try (with_reducible rfl))
            try simp only [Act.put, List.getElem_toArray, List.getElem_cons_succ, List.getElem_cons_zero, List.setIfInBounds_toArray, List.set_cons_zero, List.set_cons_succ]
            refine wpAnyH_take (i := 8) (v := ?_) rfl (by kernel_rfl) (by kernel_rfl) (by kernel_rfl) (fun _ _ _ h => h) (Or.inl ⟨by kernel_rfl, ?_⟩) (by assumption) ?_
            rotate_left
            · (intro wx hSw; (try dsimp only at hSw); go_simp; try (with_reducible rfl))
            try simp only [Act.put, List.getElem_toArray, List.getElem_cons_succ, List.getElem_cons_zero, List.setIfInBounds_toArray, List.set_cons_zero, List.set_cons_succ]
            refine wpAnyH_take (i := 9) (v := ?_) rfl (by kernel_rfl) (by kernel_rfl) (by kernel_rfl) (fun _ _ _ h => h) (Or.inl ⟨by kernel_rfl, ?_⟩) (by assumption) ?_
            rotate_left
            · (intro wx hSw; (try dsimp only at hSw); go_simp; try (with_reducible rfl))
            try simp only [Act.put, List.getElem_toArray, List.getElem_cons_succ, List.getElem_cons_zero, List.setIfInBounds_toArray, List.set_cons_zero, List.set_cons_succ]
            refine wpAnyH_take (i := 10) (v := ?_) rfl (by kernel_rfl) (by kernel_rfl) (by kernel_rfl) (fun _ _ _ h => h) (Or.inl ⟨by kernel_rfl, ?_⟩) (by assumption) ?_
            rotate_left
            · (intro wx hSw; (try dsimp only at hSw); go_simp; try (with_reducible rfl))
            try simp only [Act.put, List.getElem_toArray, List.getElem_cons_succ, List.getElem_cons_zero, List.setIfInBounds_toArray, List.set_cons_zero, List.set_cons_succ]
            refine wpAnyH_take (i := 11) (v := ?_) rfl (by kernel_rfl) (by kernel_rfl) (by kernel_rfl) (fun _ _ _ h => h) (Or.inl ⟨by kernel_rfl, ?_⟩) (by assumption) ?_
            rotate_left
            · (intro wx hSw; (try dsimp only at hSw); go_simp; try (with_reducible rfl))
            try simp only [Act.put, List.getElem_toArray, List.getElem_cons_succ, List.getElem_cons_zero, List.setIfInBounds_toArray, List.set_cons_zero, List.set_cons_succ]
            refine wpAnyH_take (i := 12) (v := ?_) rfl (by kernel_rfl) (by kernel_rfl) (by kernel_rfl) (fun _ _ _ h => h) (Or.inl ⟨by kernel_rfl, ?_⟩) (by assumption) ?_
            rotate_left
            · (intro wx hSw; (try dsimp only at hSw); go_simp; try (with_reducible rfl))
            try simp only [Act.put, List.getElem_toArray, List.getElem_cons_succ, List.getElem_cons_zero, List.setIfInBounds_toArray, List.set_cons_zero, List.set_cons_succ]
            refine wpAnyH_take (i := 13) (v := ?_) rfl (by kernel_rfl) (by kernel_rfl) (by kernel_rfl) (fun _ _ _ h => h) (Or.inl ⟨by kernel_rfl, ?_⟩) (by assumption) ?_
            rotate_left
            · (intro wx hSw; (try dsimp only at hSw); go_simp; try (with_reducible rfl))
            try simp only [Act.put, List.getElem_toArray, List.getElem_cons_succ, List.getElem_cons_zero, List.setIfInBounds_toArray, List.set_cons_zero, List.set_cons_succ]
            refine wpAnyH_take (i := 14) (v := ?_) rfl (by kernel_rfl) (by kernel_rfl) (by kernel_rfl) (fun _ _ _ h => h) (Or.inl ⟨by kernel_rfl, ?_⟩) (by assumption) ?_
            rotate_left
            · (intro wx hSw; (try dsimp only at hSw); go_simp; try (with_reducible rfl))
            try simp only [Act.put, List.getElem_toArray, List.getElem_cons_succ, List.getElem_cons_zero, List.setIfInBounds_toArray, List.set_cons_zero, List.set_cons_succ]
            refine wpAnyH_take (i := 15) (v := ?_) rfl (by kernel_rfl) (by kernel_rfl) (by kernel_rfl) (fun _ _ _ h => h) (Or.inl ⟨by kernel_rfl, ?_⟩) (by assumption) ?_
            rotate_left
            · (intro wx hSw; (try dsimp only at hSw); go_simp; try (with_reducible rfl))
            try simp only [Act.put, List.getElem_toArray, List.getElem_cons_succ, List.getElem_cons_zero, List.setIfInBounds_toArray, List.set_cons_zero, List.set_cons_succ]
            refine wpAnyH_take (i := 16) (v := ?_) rfl (by kernel_rfl) (by kernel_rfl) (by kernel_rfl) (fun _ _ _ h => h) (Or.inl ⟨by kernel_rfl, ?_⟩) (by assumption) ?_
            rotate_left
            · (intro wx hSw; (try dsimp only at hSw); go_simp; try (with_reducible rfl))
            try simp only [Act.put, List.getElem_toArray, List.getElem_cons_succ, List.getElem_cons_zero, List.setIfInBounds_toArray, List.set_cons_zero, List.set_cons_succ]
            refine wpAnyH_take (i := 17) (v := ?_) rfl (by kernel_rfl) (by kernel_rfl) (by kernel_rfl) (fun _ _ _ h => h) (Or.inl ⟨by kernel_rfl, ?_⟩) (by assumption) ?_
            rotate_left
            · (intro wx hSw; (try dsimp only at hSw); go_simp; try (with_reducible rfl))
            try simp only [Act.put, List.getElem_toArray, List.getElem_cons_succ, List.getElem_cons_zero, List.setIfInBounds_toArray, List.set_cons_zero, List.set_cons_succ]
            refine wpAnyH_ready (rs := [18]) (by kernel_rfl) (by simp) ?_
            refine AllReadyH.cons rfl (fun K hK => ?_) AllReadyH.nil
            go_simp
            (go_at_call 170; refine (itemLess_at _ _ _ _ _ _ HL.out).mono ?_; rintro e w' ⟨rfl, hb'⟩; obtain ⟨hc', hf'⟩ := bcell hb')
            try (go_wp2_with fail)
            refine hK.out _ _ ?_ (fun hHeld => ?_)
            · (exact HSH.out _ (hB.trans_ (show Bl wr _ from (by repeat' (first | exact Bl.refl _ | with_reducible assumption | with_reducible refine Bl.drew_ ?_ | with_reducible refine Bl.drewN_ ?_ _ | with_reducible refine Bl.alloc_ ?_ _ | with_reducible refine Bl.trans_ ?_ (by assumption) | with_reducible refine Bl.trans_ ?_ (And.left (by assumption)))))))
            clear hK K
            try simp only [Act.put, List.getElem_toArray, List.getElem_cons_succ, List.getElem_cons_zero, List.setIfInBounds_toArray, List.set_cons_zero, List.set_cons_succ]
            refine wpAnyH_done (by kernel_rfl) ?_ _
            clear hHeld
            have B1 : Bl wo w' := hB.trans_ (show Bl wr w' from (by repeat' (first | exact Bl.refl _ | with_reducible assumption | with_reducible refine Bl.drew_ ?_ | with_reducible refine Bl.drewN_ ?_ _ | with_reducible refine Bl.alloc_ ?_ _ | with_reducible refine Bl.trans_ ?_ (by assumption) | with_reducible refine Bl.trans_ ?_ (And.left (by assumption)))))
            generalize w' = wz at *
            go_wp2
            go_roundw
            case rel => exact ⟨i + 1, q, q + 1, rfl, by go_num, by omega, show q + 1 = _ from by have := hq.out; omega, show q = _ from by rw [bestI_yes (by have := hn.out; have := hq.out; omega) (by rw [← hq.out, ← hb2.out]; exact HT.out)]; exact hq.out, B1⟩
            case measure => simp [intOf]; omega
          | false =>
            have HT := Lib.hid (HL.out.trans hb3)
            have HL := Lib.hid hb3
            clear hb3
            go_wp2_with fail
            refine wp_region_held_drew (S := fun wx => Bl wo wx ∧ wx.cell? ⟨hb, 0, none⟩ = some (.slice (some ⟨g, 0, none⟩) n c) ∧ wx.cell? ⟨hb, 1, none⟩ = some (.func (.func 170) #[] #[]) ∧ wx.cell? ⟨g, q * 2, none⟩ = some (.int .i64 x) ∧ wx.cell? ⟨g, q * 2 + 1, none⟩ = some (.int .i64 y) ∧ wx.cell? ⟨g, b * 2, none⟩ = some (.int .i64 x') ∧ wx.cell? ⟨g, b * 2 + 1, none⟩ = some (.int .i64 y')) (by kernel_rfl) ?_ (fun hHeld => ?_)
            · (exact HSH.out _ (hB.trans_ (show Bl wr _ from (by repeat' (first | exact Bl.refl _ | with_reducible assumption | with_reducible refine Bl.drew_ ?_ | with_reducible refine Bl.drewN_ ?_ _ | with_reducible refine Bl.alloc_ ?_ _ | with_reducible refine Bl.trans_ ?_ (by assumption) | with_reducible refine Bl.trans_ ?_ (And.left (by assumption)))))))
            refine wpAnyH_take (i := 0) (v := ?_) rfl (by kernel_rfl) (by kernel_rfl) (by kernel_rfl) (fun _ _ _ h => h) (Or.inl ⟨by kernel_rfl, ?_⟩) (by assumption) ?_
            rotate_left
            · (intro wx hSw; (try dsimp only at hSw); go_simp; try (with_reducible rfl))
            try simp only [Act.put, List.getElem_toArray, List.getElem_cons_succ, List.getElem_cons_zero, List.setIfInBounds_toArray, List.set_cons_zero, List.set_cons_succ]
            refine wpAnyH_take (i := 1) (v := ?_) rfl (by kernel_rfl) (by kernel_rfl) (by kernel_rfl) (fun _ _ _ h => h) (Or.inl ⟨by kernel_rfl, ?_⟩) (by assumption) ?_
            rotate_left
            · (intro wx hSw; (try dsimp only at hSw); go_simp; try (with_reducible rfl))
            try simp only [Act.put, List.getElem_toArray, List.getElem_cons_succ, List.getElem_cons_zero, List.setIfInBounds_toArray, List.set_cons_zero, List.set_cons_succ]
            refine wpAnyH_take (i := 2) (v := ?_) rfl (by kernel_rfl) (by kernel_rfl) (by kernel_rfl) (fun _ _ _ h => h) (Or.inl ⟨by kernel_rfl, ?_⟩) (by assumption) ?_
            rotate_left
            · (intro wx hSw; (try dsimp only at hSw); go_simp; try (with_reducible rfl))
            try simp only [Act.put, List.getElem_toArray, List.getElem_cons_succ, List.getElem_cons_zero, List.setIfInBounds_toArray, List.set_cons_zero, List.set_cons_succ]
            refine wpAnyH_take (i := 3) (v := ?_) rfl (by kernel_rfl) (by kernel_rfl) (by kernel_rfl) (fun _ _ _ h => h) (Or.inl ⟨by kernel_rfl, ?_⟩) (by assumption) ?_
            rotate_left
            · (intro wx hSw; (try dsimp only at hSw); go_simp; try (with_reducible rfl))
            try simp only [Act.put, List.getElem_toArray, List.getElem_cons_succ, List.getElem_cons_zero, List.setIfInBounds_toArray, List.set_cons_zero, List.set_cons_succ]
            refine wpAnyH_take (i := 4) (v := ?_) rfl (by kernel_rfl) (by kernel_rfl) (by kernel_rfl) (fun _ _ _ h => h) (Or.inl ⟨by kernel_rfl, ?_⟩) (by assumption) ?_
            rotate_left
            · (intro wx hSw; (try dsimp only at hSw); go_simp; try (with_reducible rfl))
            try simp only [Act.put, List.getElem_toArray, List.getElem_cons_succ, List.getElem_cons_zero, List.setIfInBounds_toArray, List.set_cons_zero, List.set_cons_succ]
            refine wpAnyH_take (i := 5) (v := ?_) rfl (by kernel_rfl) (by kernel_rfl) (by kernel_rfl) (fun _ _ _ h => h) (Or.inl ⟨by kernel_rfl, ?_⟩) (by assumption) ?_
            rotate_left
            · (intro wx hSw; (try dsimp only at hSw); go_simp; try (with_reducible rfl))
            try simp only [Act.put, List.getElem_toArray, List.getElem_cons_succ, List.getElem_cons_zero, List.setIfInBounds_toArray, List.set_cons_zero, List.set_cons_succ]
            refine wpAnyH_take (i := 6) (v := ?_) rfl (by kernel_rfl) (by kernel_rfl) (by kernel_rfl) (fun _ _ _ h => h) (Or.inl ⟨by kernel_rfl, ?_⟩) (by assumption) ?_
            rotate_left
            · (intro wx hSw; (try dsimp only at hSw); go_simp; try (with_reducible rfl))
            try simp only [Act.put, List.getElem_toArray, List.getElem_cons_succ, List.getElem_cons_zero, List.setIfInBounds_toArray, List.set_cons_zero, List.set_cons_succ]
            refine wpAnyH_take (i := 7) (v := ?_) rfl (by kernel_rfl) (by kernel_rfl) (by kernel_rfl) (fun _ _ _ h => h) (Or.inl ⟨by kernel_rfl, ?_⟩) (by assumption) ?_
            rotate_left
            · (intro wx hSw; (try dsimp only at hSw); go_simp; try (with_reducible rfl))
            try simp only [Act.put, List.getElem_toArray, List.getElem_cons_succ, List.getElem_cons_zero, List.setIfInBounds_toArray, List.set_cons_zero, List.set_cons_succ]
            refine wpAnyH_take (i := 8) (v := ?_) rfl (by kernel_rfl) (by kernel_rfl) (by kernel_rfl) (fun _ _ _ h => h) (Or.inl ⟨by kernel_rfl, ?_⟩) (by assumption) ?_
            rotate_left
            · (intro wx hSw; (try dsimp only at hSw); go_simp; try (with_reducible rfl))
            try simp only [Act.put, List.getElem_toArray, List.getElem_cons_succ, List.getElem_cons_zero, List.setIfInBounds_toArray, List.set_cons_zero, List.set_cons_succ]
            refine wpAnyH_take (i := 9) (v := ?_) rfl (by kernel_rfl) (by kernel_rfl) (by kernel_rfl) (fun _ _ _ h => h) (Or.inl ⟨by kernel_rfl, ?_⟩) (by assumption) ?_
            rotate_left
            · (intro wx hSw; (try dsimp only at hSw); go_simp; try (with_reducible rfl))
            try simp only [Act.put, List.getElem_toArray, List.getElem_cons_succ, List.getElem_cons_zero, List.setIfInBounds_toArray, List.set_cons_zero, List.set_cons_succ]
            refine wpAnyH_take (i := 10) (v := ?_) rfl (by kernel_rfl) (by kernel_rfl) (by kernel_rfl) (fun _ _ _ h => h) (Or.inl ⟨by kernel_rfl, ?_⟩) (by assumption) ?_
            rotate_left
            · (intro wx hSw; (try dsimp only at hSw); go_simp; try (with_reducible rfl))
            try simp only [Act.put, List.getElem_toArray, List.getElem_cons_succ, List.getElem_cons_zero, List.setIfInBounds_toArray, List.set_cons_zero, List.set_cons_succ]
            refine wpAnyH_take (i := 11) (v := ?_) rfl (by kernel_rfl) (by kernel_rfl) (by kernel_rfl) (fun _ _ _ h => h) (Or.inl ⟨by kernel_rfl, ?_⟩) (by assumption) ?_
            rotate_left
            · (intro wx hSw; (try dsimp only at hSw); go_simp; try (with_reducible rfl))
            try simp only [Act.put, List.getElem_toArray, List.getElem_cons_succ, List.getElem_cons_zero, List.setIfInBounds_toArray, List.set_cons_zero, List.set_cons_succ]
            refine wpAnyH_take (i := 12) (v := ?_) rfl (by kernel_rfl) (by kernel_rfl) (by kernel_rfl) (fun _ _ _ h => h) (Or.inl ⟨by kernel_rfl, ?_⟩) (by assumption) ?_
            rotate_left
            · (intro wx hSw; (try dsimp only at hSw); go_simp; try (with_reducible rfl))
            try simp only [Act.put, List.getElem_toArray, List.getElem_cons_succ, List.getElem_cons_zero, List.setIfInBounds_toArray, List.set_cons_zero, List.set_cons_succ]
            refine wpAnyH_take (i := 13) (v := ?_) rfl (by kernel_rfl) (by kernel_rfl) (by kernel_rfl) (fun _ _ _ h => h) (Or.inl ⟨by kernel_rfl, ?_⟩) (by assumption) ?_
            rotate_left
            · (intro wx hSw; (try dsimp only at hSw); go_simp; try (with_reducible rfl))
            try simp only [Act.put, List.getElem_toArray, List.getElem_cons_succ, List.getElem_cons_zero, List.setIfInBounds_toArray, List.set_cons_zero, List.set_cons_succ]
            refine wpAnyH_take (i := 14) (v := ?_) rfl (by kernel_rfl) (by kernel_rfl) (by kernel_rfl) (fun _ _ _ h => h) (Or.inl ⟨by kernel_rfl, ?_⟩) (by assumption) ?_
            rotate_left
            · (intro wx hSw; (try dsimp only at hSw); go_simp; try (with_reducible rfl))
            try simp only [Act.put, List.getElem_toArray, List.getElem_cons_succ, List.getElem_cons_zero, List.setIfInBounds_toArray, List.set_cons_zero, List.set_cons_succ]
            refine wpAnyH_take (i := 15) (v := ?_) rfl (by kernel_rfl) (by kernel_rfl) (by kernel_rfl) (fun _ _ _ h => h) (Or.inl ⟨by kernel_rfl, ?_⟩) (by assumption) ?_
            rotate_left
            · (intro wx hSw; (try dsimp only at hSw); go_simp; try (with_reducible rfl))
            try simp only [Act.put, List.getElem_toArray, List.getElem_cons_succ, List.getElem_cons_zero, List.setIfInBounds_toArray, List.set_cons_zero, List.set_cons_succ]
            refine wpAnyH_take (i := 16) (v := ?_) rfl (by kernel_rfl) (by kernel_rfl) (by kernel_rfl) (fun _ _ _ h => h) (Or.inl ⟨by kernel_rfl, ?_⟩) (by assumption) ?_
            rotate_left
            · (intro wx hSw; (try dsimp only at hSw); go_simp; try (with_reducible rfl))
            try simp only [Act.put, List.getElem_toArray, List.getElem_cons_succ, List.getElem_cons_zero, List.setIfInBounds_toArray, List.set_cons_zero, List.set_cons_succ]
            refine wpAnyH_take (i := 17) (v := ?_) rfl (by kernel_rfl) (by kernel_rfl) (by kernel_rfl) (fun _ _ _ h => h) (Or.inl ⟨by kernel_rfl, ?_⟩) (by assumption) ?_
            rotate_left
            · (intro wx hSw; (try dsimp only at hSw); go_simp; try (with_reducible rfl))
            try simp only [Act.put, List.getElem_toArray, List.getElem_cons_succ, List.getElem_cons_zero, List.setIfInBounds_toArray, List.set_cons_zero, List.set_cons_succ]
            refine wpAnyH_ready (rs := [18]) (by kernel_rfl) (by simp) ?_
            refine AllReadyH.cons rfl (fun K hK => ?_) AllReadyH.nil
            go_simp
            (go_at_call 170; refine (itemLess_at _ _ _ _ _ _ HL.out).mono ?_; rintro e w' ⟨rfl, hb'⟩; obtain ⟨hc', hf'⟩ := bcell hb')
            try (go_wp2_with fail)
            refine hK.out _ _ ?_ (fun hHeld => ?_)
            · (exact HSH.out _ (hB.trans_ (show Bl wr _ from (by repeat' (first | exact Bl.refl _ | with_reducible assumption | with_reducible refine Bl.drew_ ?_ | with_reducible refine Bl.drewN_ ?_ _ | with_reducible refine Bl.alloc_ ?_ _ | with_reducible refine Bl.trans_ ?_ (by assumption) | with_reducible refine Bl.trans_ ?_ (And.left (by assumption)))))))
            clear hK K
            try simp only [Act.put, List.getElem_toArray, List.getElem_cons_succ, List.getElem_cons_zero, List.setIfInBounds_toArray, List.set_cons_zero, List.set_cons_succ]
            refine wpAnyH_done (by kernel_rfl) ?_ _
            clear hHeld
            have B1 : Bl wo w' := hB.trans_ (show Bl wr w' from (by repeat' (first | exact Bl.refl _ | with_reducible assumption | with_reducible refine Bl.drew_ ?_ | with_reducible refine Bl.drewN_ ?_ _ | with_reducible refine Bl.alloc_ ?_ _ | with_reducible refine Bl.trans_ ?_ (by assumption) | with_reducible refine Bl.trans_ ?_ (And.left (by assumption)))))
            generalize w' = wz at *
            go_wp2
            go_roundw
            case rel => exact ⟨i + 1, b, q + 1, rfl, by go_num, by omega, show q + 1 = _ from by have := hq.out; omega, show b = _ from by rw [bestI_no (by rw [← hq.out, ← hb2.out]; exact HT.out)]; exact hb2.out, B1⟩
            case measure => simp [intOf]; omega
        · have q1 : (q : Int) ≤ 2 * (k' : Int) + 2 := by have := hq.out; omega
          have q2 : decide ((q : Int) < (n : Int)) = false := by simp; omega
          have HP := Lib.hid (show pickI L' k' = b from by rw [pickI_out (L := L') (p := k') (i := i) (by omega) (.inr (by have := hn.out; have := hq.out; omega))]; exact hb2.out.symm)
          have p0 := (HB.out.bl hbs hB).1
          have hbk' := pickI_ge L' k'
          by_cases hbk : b = k'
          · have e0 : ((b : Int) == (k' : Int)) = true := by simp [hbk]
            have HK := Lib.hid hbk
            clear hbk hbn hbk'
            go_wp2
            go_end0
            exact ⟨rfl, by rw [← E.out, downI_stop (by rw [HP.out, HK.out])]; exact R'.out.bl hB, grown_bl G.out hB⟩
          · have e0 : ((b : Int) == (k' : Int)) = false := by simp; omega
            have hbn' : b < n := by omega
            have hbk2 : k' < b := by have := HP.out; omega
            clear hbn hbk'
            go_wp2_with fail
            refine (swap_any hb g n c k' b L' _ hm (R'.out.bl hB) (HB.out.bl hbs hB) (by omega) hbn' (by omega)).mono ?_
            rintro e w2 ⟨rfl, hR2, hG2⟩
            have R2 := Lib.hid hR2
            have G2 := Lib.hid hG2
            clear hR2 hG2 p0
            go_wp2
            go_roundw
            case rel => exact ⟨b, swapI L' k' b, rfl, by omega, R2.out, grown_trans (grown_bl G.out hB) G2.out, by rw [← E.out]; have h := downI_step (L := L') (p := k') (by rw [HP.out]; omega); rw [HP.out] at h; exact h.symm⟩
            case measure => simp [intOf]; omega
      · have q1 : decide ((q : Int) ≤ 2 * (k' : Int) + 2) = false := by have := hq.out; simp; omega
        have HP := Lib.hid (show pickI L' k' = b from by rw [pickI_out (L := L') (p := k') (i := i) (by omega) (.inl (by omega))]; exact hb2.out.symm)
        have p0 := (HB.out.bl hbs hB).1
        have hbk' := pickI_ge L' k'
        by_cases hbk : b = k'
        · have e0 : ((b : Int) == (k' : Int)) = true := by simp [hbk]
          have HK := Lib.hid hbk
          clear hbk hbn hbk'
          go_wp2
          go_end0
          exact ⟨rfl, by rw [← E.out, downI_stop (by rw [HP.out, HK.out])]; exact R'.out.bl hB, grown_bl G.out hB⟩
        · have e0 : ((b : Int) == (k' : Int)) = false := by simp; omega
          have hbn' : b < n := by omega
          have hbk2 : k' < b := by have := HP.out; omega
          clear hbn hbk'
          go_wp2_with fail
          refine (swap_any hb g n c k' b L' _ hm (R'.out.bl hB) (HB.out.bl hbs hB) (by omega) hbn' (by omega)).mono ?_
          rintro e w2 ⟨rfl, hR2, hG2⟩
          have R2 := Lib.hid hR2
          have G2 := Lib.hid hG2
          clear hR2 hG2 p0
          go_wp2
          go_roundw
          case rel => exact ⟨b, swapI L' k' b, rfl, by omega, R2.out, grown_trans (grown_bl G.out hB) G2.out, by rw [← E.out]; have h := downI_step (L := L') (p := k') (by rw [HP.out]; omega); rw [HP.out] at h; exact h.symm⟩
          case measure => simp [intOf]; omega

end Go.Proofs.Ytelgjfflhcmljaa
